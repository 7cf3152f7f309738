import Derived.Deep.AppendSrc
import Derived.Lib.ConvBytes
import Derived.Laws.MathBits
import Derived.Deep.LoopGhost
import Derived.Laws.AppendOwn
import Derived.Test.YtdoammpgchejcaaGreatsz4
set_option linter.unusedVariables false
set_option linter.constructorNameAsVariable false
set_option linter.unusedSimpArgs false
set_option maxRecDepth 1000000
set_option maxHeartbeats 4000000
namespace Go.Proofs.YtdoammpgchejcaaGreat
open EC NT RG SP
open _root_.And renaming intro->V3
open _root_.Array renaming all_eq_true'->Xa,getD_eq_getD_getElem?->UI,getElem?_eq_getElem->U0,getElem?_eq_none->WP,getElem?_eq_some_iff->UZ,getElem?_toList->Vq,length_toList->UK,mapM_eq_mapM_toList->XC,toArray_toList->XF
open _root_.Bool renaming and_eq_true->UL,or_eq_true->Xx
open _root_.Fin renaming ext->Ya,val_add->yAF,val_mul->XL
open _root_.Go renaming Addr->Ww,Calls->UH,Exit->Yq,FuncId->Xs,Oper->Vk,Program->VD,Tmp->WF,TypeId->U8,Value->Ut,World->Ur,bodyPost_ret->UE,execOp->U5,run_append_own->Y3,run_append_room_src->Y9,run_loadVar_mid->Yg,run_storeVar_mid->ZC,size_madeCells->YK,undef->WR,wpList_load_mid->U6,wpList_plain->Xi,wpList_store_mid->U2,wpOp_mono->ZB,wp_block->XJ,wp_cond_false->VI,wp_cond_true->VE,wp_ret->Wr,wp_seq->Uz,wp_skip->WU
open _root_.Go.Act renaming put->UN
open _root_.Go.Addr renaming add->Zk
open _root_.Go.Builtin renaming append_->Vt,zeroCells->WG
open _root_.Go.Code renaming region->V6
open _root_.Go.Instr renaming box->Ve,build->Zi,indexAt->Vl,makeSlice->XE,sliceAt->Xp,storeAt->Yy,sureAddr->X6
open _root_.Go.IntKind renaming i64->VS,wrap_i64->Yl
open _root_.Go.Next renaming value->Xr
open _root_.Go.Oper renaming wp->VT
open _root_.Go.Region renaming binds->VP,ready->U7
open _root_.Go.Result renaming andThen_ok->Vm
open _root_.Go.RowKit.Below renaming refl->UR
open _root_.Go.RowKit.Hid renaming out->Zh
open _root_.Go.Sem renaming run_bind->UV,run_pure->Wt
open _root_.Go.Src renaming ofNil->yCa
open _root_.Go.Value renaming agg->U3,func->Z2,ownBlock->Wp,slice->Vw
open _root_.Go.World renaming cell?_of_block->UW,frozen?_of_block->VU,rangeAt_setCells_apart->Vh,rangeAt_setCells_same->VO,setCells->YL,size_alloc->UB,there_setCells->VW
open _root_.Int renaming natCast_add->yBu,natCast_mul->Xy,tdiv_eq_ediv_of_nonneg->X9,toNat_natCast->X4
open _root_.List renaming all_eq_true->Va,any_eq_true->yA6,append_nil->Xw,drop->Xo,drop_length->yA4,flatMap_append->Zs,getElem?_eq_getElem->UG,getElem?_eq_some_iff->UF,getElem_mem->VH,length_append->UA,length_map->UQ,mapM_cons->YR,mapM_nil->Y1,mem_append->WB,mem_cons_of_mem->Vb,mem_cons_self->Vu,mem_map->Vn,mem_range->V0,mem_singleton->WO,mem_toArray->X8,not_mem_nil->UY,range->VG,setIfInBounds_toArray->Us,set_cons_succ->Uu,set_cons_zero->Uv,size_toArray->VC,take->Xn
open _root_.Nat renaming div_eq_of_lt->Xg,le_of_ble_eq_true->VR,le_of_eq->YQ,le_refl->Uw,le_trans->UC,lt_of_lt_of_le->Ux,lt_of_succ_le->Xl,lt_or_ge->Ws,mod_eq_of_lt->US,mod_lt->V7,mul_comm->Vv,mul_le_mul->WS,mul_le_mul_left->Yj,mul_pos->yAz,mul_succ->Yk,not_lt_zero->Yo,one_mul->Xk,pos_of_neZero->YA,pow_succ->V9,reduceAdd->VK,succ_le_of_lt->yAX,zero_add->UD,zero_le->WA,zero_mod->YO
open _root_.Option renaming isSome_iff_exists->Vr,map_eq_some_iff->Uy,some->UO
open _root_.Or renaming inl->U4,inr->UX
open _root_.Prod renaming fst->Zy,mk->V8,snd->Zx
open _root_.Subtype renaming ext->Yt
open Go.Proofs.Tryz
variable {L:Bs}{U:List (Nat × Bs)}{xs ys:List Ut}{B b d e id r y:Nat}{H:Nat->List (Nat × Bs)}{q:Option Ww}
section
open Go.RowKit Go.Sort Go.Deep Go.Shelf
variable {P:Nat}[NeZero P]{N:Nat}
theorem wV(k:ByteArray)(a:Option Ww)(m c:Nat)(w:Ur):
 UH prog 50 #[.string k,.slice a m c] w (Ret λe w'=>e=.func (.func 112) #[] #[jZ w.heap.size,.pointer (some ⟨w.heap.size+1,0,none⟩)]/\w'=(w.alloc (.cells #[.string k] 9)).alloc (.cells #[.slice a m c] 23)):=by
 go_enter func50,ntmps50;go_wp2;go_ret;exact⟨_,rfl,rfl,rfl⟩
noncomputable def hpt (P:Nat) [NeZero P] (k:ByteArray) (b:List UInt8):Fin P × Fin P:=(cands P k b 256).headD (gX P,gY P)
theorem M8{k:ByteArray}{b:List UInt8}{i:Nat}{x:Fin P × Fin P}(h:cand P k b i=some x):x.2*x.2=x.1*x.1*x.1+7:=by
 unfold cand at h;split at h
 ·obtain⟨y,c,rfl⟩:=Uy.1 h;exact Nx c
 ·cases h
theorem JY{k:ByteArray}{b:List UInt8}{n:Nat}{x:Fin P × Fin P}(h:x∈cands P k b n):x.2*x.2=x.1*x.1*x.1+7:=by
 unfold cands at h;obtain⟨i,-,c⟩:=List.mem_filterMap.1 h;exact M8 c
theorem AY(C:Fld P)(k:ByteArray)(b:List UInt8):On (.some (hpt P k b):EC.Pt P):=by
 unfold hpt;cases h:cands P k b 256 with
 | nil=>exact Cs C
 | cons x r=>exact IW (x:=x.1) (y:=x.2) (JY (by rw[h];exact Vu))
theorem Ly(C:Fld P)(q:Fin P × Fin P)(h:On (.some q:EC.Pt P)):tD q.1 q.2=wr (.some q:EC.Pt P):=vM C ⟨rfl,rfl⟩ h
theorem Pv(C:Fld P)(k:ByteArray)(b:List UInt8):tD (hpt P k b).1 (hpt P k b).2=wr (.some (hpt P k b):EC.Pt P):=Ly C _ (AY C k b)
theorem Ae(C:Fld P)(k:ByteArray)(a:Option Ww)(m c:Nat)(b:List UInt8)(w:Ur)(f:k.size<=1000000)(p:PartOk w (.slice a m c) b):
 UH prog 49 #[.func (.func 112) #[] #[jZ w.heap.size,.pointer (some ⟨w.heap.size+1,0,none⟩)]] ((w.alloc (.cells #[.string k] 9)).alloc (.cells #[.slice a m c] 23)) (rZ w λe w'=>e=pv (hpt P k b).1 (hpt P k b).2):=by
 have g:=Made.alloc w [.string k] 9;have i:=Made.alloc (w.alloc (.cells #[.string k] 9)) [.slice a m c] 23;have d:kZ w ((w.alloc (.cells #[.string k] 9)).alloc (.cells #[.slice a m c] 23)):=((UR _ w).alloc (Uw _) _).alloc (by rw[UB];omega) _;have q:((w.alloc (.cells #[.string k] 9)).alloc (.cells #[.slice a m c] 23)).heap.size=w.heap.size+2:=by rw[UB,UB]
 have o:((w.alloc (.cells #[.string k] 9)).alloc (.cells #[.slice a m c] 23)).cell? ⟨w.heap.size,0,none⟩=some (.string k):=by
  rw[UW (a:=⟨w.heap.size,0,none⟩) (Below.heap_alloc _ _ _ (by rw[UB];exact Nat.lt_succ_self _))];exact g.range 0 _ rfl
 have l:((w.alloc (.cells #[.string k] 9)).alloc (.cells #[.slice a m c] 23)).cell? ⟨w.heap.size+1,0,none⟩=some (.slice a m c):=by
  have:=i.range 0 _ rfl;rwa[UB]at this
 refine(MO C _ (cands P k b 256) 256 _ (λn=>Pp C k (.slice a m c) b w.heap.size (w.heap.size+1) _ f o l oM oM (p.below d) n)).mono ?_;rintro e w' ⟨v,rfl,j,rfl⟩;exact⟨_,rfl,d.trans (j.mono d.size),rfl⟩
theorem Kx(C:Fld P)(k:ByteArray)(a:Option Ww)(m c:Nat)(b:List UInt8)(w:Ur)(i:k.size<=1000000)(x:PartOk w (.slice a m c) b):
 UH prog 202 #[.string k,.slice a m c] w (rZ w λe w'=>Hd w (wr (.some (hpt P k b):EC.Pt P)) e w'):=by
 have t:=Ae C k a m c b w i x;have j:∀w,UH prog 52 #[pv (hpt P k b).1 (hpt P k b).2] w (rZ w λe w'=>mL w (tD (hpt P k b).1 (hpt P k b).2) e w'):=vK C _ _;rw[Pv C]at j;go_enter func202,ntmps202;go_wp2_with fail
 refine(wV k a m c w).mono ?_;rintro e z ⟨v,rfl,rfl,rfl⟩;go_wp2_with fail
 refine t.mono ?_;rintro e A ⟨v,rfl,r,rfl⟩;have f:=mk1 (r);go_wp2_with fail
 refine(j _).mono ?_;rintro e u ⟨v,rfl,p,g,d,rfl,n,s,l,o⟩;have q:=mk1 (f.trans (p.mono f.size));have y:Hid (Hd w (wr (.some (hpt P k b):EC.Pt P)) (.tuple #[sZ g 33 d,iZ 0]) u):=⟨g,d,rfl,n,UC f.size s,l,o⟩
 go_wp2
 go_ret2
 exact⟨_,rfl,q.out,y.out⟩
end
section
open Go.RowKit Go.Sort Go.Deep
variable {P:Nat}[NeZero P]{N:Nat}
theorem FM(C:Fld P)(lb:ByteArray)(o:lb.size<=1000000)(q:Option Ww)(s x:Nat)(tx:List UInt8)(w:Ur)(I:PartOk w (.slice q s x) tx):
 UH prog 136 #[.string lb,.slice q s x] w (rZ w λe w'=>e=pvl (wr (.some (hpt P lb tx):EC.Pt P))):=by
 obtain⟨T,t⟩:=hE (wr (.some (hpt P lb tx):EC.Pt P));have u:T.size=33:=by rw[<-t.out];exact aT _
 rw[t.out];have G:=mk1 (C);have J:=Hid.mk' I;have E:=Hid.mk' o;obtain⟨m,b⟩:=hE (w.alloc (.cells z33.toArray 103));have n:Hid (Row m w.heap.size z33/\kZ w m):=by rw[<-b.out];exact⟨aE w _ _,aC w _⟩
 obtain⟨d,p,r⟩:=Uy.1 uCP;have D:=mk2 p r;go_enter func136,ntmps136;go_wp2_with (refine bG (v:=jZ w.heap.size) (w':=m) rfl (.alloc 103) rfl ?_ ?_;(rw[<-b.out];kernel_rfl))
 refine(Kx G.out lb q s x tx m E.out (J.below n.2)).mono ?_;rintro e B ⟨L,rfl,i,g,F,rfl,-,-,H,a⟩;rw[t.out]at a;have l:=mk3 (n.1.below i) (n.2.trans (i.mono n.2.size)) (pW a H);have z:=FV g F;obtain⟨A,c⟩:=hE (B.setCells w.heap.size 0 (aA T));have k:=aB u;have y:Hid (Row A w.heap.size (aA T)/\kZ w A):=by rw[<-c.out];exact⟨l.1.put (by rw[k];rfl),RG.below_setCells (Uw _) _ _ _ l.2.1⟩
 obtain⟨K,f⟩:=hE (U3 (aA T).toArray);have j:Hid ((prog.info? 103).map (·.size)=some (aA T).length/\B.there w.heap.size 0 (aA T).toArray.size/\(prog.info? 103).map (·.size)=some (aA T).toArray.size):=by
  have e:(aA T).toArray.size=33:=by rw[VC];exact k
  refine⟨by rw[k];exact cV,by rw[e];exact l.1.2.2,by rw[e];exact cV⟩
 go_wp2_with (first|(refine U6 rfl 103 _ rfl g 0 ?_ (aA T) d ?_ ?_ ?_ ?_ ?_;rfl;exact l.2.2.2.1;exact D.1;exact D.2;exact j.1;rw[f.out])|(refine U2 rfl 103 _ _ rfl w.heap.size 0 (aA T).toArray ?_ ?_ ?_ ?_ ?_ ?_;rfl;exact f.symm;exact j.2.1;exact j.2.2;exact bW T;rw[show(aA T).toArray.toList=aA T from rfl,c.out]))
 refine UE (aG 4 103 rfl y.1 rfl uCP j.1) rfl ?_;exact⟨_,rfl,y.2,rfl⟩
theorem IY:Gives 70 #[uZ 1] (nv 1):=by
 intro w;go_enter func70,ntmps70;refine RG.M.enter [(0,.v (uZ 1))] 6 kR ?_;intro a0 c;repeat refine Uz ?_
 refine c.T [.m 0] [(0,RG.z 4)] [] [RG.z 4] [0,2] ⟨mk 0 49,yCn⟩ ?_;intro k g f d;repeat refine Uz ?_
 refine d.T [.x (uZ 1),.x (nv 1),.x (nv 1),.u 0] [] [(0,3,wn 1)] [wn 1] [2] ⟨st,st,st,RG.pt i40,yCn⟩ ?_;intro a2 e b;refine Wr ?_;refine UE (v:=nv 1) (aI b.st 2 49 rfl 0 _ rfl (b.at (s:=(.p 0 0))) u40 i40) b.sl.defers ?_;exact⟨_,rfl,b.st.bel.below,rfl⟩
def Sm(B:Nat)(W:Ur)(v:Ut)(l:List (Nat × Bs)):Prop:=∃g c,v=sZ g l.length c/\l.length<=c/\B<=g/\g<W.heap.size/\W.rangeAt g 0 (aU l)
theorem Sm.grow{W W':Ur}{v:Ut}{l:List (Nat × Bs)}(h:Sm B W v l)(k:kZ W W'):Sm B W' v l:=by
 obtain⟨g,c,d,f,e,b,i⟩:=h;exact⟨g,c,d,f,e,Ux b k.size,RG.range_below i k b⟩
theorem cellsT_one'(n:Nat)(a:Bs):aU [(n,a)]=wn n++aA a:=by rw[fG];exact Xw _
theorem Sm.one{B W k n}{w:Ur}{a:Bs}(h:Row w k (wn n++aA a))(b:B<=k)(c:w=W):Sm B W (sZ k 1 1) [(n,a)]:=by
 subst c;exact⟨k,1,rfl,Uw _,b,h.1,by rw[cellsT_one'];exact h.2.1⟩
theorem infoT':(prog.info? 226).map (λi=>(i.size,i.bytes,i.zero.map λz=>z.cells.size))=some (37,72,some 37):=kR
theorem Fh(n:Nat)(u:n<=10000000)(w:Ur):UH prog 203 #[.slice none 0 0,iZ n] w (rZ w λe w'=>w'.ownsRow w.heap.size 226 37 e 0 []):=by
 by_cases r:n=0
 ·subst r;go_enter func203,ntmps203;go_wp2;go_ret;exact⟨_,rfl,UR _ _,World.ownsRow_nil _ _ _ _⟩
 ·obtain⟨i,t,m⟩:=Uy.1 infoT';simp only[V8.injEq]at m;obtain⟨v,p,q⟩:=m;obtain⟨z,s,l⟩:=Uy.1 q;have f:=Lib.run_append_nil_zeros (P:=prog) w 131 3 131 226 i z .i64 .i64 C4 Qz t s n oM oM oM (by rw[p];omega);have d:=grownCap_ge w n 0 226;have k:=grownCap_le_maxLen w n 0 226 (by unfold maxLen;omega);have b:(WG z.cells n++WG z.cells (grownCap w n 0 226-n)).size=grownCap w n 0 226*37:=by rw[Array.size_append,size_zeroCells,size_zeroCells,l];omega
  generalize grownCap w n 0 226=j at f d k b;generalize WG z.cells n++WG z.cells (j-n)=cur at f b;obtain⟨g,c⟩:∃g,Hid (w.drew.alloc (.cells cur 226)=g):=⟨_,rfl⟩
  rw[c.out]at f;have o:=Hid.mk' f;have K:Hid (kZ w g/\g.ownsRow w.heap.size 226 37 (sZ w.heap.size 0 j) 0 []):=by
   rw[<-c.out];exact⟨(UR _ _).drew.alloc (Uw _) _,World.ownsRow_made w.drew cur j (Uw _) k b⟩
  go_enter func203,ntmps203;go_wp2_with (at_builtin;refine Lib.wpList_append_run _ rfl _ _ _ _ rfl _ _ rfl rfl _ _ o.out ?_)
  go_ret;exact⟨_,rfl,K.1,K.2⟩
theorem D7(l m:List (Nat × Bs)):aU (l++m)=aU l++aU m:=by unfold aU;rw[Zs]
theorem GY(l:List (Nat × Bs)):∀u∈aU l,u.oneCell'=true:=λu k=>by
 unfold aU at k;obtain⟨x,-,hx⟩:=List.mem_flatMap.1 k;exact cells_one x.1 x.2 u hx
theorem qI:∀ {l:List (Nat × Bs)},(∀x∈l,x.2.size=33)->(aU l).length=l.length*37
 | [],_=>rfl
 | x :: r,h=>by
  rw[fG,UA,gJ (h x Vu),qI λy k=>h y (Vb _ k),List.length_cons];omega
theorem Cb{W:Ur}{v x:Ut}{l m:List (Nat × Bs)}(d:W.ownsRow b 226 37 v l.length (aU l))(o:∀y∈m,y.2.size=33)(hx:Sm B W x m)(E:l.length+m.length<=1000000)(t:b<=W.heap.size):
 ∃e W',(Vt #[131,131] 131 #[v,x]).run prog W=.ok e W'/\W'.ownsRow b 226 37 e (l++m).length (aU (l++m))/\W.grownBy W' v.ownBlock:=by
 obtain⟨i,A,g⟩:=Uy.1 infoT';simp only[V8.injEq]at g;obtain⟨q,p,r⟩:=g;obtain⟨z,w,f⟩:=Uy.1 r;obtain⟨k,c,rfl,G,F,e3,C⟩:=hx;obtain⟨e,W',D,s,n,-⟩:=Y3 (P:=prog) W b 131 131 226 i z 37 72 C4 A w q p f dC v l.length (aU l) d (aZ k) m.length c (aU m) (qI o)
  (λj u a=>by
   have:=C j u a;rw[UD]at this;rw[add0];exact this) (GY m) (by unfold maxLen;omega) oM t
 exact⟨e,W',D,by rw[UA,D7];exact s,n⟩
theorem atS(k o n c i:Nat)(b:i<n)(w:Ur):(Vl 129 (.slice (some ⟨k,o,none⟩) n c) (iZ i)).run prog w=.ok (.pointer (some ⟨k,o+1*i,none⟩)) w:=by
 go_simp
def eO(L:Nat->List (Nat × Bs))(k:Nat):List (Nat × Bs):=(VG k).flatMap L
theorem dE(L:Nat->List (Nat × Bs))(i:Nat):eO L (i+1)=eO L i++L i:=by
 unfold eO;rw[List.range_succ,Zs];simp
theorem Bi(L:Nat->List (Nat × Bs)){k m:Nat}(b:∀j,j<k->(L j).length<=m):∀i,i<=k->(eO L i).length<=m*i
 | 0,_=>Uw _
 | i+1,hi=>by
  have c:=Bi L b i oM;have d:=b i oM;rw[dE,UA,Yk];omega
theorem GR(g k c:Nat)(L:Nat->List (Nat × Bs))(K:k<=1000)(S:∀j,j<k->(L j).length<=600)(t:∀j,j<k->∀x∈L j,x.2.size=33)(w:Ur)(T:g<w.heap.size)(R:∀j,j<k->∃x,w.cell? ⟨g,j,none⟩=some x/\Sm 0 w x (L j)):
 UH prog 138 #[sZ g k c] w (rZ w λe w'=>w'.ownsRow w.heap.size 226 37 e (eO L k).length (aU (eO L k))):=by
 have F:=Hid.mk' R;have s:=mk1 (Bi L S);have Q:=Hid.mk' T;have X:=Hid.mk' t;go_enter func138,ntmps138;go_wp2_with fail
 go_loopg [3,11] k (λm s3 s11 W=>∃i:Nat,i+m=k/\s11=iZ i/\s3=iZ ((eO L i).length:Int)/\w=W)
 case atStart=>exact⟨0,oM,rfl,rfl,rfl⟩
 case round =>
  obtain⟨i,O,rfl,rfl,rfl⟩:=hrel;by_cases J:i<k
  ·have B:(i:Int)<(k:Int):=oM;obtain⟨x,N,hE⟩:=F.out i J;obtain⟨E,I,rfl,q,-⟩:=hE;have n:=atS g 0 k c i J;rw[show 0+1*i=i by omega]at n;have d:(eO L (i+1)).length=(eO L i).length+(L i).length:=by rw[dE,UA]
   have l:=s.out i oM;have r:=s.out (i+1) oM;obtain⟨a,o⟩:=hE ((eO L i).length);obtain⟨b,f⟩:=hE ((L i).length);rw[o.out]at d l;rw[f.out]at d q;rw[o.out];rw[f.out]at N;go_wp2;go_roundg (gk-1)
   case measure=>omega
   case rel=>exact⟨i+1,oM,rfl,by rw[d,yBu],rfl⟩
  ·have B:¬(i:Int)<(k:Int):=oM;obtain rfl:i=k:=oM;go_wp2_with fail
   refine(Fh (eO L i).length (by have:=s.out i (Uw _);omega) w).mono ?_;rintro e Y ⟨v,rfl,l,C⟩;have V:=mk2 l C;go_wp2_with fail
   go_loopg [6,27] i (λm s6 s27 W=>∃j:Nat,j+m=i/\s27=iZ j/\Hid (kZ w W/\W.ownsRow w.heap.size 226 37 s6 (eO L j).length (aU (eO L j))))
   case atStart=>exact⟨0,oM,rfl,V⟩
   case round =>
    obtain⟨j,U,rfl,f⟩:=hrel;by_cases D:j<i
    ·have A:(j:Int)<(i:Int):=oM;obtain⟨x,o,q⟩:=F.out j D;have N:wr.cell? ⟨g,j,none⟩=some x:=by rw[f.1.cell (p:=⟨g,j,none⟩) Q.out];exact o
     have hE:=q.grow f.1;have r:=s.out (j+1) oM;have d:(eO L (j+1)).length=(eO L j).length+(L j).length:=by rw[dE,UA]
     obtain⟨H,W',M,z,G⟩:=Cb f.2 (X j D) hE (by rw[<-d];omega) f.1.size;rw[<-dE]at z;have P:Hid (kZ w W'/\W'.ownsRow w.heap.size 226 37 H (eO L (j+1)).length (aU (eO L (j+1)))):=⟨f.1.grown G f.1.size (λk K=>(f.2.lt k K).1),z⟩
     have u:=Hid.mk' M;obtain⟨E,I,rfl,-⟩:=hE;have n:=atS g 0 i c j D;rw[show 0+1*j=j by omega]at n;clear M z G d r f q o;go_wp2_with (first|(refine lK (x:=u6) (y:=sZ E (L j).length I) (v:=H) (w':=W') rfl _ _ 131 rfl ?_ ?_ ?_ ?_;rfl;rfl;exact u.out)|fail)
     go_roundg (gk-1)
     case measure=>omega
     case rel=>exact⟨j+1,oM,rfl,P⟩
    ·have A:¬(j:Int)<(i:Int):=oM;obtain rfl:j=i:=oM;go_wp2;go_ret;exact⟨_,rfl,f.1,f.2⟩
theorem EN{W:Ur}{k:Nat}{v:Ut}{l:List (Nat × Bs)}(h:W.ownsRow k 226 37 v l.length (aU l))(i:0<l.length):Sm k W v l:=by
 have f:=λ{g:Nat}=>h.cells (g:=g)
 rcases h.2 with⟨-,m⟩|⟨g,cap,cur,rfl,c,e,b,-⟩
 ·omega
 ·refine⟨g,cap,rfl,b,c,(UZ.1 e).1,λj u d=>?_⟩;have:=f (g:=g) rfl j u d;rw[add0]at this;rw[UD];exact this
theorem rT(B:Nat)(s t:Ut)(l m:List (Nat × Bs))(n:0<l.length)(Q:l.length<=500)(P:m.length<=500)(a:∀x∈l,x.2.size=33)(f:∀x∈m,x.2.size=33)(w:Ur)(F:Sm B w s l)(E:Sm B w t m):
 UH prog 65 #[s,t] w (rZ w λe w'=>Sm w.heap.size w' e (l++m)):=by
 have K:=n;obtain⟨p,c1,N,-⟩:=id F;obtain⟨u,c2,L,-⟩:=id E;subst N;subst L;obtain⟨d,k⟩:=hE (w.alloc (.cells #[sZ p l.length c1,sZ u m.length c2] 131));have G:kZ w d:=by rw[<-k.out];exact aC _ _
 have q:w.heap.size<d.heap.size:=by rw[<-k.out,UB];omega
 have C:d.rangeAt w.heap.size 0 [sZ p l.length c1,sZ u m.length c2]:=by rw[<-k.out];exact(Made.alloc w [sZ p l.length c1,sZ u m.length c2] 131).range
 have M:=Hid.mk' (GR w.heap.size 2 2 (λj=>if j=0 then l else m) dC (λj _=>by show(if j=0 then l else m).length<=600;split<;>omega) (λj _=>by
  show ∀x∈(if j=0 then l else m),x.2.size=33;split
  ·exact a
  ·exact f) d q (λj b=>by
  have y:∀ {v:Ut}{l:List (Nat × Bs)},Sm B w v l->Sm 0 d v l:=λh=>by
   obtain⟨g,c,i,A,-,o,r⟩:=h.grow G;exact⟨g,c,i,A,WA _,o,r⟩
  have b:j=0\/j=1:=oM;rcases b with rfl|rfl
  ·exact⟨_,C 0 _ rfl,y F⟩
  ·exact⟨_,C 1 _ rfl,y E⟩))
 have b:eO (λj=>if j=0 then l else m) 2=l++m:=by rw[dE,dE];rfl
 have y:=Hid.mk' G;have H:Hid (eO (λj=>if j=0 then l else m) 2=l++m/\0<(l++m).length):=⟨b,by rw[UA];omega⟩
 go_enter func65,ntmps65;go_wp2_with fail
 rw[k.out];refine M.mono ?_;rintro e I ⟨O,rfl,z,ho⟩;rw[H.1]at ho;have D:Hid (kZ w I/\Sm w.heap.size I O (l++m)):=by
  obtain⟨g,c,i,A,J,o,r⟩:=EN ho H.2;exact⟨y.trans (z.mono y.size),g,c,i,A,UC y.size J,o,r⟩
 go_wp2;go_ret;exact⟨_,rfl,D.1,D.2⟩
theorem Sm.point(C:Fld P)(O:Ord N)(b:∀r:EC.Pt P,On r->mul N r=none){w:Ur}{v:Ut}{l:List (Nat × Bs)}(h:Sm B w v l)(m:0<l.length)(E:l.length<=512)(p:∀x∈l,x.1<N)(f:PtsL P l):
 UH prog 67 #[v] w (rZ w λe w'=>e=pvl (wr (fJ P l))):=by
 obtain⟨g,c,rfl,-,-,D,z⟩:=h;have d:∀x∈l.map (·.2),x.size=33:=λx hx=>by
  obtain⟨y,k,rfl⟩:=Vn.1 hx;obtain⟨X,-,e⟩:=f y k;rw[e];exact aT _
 have i:∀j (k:j<l.length),((l[j]?).getD (0,#[]))=l[j]:=λj k=>by rw[UG k];rfl
 have a:∀j,j<l.length->On (fR P ((l[j]?).getD (0,#[])).2):=λj k=>by rw[i j k];exact f.on C (VH k)
 refine(De C O b g l.length c m E (λj=>((l[j]?).getD (0,#[])).1) (λj=>fR P ((l[j]?).getD (0,#[])).2) (λj k=>by rw[i j k];exact p _ (VH k)) a w D (λj k=>?_)).mono ?_
 ·rw[i j k];obtain⟨X,q,n⟩:=f _ (VH k);rw[n,lM C q,<-n];intro t u o;have s:t<37:=by
   have:=(UF.1 o).1;rw[gJ (d _ (Vn.2 ⟨_,VH k,rfl⟩))]at this;exact this
  have:=z (37*j+t) u (by rw[lD l d j k t s];exact o);rw[UD]at this;exact this
 ·rintro e w' ⟨u,rfl,n,rfl⟩;refine⟨_,rfl,n,?_⟩;rw[wE C l f _ (Uw _),List.take_length]
theorem xE(C:Fld P){a b:EC.Pt P}(k:On a)(c:On b):∀n,mul n (EC.add a b)=EC.add (mul n a) (mul n b)
 | 0=>rfl
 | n+1=>by
  show EC.add (mul n (EC.add a b)) (EC.add a b)=EC.add (EC.add (mul n a) a) (EC.add (mul n b) b);rw[xE C k c n];exact C.cur.swap (cG C.cur k n) (cG C.cur c n) k c
def SmZ(B:Nat)(W:Ur)(v:Ut)(l:List (Nat × Bs)):Prop:=(v=.slice none 0 0/\l=[])\/Sm B W v l
theorem SmZ.grow{W W':Ur}{v:Ut}{l:List (Nat × Bs)}(h:SmZ B W v l)(k:kZ W W'):SmZ B W' v l:=by
 rcases h with h|h
 ·exact U4 h
 ·exact UX (h.grow k)
theorem SmZ.form{W:Ur}{v:Ut}{l:List (Nat × Bs)}(h:SmZ B W v l):∃q c,v=.slice q l.length c/\l.length<=c:=by
 rcases h with⟨rfl,rfl⟩|⟨g,c,k,b,-⟩
 ·exact⟨none,0,rfl,Uw _⟩
 ·exact⟨_,_,k,b⟩
theorem Qh:∀W:Ur,(Vt #[131,131] 131 #[.slice none 0 0,.slice none 0 0]).run prog W=.ok (.slice none 0 0) W:=λW=>kR
theorem IR{W:Ur}{v x:Ut}{l m:List (Nat × Bs)}(k:W.ownsRow b 226 37 v l.length (aU l))(e:∀y∈m,y.2.size=33)(hx:SmZ B W x m)(d:l.length+m.length<=1000000)(f:b<=W.heap.size):
 ∃c W',(Vt #[131,131] 131 #[v,x]).run prog W=.ok c W'/\W'.ownsRow b 226 37 c (l++m).length (aU (l++m))/\W.grownBy W' v.ownBlock:=by
 rcases hx with⟨rfl,rfl⟩|hx
 ·rw[Xw];rcases id k.2 with⟨rfl,s⟩|⟨g,cap,cur,rfl,q,p,r,-⟩
  ·exact⟨_,_,Qh W,k,⟨rfl,rfl,rfl,Uw _,λ_ _ _=>rfl⟩⟩
  ·obtain⟨i,n,o⟩:=Uy.1 infoT';have:=Y9 (P:=prog) W 131 131 131 226 i C4 n g 0 l.length cap (.slice none 0 0) 0 [] (yCa (e':=226) _ C4 0) oM (λj c=>by cases c) (λj c=>by cases c);exact⟨_,_,this,k,⟨rfl,rfl,rfl,Uw _,λ_ _ _=>rfl⟩⟩
 ·exact Cb k e hx d f
theorem GQ(g k c:Nat)(L:Nat->List (Nat × Bs))(K:k<=1000)(S:∀j,j<k->(L j).length<=600)(t:∀j,j<k->∀x∈L j,x.2.size=33)(w:Ur)(T:g<w.heap.size)(R:∀j,j<k->∃x,w.cell? ⟨g,j,none⟩=some x/\SmZ 0 w x (L j)):
 UH prog 138 #[sZ g k c] w (rZ w λe w'=>w'.ownsRow w.heap.size 226 37 e (eO L k).length (aU (eO L k))):=by
 have F:=Hid.mk' R;have s:=mk1 (Bi L S);have Q:=Hid.mk' T;have X:=Hid.mk' t;go_enter func138,ntmps138;go_wp2_with fail
 go_loopg [3,11] k (λm s3 s11 W=>∃i:Nat,i+m=k/\s11=iZ i/\s3=iZ ((eO L i).length:Int)/\w=W)
 case atStart=>exact⟨0,oM,rfl,rfl,rfl⟩
 case round =>
  obtain⟨i,O,rfl,rfl,rfl⟩:=hrel;by_cases J:i<k
  ·have B:(i:Int)<(k:Int):=oM;obtain⟨x,N,hE⟩:=F.out i J;obtain⟨E,I,rfl,q⟩:=hE.form;have n:=atS g 0 k c i J;rw[show 0+1*i=i by omega]at n;have d:(eO L (i+1)).length=(eO L i).length+(L i).length:=by rw[dE,UA]
   have l:=s.out i oM;have r:=s.out (i+1) oM;obtain⟨a,o⟩:∃a,Hid ((eO L i).length=a):=⟨_,rfl⟩
   obtain⟨b,f⟩:∃b,Hid ((L i).length=b):=⟨_,rfl⟩
   rw[o.out]at d l;rw[f.out]at d q;rw[o.out];rw[f.out]at N;go_wp2;go_roundg (gk-1)
   case measure=>omega
   case rel=>exact⟨i+1,oM,rfl,by rw[d,yBu],rfl⟩
  ·have B:¬(i:Int)<(k:Int):=oM;obtain rfl:i=k:=oM;go_wp2_with fail
   refine(Fh (eO L i).length (by have:=s.out i (Uw _);omega) w).mono ?_;rintro e Y ⟨v,rfl,l,C⟩;have V:=mk2 l C;go_wp2_with fail
   go_loopg [6,27] i (λm s6 s27 W=>∃j:Nat,j+m=i/\s27=iZ j/\Hid (kZ w W/\W.ownsRow w.heap.size 226 37 s6 (eO L j).length (aU (eO L j))))
   case atStart=>exact⟨0,oM,rfl,V⟩
   case round =>
    obtain⟨j,U,rfl,f⟩:=hrel;by_cases D:j<i
    ·have A:(j:Int)<(i:Int):=oM;obtain⟨x,o,q⟩:=F.out j D;have N:wr.cell? ⟨g,j,none⟩=some x:=by rw[f.1.cell (p:=⟨g,j,none⟩) Q.out];exact o
     have hE:=q.grow f.1;have r:=s.out (j+1) oM;have d:(eO L (j+1)).length=(eO L j).length+(L j).length:=by rw[dE,UA]
     obtain⟨H,W',M,z,G⟩:=IR f.2 (X j D) hE (by rw[<-d];omega) f.1.size;rw[<-dE]at z;have P:Hid (kZ w W'/\W'.ownsRow w.heap.size 226 37 H (eO L (j+1)).length (aU (eO L (j+1)))):=⟨f.1.grown G f.1.size (λk K=>(f.2.lt k K).1),z⟩
     have u:=Hid.mk' M;obtain⟨E,I,rfl,-⟩:=hE.form;have n:=atS g 0 i c j D;rw[show 0+1*j=j by omega]at n;clear M z G d r f q o;go_wp2_with (first|(refine lK (x:=u6) (y:=.slice E (L j).length I) (v:=H) (w':=W') rfl _ _ 131 rfl ?_ ?_ ?_ ?_;rfl;rfl;exact u.out)|fail)
     go_roundg (gk-1)
     case measure=>omega
     case rel=>exact⟨j+1,oM,rfl,P⟩
    ·have A:¬(j:Int)<(i:Int):=oM;obtain rfl:j=i:=oM;go_wp2;go_ret;exact⟨_,rfl,f.1,f.2⟩
theorem cO(B:Nat)(s t:Ut)(l m:List (Nat × Bs))(n:0<(l++m).length)(P:l.length<=500)(O:m.length<=500)(A:∀x∈l,x.2.size=33)(f:∀x∈m,x.2.size=33)(w:Ur)(F:SmZ B w s l)(E:SmZ B w t m):
 UH prog 65 #[s,t] w (rZ w λe w'=>Sm w.heap.size w' e (l++m)):=by
 obtain⟨p,c1,M,-⟩:=F.form;obtain⟨u,c2,K,-⟩:=E.form;subst M;subst K;obtain⟨d,k⟩:=hE (w.alloc (.cells #[.slice p l.length c1,.slice u m.length c2] 131));have G:kZ w d:=by rw[<-k.out];exact aC _ _
 have q:w.heap.size<d.heap.size:=by rw[<-k.out,UB];omega
 have C:d.rangeAt w.heap.size 0 [.slice p l.length c1,.slice u m.length c2]:=by rw[<-k.out];exact(Made.alloc w [.slice p l.length c1,.slice u m.length c2] 131).range
 have L:=Hid.mk' (GQ w.heap.size 2 2 (λj=>if j=0 then l else m) dC (λj _=>by show(if j=0 then l else m).length<=600;split<;>omega) (λj _=>by
  show ∀x∈(if j=0 then l else m),x.2.size=33;split
  ·exact A
  ·exact f) d q (λj b=>by
  have y:∀ {v:Ut}{l:List (Nat × Bs)},SmZ B w v l->SmZ 0 d v l:=λh=>by
   rcases h.grow G with h|⟨g,c,i,z,-,o,r⟩
   ·exact U4 h
   ·exact UX ⟨g,c,i,z,WA _,o,r⟩
  have b:j=0\/j=1:=oM;rcases b with rfl|rfl
  ·exact⟨_,C 0 _ rfl,y F⟩
  ·exact⟨_,C 1 _ rfl,y E⟩))
 have b:eO (λj=>if j=0 then l else m) 2=l++m:=by rw[dE,dE];rfl
 have y:=Hid.mk' G;have H:=mk2 b n;go_enter func65,ntmps65;go_wp2_with fail
 rw[k.out];refine L.mono ?_;rintro e I ⟨N,rfl,a,ho⟩;rw[H.1]at ho;have D:Hid (kZ w I/\Sm w.heap.size I N (l++m)):=by
  obtain⟨g,c,i,z,J,o,r⟩:=EN ho H.2;exact⟨y.trans (a.mono y.size),g,c,i,z,UC y.size J,o,r⟩
 go_wp2;go_ret;exact⟨_,rfl,D.1,D.2⟩
structure Kp(w:Ur)(W:Ur)(rs:List (Nat × List Ut)):Prop where
 bl:kZ w W
 rw:∀x∈rs,Row W x.1 x.2
theorem Kp.grow{w W W':Ur}{k:List (Nat × List Ut)}(h:Kp w W k)(b:kZ W W'):Kp w W' k:=⟨h.bl.trans (b.mono h.bl.size),λx hx=>(h.rw x hx).below b⟩
theorem Kp.drew{w W:Ur}{k:List (Nat × List Ut)}(h:Kp w W k):Kp w W.drew k:=⟨h.bl.drew,h.rw⟩
theorem Kp.at{w W:Ur}{b:List (Nat × List Ut)}(h:Kp w W b){k:Nat}{c:List Ut}(i:Nat)(d:b[i]? = some (k,c)):Row W k c:=h.rw _ (List.mem_of_getElem? d)
def Nw(B:Nat)(c:List Ut)(v:Ut)(W:Ur):Prop:=∃k,v=jZ k/\B<=k/\Row W k c
section
variable (w:Ur) (k6 k8 k9 k10 x kk c z B0:Nat) (A F:Bs) (v1:Ut)
def R5:Nat->Ut->Ur->Prop
 | 0,v,_=>v=nv kk
 | 1,v,_=>v=pvl A
 | 2,v,_=>v=pvl F
 | 3,v,W=>Nw B0 z33 v W
 | _,_,_=>True
def Two(v:Ut)(W:Ur):Prop:=∃k y,v=sZ k 2 2/\k<W.heap.size/\W.cell? ⟨k,0,none⟩=some (sZ k9 33 33)/\W.cell? ⟨k,1,none⟩=some y/\El 32 W y (bx z)
def Ans(v:Ut)(W:Ur):Prop:=W.ownsRow B0 5 1 v 65 ((F.toList++(bx z).toList).map encB)
def R7:Nat->Ut->Ur->Prop
 | 0,v,_=>v=sZ k9 33 33
 | 1,v,_=>v=nv c
 | 2,v,_=>v=nv kk
 | 3,v,_=>v=nv x
 | 4,v,_=>v=nv z
 | 5,v,W=>El 32 W v (bx z)
 | 6,v,W=>Two k9 z v W
 | 7,v,W=>Ans z B0 F v W
 | 8,v,W=>Ans z B0 F v W
 | 9,v,_=>v=iZ 0
 | _,_,_=>True
end
theorem qD{P:VD}{c:Func}{tmps:Array Ut}{W:Ur}{k:Nat}{vs:List Ut}{v:Ut}(t u:WF)(T:U8)(f:c.results=#[.cell t T,.tmp u])(h:Row W k vs)(e:tmps[t]? = some (jZ k))(hv:tmps[u]? = some v)
 (b:(P.underlying T).map (·.isRow)=some true) (l:(P.info? T).map (·.size)=some vs.length):(results c tmps).run P W=.ok (.tuple #[.agg vs.toArray,v]) W:=by
 obtain⟨d,b,hd⟩:=Uy.1 b;have i:=Yg (P:=P) W k 0 T vs d h.2.1 b hd l;have g:tmps.getD t WR=jZ k:=by rw[UI,e];rfl
 have j:tmps.getD u WR=v:=by rw[UI,hv];rfl
 unfold results;rw[f];simp only[XC,YR,Y1,g,j,asAddr];simp[UV,i]
theorem NW(w:Ur):(Zi 103 #[]).run prog w=.ok (.agg z33.toArray) w:=kR
theorem Qg(g o k:Nat)(w:Ur):(Instr.arrayAt 103 (.slice (some ⟨g,o,none⟩) 33 k)).run prog w=.ok (oZ g o) w:=kR
theorem EF{k:Bs}{p:Fin P × Fin P}(h:rd P k=some p):k.size=33:=by
 unfold rd at h;split at h
 ·assumption
 ·cases h
theorem GK{W:Ur}{g o:Nat}{b:Bs}(h:Holds encB W g o b):W.rangeAt g o (aA b):=λj u c=>by
 unfold aA at c;rw[List.getElem?_map]at c;obtain⟨x,hx,rfl⟩:=Uy.1 c;have k:j<b.size:=by have:=(UF.1 hx).1;simpa using this
 rw[(h j k).1,getElem!_pos b j k];rw[Vq,U0 k]at hx;rw[UO.inj hx]
theorem FK(C:Fld P)(v:Ut)(k:Bs)(p:Fin P × Fin P)(w:Ur)(hv:Arg33 w v k)(z:rd P k=some p):UH prog 53 #[v] w (rZ w λe w'=>e=.tuple #[pvl k,.bool true]):=by
 have A:=EF z;have G:Hid (∀W,kZ w W->UH prog 118 #[v] W (rZ W λe w'=>e=.bool true)):=λW K=>by
  have h:=Cr C v k W (hv.below K);rw[z]at h;exact h
 obtain⟨q,n,cap,rfl,D,J⟩:=hv;rw[A]at D;subst D;obtain⟨g,o,rfl,-,I,L⟩:=J rfl;have a:=mk2 (GK L) I;obtain⟨s,i⟩:=hE (w.alloc (.cells z33.toArray 103));have f:Hid (Row s w.heap.size z33/\kZ w s):=by rw[<-i.out];exact⟨aE w _ _,aC w _⟩
 obtain⟨d,t,u⟩:=Uy.1 uCP;have F:=mk2 t u;have H:=Hid.mk' A;have y:=Qg g o cap;go_enter func53,ntmps53;go_wp2_with (first|(refine bG (v:=jZ w.heap.size) (w':=s) rfl (.alloc 103) rfl ?_ ?_;(rw[<-i.out];kernel_rfl))|fail)
 refine(G s f.2).mono ?_;rintro e E ⟨N,rfl,c,rfl⟩;have r:=mk3 (f.1.below c) (f.2.trans (c.mono f.2.size)) (RG.range_below a.1 (f.2.trans (c.mono f.2.size)) a.2);obtain⟨B,j⟩:=hE (E.setCells w.heap.size 0 (aA k));have b:=aB H.out;have x:Hid (Row B w.heap.size (aA k)/\kZ w B):=by rw[<-j.out];exact⟨r.1.put (by rw[b];rfl),RG.below_setCells (Uw _) _ _ _ r.2.1⟩
 obtain⟨M,l⟩:=hE (U3 (aA k).toArray);have m:Hid ((prog.info? 103).map (·.size)=some (aA k).length/\E.there w.heap.size 0 (aA k).toArray.size/\(prog.info? 103).map (·.size)=some (aA k).toArray.size):=by
  have e:(aA k).toArray.size=33:=by rw[VC];exact b
  refine⟨by rw[b];exact cV,by rw[e];exact r.1.2.2,by rw[e];exact cV⟩
 go_wp2_with (first|(refine U6 rfl 103 _ rfl g o ?_ (aA k) d ?_ ?_ ?_ ?_ ?_;rfl;exact r.2.2;exact F.1;exact F.2;exact m.1;rw[l.out])|(refine U2 rfl 103 _ _ rfl w.heap.size 0 (aA k).toArray ?_ ?_ ?_ ?_ ?_ ?_;rfl;exact l.symm;exact m.2.1;exact m.2.2;exact bW k;rw[show(aA k).toArray.toList=aA k from rfl,j.out])|fail)
 refine UE (qD 2 3 103 rfl x.1 rfl rfl uCP m.1) rfl ?_;exact⟨_,rfl,x.2,rfl⟩
theorem Na(C:Fld P)(v:Ut)(l:Bs)(w:Ur)(hv:Arg33 w v l)(p:rd P l=none):UH prog 53 #[v] w (rZ w λe w'=>e=.tuple #[.agg z33.toArray,.bool false]):=by
 have q:Hid (∀W,kZ w W->UH prog 118 #[v] W (rZ W λe w'=>e=.bool false)):=λW s=>by
  have h:=Cr C v l W (hv.below s);rw[p]at h;exact h
 obtain⟨f,k⟩:=hE (w.alloc (.cells z33.toArray 103));have g:Hid (Row f w.heap.size z33/\kZ w f):=by rw[<-k.out];exact⟨aE w _ _,aC w _⟩
 obtain⟨r,c⟩:=hE (U3 z33.toArray);have t:Hid (z33.toArray.all (·.oneCell')=true):=by show _=_;decide +kernel
 go_enter func53,ntmps53;go_wp2_with (first|(refine bG (v:=jZ w.heap.size) (w':=f) rfl (.alloc 103) rfl ?_ ?_;(rw[<-k.out];kernel_rfl))|fail)
 refine(q f g.2).mono ?_;rintro e j ⟨u,rfl,d,rfl⟩;have i:=mk2 (g.1.below d) (g.2.trans (d.mono g.2.size));obtain⟨n,b⟩:=hE (j.setCells w.heap.size 0 z33);have m:Hid (Row n w.heap.size z33/\kZ w n):=by rw[<-b.out];exact⟨i.1.put rfl,RG.below_setCells (Uw _) _ _ _ i.2⟩
 have o:=Hid.mk' (NW j);rw[c.out]at o;go_wp2_with (first|(refine lJ (v:=r) (w':=j) rfl 103 _ rfl #[] ?_ ?_ ?_;kernel_rfl;exact o.out)|(refine U2 rfl 103 _ _ rfl w.heap.size 0 z33.toArray ?_ ?_ ?_ ?_ ?_ ?_;rfl;exact c.symm;exact i.1.2.2;exact cV;exact t.out;rw[show z33.toArray.toList=z33 from rfl,b.out])|fail)
 refine UE (qD 2 3 103 rfl m.1 rfl rfl uCP cV) rfl ?_;exact⟨_,rfl,m.2,rfl⟩
theorem atP(k o n c i:Nat)(b:i<n)(w:Ur):(Vl 200 (.slice (some ⟨k,o,none⟩) n c) (iZ i)).run prog w=.ok (.pointer (some ⟨k,o+33*i,none⟩)) w:=by
 go_simp
theorem Ru(N:Nat)(j:N<=512):∃C0:List Ut,C0.length=33*N/\∀w:Ur,(XE 200 (iZ N) (iZ N)).run prog w=.ok (sZ w.heap.size N N) (w.alloc (.cells C0.toArray 103)):=by
 have g:prog.underlying 200=some (.slice 103):=kR;have d:(prog.info? 103).map (λi=>(i.size,decide (i.bytes<=4000),i.zero.isSome))=some (33,true,true):=kR;obtain⟨i,b,k⟩:=Uy.1 d;simp only[V8.injEq,decide_eq_true_eq]at k;obtain⟨e,l,f⟩:=k;obtain⟨z,c⟩:=Vr.1 f;refine⟨(madeCells z.cells (N*33)).toList,by rw[UK,YK,Vv],λw=>?_⟩;have m:(i.bytes:Int)*(N:Int)<=281474976710656:=by
  have:i.bytes*N<=4000*512:=WS l j;have n:((i.bytes*N:Nat):Int)<=281474976710656:=oM;rwa[Xy]at n
 have:=run_make (P:=prog) w 200 103 i z g b c .i64 .i64 (N:Int) (N:Int) oM oM m oM;rw[X4,e]at this;rw[XF];exact this
structure Az(w W:Ur)(K k i:Nat)(L:Nat->Bs):Prop where
 bl:kZ w W
 lt:K<W.heap.size
 th:W.there K 0 (33*k)
 rw:∀j,j<i->W.rangeAt K (33*j) (aA (L j))
theorem Az.grow{w W W':Ur}{K k i:Nat}{L:Nat->Bs}(h:Az w W K k i L)(b:kZ W W'):Az w W' K k i L:=
 ⟨h.bl.trans (b.mono h.bl.size),Ux h.lt b.size,dJ h.th b h.lt,λj c=>RG.range_below (h.rw j c) b h.lt⟩
theorem Az.put{w W:Ur}{K k i:Nat}{L:Nat->Bs}(h:Az w W K k i L)(e:w.heap.size<=K)(g:i<k)(c:∀j,j<=i->(L j).size=33):Az w (W.setCells K (33*i) (aA (L i))) K k (i+1) L:=by
 refine⟨RG.below_setCells e _ _ _ h.bl,by rw[setCells_size];exact h.lt,VW h.th _ _ _,λj f=>?_⟩;by_cases b:j=i
 ·subst b;refine VO W K _ _ λt d=>?_
  rw[aB (c j (Uw _))]at d;have:=h.th (33*j+t) oM;rwa[UD]at this
 ·exact Vh (h.rw j oM) K _ _ (UX (U4 (by rw[aB (c j oM)];omega)))
def Uo(P:Nat)[NeZero P](w:Ur)(k:Nat)(L:Nat->Bs)(e:Ut)(w':Ur):Prop:=
 kZ w w'/\(((∀j,j<k->∃p,rd P (L j)=some p)/\∃K,e=.tuple #[sZ K k k,.bool true]/\w.heap.size<=K/\K<w'.heap.size/\∀j,j<k->w'.rangeAt K (33*j) (aA (L j)))\/((∃j,j<k/\rd P (L j)=none)/\e=.tuple #[.slice none 0 0,.bool false]))
def Oi(P:Nat)[NeZero P](w:Ur)(k:Nat)(L:Nat->Bs)(e:Ut)(w':Ur):Prop:=
 kZ w w'/\(((∀j,j<k->∃p,rd P (L j)=some p)/\∃K,e=.tuple #[sZ K k k,.bool true]/\w.heap.size<=K/\K<w'.heap.size/\w'.there K 0 (33*k)/\∀j,j<k->w'.rangeAt K (33*j) (aA (L j)))\/((∃j,j<k/\rd P (L j)=none)/\e=.tuple #[.slice none 0 0,.bool false]))
theorem Qi(C:Fld P)(B o k c:Nat)(hk:k<=512)(L:Nat->Bs)(w:Ur)(hg:B<w.heap.size)(hL:∀j,j<k->∃v,w.cell? ⟨B,o+j,none⟩=some v/\Arg33 w v (L j)):
 UH prog 120 #[.func (.func 53) #[] #[],.slice (some ⟨B,o,none⟩) k c] w (Ret (Oi P w k L)):=by
 obtain⟨C0,N,Q⟩:=Ru k hk;have n:=Q w;obtain⟨w1,z⟩:=hE (w.alloc (.cells C0.toArray 103));rw[z.out]at n;have HM:=Hid.mk' n;have K1:Hid (Az w w1 w.heap.size k 0 L):=by
  have hR:Row w1 w.heap.size C0:=by rw[<-z.out];exact aE w _ _
  refine⟨by rw[<-z.out];exact aC _ _,hR.1,by rw[<-N];exact hR.2.2,λj Z=>oM⟩
 have S:Hid (Fld P/\(∀j,j<k->∃v,w.cell? ⟨B,o+j,none⟩=some v/\Arg33 w v (L j))/\B<w.heap.size):=⟨C,hL,hg⟩
 obtain⟨d,H,I⟩:=Uy.1 uCP;have HD:=mk2 H I;have HO:Hid (z33.toArray.all (·.oneCell')=true):=by show _=_;decide +kernel
 clear H I C hL hg Q N z;go_enter func120,ntmps120;go_wp2;clear n;go_loopg [16] k (λm s16 W=>∃i:Nat,i+m=k/\s16=iZ i/\Hid (Az w W w.heap.size k i L/\∀j,j<i->∃p,rd P (L j)=some p))
 case atStart=>exact⟨0,oM,rfl,K1.out,λj Z=>oM⟩
 case round =>
  obtain⟨i,h0,rfl,s⟩:=hrel;by_cases R:i<k
  ·have X:(i:Int)<(k:Int):=oM;obtain⟨v,M,J⟩:=S.2.1 i R;have hc:wr.cell? ⟨B,o+i,none⟩=some v:=by rw[s.1.bl.cell (p:=⟨B,o+i,none⟩) S.2.2];exact M
   have HA:Hid (Arg33 wr v (L i)):=J.below s.1.bl;have Y:=atB B o k c i R;rw[show o+1*i=o+i by omega]at Y;clear M J;obtain⟨b,a⟩:∃b,Hid (L i=b):=⟨_,rfl⟩
   rw[a.out]at HA;obtain⟨g,f⟩:∃g:Nat,True:=⟨0,yCn⟩
   clear f g;cases K:rd P b with
   | none =>
    go_wp2_with fail
    refine(Na S.1 v b wr HA.out K).mono ?_;rintro e A ⟨vv,rfl,F,rfl⟩;obtain⟨vz,l⟩:=hE (U3 z33.toArray);rw[l.out];obtain⟨g,f⟩:=hE (A.heap.size);obtain⟨y,u⟩:=hE (A.alloc (.cells z33.toArray 103));obtain⟨G,x⟩:=hE (y.setCells g 0 z33);have E:Hid (Row y g z33/\kZ w y/\w.heap.size<=g):=by
     have r:=s.1.bl.trans (F.mono s.1.bl.size);rw[<-u.out,<-f.out];exact⟨aE A _ _,r.alloc r.size _,r.size⟩
    have r:Hid (kZ w G):=by rw[<-x.out];exact RG.below_setCells E.2.2 _ _ _ E.2.1
    have D:Hid (i<k/\rd P (L i)=none):=⟨R,by rw[a.out];exact K⟩
    go_wp2_with (first|(refine bG (v:=jZ g) (w':=y) rfl (.alloc 103) rfl ?_ ?_;(rw[<-u.out,<-f.out];kernel_rfl))|(refine U2 rfl 103 _ _ rfl g 0 z33.toArray ?_ ?_ ?_ ?_ ?_ ?_;rfl;exact l.symm;exact E.1.2.2;exact cV;exact HO.out;rw[show z33.toArray.toList=z33 from rfl,x.out])|fail)
    go_ret2
    exact⟨_,rfl,r.out,UX ⟨⟨i,D.out⟩,rfl⟩⟩
   | some p =>
    have hs:=EF K;go_wp2_with fail
    refine(FK S.1 v b p wr HA.out K).mono ?_;rintro e A ⟨vv,rfl,F,rfl⟩;obtain⟨vz,l⟩:=hE (pvl b);rw[l.out];have r:=aB hs;have T:(aA b).toArray.size=33:=by rw[VC];exact r
    obtain⟨g,f⟩:=hE (A.heap.size);obtain⟨y,u⟩:=hE (A.alloc (.cells z33.toArray 103));obtain⟨G,x⟩:=hE (y.setCells g 0 (aA b));obtain⟨W4,O⟩:=hE (G.setCells w.heap.size (33*i) (aA b));have A1:=s.1.grow F;have E:Hid (Row y g z33/\kZ A y):=by
     rw[<-u.out,<-f.out];exact⟨aE A _ _,aC _ _⟩
    have V:Hid (Row G g (aA b)/\Az w G w.heap.size k i L):=by
     rw[<-x.out];exact⟨E.1.put (by rw[r];rfl),A1.grow (RG.below_setCells (by rw[f.out];exact Uw _) _ _ _ E.2)⟩
    have K4:Hid (Az w W4 w.heap.size k (i+1) L/\∀j,j<i+1->∃p,rd P (L j)=some p):=by
     have D:∀j,j<i+1->∃p,rd P (L j)=some p:=λj Z=>by
      by_cases U:j=i
      ·subst U;exact⟨p,by rw[a.out];exact K⟩
      ·exact s.2 j oM
     have h:=V.2.put (Uw _) R (λj Z=>by obtain⟨q,U⟩:=D j oM;exact EF U);rw[a.out,O.out]at h;exact⟨h,D⟩
    have D:Hid ((prog.info? 103).map (·.size)=some (aA b).length/\(prog.info? 103).map (·.size)=some (aA b).toArray.size/\y.there g 0 (aA b).toArray.size/\G.there w.heap.size (33*i) (aA b).toArray.size):=by
     rw[r,T];refine⟨cV,cV,E.1.2.2,λt U=>?_⟩;have:=V.2.th (33*i+t) oM;rwa[UD]at this
    have U:=atP w.heap.size 0 k k i R;go_wp2_with (first|(refine bG (v:=jZ g) (w':=y) rfl (.alloc 103) rfl ?_ ?_;(rw[<-u.out,<-f.out];kernel_rfl))|(refine U2 rfl 103 _ _ rfl g 0 (aA b).toArray ?_ ?_ ?_ ?_ ?_ ?_;rfl;exact l.symm;exact D.2.2.1;exact D.2.1;exact bW b;rw[show(aA b).toArray.toList=aA b from rfl,x.out])|(refine U6 rfl 103 _ rfl g 0 ?_ (aA b) d ?_ ?_ ?_ ?_ ?_;rfl;exact V.1.2.1;exact HD.1;exact HD.2;exact D.1;rw[show U3 (aA b).toArray=vz from l.out])|(refine U2 rfl 103 _ _ rfl w.heap.size (33*i) (aA b).toArray ?_ ?_ ?_ ?_ ?_ ?_;rfl;exact l.symm;exact D.2.2.2;exact D.2.1;exact bW b;rw[show(aA b).toArray.toList=aA b from rfl,O.out])|fail)
    go_roundg (gk-1)
    case measure=>omega
    case rel=>exact⟨i+1,oM,rfl,K4⟩
  ·have X:¬(i:Int)<(k:Int):=oM;obtain rfl:i=k:=oM;go_wp2
   go_ret2
   exact⟨_,rfl,s.1.bl,U4 ⟨s.2,w.heap.size,rfl,Uw _,s.1.lt,s.1.th,s.1.rw⟩⟩
theorem Qj(C:Fld P)(b k c:Nat)(e:k<=512)(L:Nat->Bs)(w:Ur)(g:b<w.heap.size)(f:∀j,j<k->∃v,w.cell? ⟨b,j,none⟩=some v/\Arg33 w v (L j)):
 UH prog 120 #[.func (.func 53) #[] #[],sZ b k c] w (Ret (Oi P w k L)):=Qi C b 0 k c e L w g λj d=>by rw[UD];exact f j d
theorem Ki(C:Fld P)(b k c:Nat)(p:k<=512)(L:Nat->Bs)(w:Ur)(g:b<w.heap.size)(d:∀j,j<k->∃v,w.cell? ⟨b,j,none⟩=some v/\Arg33 w v (L j)):
 UH prog 120 #[.func (.func 53) #[] #[],sZ b k c] w (Ret (Uo P w k L)):=by
 refine(Qj C b k c p L w g d).mono ?_;rintro e w' ⟨v,rfl,o,h⟩;refine⟨_,rfl,o,?_⟩;rcases h with⟨m,K,f,n,i,-,l⟩|h
 ·exact U4 ⟨m,K,f,n,i,l⟩
 ·exact UX h
theorem IV(O:Ord N){a:Nat}(c:a<N):Gives 149 #[nv a] (nv (sMi N 0 a)):=by
 intro w;have h:=Dl O 0 a O.pos c;generalize sMi N 0 a=m at h⊢;go_enter func149,ntmps149;refine RG.M.enter [(0,.v (nv a))] 6 kR ?_;intro a0 b;repeat refine Uz ?_
 refine b.T [.m 0,.m 1] [(0,wn a),(1,RG.z 4)] [] [wn a,RG.z 4] [1,2] ⟨mk 0 49,mk 1 49,yCn⟩ ?_;intro g e j i d;repeat refine Uz ?_
 refine d.T [.x (nv 0),.x (nv a),.c (nv m),.u 1] [] [(1,3,wn m)] [wn a,wn m] [2] ⟨st,ld u40 i40,cl h,RG.pt i40,yCn⟩ ?_;intro a2 f k;refine Wr ?_;refine UE (v:=nv m) (aI k.st 2 49 rfl 1 _ rfl (k.at (s:=(.p 1 0))) u40 i40) k.sl.defers ?_;exact⟨_,rfl,k.st.bel.below,rfl⟩
theorem TK(N:Nat)(g:N<=512):∃C0:List Ut,C0.length=37*N/\∀w:Ur,(XE 131 (iZ N) (iZ N)).run prog w=.ok (sZ w.heap.size N N) (w.alloc (.cells C0.toArray 226)):=by
 have d:(prog.info? 226).map (λi=>(i.size,decide (i.bytes<=4000),i.zero.isSome))=some (37,true,true):=kR;obtain⟨i,b,k⟩:=Uy.1 d;simp only[V8.injEq,decide_eq_true_eq]at k;obtain⟨e,j,f⟩:=k;obtain⟨z,c⟩:=Vr.1 f;refine⟨(madeCells z.cells (N*37)).toList,by rw[UK,YK,Vv],λw=>?_⟩;have l:(i.bytes:Int)*(N:Int)<=281474976710656:=by
  have:i.bytes*N<=4000*512:=WS j g;have m:((i.bytes*N:Nat):Int)<=281474976710656:=oM;rwa[Xy]at m
 have:=run_make (P:=prog) w 131 226 i z C4 b c .i64 .i64 (N:Int) (N:Int) oM oM l oM;rw[X4,e]at this;rw[XF];exact this
theorem GX{W:Ur}{g:Nat}{l:List (Nat × Bs)}(k:∀x∈l.map (·.2),x.size=33)(d:W.rangeAt g 0 (aU l))(j:Nat)(b:j<l.length):W.rangeAt g (37*j) (wn (l[j]).1++aA (l[j]).2):=λt u c=>by
 have e:t<37:=by
  have:=(UF.1 c).1;rw[gJ (k _ (Vn.2 ⟨_,VH b,rfl⟩))]at this;exact this
 have:=d (37*j+t) u (by rw[lD l k j b t e];exact c);rw[UD]at this;exact this
theorem Dn{W:Ur}{g:Nat}{l:List (Nat × Bs)}(k:∀x∈l.map (·.2),x.size=33)(i:∀j (b:j<l.length),W.rangeAt g (37*j) (wn (l[j]).1++aA (l[j]).2)):W.rangeAt g 0 (aU l):=λt u d=>by
 have c:t<l.length*37:=by
  have:=(UF.1 d).1;rwa[qI λx hx=>k _ (Vn.2 ⟨x,hx,rfl⟩)]at this
 have b:t/37<l.length:=Nat.div_lt_of_lt_mul oM;have m:t%37<37:=V7 _ dC;have e:37*(t/37)+t%37=t:=Nat.div_add_mod _ _;have f:=lD l k (t/37) b (t%37) m;rw[e,d]at f;have:=i (t/37) b (t%37) u f.symm;rw[e]at this;rw[UD];exact this
def tmT(N n:Nat)(x:Nat × Bs):Nat × Bs:=(sTi N n x.1,x.2)
structure Tz(w W:Ur)(N n K k3 i:Nat)(l:List (Nat × Bs)):Prop where
 bl:kZ w W
 lt:K<W.heap.size
 ne:k3≠K
 th:W.there K 0 (37*l.length)
 r3:Row W k3 (wn n)
 rw:∀j (hj:j<l.length),j<i->W.rangeAt K (37*j) (wn (tmT N n (l[j])).1++aA (tmT N n (l[j])).2)
theorem Tz.grow{w W W':Ur}{n K c i:Nat}{l:List (Nat × Bs)}(h:Tz w W N n K c i l)(k:kZ W W'):Tz w W' N n K c i l:=
 ⟨h.bl.trans (k.mono h.bl.size),Ux h.lt k.size,h.ne,dJ h.th k h.lt,h.r3.below k,λj d b=>RG.range_below (h.rw j d b) k h.lt⟩
theorem Tz.drew{w W:Ur}{n K k i:Nat}{l:List (Nat × Bs)}(h:Tz w W N n K k i l):Tz w W.drew N n K k i l:=⟨h.bl.drew,h.lt,h.ne,h.th,h.r3,h.rw⟩
theorem Tz.put{w W:Ur}{n K i:Nat}{l:List (Nat × Bs)}(h:Tz w W N n K d i l)(g:w.heap.size<=K)(o:i<l.length)(c:∀x∈l.map (·.2),x.size=33):Tz w (W.setCells K (37*i) (wn (tmT N n (l[i])).1++aA (tmT N n (l[i])).2)) N n K d (i+1) l:=by
 have b:∀(j:Nat) (k:j<l.length),(wn (tmT N n (l[j])).1++aA (tmT N n (l[j])).2).length=37:=λj k=>gJ (c _ (Vn.2 ⟨_,VH k,rfl⟩))
 refine⟨RG.below_setCells g _ _ _ h.bl,by rw[setCells_size];exact h.lt,h.ne,VW h.th _ _ _,⟨by rw[setCells_size];exact h.r3.1,Vh h.r3.2.1 K _ _ (U4 h.ne),VW h.r3.2.2 _ _ _⟩,λj k m=>?_⟩;by_cases e:j=i
 ·subst e;refine VO W K _ _ λt f=>?_
  rw[b j k]at f;have:=h.th (37*j+t) oM;rwa[UD]at this
 ·exact Vh (h.rw j k oM) K _ _ (UX (U4 (by rw[b j k];omega)))
section
variable (w:Ur) (n K k3 k7 i s m:Nat) (p:Bs) (l:List (Nat × Bs))
def Rt:Nat->Ut->Ur->Prop
 | 0,v,_=>v=sZ K l.length l.length
 | 1,v,_=>v=iZ i
 | 2,v,_=>v=nv n
 | 3,v,_=>v=jZ k7
 | 4,v,_=>v=nv s
 | 5,v,_=>v=nv m
 | 6,v,_=>v=oZ k7 4
 | 7,v,_=>v=pvl p
 | 8,v,_=>v=tvl m p
 | 9,v,_=>v=.pointer (some ⟨K,0+37*i,none⟩)
 | _,_,_=>True
def Gt(N:Nat):Gw:=⟨Rt n K k7 i s m p l,λW=>Tz w W N n K k3 i l/\Row W k7 (wn s++aA p),λj v W W' k h=>by
 match j,h with
 | 0,h=>exact h
 | 1,h=>exact h
 | 2,h=>exact h
 | 3,h=>exact h
 | 4,h=>exact h
 | 5,h=>exact h
 | 6,h=>exact h
 | 7,h=>exact h
 | 8,h=>exact h
 | 9,h=>exact h
 | _+10,_=>trivial,λW W' k h=>⟨h.1.grow k,h.2.below k⟩⟩
end
theorem eG(O:Ord N){n:Nat}(hn:n<N)(B:Nat)(s:Ut)(l:List (Nat × Bs))(hl:l.length<=512)(U:∀x∈l.map (·.2),x.size=33)(Z:∀x∈l,x.1<N)(w:Ur)(hS:Sm B w s l):
 UH prog 164 #[s,nv n] w (rZ w λe w'=>Sm w.heap.size w' e (l.map (tmT N n))):=by
 obtain⟨g,c,rfl,hc,-,hg,hr⟩:=hS;have HB:=Hid.mk' (boxS n w);obtain⟨C,A⟩:∃C,Hid (w.alloc (.cells (wn n).toArray 49)=C):=⟨_,rfl⟩
 rw[A.out]at HB;obtain⟨H,r⟩:∃k,Hid (w.heap.size=k):=⟨_,rfl⟩
 obtain⟨K,hK⟩:∃k,Hid (C.heap.size=k):=⟨_,rfl⟩
 have e1:K=H+1:=by rw[<-hK.out,<-r.out,<-A.out,UB]
 obtain⟨C0,h3,h9⟩:=TK l.length hl;have I:=h9 C;obtain⟨w2,E⟩:∃w2,Hid (C.alloc (.cells C0.toArray 226)=w2):=⟨_,rfl⟩
 rw[E.out,hK.out]at I;rw[r.out]at HB;have K2:Hid (Tz w w2 N n K H 0 l):=by
  have f:Row C H (wn n):=by rw[<-A.out,<-r.out];exact aE w _ _
  have b1:kZ w C:=by rw[<-A.out];exact aC _ _
  have o:kZ C w2:=by rw[<-E.out];exact aC _ _
  have d:Row w2 K C0:=by rw[<-E.out,<-hK.out];exact aE C _ _
  exact⟨b1.trans (o.mono b1.size),d.1,oM,by rw[<-h3];exact d.2.2,f.below o,λj hj q=>oM⟩
 have D:Hid (Ord N/\n<N/\(∀x∈l.map (·.2),x.size=33)/\(∀x∈l,x.1<N)/\g<w.heap.size/\w.rangeAt g 0 (aU l)/\w.heap.size<=K):=⟨O,hn,U,Z,hg,hr,by rw[r.out];omega⟩
 obtain⟨d',h7,h8⟩:=Uy.1 uT;have HD:Hid (prog.underlying 226=some d'/\d'.isRow=true):=⟨h7,h8⟩
 obtain⟨vn,ha⟩:∃v,Hid (nv n=v):=⟨_,rfl⟩
 rw[ha.out]at HB⊢;clear h7 h8 O hn U Z hg hr h9 h3 A E hK r e1;go_enter func164,ntmps164;go_wp2_with (first|(refine aF (u:=vn) (v:=jZ H) (w':=C) rfl 49 (.tmp 1) rfl ?_ ?_ ?_;rfl;exact HB.out)|fail)
 clear I;go_loopg [13] l.length (λm s13 W=>∃i:Nat,i+m=l.length/\s13=iZ i/\Hid (Tz w W N n K H i l))
 case atStart=>exact⟨0,oM,rfl,K2⟩
 case round =>
  clear K2 HB;obtain⟨i,hw,rfl,L⟩:=hrel;by_cases q:i<l.length
  ·have hk:(i:Int)<(l.length:Int):=oM;obtain⟨s,J⟩:∃s,Hid ((l[i]'q).1=s):=⟨(l[i]'q).1,(rfl:(l[i]'q).1=(l[i]'q).1)⟩
   obtain⟨p,S⟩:∃p,Hid ((l[i]'q).2=p):=⟨(l[i]'q).2,(rfl:(l[i]'q).2=(l[i]'q).2)⟩
   have F:Hid (p.size=33):=by rw[<-S.out];exact D.2.2.1 _ (Vn.2 ⟨_,VH q,rfl⟩)
   have hm:Hid (s<N):=by rw[<-J.out];exact D.2.2.2.1 _ (VH q)
   have B0:Hid (wr.rangeAt g (37*i) (wn s++aA p)):=by
    have h:=RG.range_below (GX D.2.2.1 D.2.2.2.2.2.1 i q) L.bl D.2.2.2.2.1;rw[J.out,S.out]at h;exact h
   obtain⟨o,G⟩:∃k,Hid (wr.heap.size=k):=⟨_,rfl⟩
   obtain⟨P,T⟩:∃P,Hid (wr.alloc (.cells zT.toArray 226)=P):=⟨_,rfl⟩
   obtain⟨W2,R⟩:∃W2,Hid (P.setCells o 0 (wn s++aA p)=W2):=⟨_,rfl⟩
   have f:(wn s++aA p).length=37:=gJ F.out;have F1:Hid (Row P o zT/\kZ wr P):=by rw[<-T.out,<-G.out];exact⟨aE wr _ _,aC wr _⟩
   have F2:Hid (Row W2 o (wn s++aA p)/\Tz w W2 N n K H i l):=by
    rw[<-R.out];exact⟨F1.1.put (by rw[f];rfl),L.grow (RG.below_setCells (by rw[G.out];exact Uw _) _ _ _ F1.2)⟩
   have hq:Hid ((prog.info? 226).map (·.size)=some (wn s++aA p).length):=by show _=_;rw[f];exact iT
   have X:Hid ((prog.info? 226).map (·.size)=some (wn s++aA p).toArray.size/\P.there o 0 (wn s++aA p).toArray.size):=by
    have e:(wn s++aA p).toArray.size=37:=by rw[VC];exact f
    rw[e];exact⟨iT,F1.1.2.2⟩
   have he:Hid ((wn s++aA p).toArray.all (·.oneCell')=true):=by
    show _=_;rw[Xa];intro u hu;exact cells_one s p u (X8.1 hu)
   have hs:=atT g 0 l.length c i q;obtain⟨vt,h4⟩:∃v,Hid (U3 (wn s++aA p).toArray=v):=⟨_,rfl⟩
   have HL:Hid (i<l.length):=q;clear f L F1;go_wp2_with (first|(refine U6 rfl 226 _ rfl g (37*i) ?_ (wn s++aA p) d' ?_ ?_ ?_ ?_ ?_;rfl;exact B0.out;exact HD.1;exact HD.2;exact hq.out;rw[h4.out])|(refine bG (v:=jZ o) (w':=P) rfl (.alloc 226) rfl ?_ ?_;(rw[<-T.out,<-G.out];kernel_rfl))|(refine U2 rfl 226 _ _ rfl o 0 (wn s++aA p).toArray ?_ ?_ ?_ ?_ ?_ ?_;rfl;exact h4.symm;exact X.2;exact X.1;exact he.out;rw[show(wn s++aA p).toArray.toList=wn s++aA p from rfl,R.out])|fail)
   clear T R G;refine(Gt w n K H o i s (sTi N n s) p l N).last 10 kR kR kR ⟨
    bN λa W d=>⟨[(5,sZ K l.length l.length)],sZ K l.length l.length,W,⟨d.o 5 kR,yCn⟩,kR,UR _ _,rfl⟩,
    bN λa W d=>⟨[(6,iZ i)],iZ i,W,⟨d.o 6 kR,yCn⟩,kR,UR _ _,rfl⟩,
    iQ 49 3 rfl Go.Proofs.YtdoammpgchejcaaGreat.u40 λa W d=>⟨H,0,wn n,d.o 3 kR,d.b.1.r3.2.1,i40,rfl⟩,
    bN λa W d=>⟨[(7,jZ o)],jZ o,W,⟨d.o 7 kR,yCn⟩,kR,UR _ _,rfl⟩,
    iQ 49 21 rfl Go.Proofs.YtdoammpgchejcaaGreat.u40 λa W d=>⟨o,0,wn s,d.n 3 21 kR kR,kA d.b.2.2.1,i40,rfl⟩,
    gK λa W d=>⟨[(20,nv n),(22,nv s)],79,#[nv n,nv s],⟨d.n 2 20 kR kR,d.n 4 22 kR kR,yCn⟩,kR,(iI D.1 n s D.2.1 hm.out W).mono (by
     rintro e W' ⟨u,rfl,M,rfl⟩;exact⟨_,rfl,M,rfl⟩)⟩,
    bN λa W d=>⟨[(7,jZ o)],oZ o 4,W,⟨d.o 7 kR,yCn⟩,kR,UR _ _,rfl⟩,
    iQ 103 24 rfl uCP λa W d=>⟨o,4,aA p,d.n 6 24 kR kR,lT (xs:=wn s) d.b.2.2.1,by rw[aB F.out];exact cV,rfl⟩,
    bN λa W d=>⟨[(23,nv (sTi N n s)),(25,pvl p)],tvl (sTi N n s) p,W,⟨d.n 5 23 kR kR,d.n 7 25 kR kR,yCn⟩,by
     rw[V8.injEq];refine⟨kR,?_⟩;refine Eq.trans (b:=((Zi 226 #[(0,nv (sTi N n s)),(1,pvl p)]) >>= λv=>pure (Xr v)).run prog W) kR ?_;rw[UV,SR F.out];rfl,UR _ _,rfl⟩,
    bN λa W d=>⟨[(18,sZ K l.length l.length),(19,iZ i)],.pointer (some ⟨K,0+37*i,none⟩),W,⟨d.n 0 18 kR kR,d.n 1 19 kR kR,yCn⟩,by
     rw[V8.injEq];refine⟨kR,?_⟩;show((Vl 131 (sZ K l.length l.length) (iZ i)) >>= λv=>pure (Xr v)).run prog W=_;rw[UV,atT K 0 l.length l.length i HL.out];rfl,UR _ _,rfl⟩,yCn⟩ ⟨F2.2.drew,F2.1⟩ ?_
   intro V W3 M Q;have h0:V 8=tvl (sTi N n s) p:=M 8 dC;have Y:V 9=.pointer (some ⟨K,0+37*i,none⟩):=M 9 dC;have d:(wn (sTi N n s)++aA p).length=37:=gJ F.out;obtain⟨W4,h5⟩:∃W4,Hid (W3.setCells K (37*i) (wn (sTi N n s)++aA p)=W4):=⟨_,rfl⟩
   have K4:Hid (Tz w W4 N n K H (i+1) l):=by
    have h:=Q.1.put D.2.2.2.2.2.2 HL.out D.2.2.1;have e:tmT N n (l[i]'HL.out)=(sTi N n s,p):=by
     have h1:=J.out;have h2:=S.out;unfold tmT;rw[h1,h2]
    rw[e]at h;rw[<-h5.out];exact h
   have HT:Hid (W3.there K (37*i) (wn (sTi N n s)++aA p).toArray.size/\(prog.info? 226).map (·.size)=some (wn (sTi N n s)++aA p).toArray.size/\(wn (sTi N n s)++aA p).toArray.all (·.oneCell')=true):=by
    have e:(wn (sTi N n s)++aA p).toArray.size=37:=by rw[VC];exact d
    refine⟨λt ht=>?_,by rw[e];exact iT,?_⟩
    ·rw[e]at ht;have:=Q.1.th (37*i+t) (by have:=HL.out;omega);rwa[UD]at this
    ·rw[Xa];intro u hu;exact cells_one _ p u (X8.1 hu)
   dsimp only[bU,VK,Xn,Xo];simp only[UN,Us,Uu,Uv];obtain⟨vz,h6⟩:∃v,Hid (tvl (sTi N n s) p=v):=⟨_,rfl⟩
   rw[h0,Y,h6.out,UD];clear M Q h0 Y d F2;generalize V 0=s0;generalize V 1=s1;generalize V 2=s2;generalize V 3=s3;generalize V 4=s4;generalize V 5=s5;generalize V 6=s6;generalize V 7=s7;go_wp2_with (first|(refine U2 rfl 226 _ _ rfl K (37*i) (wn (sTi N n s)++aA p).toArray ?_ ?_ ?_ ?_ ?_ ?_;rfl;exact h6.symm;exact HT.1;exact HT.2.1;exact HT.2.2;rw[show(wn (sTi N n s)++aA p).toArray.toList=wn (sTi N n s)++aA p from rfl,h5.out])|fail)
   go_roundg (gk-1)
   case measure=>omega
   case rel=>exact⟨i+1,oM,rfl,K4⟩
  ·have hk:¬(i:Int)<(l.length:Int):=oM;obtain rfl:i=l.length:=oM;have d:Hid (kZ w wr/\Sm w.heap.size wr (sZ K l.length l.length) (l.map (tmT N n))):=by
    refine⟨L.bl,K,l.length,by rw[UQ],by rw[UQ];exact Uw _,D.2.2.2.2.2.2,L.lt,Dn (λx hx=>?_) λj hj=>?_⟩
    ·obtain⟨y,o,rfl⟩:=Vn.1 hx;obtain⟨z,f,rfl⟩:=Vn.1 o;exact D.2.2.1 _ (Vn.2 ⟨z,f,rfl⟩)
    ·rw[List.getElem_map];rw[UQ]at hj;exact L.rw j hj hj
   clear L;go_wp2;go_ret;exact⟨_,rfl,d.1,d.2⟩
end
namespace SPA
structure Md(N:Nat)[NeZero N](M:Type) where
 ad:M->M->M
 zo:M
 ac:(Fin N)->M->M
 comm:∀a b,ad a b=ad b a
 assoc:∀a b c,ad (ad a b) c=ad a (ad b c)
 zadd:∀a,ad zo a=a
 acAd:∀r a b,ac r (ad a b)=ad (ac r a) (ac r b)
 adAc:∀r s a,ac (r+s) a=ad (ac r a) (ac s a)
 acAc:∀r s a,ac r (ac s a)=ac (r*s) a
 acOne:∀a,ac 1 a=a
 zac:∀a,ac 0 a=zo
variable {N:Nat}[NeZero N]{M:Type}
namespace Md
variable (D:Md N M)
theorem S3(a:M):D.ad a D.zo=a:=by rw[D.comm,D.zadd]
theorem swap(a b c d:M):D.ad (D.ad a b) (D.ad c d)=D.ad (D.ad a c) (D.ad b d):=by
 rw[D.assoc,<-D.assoc b,D.comm b c,D.assoc c,<-D.assoc]
theorem acz(r:(Fin N)):D.ac r D.zo=D.zo:=by
 have h:=D.zac D.zo;rw[<-h,D.acAc,show r*0=(0:(Fin N)) by grind]
def sm(f:Nat->M):Nat->M
 | 0=>D.zo
 | n+1=>D.ad (sm f n) (f n)
theorem mV{f g:Nat->M}:∀n,(∀i,i<n->f i=g i)->D.sm f n=D.sm g n
 | 0,_=>rfl
 | n+1,h=>by
  show D.ad _ _=D.ad _ _;rw[mV n λi k=>h i oM,h n oM]
theorem BK(f g:Nat->M):∀n,D.sm (λi=>D.ad (f i) (g i)) n=D.ad (D.sm f n) (D.sm g n)
 | 0=>(D.zadd _).symm
 | n+1=>by
  show D.ad _ _=D.ad (D.ad _ _) (D.ad _ _);rw[BK f g n,D.swap]
theorem ED(r:(Fin N))(f:Nat->M):∀n,D.sm (λi=>D.ac r (f i)) n=D.ac r (D.sm f n)
 | 0=>(D.acz r).symm
 | n+1=>by
  show D.ad _ _=D.ac r (D.ad _ _);rw[ED r f n,D.acAd]
theorem Il(f:Nat->M)(n:Nat):∀m,D.sm f (n+m)=D.ad (D.sm f n) (D.sm (λi=>f (n+i)) m)
 | 0=>(D.S3 _).symm
 | m+1=>by
  show D.ad (D.sm f (n+m)) _=D.ad _ (D.ad _ _);rw[Il f n m,D.assoc];rfl
instance:Std.Associative D.ad:=⟨D.assoc⟩
instance:Std.Commutative D.ad:=⟨D.comm⟩
def dt(a:Nat->(Fin N))(g:Nat->M)(n:Nat):M:=D.sm (λi=>D.ac (a i) (g i)) n
theorem DY(a:Nat->(Fin N))(g:Nat->M)(n m:Nat):D.dt a g (n+m)=D.ad (D.dt a g n) (D.dt (λi=>a (n+i)) (λi=>g (n+i)) m):=D.Il _ n m
theorem DZ(x y:(Fin N))(b:x*y=1)(a c:Nat->(Fin N))(g k:Nat->M)(n:Nat):
 D.dt (λi=>x*a i+y*c i) (λi=>D.ad (D.ac y (g i)) (D.ac x (k i))) n
  = D.ad (D.ad (D.ac (x*x) (D.dt a k n)) (D.ad (D.dt a g n) (D.dt c k n))) (D.ac (y*y) (D.dt c g n)):=by
 unfold dt;rw[<-D.ED,<-D.ED,<-D.BK,<-D.BK,<-D.BK];refine D.mV n λi _=>?_
 rw[D.acAd,D.acAc,D.acAc,D.acAc,D.acAc,show(x*a i+y*c i)*y=a i+y*y*c i by grind,show(x*a i+y*c i)*x=x*x*a i+c i by grind,D.adAc,D.adAc]
 ac_rfl
theorem Fy(a c:Nat->(Fin N))(g:Nat->M)(n:Nat):D.dt (λi=>a i+c i) g n=D.ad (D.dt a g n) (D.dt c g n):=by
 unfold dt;rw[<-D.BK];exact D.mV n λi _=>D.adAc _ _ _
theorem NU(r:(Fin N))(a:Nat->(Fin N))(g:Nat->M)(n:Nat):D.dt (λi=>r*a i) g n=D.ac r (D.dt a g n):=by
 unfold dt;rw[<-D.ED];exact D.mV n λi _=>(D.acAc _ _ _).symm
end Md
def own(N:Nat)[NeZero N]:Md N (Fin N) where
 ad:=(·+·)
 zo:=0
 ac:=(·*·)
 comm:=by grind
 assoc:=by grind
 zadd:=by grind
 acAd:=by grind
 adAc:=by grind
 acAc:=by grind
 acOne:=by grind
 zac:=by grind
namespace Md
variable (D:Md N M)
def pr(a b:Nat->(Fin N))(n:Nat):(Fin N):=(own N).dt a b n
def hd(a b:Nat->(Fin N))(g h:Nat->M)(u:M)(n:Nat):M:=D.ad (D.ad (D.dt a g n) (D.dt b h n)) (D.ac (pr a b n) u)
def lf(a b:Nat->(Fin N))(g h:Nat->M)(u:M)(n:Nat):M:=D.hd a (λi=>b (n+i)) (λi=>g (n+i)) h u n
def rt(a b:Nat->(Fin N))(g h:Nat->M)(u:M)(n:Nat):M:=D.hd (λi=>a (n+i)) b g (λi=>h (n+i)) u n
def fS(x y:(Fin N))(n:Nat)(a:Nat->(Fin N))(i:Nat):(Fin N):=x*a i+y*a (n+i)
def fP(x y:(Fin N))(n:Nat)(g:Nat->M)(i:Nat):M:=D.ad (D.ac x (g i)) (D.ac y (g (n+i)))
theorem halved(x y:(Fin N))(k:x*y=1)(a b:Nat->(Fin N))(g h:Nat->M)(u:M)(n:Nat):
 D.hd (fS x y n a) (fS y x n b) (D.fP y x n g) (D.fP x y n h) u n
  = D.ad (D.ad (D.ac (x*x) (D.lf a b g h u n)) (D.hd a b g h u (n+n))) (D.ac (y*y) (D.rt a b g h u n)):=by
 have c:=D.DZ x y k a (λi=>a (n+i)) g (λi=>g (n+i)) n;have d:=D.DZ y x (by rw[<-k];grind) b (λi=>b (n+i)) h (λi=>h (n+i)) n;have e3:=(own N).DZ x y k a (λi=>a (n+i)) b (λi=>b (n+i)) n;unfold lf rt hd pr;rw[show D.dt (fS x y n a) (D.fP y x n g) n=_ from c,show D.dt (fS y x n b) (D.fP x y n h) n=_ from d,show(own N).dt (fS x y n a) (fS y x n b) n=_ from e3,D.DY,D.DY,(own N).DY];simp only[D.acAd,D.acAc];rw[show(own N).ad ((own N).ad ((own N).ac (x*x) ((own N).dt a (λi=>b (n+i)) n)) ((own N).ad ((own N).dt a b n) ((own N).dt (λi=>a (n+i)) (λi=>b (n+i)) n))) ((own N).ac (y*y) ((own N).dt (λi=>a (n+i)) b n))
  = (x*x*(own N).dt a (λi=>b (n+i)) n+(own N).ad ((own N).dt a b n) ((own N).dt (λi=>a (n+i)) (λi=>b (n+i)) n))+y*y*(own N).dt (λi=>a (n+i)) b n from rfl,D.adAc,D.adAc]
 ac_rfl
def pv{S:Type}(ch:S->M->M->S × (Fin N))(iv:(Fin N)->(Fin N))(u:M):Nat->S->(Nat->(Fin N))->(Nat->(Fin N))->(Nat->M)->(Nat->M)->List (M × M) × (Fin N) × (Fin N)
 | 0,_,a,b,_,_=>([],a 0,b 0)
 | t+1,s,a,b,g,h =>
  let L:=D.lf a b g h u (2^t)
  let T:=D.rt a b g h u (2^t)
  let c:=ch s L T
  let r:=pv ch iv u t c.1 (fS c.2 (iv c.2) (2^t) a) (fS (iv c.2) c.2 (2^t) b) (D.fP (iv c.2) c.2 (2^t) g) (D.fP c.2 (iv c.2) (2^t) h)
  ((L,T) :: r.1,r.2)
def vf{S:Type}(ch:S->M->M->S × (Fin N))(iv:(Fin N)->(Fin N))(u:M)(a b:(Fin N)):List (M × M)->S->M->(Nat->M)->(Nat->M)->Prop
 | [],_,p,g,h=>p=D.ad (D.ad (D.ac a (g 0)) (D.ac b (h 0))) (D.ac (a*b) u)
 | (L,T) :: l,s,p,g,h =>
  let c:=ch s L T
  let x:=c.2
  let y:=iv x
  vf ch iv u a b l c.1 (D.ad (D.ad (D.ac (x*x) L) p) (D.ac (y*y) T)) (D.fP y x (2^l.length) g) (D.fP x y (2^l.length) h)
theorem Jl(a b:Nat->(Fin N))(g h:Nat->M)(u:M):D.hd a b g h u 1=D.ad (D.ad (D.ac (a 0) (g 0)) (D.ac (b 0) (h 0))) (D.ac (a 0*b 0) u):=by
 show D.ad (D.ad (D.ad D.zo _) (D.ad D.zo _)) (D.ac ((0:(Fin N))+a 0*b 0) u)=_;rw[D.zadd,D.zadd,show(0:(Fin N))+a 0*b 0=a 0*b 0 by grind]
structure Rg(R:Type) where
 l:Nat->R
 m:Nat->R
 s:Nat->R
 q:Nat->R
 Y:Nat->R
 W:Nat->R
 T:Nat->R
 z:R
 x:R
def Rg.Ok(r:Rg (Fin N))(n:Nat):Prop:=∀i,i<n->r.l i*r.m i=0/\r.m i=r.l i-1/\r.Y i*r.W i=1
def Rg.a0(r:Rg (Fin N))(i:Nat):(Fin N):=r.l i-r.z
def Rg.b0(r:Rg (Fin N))(i:Nat):(Fin N):=r.Y i*(r.m i+r.z)+r.z*r.z*r.T i
def Rg.b1(r:Rg (Fin N))(i:Nat):(Fin N):=r.Y i*r.q i
def Rg.a(r:Rg (Fin N))(i:Nat):(Fin N):=r.a0 i+r.s i*r.x
def Rg.b(r:Rg (Fin N))(i:Nat):(Fin N):=r.b0 i+r.b1 i*r.x
def Rg.sY(r:Rg (Fin N))(n:Nat):(Fin N):=(own N).sm r.Y n
def Rg.sT(r:Rg (Fin N))(n:Nat):(Fin N):=(own N).sm r.T n
def Rg.v(r:Rg (Fin N))(n:Nat):(Fin N):=pr r.l r.T n
def Rg.d(r:Rg (Fin N))(n:Nat):(Fin N):=(r.z-r.z*r.z)*r.sY n-r.z*r.z*r.z*r.sT n
def Rg.t1(r:Rg (Fin N))(n:Nat):(Fin N):=pr r.a0 r.b1 n+pr r.s r.b0 n
def Rg.t2(r:Rg (Fin N))(n:Nat):(Fin N):=pr r.s r.b1 n
theorem uV(a b:Nat->(Fin N))(n:Nat):pr a b (n+1)=pr a b n+a n*b n:=rfl
theorem Rg.t0(r:Rg (Fin N)):∀n,r.Ok n->pr r.a0 r.b0 n=r.z*r.z*r.v n+r.d n
 | 0,_=>by
  show(0:(Fin N))=r.z*r.z*0+((r.z-r.z*r.z)*0-r.z*r.z*r.z*0);grind
 | n+1,h=>by
  have d:=t0 r n λi f=>h i oM
  obtain⟨c,e,_⟩:=h n oM;have k:r.v (n+1)=r.v n+r.l n*r.T n:=rfl;have b:r.d (n+1)=(r.z-r.z*r.z)*(r.sY n+r.Y n)-r.z*r.z*r.z*(r.sT n+r.T n):=rfl;have e3:r.d n=(r.z-r.z*r.z)*r.sY n-r.z*r.z*r.z*r.sT n:=rfl;rw[uV,d,k,b,e3];unfold Rg.a0 Rg.b0;rw[e]at c⊢;generalize r.v n=A,r.sY n=B,r.sT n=C,r.l n=l,r.Y n=y,r.T n=t,r.z=z at *;grind
theorem Rg.tt(r:Rg (Fin N)):∀n,pr r.a r.b n=pr r.a0 r.b0 n+r.t1 n*r.x+r.t2 n*r.x*r.x
 | 0=>by
  show(0:(Fin N))=0+(0+0)*r.x+0*r.x*r.x;grind
 | n+1=>by
  have d:=tt r n;have b:r.t1 (n+1)=(pr r.a0 r.b1 n+r.a0 n*r.b1 n)+(pr r.s r.b0 n+r.s n*r.b0 n):=rfl;have k:r.t2 (n+1)=pr r.s r.b1 n+r.s n*r.b1 n:=rfl;have e3:r.t1 n=pr r.a0 r.b1 n+pr r.s r.b0 n:=rfl;have c:r.t2 n=pr r.s r.b1 n:=rfl;rw[uV,d,b,k,e3,c,uV];show _+(r.a0 n+r.s n*r.x)*(r.b0 n+r.b1 n*r.x)=_;generalize pr r.a0 r.b0 n=A,pr r.a0 r.b1 n=B,pr r.s r.b0 n=C,pr r.s r.b1 n=E,r.a0 n=a0,r.b0 n=b0,r.s n=s,r.b1 n=b1,r.x=x;grind
def cm(H G:M)(c r:(Fin N)):M:=D.ad (D.ac c H) (D.ac r G)
theorem Dc(r:Rg (Fin N))(n:Nat)(h:r.Ok n)(H G:M)(k t1 t2:(Fin N)):
 D.cm H G (pr r.a r.b n) (t1*r.x+t2*(r.x*r.x)+r.z*r.z*k)
  = D.ad (D.ad (D.ac (r.z*r.z) (D.cm H G (r.v n) k)) (D.ac (r.d n) H)) (D.ad (D.ac r.x (D.cm H G (r.t1 n) t1)) (D.ac (r.x*r.x) (D.cm H G (r.t2 n) t2))):=by
 rw[r.tt,r.t0 n h];unfold cm;simp only[D.acAd,D.acAc];rw[show r.z*r.z*r.v n+r.d n+r.t1 n*r.x+r.t2 n*r.x*r.x=r.z*r.z*r.v n+r.d n+r.x*r.t1 n+r.x*r.x*r.t2 n by grind,
  show t1*r.x+t2*(r.x*r.x)+r.z*r.z*k=r.x*t1+r.x*r.x*t2+r.z*r.z*k by grind]
 simp only[D.adAc]
 ac_rfl
theorem xX{a c:Nat->(Fin N)}{g k:Nat->M}(n:Nat)(h:∀i,i<n->D.ac (a i) (g i)=D.ac (c i) (k i)):D.dt a g n=D.dt c k n:=D.mV n h
theorem Uk(r:Rg (Fin N))(g:Nat->M)(n:Nat):D.dt r.a g n=D.ad (D.ad (D.dt r.l g n) (D.ac r.x (D.dt r.s g n))) (D.dt (λ_=>-r.z) g n):=by
 rw[<-D.NU,<-D.Fy,<-D.Fy];refine D.xX n λi _=>?_
 show D.ac (r.l i-r.z+r.s i*r.x) _=_;rw[show r.l i-r.z+r.s i*r.x=r.l i+r.x*r.s i+-r.z by grind]
theorem Uj(r:Rg (Fin N))(k:Nat->M)(n:Nat)(h:r.Ok n):D.dt r.b (λi=>D.ac (r.W i) (k i)) n
 = D.ad (D.ad (D.dt r.m k n) (D.ac r.x (D.dt r.q k n))) (D.dt (λi=>r.z+r.z*r.z*(r.T i*r.W i)) k n):=by
 rw[<-D.NU,<-D.Fy,<-D.Fy];refine D.xX n λi b=>?_
 obtain⟨_,_,c⟩:=h i b;rw[D.acAc];show D.ac ((r.Y i*(r.m i+r.z)+r.z*r.z*r.T i+r.Y i*r.q i*r.x)*r.W i) _=_;rw[show(r.Y i*(r.m i+r.z)+r.z*r.z*r.T i+r.Y i*r.q i*r.x)*r.W i=r.m i+r.x*r.q i+(r.z+r.z*r.z*(r.T i*r.W i)) by
  generalize r.Y i=y,r.W i=w,r.m i=m,r.q i=q,r.T i=t,r.z=z,r.x=x at *;grind]
theorem B9(r:Rg (Fin N))(n:Nat)(h:r.Ok n)(G:M)(g k:Nat->M)(U:M)(al b w:(Fin N)):
 D.ad (D.ad (D.ad (D.ad (D.ad (D.ac al G) (D.ad (D.dt r.l g n) (D.dt r.m k n))) (D.ac r.x (D.ad (D.ac b G) (D.ad (D.dt r.s g n) (D.dt r.q k n))))) (D.ac (-(al+b*r.x)) G))
  (D.ad (D.dt (λ_=>-r.z) g n) (D.dt (λi=>r.z+r.z*r.z*(r.T i*r.W i)) k n))) (D.ac (pr r.a r.b n*w) U)
  = D.hd r.a r.b g (λi=>D.ac (r.W i) (k i)) (D.ac w U) n:=by
 unfold hd;rw[D.Uk,D.Uj r k n h,D.acAc];simp only[D.acAd,D.acAc];have e:D.ad (D.ac al G) (D.ad (D.ac (r.x*b) G) (D.ac (-(al+b*r.x)) G))=D.zo:=by
  rw[<-D.adAc,<-D.adAc,show al+(r.x*b+-(al+b*r.x))=(0:(Fin N)) by grind,D.zac]
 generalize D.ac al G=A at *;generalize D.ac (r.x*b) G=B at *;generalize D.ac (-(al+b*r.x)) G=E at *;refine Eq.trans ?_ (D.zadd _);rw[<-e]
 ac_rfl
end Md
end SPA
section
open SPA
variable {P:Nat}[NeZero P]{N:Nat}[NeZero N]
abbrev OnP(P:Nat)[NeZero P]:={p:EC.Pt P // On p}
def aD(C:Fld P)(k:∀r:EC.Pt P,On r->mul N r=none):Md N (OnP P) where
 ad a b:=⟨EC.add a.1 b.1,C.cur.on a.2 b.2⟩
 zo:=⟨none,iN⟩
 ac r a:=⟨mul r.val a.1,cG C.cur a.2 _⟩
 comm a b:=Yt (C.cur.comm a.2 b.2)
 assoc a b c:=Yt (C.cur.assoc a.2 b.2 c.2)
 zadd _:=rfl
 acAd r a b:=Yt (xE C a.2 b.2 _)
 adAc r s a:=Yt (by
  show mul (r+s).val a.1=_;rw[yAF,mul_mod C k a.2,mul_add C.cur a.2])
 acAc r s a:=Yt (by
  show _=mul (r*s).val a.1;rw[XL,mul_mod C k a.2,Vv,mB C.cur a.2])
 acOne a:=Yt (by
  show mul (1:Fin N).val a.1=_;rw[show(1:Fin N).val=1%N from rfl,mul_mod C k a.2];rfl)
 zac a:=Yt (by
  show mul (0:Fin N).val a.1=_;rw[show(0:Fin N).val=0%N from rfl,mul_mod C k a.2];rfl)
omit [NeZero N] in
theorem mA(a b:Fin N):(a+b).val=sPl N a.val b.val:=yAF a b
omit [NeZero N] in
theorem fL(a b:Fin N):(a*b).val=sTi N a.val b.val:=XL a b
omit [NeZero N] in
theorem I8(a b:Fin N):(a-b).val=sMi N a.val b.val:=by
 rw[Fin.sub_def];show(N-b.val+a.val)%N=(a.val+N-b.val)%N;have:=b.isLt;rw[show N-b.val+a.val=a.val+N-b.val by omega]
omit [NeZero N] in
theorem I4(a:Fin N):(-a).val=sMi N 0 a.val:=by
 rw[Fin.neg_def];show(N-a.val)%N=(0+N-a.val)%N;rw[UD]
def ivF(a:Fin N):Fin N:=⟨sIn N a.val,V7 _ (YA N)⟩
theorem sM(h:IsP N)(a:Fin N)(k:a.val≠0):a*ivF a=1:=by
 apply Ya;have b:=h.1;have hd:¬N ∣ a.val:=λhd=>by
  have:=Nat.le_of_dvd oM hd;have:=a.isLt;omega
 rw[XL,show(ivF a).val=a.val^(N-2)%N from rfl,Nat.mul_mod_mod,<-Nat.pow_succ',show(N-2).succ=N-1 by omega,h.fermat1 a.val hd];show 1=1%N;rw[US oM]
structure Tl(N:Nat)(l:List (Nat × Bs))(X:OnP P):Prop where
 pts:PtsL P l
 lt:∀x∈l,x.1<N
 sum:fJ P l=X.1
omit [NeZero N] in
theorem BE(C:Fld P):∀ {l m:List (Nat × Bs)},PtsL P l->PtsL P m->fJ P (l++m)=EC.add (fJ P l) (fJ P m)
 | [],_,_,_=>rfl
 | x :: r,m,h,hm=>by
  have k:PtsL P r:=λz b=>h z (Vb _ b)
  show EC.add (mul x.1 (fR P x.2)) (fJ P (r++m))=EC.add (EC.add _ _) _;rw[BE C k hm];exact(C.cur.assoc (cG C.cur (h.on C Vu) _) (nT C k) (nT C hm)).symm
omit [NeZero N] in
theorem Ew(C:Fld P)(k:∀r:EC.Pt P,On r->mul N r=none)(n:Nat):∀ {l:List (Nat × Bs)},PtsL P l->fJ P (l.map (tmT N n))=mul n (fJ P l)
 | [],_=>(nG n).symm
 | x :: r,h=>by
  have b:PtsL P r:=λz c=>h z (Vb _ c)
  have hx:=h.on C (x:=x) Vu;show EC.add (mul (sTi N n x.1) (fR P x.2)) (fJ P (r.map (tmT N n)))=mul n (EC.add (mul x.1 (fR P x.2)) (fJ P r));rw[Ew C k n b,xE C (cG C.cur hx _) (nT C b)];unfold sTi;rw[mul_mod C k hx,Vv,mB C.cur hx]
section
variable (C:Fld P) (hord:∀r:EC.Pt P,EC.On r->EC.mul N r=none)
theorem Tl.nil:Tl N [] (aD C hord).zo:=⟨λ_ h=>(UY h).elim,λ_ h=>(UY h).elim,rfl⟩
theorem Tl.app{l m:List (Nat × Bs)}{X Y:OnP P}(h:Tl N l X)(k:Tl N m Y):Tl N (l++m) ((aD C hord).ad X Y):=
 ⟨λx hx=>(WB.1 hx).elim (h.pts x) (k.pts x),λx hx=>(WB.1 hx).elim (h.lt x) (k.lt x),by
  rw[BE C h.pts k.pts,h.sum,k.sum];rfl⟩
theorem Tl.tm{l:List (Nat × Bs)}{X:OnP P}(h:Tl N l X)(n:Fin N):Tl N (l.map (tmT N n.val)) ((aD C hord).ac n X):=
 ⟨λx hx=>by
  obtain⟨y,k,rfl⟩:=Vn.1 hx;exact h.pts y k,λx hx=>by
  obtain⟨y,k,rfl⟩:=Vn.1 hx;exact V7 _ (YA N),by
  rw[Ew C hord n.val h.pts,h.sum];rfl⟩
omit [NeZero N] in
theorem Tl.one(C:Fld P)(k:1<N)(X:OnP P):Tl N [(1,wr X.1)] X:=
 ⟨λx hx=>⟨X.1,X.2,by rw[WO.1 hx]⟩,λx hx=>by rw[WO.1 hx];exact k,by
  show EC.add (mul 1 (fR P (wr X.1))) none=_;rw[lM C X.2,bK];rfl⟩
def dH(N:Nat)(a:Nat->Nat)(T:Nat->List (Nat × Bs)):Nat->List (Nat × Bs)
 | 0=>[]
 | n+1=>dH N a T n++(T n).map (tmT N (a n))
theorem FB{a:Nat->Fin N}{T:Nat->List (Nat × Bs)}{g:Nat->OnP P}:∀n,(∀i,i<n->Tl N (T i) (g i))->Tl N (dH N (λi=>(a i).val) T n) ((aD C hord).dt a g n)
 | 0,_=>Tl.nil C hord
 | n+1,h=>(FB n λi k=>h i oM).app C hord ((h n oM).tm C hord (a n))
theorem eR(N:Nat)(a:Nat->Nat){T:Nat->List (Nat × Bs)}{c:Nat}:∀n,(∀i,i<n->(T i).length=c)->(dH N a T n).length=c*n
 | 0,_=>rfl
 | n+1,h=>by
  show(dH N a T n++_).length=_;rw[UA,UQ,eR N a n (λi k=>h i oM),h n oM,Yk]
def kY(N x y n:Nat)(T:Nat->List (Nat × Bs))(i:Nat):List (Nat × Bs):=(T i).map (tmT N x)++(T (n+i)).map (tmT N y)
theorem MN{T:Nat->List (Nat × Bs)}{g:Nat->OnP P}(x y:Fin N)(n:Nat)(h:∀i,i<n+n->Tl N (T i) (g i))(i:Nat)(k:i<n):Tl N (kY N x.val y.val n T i) ((aD C hord).fP x y n g i):=
 ((h i oM).tm C hord x).app C hord ((h (n+i) oM).tm C hord y)
theorem Jy(N x y n:Nat){T:Nat->List (Nat × Bs)}{c:Nat}(h:∀i,i<n+n->(T i).length=c)(i:Nat)(k:i<n):(kY N x y n T i).length=c+c:=by
 unfold kY;rw[UA,UQ,UQ,h i oM,h (n+i) oM]
end
end
section
open SPA
variable {N:Nat}[NeZero N]
def pwF(x:Fin N):Nat->Fin N
 | 0=>1
 | i+1=>pwF x i*x
theorem Dt{x y:Fin N}(h:x*y=1):∀i,pwF x i*pwF y i=1
 | 0=>by
  show(1:Fin N)*1=1
  grobner
 | i+1=>by
  have k:=Dt h i;show pwF x i*x*(pwF y i*y)=1;generalize pwF x i=a at *;generalize pwF y i=b at *
  grobner
def ofF(N:Nat)[NeZero N](n:Nat):Fin N:=⟨n%N,V7 _ (YA N)⟩
theorem ES(a b:Nat):ofF N (a+b)=ofF N a+ofF N b:=Ya (by
 rw[yAF];show(a+b)%N=(a%N+b%N)%N;rw[Nat.add_mod])
theorem ER(a b:Nat):ofF N (a*b)=ofF N a*ofF N b:=Ya (by
 rw[XL];show(a*b)%N=(a%N*(b%N))%N;rw[Nat.mul_mod])
theorem rB:ofF N 0=0:=Ya rfl
theorem EQ:ofF N 1=1:=Ya rfl
theorem Ds:∀i,pwF (ofF N 2) i=ofF N (2^i)
 | 0=>EQ.symm
 | i+1=>by
  show pwF (ofF N 2) i*ofF N 2=_;rw[Ds i,<-ER,V9]
def btF(N:Nat)[NeZero N](v i:Nat):Fin N:=ofF N (v/2^i%2)
theorem J2(v:Nat):∀n,Md.pr (btF N v) (pwF (ofF N 2)) n=ofF N (v%2^n)
 | 0=>by
  rw[Nat.pow_zero,Nat.mod_one];exact rB.symm
 | n+1=>by
  rw[Md.uV,J2 v n,Ds];show _+ofF N _*_=_;rw[<-ER,<-ES,V9,Nat.mod_mul,Vv (2^n)]
theorem two_sum:∀n,(SPA.own N).sm (pwF (ofF N 2)) n=ofF N (2^n-1)
 | 0=>rB.symm
 | n+1=>by
  show(SPA.own N).sm _ n+_=_;rw[two_sum n,Ds,<-ES];have:=Nat.pow_pos (n:=n) (show 0<2 by decide);rw[show 2^n-1+2^n=2^(n+1)-1 by rw[V9];omega]
theorem SE(v i:Nat):btF N v i=0\/btF N v i=1:=by
 unfold btF;rcases Nat.mod_two_eq_zero_or_one (v/2^i)with h|h<;>rw[h]
 ·exact U4 rB
 ·exact UX EQ
def rgF(v:Nat)(s q:Nat->Fin N)(y k z x:Fin N):Md.Rg (Fin N):=⟨btF N v,λi=>btF N v i-1,s,q,pwF y,pwF k,pwF (ofF N 2),z,x⟩
theorem IC(v:Nat)(s q:Nat->Fin N){y k:Fin N}(z x:Fin N)(h:y*k=1)(n:Nat):(rgF v s q y k z x).Ok n:=λi _=>⟨by
 show btF N v i*(btF N v i-1)=0;rcases SE (N:=N) v i with e|e<;>rw[e]<;>grobner,rfl,Dt h i⟩
theorem QT(v:Nat)(s q:Nat->Fin N)(y k z x:Fin N)(n:Nat)(hv:v<2^n):(rgF v s q y k z x).v n=ofF N v:=by
 show Md.pr (btF N v) (pwF (ofF N 2)) n=_;rw[J2,US hv]
theorem QU(v:Nat)(s q:Nat->Fin N)(y k z x:Fin N)(n:Nat):(rgF v s q y k z x).d n=(z-z*z)*(SPA.own N).sm (pwF y) n-z*z*z*ofF N (2^n-1):=by
 show _-z*z*z*(SPA.own N).sm (pwF (ofF N 2)) n=_;rw[two_sum];rfl
end
namespace SPA
variable {N:Nat}[NeZero N]{M:Type}
namespace Md
variable (D:Md N M)
theorem AQ(p:M):D.ad p (D.ac (-1) p)=D.zo:=by
 have h:=D.adAc 1 (-1) p;rw[show(1:(Fin N))+-1=0 by grind,D.zac,D.acOne]at h;exact h.symm
theorem Oy(e p:M):D.ad e (D.ac (-1) p)=D.zo↔p=e:=by
 constructor
 ·intro h;have k:D.ad (D.ad e (D.ac (-1) p)) p=D.ad D.zo p:=by rw[h]
  rw[D.assoc,D.comm _ p,D.AQ,D.S3,D.zadd]at k;exact k.symm
 ·rintro rfl;exact D.AQ p
theorem Jd{a b c:(Fin N)}(d:a*b=1)(k:a*c=1):b=c:=by
 have:b=(a*b)*c+b*(1-a*c):=by grind
 rw[d,k]at this;grind
structure Vs(S M:Type) where
 s:S
 p:M
 g:Nat->M
 h:Nat->M
structure Ps(S R M:Type) where
 s:S
 a:Nat->R
 b:Nat->R
 g:Nat->M
 h:Nat->M
section
variable {S:Type}(ch:S->M->M->S × (Fin N)) (iv:(Fin N)->(Fin N)) (u:M)
def Er(n:Nat)(L T:M)(v:Vs S M):Vs S M:=
 let c:=ch v.s L T
 ⟨c.1,D.ad (D.ad (D.ac (c.2*c.2) L) v.p) (D.ac (iv c.2*iv c.2) T),D.fP (iv c.2) c.2 n v.g,D.fP c.2 (iv c.2) n v.h⟩
def vst(t:Nat)(L T:Nat->M)(v:Vs S M):Nat->Vs S M
 | 0=>v
 | i+1=>D.Er ch iv (2^(t-(i+1))) (L i) (T i) (vst t L T v i)
def pL(n:Nat)(q:Ps S (Fin N) M):M:=D.lf q.a q.b q.g q.h u n
def pT(n:Nat)(q:Ps S (Fin N) M):M:=D.rt q.a q.b q.g q.h u n
def qT(n:Nat)(q:Ps S (Fin N) M):Ps S (Fin N) M:=
 let c:=ch q.s (D.pL u n q) (D.pT u n q)
 ⟨c.1,fS c.2 (iv c.2) n q.a,fS (iv c.2) c.2 n q.b,D.fP (iv c.2) c.2 n q.g,D.fP c.2 (iv c.2) n q.h⟩
def pst(t:Nat)(q:Ps S (Fin N) M):Nat->Ps S (Fin N) M
 | 0=>q
 | i+1=>D.qT ch iv u (2^(t-(i+1))) (pst t q i)
def pLi(t:Nat)(q:Ps S (Fin N) M)(i:Nat):M:=D.pL u (2^(t-(i+1))) (D.pst ch iv u t q i)
def pTi(t:Nat)(q:Ps S (Fin N) M)(i:Nat):M:=D.pT u (2^(t-(i+1))) (D.pst ch iv u t q i)
def hdP(n:Nat)(q:Ps S (Fin N) M):M:=D.hd q.a q.b q.g q.h u n
theorem beside(k:∀s L T,(ch s L T).2*iv (ch s L T).2=1)(t:Nat)(q:Ps S (Fin N) M):∀i,i<=t ->
 D.vst ch iv t (D.pLi ch iv u t q) (D.pTi ch iv u t q) ⟨q.s,D.hdP u (2^t) q,q.g,q.h⟩ i
  = ⟨(D.pst ch iv u t q i).s,D.hdP u (2^(t-i)) (D.pst ch iv u t q i),(D.pst ch iv u t q i).g,(D.pst ch iv u t q i).h⟩
 | 0,_=>rfl
 | i+1,hi=>by
  have b:=beside k t q i oM;show D.Er ch iv _ _ _ (D.vst ch iv t _ _ _ i)=_;rw[b];have e:2^(t-i)=2^(t-(i+1))+2^(t-(i+1)):=by
   rw[show t-i=t-(i+1)+1 by omega,V9];omega
  show(⟨_,_,_,_⟩:Vs S M)=⟨(D.qT ch iv u _ (D.pst ch iv u t q i)).s,D.hdP u _ (D.qT ch iv u _ (D.pst ch iv u t q i)),(D.qT ch iv u _ (D.pst ch iv u t q i)).g,(D.qT ch iv u _ (D.pst ch iv u t q i)).h⟩;unfold pLi pTi;generalize D.pst ch iv u t q i=r;rw[e];have h:=D.halved _ _ (k r.s (D.pL u (2^(t-(i+1))) r) (D.pT u (2^(t-(i+1))) r)) r.a r.b r.g r.h u (2^(t-(i+1)))
  congr 1
  exact h.symm
def KW(a b:(Fin N))(v:Vs S M):Prop:=v.p=D.ad (D.ad (D.ac a (v.g 0)) (D.ac b (v.h 0))) (D.ac (a*b) u)
theorem found(k:∀s L T,(ch s L T).2*iv (ch s L T).2=1)(t:Nat)(q:Ps S (Fin N) M):
 D.KW u ((D.pst ch iv u t q t).a 0) ((D.pst ch iv u t q t).b 0) (D.vst ch iv t (D.pLi ch iv u t q) (D.pTi ch iv u t q) ⟨q.s,D.hdP u (2^t) q,q.g,q.h⟩ t):=by
 rw[D.beside ch iv u k t q t (Uw _),Nat.sub_self];exact D.Jl _ _ _ _ u
end
end Md
end SPA
section
open SPA
variable {N:Nat}[NeZero N]
theorem RN(h:IsP N)(x:Fin N)(hx:x.val≠0)(k:(x*x).val≠0):ivF (x*x)=ivF x*ivF x:=by
 refine Md.Jd (sM h _ k) ?_;have e:=sM h x hx
 grobner
end
section
open SPA
variable {P:Nat}[NeZero P]{N:Nat}[NeZero N]
def Mt(a:Fin N):Fin N:=if a=0 then 1 else a
theorem Ms(h:1<N)(a:Fin N):(Mt a).val≠0:=by
 unfold Mt;split
 ·show 1%N≠0;rw[US h];decide
 ·rename_i h0
  exact λe=>h0 (Ya (e.trans (YO N).symm))
def jW(k b:List UInt8)(L X Y:Bs):Bs:=uN (uN L k X.toList) b Y.toList
def kM(N:Nat)[NeZero N](L:Bs):Fin N:=Mt (ofF N (cha N L))
def bB(L:Bs):Bs:=tI L [99,104,97,108,108,101,110,103,101]
def chF(N:Nat)[NeZero N](L:Bs)(X Y:OnP P):Bs × Fin N:=
 let k:=jW [108,101,102,116] [114,105,103,104,116] L (wr X.1) (wr Y.1)
 (bB k,kM N k)
theorem FU(h:1<N)(L:Bs):(kM N L).val≠0:=by
 unfold kM;exact Ms h _
theorem MW(L:Bs)(X Y:OnP P):∃k,(chF N L X Y).2=kM N k:=by
 unfold chF;dsimp only;exact⟨_,rfl⟩
theorem JS(h:IsP N)(L:Bs)(X Y:OnP P):(chF N L X Y).2*ivF (chF N L X Y).2=1:=by
 obtain⟨k,e⟩:=MW (N:=N) L X Y;rw[e];have:=FU h.1 k;generalize kM N k=a at *;exact sM h a this
theorem P4(h:IsP N)(L:Bs)(X Y:OnP P):((chF N L X Y).2*(chF N L X Y).2).val≠0:=λe=>by
 have c:=JS h L X Y;have d:(chF N L X Y).2*(chF N L X Y).2=0:=Ya (e.trans (YO N).symm);generalize (chF N L X Y).2=x at *;generalize ivF x=y at *;have b:(1:Fin N)=0:=by grobner
 have k:1%N=0%N:=congrArg Fin.val b;have:=h.1;rw[US oM,YO]at k;exact absurd k dC
theorem PN(C:Fld P)(k:∀r:EC.Pt P,On r->mul N r=none)(h:IsP N)(u:OnP P)(t:Nat)(q:Md.Ps Bs (Fin N) (OnP P)):
 (aD C k).KW u (((aD C k).pst (chF N) ivF u t q t).a 0) (((aD C k).pst (chF N) ivF u t q t).b 0)
  ((aD C k).vst (chF N) ivF t ((aD C k).pLi (chF N) ivF u t q) ((aD C k).pTi (chF N) ivF u t q) ⟨q.s,(aD C k).hdP u (2^t) q,q.g,q.h⟩ t):=
 (aD C k).found (chF N) ivF u (JS h) t q
end
namespace SPA
variable {N:Nat}[NeZero N]{M:Type}
namespace Md
variable (D:Md N M)
theorem Ic(a b p:M):D.ad (D.ad p a) b=D.ad (D.ad a p) b:=by ac_rfl
end Md
end SPA
section
open SPA
variable {P:Nat}[NeZero P]{N:Nat}[NeZero N]
theorem Tl.pt(C:Fld P)(k:∀r:EC.Pt P,On r->mul N r=none)(n:Fin N)(X:OnP P):Tl N [(n.val,wr X.1)] ((aD C k).ac n X):=
 ⟨λx hx=>⟨X.1,X.2,by rw[WO.1 hx]⟩,λx hx=>by rw[WO.1 hx];exact n.isLt,by
  show EC.add (mul n.val (fR P (wr X.1))) none=_;rw[lM C X.2,bK];rfl⟩
structure Gd(N n c:Nat)(T:Nat->List (Nat × Bs))(g:Nat->OnP P):Prop where
 tl:∀i,i<n->Tl N (T i) (g i)
 len:∀i,i<n->(T i).length=c
section
variable (C:Fld P) (hord:∀r:EC.Pt P,EC.On r->EC.mul N r=none)
theorem Gd.fold{n c:Nat}{T:Nat->List (Nat × Bs)}{g:Nat->OnP P}(h:Gd N (n+n) c T g)(x y:Fin N):Gd N n (c+c) (kY N x.val y.val n T) ((aD C hord).fP x y n g):=
 ⟨λi k=>MN C hord x y n h.tl i k,λi k=>Jy N x.val y.val n h.len i k⟩
theorem Gd.cmb{n c:Nat}{T:Nat->List (Nat × Bs)}{g:Nat->OnP P}(h:Gd N n c T g)(a:Nat->Fin N):Tl N (dH N (λi=>(a i).val) T n) ((aD C hord).dt a g n)/\(dH N (λi=>(a i).val) T n).length=c*n:=
 ⟨FB C hord n h.tl,eR N _ n h.len⟩
omit [NeZero N] in
theorem Gd.low{n m c:Nat}{T:Nat->List (Nat × Bs)}{g:Nat->OnP P}(h:Gd N (n+m) c T g):Gd N n c T g:=⟨λi k=>h.tl i oM,λi k=>h.len i oM⟩
omit [NeZero N] in
theorem Gd.high{n m c:Nat}{T:Nat->List (Nat × Bs)}{g:Nat->OnP P}(h:Gd N (n+m) c T g):Gd N m c (λi=>T (n+i)) (λi=>g (n+i)):=⟨λi k=>h.tl (n+i) oM,λi k=>h.len (n+i) oM⟩
def Jk(N:Nat)(a b:Nat->Nat)(p:Nat)(G H:Nat->List (Nat × Bs))(U:List (Nat × Bs))(n:Nat):List (Nat × Bs):=dH N a G n++dH N b H n++U.map (tmT N p)
theorem Jj{n c:Nat}{G:Nat->List (Nat × Bs)}{g h:Nat->OnP P}{u:OnP P}(hG:Gd N n c G g)(k:Gd N n c H h)(e:Tl N U u)(hd:U.length=d)(a b:Nat->Fin N):
 Tl N (Jk N (λi=>(a i).val) (λi=>(b i).val) (Md.pr a b n).val G H U n) ((aD C hord).hd a b g h u n)/\(Jk N (λi=>(a i).val) (λi=>(b i).val) (Md.pr a b n).val G H U n).length=c*n+c*n+d:=by
 refine⟨((hG.cmb C hord a).1.app C hord (k.cmb C hord b).1).app C hord (e.tm C hord _),?_⟩;unfold Jk;rw[UA,UA,UQ,eR N _ n hG.len,eR N _ n k.len,hd]
end
end
section
open Go.RowKit Go.Sort Go.Deep
variable {P:Nat}[NeZero P]{N:Nat}
def BL(W:Ur)(q:Option Ww)(n:Nat)(X:Nat->List UInt8):Prop:=0<n->∃g,q=some (aZ g)/\g<W.heap.size/\∀i,i<n->∃a l c,W.cell? ⟨g,i,none⟩=some (.slice a l c)/\PartOk W (.slice a l c) (X i)
structure Ar(w W:Ur)(K e n i:Nat)(R:Nat->List Ut):Prop where
 bl:kZ w W
 lt:K<W.heap.size
 th:W.there K 0 (e*n)
 rw:∀j,j<i->W.rangeAt K (e*j) (R j)
theorem Ar.grow{w W W':Ur}{K n i:Nat}{R:Nat->List Ut}(h:Ar w W K e n i R)(k:kZ W W'):Ar w W' K e n i R:=
 ⟨h.bl.trans (k.mono h.bl.size),Ux h.lt k.size,dJ h.th k h.lt,λj b=>RG.range_below (h.rw j b) k h.lt⟩
theorem Ar.put{w W:Ur}{K n i:Nat}{R:Nat->List Ut}(h:Ar w W K e n i R)(g:w.heap.size<=K)(c:i<n)(b:∀j,j<=i->(R j).length=e):Ar w (W.setCells K (e*i) (R i)) K e n (i+1) R:=by
 refine⟨RG.below_setCells g _ _ _ h.bl,by rw[setCells_size];exact h.lt,VW h.th _ _ _,λj l=>?_⟩;by_cases k:j=i
 ·subst k;refine VO W K _ _ λt f=>?_
  rw[b j (Uw _)]at f;have d:e*j+e<=e*n:=by
   have:=Yj e (yAX c);rwa[Yk]at this
  have:=h.th (e*j+t) oM;rwa[UD]at this
 ·have d:e*j+e<=e*i:=by
   have:=Yj e (show j+1<=i by omega);rwa[Yk]at this
  exact Vh (h.rw j oM) K _ _ (UX (U4 (by rw[b j oM];omega)))
theorem Ch{T E:U8}(c:prog.underlying T=some (.slice E))(p:(prog.info? E).map (λi=>(i.size,decide (i.bytes<=4000),i.zero.isSome))=some (e,true,true))(n:Nat)(l:n<=512):∃C0:List Ut,C0.length=e*n/\∀w:Ur,(XE T (iZ n) (iZ n)).run prog w=.ok (sZ w.heap.size n n) (w.alloc (.cells C0.toArray E)):=by
 obtain⟨i,b,k⟩:=Uy.1 p;simp only[V8.injEq,decide_eq_true_eq]at k;obtain⟨g,d,j⟩:=k;obtain⟨z,o⟩:=Vr.1 j;refine⟨(madeCells z.cells (n*e)).toList,by rw[UK,YK,Vv],λw=>?_⟩;have m:(i.bytes:Int)*(n:Int)<=281474976710656:=by
  have:i.bytes*n<=4000*512:=WS d l;have f:((i.bytes*n:Nat):Int)<=281474976710656:=oM;rwa[Xy]at f
 have:=run_make (P:=prog) w T E i z c b o .i64 .i64 (n:Int) (n:Int) oM oM m oM;rw[X4,g]at this;rw[XF];exact this
theorem Ar.new{w k:Ur}{K n:Nat}{C0:List Ut}{E:U8}(R:Nat->List Ut)(f:C0.length=e*n)(b:w.alloc (.cells C0.toArray E)=k)(d:w.heap.size=K):Ar w k K e n 0 R:=by
 subst d;have hR:Row k w.heap.size C0:=by rw[<-b];exact aE w _ _
 exact⟨by rw[<-b];exact aC _ _,hR.1,by rw[<-f];exact hR.2.2,λj c=>absurd c (Yo _)⟩
theorem Dk(O:Ord N)(r:Nat)(L:Bs)(k:ByteArray)(w:Ur)(l:k.size<=1048576)(x:Holds encB w r 0 L)(J:L.size=32):
 UH prog 232 #[.agg #[jZ r],.string k] w (Ret λe w'=>SP.Only r 0 32 w w'/\Holds encB w' r 0 (tI L k.data.toList)/\e=nv (oS N (CO L k.data.toList 64))):=by
 obtain⟨A,C⟩:=hE (CO L k.data.toList 64);obtain⟨s,d⟩:∃s,Hid (tI L k.data.toList=s):=⟨_,rfl⟩
 rw[d.out];have H:s.size=32:=by rw[<-d.out];exact bE _ _
 have u:A.size=64:=by rw[<-C.out];exact Hb _ _ _
 rw[C.out];have q:=Holds.lt x oM;obtain⟨i,b⟩:∃i,Hid ((w.alloc (.cells #[jZ r] 143)).alloc (.cells #[uZ 0,uZ 0,uZ 0,uZ 0] 49)=i):=⟨_,rfl⟩
 have D:Hid (Row i (w.heap.size+1) [uZ 0,uZ 0,uZ 0,uZ 0]/\kZ w i/\Holds encB i r 0 L):=by
  rw[<-b.out];have c:kZ w ((w.alloc (.cells #[jZ r] 143)).alloc (.cells #[uZ 0,uZ 0,uZ 0,uZ 0] 49)):=(aC w _).alloc (by rw[UB];omega) _;have hR:=aE (w.alloc (.cells #[jZ r] 143)) [uZ 0,uZ 0,uZ 0,uZ 0] 49;rw[UB]at hR;exact⟨hR,c,Holds.below x c q⟩
 clear x;go_enter func232,ntmps232;go_wp2_with fail
 rw[b.out];clear b;refine(Np r L k 64 i l dC D.2.2 J).mono ?_;rintro e K ⟨I,rfl,M,G,f,n⟩;rw[C.out]at n;rw[d.out]at f;have y:=Holds.lt f oM;have g:=mk4 (D.1.only G oM) ((SP.Only.of_below D.2.1 rfl q).trans G) n f;go_wp2_with fail
 refine(zL O I A u K (Holds.lt g.2.2.1 oM) g.2.2.1).mono ?_;rintro e F ⟨v,rfl,c,rfl⟩;have t:=mk3 (g.1.below c) (g.2.1.trans (SP.Only.of_below c rfl (Ux q g.2.1.size))) (Holds.below g.2.2.2 c y);obtain⟨m,E⟩:=hE (oS N A);rw[E.out];obtain⟨z,p⟩:=hE (F.setCells (w.heap.size+1) 0 (wn m));have B:Hid (Row z (w.heap.size+1) (wn m)/\SP.Only r 0 32 w z/\Holds encB z r 0 s):=by
  rw[<-p.out];refine⟨t.1.put rfl,dW t.2.1 q oM _,λj o=>?_⟩;have e:=aH (w.heap.size+1) (wn m) 0 F r oM;rw[UW (a:=⟨r,0+j,none⟩) e,VU (a:=⟨r,0+j,none⟩) e];exact t.2.2 j o
 obtain⟨P,o⟩:=hE (nv m);rw[o.out];go_wp2_with (refine U2 rfl 49 _ _ rfl (w.heap.size+1) 0 (wn m).toArray ?_ ?_ ?_ ?_ ?_ ?_;rfl;exact o.symm;exact t.1.2.2;exact i40;exact aM m;rw[show(wn m).toArray.toList=wn m from rfl,p.out])
 refine UE (aG 4 49 rfl B.1 rfl u40 i40) rfl ?_;exact⟨_,rfl,B.2.1,B.2.2,by rw[E.out];rfl⟩
theorem aV{W W':Ur}{k:Nat}{vs:List Ut}(h:Row W k vs)(c:W.heap.size<=W'.heap.size)(e:W'.heap[k]? = W.heap[k]?):Row W' k vs:=
 ⟨Ux h.1 c,λj v b=>by rw[UW (a:=⟨k,0+j,none⟩) e];exact h.2.1 j v b,λj b=>by rw[UW (a:=⟨k,0+j,none⟩) e,VU (a:=⟨k,0+j,none⟩) e];exact h.2.2 j b⟩
structure Wk(w W:Ur)(k7 r:Nat)(L:Bs):Prop where
 bl:kZ w W
 r7:Row W k7 [jZ r]
 lg:Holds encB W r 0 L
 lr:w.heap.size<=r
 n7:k7≠r
theorem uS4:prog.underlying 124=some (.slice 49):=kR
theorem iS4:(prog.info? 49).map (λi=>(i.size,decide (i.bytes<=4000),i.zero.isSome))=some (4,true,true):=kR
end
section
open Go.RowKit Go.Sort Go.Deep
variable {Q Q':Nat->Prop}{W W':Ur}{v:Ut}{l:List (Nat × Bs)}{n:Nat}
structure Kq(Q:Nat->Prop)(W W':Ur):Prop where
 size:W.heap.size<=W'.heap.size
 block:∀g,Q g->g<W.heap.size->W'.heap[g]? = W.heap[g]?
theorem Kq.of_below(k:kZ W W'):Kq Q W W':=⟨k.size,λg _ h=>k.block g h⟩
theorem Kq.of_only{o m:Nat}(k:SP.Only r o m W W')(c:∀g,Q g->g≠r):Kq Q W W':=⟨k.size,λg b d=>k.block g d (c g b)⟩
theorem Kq.range{g o:Nat}{vs:List Ut}(h:Kq Q W W')(d:Q g)(c:g<W.heap.size)(b:W.rangeAt g o vs):W'.rangeAt g o vs:=λj v k=>by
 rw[UW (a:=⟨g,o+j,none⟩) (h.block g d c)];exact b j v k
theorem Kq.cell{g o:Nat}{x:Ut}(h:Kq Q W W')(c:Q g)(b:g<W.heap.size)(k:W.cell? ⟨g,o,none⟩=some x):W'.cell? ⟨g,o,none⟩=some x:=by
 rw[UW (a:=⟨g,o,none⟩) (h.block g c b)];exact k
def SmQ(Q:Nat->Prop)(W:Ur)(v:Ut)(l:List (Nat × Bs)):Prop:=∃g c,v=sZ g l.length c/\l.length<=c/\Q g/\g<W.heap.size/\W.rangeAt g 0 (aU l)
theorem SmQ.sm(h:SmQ Q W v l):Sm 0 W v l:=by
 obtain⟨g,c,k,d,-,b⟩:=h;exact⟨g,c,k,d,WA _,b⟩
theorem Sm.q(h:Sm B W v l):SmQ (B<=·) W v l:=h
theorem SmQ.mono(h:SmQ Q W v l)(d:∀g,Q g->Q' g):SmQ Q' W v l:=by
 obtain⟨g,c,k,e,b,f⟩:=h;exact⟨g,c,k,e,d g b,f⟩
theorem SmQ.keep(h:SmQ Q W v l)(k:Kq Q W W'):SmQ Q W' v l:=by
 obtain⟨g,c,e,f,b,d,i⟩:=h;exact⟨g,c,e,f,b,Ux d k.size,k.range b d i⟩
def SLq(Q:Nat->Prop)(W:Ur)(v:Ut)(n:Nat)(a:Nat->Nat):Prop:=∃g o c,v=.slice (some ⟨g,o,none⟩) n c/\n<=c/\Q g/\g<W.heap.size/\∀j,j<n->W.rangeAt g (o+4*j) (wn (a j))
theorem SLq.mono{a:Nat->Nat}(h:SLq Q W v n a)(d:∀g,Q g->Q' g):SLq Q' W v n a:=by
 obtain⟨g,o,c,k,e,b,f⟩:=h;exact⟨g,o,c,k,e,d g b,f⟩
theorem SLq.keep{a:Nat->Nat}(h:SLq Q W v n a)(k:Kq Q W W'):SLq Q W' v n a:=by
 obtain⟨g,o,c,f,i,b,d,l⟩:=h;exact⟨g,o,c,f,i,b,Ux d k.size,λj e=>k.range b d (l j e)⟩
theorem SLq.congr{a b:Nat->Nat}(h:SLq Q W v n a)(e:∀j,j<n->a j=b j):SLq Q W v n b:=by
 obtain⟨g,o,c,d,i,f,l,m⟩:=h;exact⟨g,o,c,d,i,f,l,λj k=>by rw[<-e j k];exact m j k⟩
def GLq(Q:Nat->Prop)(W:Ur)(v:Ut)(n:Nat)(T:Nat->List (Nat × Bs)):Prop:=∃g o c,v=.slice (some ⟨g,o,none⟩) n c/\n<=c/\Q g/\g<W.heap.size/\∀j,j<n->∃x,W.cell? ⟨g,o+j,none⟩=some x/\SmQ Q W x (T j)
theorem GLq.mono{T:Nat->List (Nat × Bs)}(h:GLq Q W v n T)(k:∀g,Q g->Q' g):GLq Q' W v n T:=by
 obtain⟨g,o,c,e,i,f,l,p⟩:=h;refine⟨g,o,c,e,i,k g f,l,λj b=>?_⟩;obtain⟨x,d,m⟩:=p j b;exact⟨x,d,m.mono k⟩
theorem GLq.keep{T:Nat->List (Nat × Bs)}(h:GLq Q W v n T)(k:Kq Q W W'):GLq Q W' v n T:=by
 obtain⟨g,o,c,i,l,b,d,p⟩:=h;refine⟨g,o,c,i,l,b,Ux d k.size,λj e=>?_⟩;obtain⟨x,f,m⟩:=p j e;exact⟨x,k.cell b d f,m.keep k⟩
structure GRq(Q:Nat->Prop)(W:Ur)(v:Ut)(n:Nat)(G H:Nat->List (Nat × Bs))(U:List (Nat × Bs)):Prop where
 ex:∃vg vh vu,v=.agg #[vg,vh,vu]/\GLq Q W vg n G/\GLq Q W vh n H/\SmQ Q W vu U
theorem GRq.mono{G:Nat->List (Nat × Bs)}(h:GRq Q W v n G H U)(k:∀g,Q g->Q' g):GRq Q' W v n G H U:=by
 obtain⟨e,j,f,c,i,d,b⟩:=h.ex;exact⟨e,j,f,c,i.mono k,d.mono k,b.mono k⟩
theorem GRq.keep{G:Nat->List (Nat × Bs)}(h:GRq Q W v n G H U)(k:Kq Q W W'):GRq Q W' v n G H U:=by
 obtain⟨e,i,f,c,g,d,b⟩:=h.ex;exact⟨e,i,f,c,g.keep k,d.keep k,b.keep k⟩
structure TOk(N:Nat)(l:List (Nat × Bs)):Prop where
 sz:∀x∈l,x.2.size=33
 lt:∀x∈l,x.1<N
theorem TOk.szm{N:Nat}(h:TOk N l):∀x∈l.map (·.2),x.size=33:=λx hx=>by
 obtain⟨y,k,rfl⟩:=Vn.1 hx;exact h.sz y k
theorem TOk.app{N:Nat}{m:List (Nat × Bs)}(h:TOk N l)(k:TOk N m):TOk N (l++m):=⟨λx hx=>(WB.1 hx).elim (h.sz x) (k.sz x),λx hx=>(WB.1 hx).elim (h.lt x) (k.lt x)⟩
theorem TOk.tm{N:Nat}(c:0<N)(h:TOk N l)(k:Nat):TOk N (l.map (tmT N k)):=⟨λx hx=>by
 obtain⟨y,b,rfl⟩:=Vn.1 hx;exact h.sz y b,λx hx=>by
 obtain⟨y,b,rfl⟩:=Vn.1 hx;exact V7 _ c⟩
theorem TOk.nil{N:Nat}:TOk N []:=⟨λ_ h=>(UY h).elim,λ_ h=>(UY h).elim⟩
theorem Tl.ok{P:Nat}[NeZero P]{N:Nat}{X:OnP P}(h:Tl N l X):TOk N l:=⟨λx hx=>by
 obtain⟨X,-,e⟩:=h.pts x hx;rw[e];exact aT _,h.lt⟩
theorem oH{N:Nat}(k:0<N){a:Nat->Nat}{T:Nat->List (Nat × Bs)}:∀n,(∀i,i<n->TOk N (T i))->TOk N (dH N a T n)
 | 0,_=>TOk.nil
 | n+1,h=>(oH k n λi b=>h i oM).app ((h n oM).tm k _)
end
namespace RG
open Go Go.RowKit
variable {P:VD}{ops:Array Vk}{Q:Yq->Act->Ur->Prop}{w:Ur}{a0:Act}{F:Flow}
theorem gC{L:Array Bool}{i j:Nat}{o:Vk}(ho:ops[i]? = some o)(k:∀e∈o.after,VP .any e=true->on L e.on=true)(b:depOn ops i j=true):on L j=true:=by
 unfold depOn at b;rw[ho]at b;obtain⟨e,d,c⟩:=Array.any_eq_true'.1 b;simp only[UL,beq_iff_eq]at c;have:=k e d c.1;rw[c.2]at this;exact this
end RG
namespace RG
open Go Go.RowKit
structure S1 where
 p:Ut->Ur->Prop
 st:∀v w w',kZ w w'->p v w->p v w'
def pE(v:Ut):S1:=⟨λx _=>x=v,λ_ _ _ _ h=>h⟩
def pA:S1:=⟨λ_ _=>True,λ_ _ _ _ h=>h⟩
def pM(Q:Nat->Prop)(l:List (Nat × Bs)):S1:=⟨λv w=>SmQ Q w v l,λ_ _ _ k h=>h.keep (Kq.of_below k)⟩
def pS(Q:Nat->Prop)(n:Nat)(a:Nat->Nat):S1:=⟨λv w=>SLq Q w v n a,λ_ _ _ k h=>h.keep (Kq.of_below k)⟩
def pG(Q:Nat->Prop)(n:Nat)(T:Nat->List (Nat × Bs)):S1:=⟨λv w=>GLq Q w v n T,λ_ _ _ k h=>h.keep (Kq.of_below k)⟩
def pR(Q:Nat->Prop)(n:Nat)(G H:Nat->List (Nat × Bs))(U:List (Nat × Bs)):S1:=⟨λv w=>GRq Q w v n G H U,λ_ _ _ k h=>h.keep (Kq.of_below k)⟩
def pI(T:U8)(p:S1):S1:=⟨λv w=>∃x,v=.iface T x/\p.p x w,λ_ w w' c ⟨x,k,b⟩=>⟨x,k,p.st x w w' c b⟩⟩
def pN(B:Nat)(cs:List Ut):S1:=⟨λv w=>∃k,v=jZ k/\B<=k/\Row w k cs,λ_ _ _ e ⟨k,b,d,c⟩=>⟨k,b,d,c.below e⟩⟩
def nth:List S1->Nat->S1
 | [],_=>pA
 | x :: _,0=>x
 | _ :: r,k+1=>nth r k
def gwL(L:List S1)(B:Ur->Prop)(k:∀w w',kZ w w'->B w->B w'):Gw:=⟨λi=>(nth L i).p,B,λi=>(nth L i).st,k⟩
variable {P:VD}{ops:Array Vk}{Q:Yq->Act->Ur->Prop}{w:Ur}{a0:Act}{G:Gw}{k:Nat}{o:Vk}
theorem Jn(b:List (WF × Ut))(v:Ut)(c:∀a W,PreG G ops a0 k o a W->AllE a b)(hR:∀W,G.R k v W)(d:∀W,(dA (b.map (·.1)) o,(U5 (evo (evl b)) o).run P W)=(true,.ok (.value v) W):=by intro _;kernel_rfl):bF P Q G.flow ops a0 k o:=
 bN λa W e=>⟨b,v,W,c a W e,d W,UR _ _,hR W⟩
theorem RU(t:WF)(v b:Ut)(d:a0.eval (.tmp t)=v)(hR:∀W,G.R k b W)(hf:oY ops k t=true:=by kernel_rfl)(c:∀W,(dA [t] o,(U5 (evo (evl [(t,v)])) o).run P W)=(true,.ok (.value b) W):=by intro _;kernel_rfl):bF P Q G.flow ops a0 k o:=
 Jn [(t,v)] b (λa W e=>⟨(e.o t hf).trans d,yCn⟩) hR c
theorem rF(j:Nat)(t:WF)(v b:Ut)(c:∀x W,G.R j x W->x=v)(hR:∀W,G.R k b W)(hd:(dB o j,aX ops j)=(true,some t):=by kernel_rfl)(d:∀W,(dA [t] o,(U5 (evo (evl [(t,v)])) o).run P W)=(true,.ok (.value b) W):=by intro _;kernel_rfl):bF P Q G.flow ops a0 k o:=
 Jn [(t,v)] b (λa W e=>⟨c _ W (e.n j t (congrArg Zy hd) (congrArg Zx hd)),yCn⟩) hR d
theorem DT(j:Nat)(t:WF)(f:Ut->Ut)(hR:∀x W,G.R j x W->G.R k (f x) W)(hd:(dB o j,aX ops j)=(true,some t):=by kernel_rfl)(b:∀v W,(dA [t] o,(U5 (evo (evl [(t,v)])) o).run P W)=(true,.ok (.value (f v)) W):=by intro _ _;kernel_rfl):bF P Q G.flow ops a0 k o:=
 bN λa W c=>⟨[(t,a.eval (.tmp t))],_,W,⟨rfl,yCn⟩,b _ W,UR _ _,hR _ W (c.n j t (congrArg Zy hd) (congrArg Zx hd))⟩
theorem A0(j:Nat)(t:WF)(c:Nat)(b:WF)(v u d:Ut)(I:Sem Ut)(l:∀W,I.run P W=.ok d W)(i:∀x W,G.R j x W->x=v)(f:∀x W,G.R c x W->x=u)(hR:∀W,G.R k d W)(hd:((dB o j,aX ops j),(dB o c,aX ops c))=((true,some t),(true,some b)):=by kernel_rfl)(e:(dA [t,b] o,U5 (evo (evl [(t,v),(b,u)])) o)=(true,I >>= λv=>pure (Xr v)):=by kernel_rfl):bF P Q G.flow ops a0 k o:=
 bN λa W g=>⟨[(t,v),(b,u)],d,W,⟨i _ W (g.n j t (congrArg (·.1.1) hd) (congrArg (·.1.2) hd)),f _ W (g.n c b (congrArg (·.2.1) hd) (congrArg (·.2.2) hd)),yCn⟩,by
  rw[V8.injEq]at e⊢;refine⟨e.1,?_⟩;rw[e.2,UV,l W];rfl,UR _ _,hR W⟩
theorem DR(j:Nat)(t:WF)(v b:Ut)(I:Sem Ut)(e:∀W,I.run P W=.ok b W)(d:∀x W,G.R j x W->x=v)(hR:∀W,G.R k b W)(hd:(dB o j,aX ops j)=(true,some t):=by kernel_rfl)(c:(dA [t] o,U5 (evo (evl [(t,v)])) o)=(true,I >>= λv=>pure (Xr v)):=by kernel_rfl):bF P Q G.flow ops a0 k o:=
 bN λa W f=>⟨[(t,v)],b,W,⟨d _ W (f.n j t (congrArg Zy hd) (congrArg Zx hd)),yCn⟩,by
  rw[V8.injEq]at c⊢;refine⟨c.1,?_⟩;rw[c.2,UV,e W];rfl,UR _ _,hR W⟩
theorem fF(T:U8)(j:Nat)(t:WF)(g off:Nat)(x:Ut)(e:(P.underlying T).map (·.isRow)=some false)(d:∀x W,G.R j x W->x=oZ g off)(f:∀W,G.B W->W.cell? ⟨g,off,none⟩=some x)(hR:∀W,G.R k x W)(hd:(dB o j,aX ops j)=(true,some t):=by kernel_rfl)(ho:o.op=.load T (.tmp t):=by rfl):bF P Q G.flow ops a0 k o:=
 mH λa W b=>by
  have c:=rY b;refine⟨x,W,?_,UR _ _,hR W⟩;unfold U5;rw[ho];dsimp only;rw[d _ W (c.n j t (congrArg Zy hd) (congrArg Zx hd)),UV,fD (f W c.b) e];rfl
theorem RV(T:U8)(j:Nat)(t:WF)(g off:Nat)(cs:List Ut)(e:(P.underlying T).map (·.isRow)=some true)(d:(P.info? T).map (·.size)=some cs.length)(c:∀x W,G.R j x W->x=oZ g off)(f:∀W,G.B W->W.rangeAt g off cs)(hR:∀W,G.R k (.agg cs.toArray) W)(hd:(dB o j,aX ops j)=(true,some t):=by kernel_rfl)(ho:o.op=.load T (.tmp t):=by rfl):bF P Q G.flow ops a0 k o:=
 iQ T t ho e λa W b=>⟨g,off,cs,c _ W (b.n j t (congrArg Zy hd) (congrArg Zx hd)),f W b.b,d,hR W⟩
theorem iD(T:U8)(t:WF)(g off:Nat)(cs:List Ut)(d:(P.underlying T).map (·.isRow)=some true)(c:(P.info? T).map (·.size)=some cs.length)(f:a0.eval (.tmp t)=oZ g off)(e:∀W,G.B W->W.rangeAt g off cs)(hR:∀W,G.R k (.agg cs.toArray) W)(hf:oY ops k t=true:=by kernel_rfl)(ho:o.op=.load T (.tmp t):=by rfl):bF P Q G.flow ops a0 k o:=
 iQ T t ho d λa W b=>⟨g,off,cs,(b.o t hf).trans f,e W b.b,c,hR W⟩
theorem PD(T:U8)(t:WF)(g off:Nat)(x:Ut)(d:(P.underlying T).map (·.isRow)=some false)(f:a0.eval (.tmp t)=oZ g off)(e:∀W,G.B W->W.cell? ⟨g,off,none⟩=some x)(hR:∀W,G.R k x W)(hf:oY ops k t=true:=by kernel_rfl)(ho:o.op=.load T (.tmp t):=by rfl):bF P Q G.flow ops a0 k o:=
 mH λa W b=>by
  have c:=rY b;refine⟨x,W,?_,UR _ _,hR W⟩;unfold U5;rw[ho];dsimp only;rw[c.o t hf,f,UV,fD (e W c.b) d];rfl
theorem xP(cs:List Ut)(T:U8)(hR:∀W W':Ur,Row W' W.heap.size cs->G.B W->G.R k (jZ W.heap.size) W')(b:∀W,(dA [] o,(U5 (evo (evl [])) o).run P W)=(true,.ok (.value (jZ W.heap.size)) (W.alloc (.cells cs.toArray T))):=by intro _;kernel_rfl):bF P Q G.flow ops a0 k o:=
 bN λa W c=>⟨[],_,_,trivial,b W,aC W _,hR W _ (aE W cs T) c.b⟩
theorem NP(f:Xs)(args:Array Ut)(b:∀W,G.B W->UH P f args W (rZ W λe W'=>G.R k e W'))(c:∀W,(dA [] o,(U5 (evo (evl [])) o).run P W)=(true,.ok (.enter f args) W):=by intro _;kernel_rfl):bF P Q G.flow ops a0 k o:=
 gK λa W d=>⟨[],f,args,trivial,c W,b W d.b⟩
theorem oW(j:Nat)(t:WF)(f:Xs)(args:Ut->Array Ut)(c:∀x W,G.R j x W->G.B W->UH P f (args x) W (rZ W λe W'=>G.R k e W'))(hd:(dB o j,aX ops j)=(true,some t):=by kernel_rfl)(d:∀x W,(dA [t] o,(U5 (evo (evl [(t,x)])) o).run P W)=(true,.ok (.enter f (args x)) W):=by intro _ _;kernel_rfl):bF P Q G.flow ops a0 k o:=
 gK λa W b=>⟨[(t,a.eval (.tmp t))],f,_,⟨rfl,yCn⟩,d _ W,c _ W (b.n j t (congrArg Zy hd) (congrArg Zx hd)) b.b⟩
theorem eD(j:Nat)(t:WF)(c:Nat)(b:WF)(f:Xs)(args:Ut->Ut->Array Ut)(g:∀x y W,G.R j x W->G.R c y W->G.B W->UH P f (args x y) W (rZ W λe W'=>G.R k e W'))(hd:((dB o j,aX ops j),(dB o c,aX ops c))=((true,some t),(true,some b)):=by kernel_rfl)(i:∀x y W,(dA [t,b] o,(U5 (evo (evl [(t,x),(b,y)])) o).run P W)=(true,.ok (.enter f (args x y)) W):=by intro _ _ _;kernel_rfl):bF P Q G.flow ops a0 k o:=
 gK λa W d=>⟨[(t,a.eval (.tmp t)),(b,a.eval (.tmp b))],f,_,⟨rfl,rfl,yCn⟩,i _ _ W,g _ _ W (d.n j t (congrArg (·.1.1) hd) (congrArg (·.1.2) hd)) (d.n c b (congrArg (·.2.1) hd) (congrArg (·.2.2) hd)) d.b⟩
theorem rG(j:Nat)(t:WF)(g:Nat)(d:WF)(c:Nat)(b:WF)(f:Xs)(args:Ut->Ut->Ut->Array Ut)(m:∀x y z W,G.R j x W->G.R g y W->G.R c z W->G.B W->UH P f (args x y z) W (rZ W λe W'=>G.R k e W'))(hd:((dB o j,aX ops j),(dB o g,aX ops g),(dB o c,aX ops c))=((true,some t),(true,some d),(true,some b)):=by kernel_rfl)(l:∀x y z W,(dA [t,d,b] o,(U5 (evo (evl [(t,x),(d,y),(b,z)])) o).run P W)=(true,.ok (.enter f (args x y z)) W):=by intro _ _ _ _;kernel_rfl):bF P Q G.flow ops a0 k o:=
 gK λa W i=>⟨[(t,a.eval (.tmp t)),(d,a.eval (.tmp d)),(b,a.eval (.tmp b))],f,_,⟨rfl,rfl,rfl,yCn⟩,l _ _ _ W,m _ _ _ W (i.n j t (congrArg (·.1.1) hd) (congrArg (·.1.2) hd)) (i.n g d (congrArg (·.2.1.1) hd) (congrArg (·.2.1.2) hd)) (i.n c b (congrArg (·.2.2.1) hd) (congrArg (·.2.2.2) hd)) i.b⟩
theorem oV(T:U8)(j:Nat)(t:WF)(c:Nat)(b:WF)(p:S1)(f:Xs)(i:∀x W,G.R j x W->(pI T p).p x W)(l:∀x y W,p.p x W->G.R c y W->G.B W->UH P f #[x,y] W (rZ W λe W'=>G.R k e W'))(hd:((dB o j,aX ops j),(dB o c,aX ops c))=((true,some t),(true,some b)):=by kernel_rfl)(g:∀x y W,(dA [t,b] o,(U5 (evo (evl [(t,.iface T x),(b,y)])) o).run P W)=(true,.ok (.enter f #[x,y]) W):=by intro _ _ _;kernel_rfl):bF P Q G.flow ops a0 k o:=
 gK λa W d=>by
  obtain⟨x,e,hx⟩:=i _ W (d.n j t (congrArg (·.1.1) hd) (congrArg (·.1.2) hd));exact⟨[(t,.iface T x),(b,a.eval (.tmp b))],f,_,⟨e,rfl,yCn⟩,g _ _ W,l _ _ W hx (d.n c b (congrArg (·.2.1) hd) (congrArg (·.2.2) hd)) d.b⟩
end RG
namespace RG
open Go Go.RowKit
variable {P:VD}{ops:Array Vk}{Q:Yq->Act->Ur->Prop}{w:Ur}{a0:Act}{G:Gw}{k:Nat}{o:Vk}{T:U8}{g off:Nat}{cs:List Ut}{v u v' z:Ut}{I:Sem Ut}{f:Xs}{t:WF}
theorem gO(t:WF)(v:Ut)(c:a0.eval (.tmp t)=v:=by kernel_rfl)(hR:∀W,G.R k v W:=by exact λ_=>rfl)(hf:oY ops k t=true:=by kernel_rfl)(b:∀W,(dA [t] o,(U5 (evo (evl [(t,v)])) o).run P W)=(true,.ok (.value v) W):=by intro _;kernel_rfl):bF P Q G.flow ops a0 k o:=RU t v v c hR hf b
theorem gP(t:WF)(v b:Ut)(d:a0.eval (.tmp t)=v:=by kernel_rfl)(hR:∀W,G.R k b W:=by exact λ_=>rfl)(hf:oY ops k t=true:=by kernel_rfl)(c:∀W,(dA [t] o,(U5 (evo (evl [(t,v)])) o).run P W)=(true,.ok (.value b) W):=by intro _;kernel_rfl):bF P Q G.flow ops a0 k o:=RU t v b d hR hf c
theorem gLo(t:WF)(d:∀W,G.B W->W.rangeAt g off cs)(c:(P.underlying T).map (·.isRow)=some true)(b:(P.info? T).map (·.size)=some cs.length)(e:a0.eval (.tmp t)=oZ g off:=by kernel_rfl)(hR:∀W,G.R k (.agg cs.toArray) W:=by exact λ_=>rfl)(hf:oY ops k t=true:=by kernel_rfl)(ho:o.op=.load T (.tmp t):=by rfl):bF P Q G.flow ops a0 k o:=iD T t g off cs c b e d hR hf ho
theorem gLr(j:Nat)(t:WF)(e:∀W,G.B W->W.rangeAt g off cs)(d:(P.underlying T).map (·.isRow)=some true)(c:(P.info? T).map (·.size)=some cs.length)(b:∀x W,G.R j x W->x=oZ g off:=by exact λ_ _ h=>h)(hR:∀W,G.R k (.agg cs.toArray) W:=by exact λ_=>rfl)(hd:(dB o j,aX ops j)=(true,some t):=by kernel_rfl)(ho:o.op=.load T (.tmp t):=by rfl):bF P Q G.flow ops a0 k o:=RV T j t g off cs d c b e hR hd ho
theorem gX(j:Nat)(t:WF)(b:Nat)(c:WF)(f:∀W,I.run P W=.ok v' W)(e:∀x W,G.R j x W->x=v:=by exact λ_ _ h=>h)(d:∀x W,G.R b x W->x=u:=by exact λ_ _ h=>h)(hR:∀W,G.R k v' W:=by exact λ_=>rfl)(hd:((dB o j,aX ops j),(dB o b,aX ops b))=((true,some t),(true,some c)):=by kernel_rfl)(g:(dA [t,c] o,U5 (evo (evl [(t,v),(c,u)])) o)=(true,I >>= λv=>pure (Xr v)):=by kernel_rfl):bF P Q G.flow ops a0 k o:=A0 j t b c v u v' I f e d hR hd g
theorem gC2(j:Nat)(t:WF)(b:Nat)(c:WF)(p:∀W,UH P f #[v,u] W (rZ W λe W'=>e=v'))(n:∀x W,G.R j x W->x=v:=by exact λ_ _ h=>h)(d:∀x W,G.R b x W->x=u:=by exact λ_ _ h=>h)(hR:∀W,G.R k v' W:=by exact λ_=>rfl)(hd:((dB o j,aX ops j),(dB o b,aX ops b))=((true,some t),(true,some c)):=by kernel_rfl)(g:∀x y W,(dA [t,c] o,(U5 (evo (evl [(t,x),(c,y)])) o).run P W)=(true,.ok (.enter f #[x,y]) W):=by intro _ _ _;kernel_rfl):bF P Q G.flow ops a0 k o:=
 eD j t b c f (λx y=>#[x,y]) (λx y W l i _=>by
  rw[n x W l,d y W i];refine(p W).mono ?_;rintro e W' ⟨a,rfl,m,rfl⟩;exact⟨_,rfl,m,hR W'⟩) hd g
end RG
section
open Go.RowKit Go.Sort Go.Deep
def hf(n:Nat):Nat:=2^Nat.log2 (n-1)
end
section
open Go.RowKit Go.Sort Go.Deep
variable {P:Nat}[NeZero P]{N:Nat}
def hZ(n:Nat):Bs:=#[bV n 16777216,bV n 65536,bV n 256,bV n 1]
theorem IL{w:Ur}{n:Nat}(h:Holds encB w r 0 (hZ n)):PartOk w (sZ r 4 4) (hZ n).toList:=
 ⟨_,r,0,4,hZ n,rfl,rfl,Uw _,VR rfl,UX ⟨rfl,h⟩⟩
theorem Mw:Gives 70 #[uZ 1] (nv 1):=by
 intro w;go_enter func70,ntmps70;refine RG.M.enter [(0,.v (uZ 1))] 6 kR ?_;intro a0 c;repeat refine Uz ?_
 refine c.T [.m 0] [(0,RG.z 4)] [] [RG.z 4] [0,2] ⟨mk 0 49,yCn⟩ ?_;intro k g f d;repeat refine Uz ?_
 refine d.T [.x (uZ 1),.x (nv 1),.x (nv 1),.u 0] [] [(0,3,wn 1)] [wn 1] [2] ⟨st,st,st,RG.pt i40,yCn⟩ ?_;intro a2 e b;refine Wr ?_;refine UE (v:=nv 1) (aI b.st 2 49 rfl 0 _ rfl (b.at (s:=(.p 0 0))) u40 i40) b.sl.defers ?_;exact⟨_,rfl,b.st.bel.below,rfl⟩
def tZ(a:Nat):Nat:=if a=0 then 1 else a
theorem Mq(O:Ord N){a:Nat}(n:a<N):Gives 210 #[nv a] (nv (tZ a)):=by
 intro w;have e:=Ux n O.le;have g:∀w:Ur,(binOp .eql 49 (nv a) (nv 0)).run prog w=.ok (.bool (decide (a=0))) w:=λw=>eqS e (show 0<top by unfold top;omega) w
 obtain⟨d,hd⟩:=hE (decide (a=0));rw[hd.out]at g;go_enter func210,ntmps210;refine RG.M.enter [(0,.v (nv a))] 8 kR ?_;intro a0 l;repeat refine Uz ?_
 refine l.T [.m 0,.m 1] [(0,wn a),(1,RG.z 4)] [] [wn a,RG.z 4] [1,2] ⟨mk 0 49,mk 1 49,yCn⟩ ?_;intro o r q p i;repeat refine Uz ?_
 refine i.U [.x (nv a),.x (nv 0),.x (.bool d)] [1,2,5] ⟨ld u40 i40,st,aQ rfl .eql 49 49 3 4 (nv a) (nv 0) (.bool d) rfl rfl sx sx (λw=>kR) g,yCn⟩ ?_;intro a2 t b;cases d with
 | true =>
  refine VE b.ev ?_;have f:=of_decide_eq_true hd.out;have c:tZ a=1:=by unfold tZ;rw[yCl f]
  rw[c];repeat refine Uz ?_
  refine b.T [.c (nv 1),.u 1] [] [(1,1,wn 1)] [wn a,wn 1] [2] ⟨cl Mw,RG.pt i40,yCn⟩ ?_;intro m j k;refine Wr ?_;refine UE (v:=nv 1) (aI k.st 2 49 rfl 1 _ rfl (k.at (s:=(.p 1 0))) u40 i40) k.sl.defers ?_;exact⟨_,rfl,k.st.bel.below,rfl⟩
 | false =>
  refine VI b.ev ?_;have f:=of_decide_eq_false hd.out;have c:tZ a=a:=by unfold tZ;rw[yCm f]
  rw[c];refine WU ?_;repeat refine Uz ?_
  refine b.T [.x (nv a),.u 1] [] [(1,1,wn a)] [wn a,wn a] [2] ⟨ld u40 i40,RG.pt i40,yCn⟩ ?_;intro m j k;refine Wr ?_;refine UE (v:=nv a) (aI k.st 2 49 rfl 1 _ rfl (k.at (s:=(.p 1 0))) u40 i40) k.sl.defers ?_;exact⟨_,rfl,k.st.bel.below,rfl⟩
end
section
open Go.RowKit Go.Sort Go.Deep
section
variable {P:VD}{ops:Array Vk}{rest:List Vk}{op:Vk}{a:Act}{w w':Ur}{v:Ut}{Q:Yq->Act->Ur->Prop}
theorem fV(c:op.guard=none)(k:U8)(x y:Operand)(ho:op.op=.store k x y)(b o:Nat)(v:Ut)(hx:a.eval x=oZ b o)(g:a.eval y=v)(hv:v.cells=#[v])(j:v.oneCell'=true)(d:w.there b o 1)(l:(P.info? k).map (·.size)=some 1)
 (h:wpList P ops Q rest (a.put op.dst WR) (w.setCells b o [v])):wpList P ops Q (op :: rest) a w:=
 Xi c λ_ i=>by
  have f:=ZC (P:=P) w b o k #[v] d l (by simp[j]);have e:storeVar k ⟨b,o,none⟩ v=storeVar k ⟨b,o,none⟩ (.agg #[v]):=by
   unfold storeVar;rw[hv];rfl
  unfold VT U5;simp only[ho,hx,g,Yy,X6,UV,Wt,Vm,e,f];exact i _ _ h
theorem rR(k:op.guard=none)(s t:WF)(b:Array U8)(ho:op.op=.call ⟨.value (.tmp s),#[.tmp t],b⟩)(f:Xs)(cap:Array Ut)(x:Ut)(g:a.eval (.tmp s)=.func (.func f) #[] cap)(hx:a.eval (.tmp t)=x)(hf:∀args W,(callFunc f args).run P W=.ok (.enter f args) W)
 {R:Ut->Ur->Prop}(i:UH P f (#[x]++cap) w (Ret R)) (h:∀v w',R v w'->wpList P ops Q rest (a.put op.dst v) w'):wpList P ops Q (op :: rest) a w:=
 Xi k λK d=>by
  have c:(U5 a.eval op).run P w=.ok (.enter f (#[x]++cap)) w:=by
   unfold U5;rw[ho];have e:(#[Operand.tmp t].map a.eval)=#[x]:=by simp[hx]
   simp only[resolve,g,Deferred.ofValue,UV,Wt,Vm,invoke,e];exact hf _ w
  unfold VT;rw[c,Oper.upon_enter];refine i.mono ?_;rintro e w' ⟨v,rfl,hR⟩;exact d _ _ (h v w' hR)
end
end
section
open Go.RowKit Go.Sort Go.Deep
variable {P:Nat}[NeZero P]{N:Nat}
theorem xC(n:Nat)(l:n<4294967296)(w:Ur):UH prog 200 #[iZ n] w (rZ w λe w'=>∃r,e=sZ r 4 4/\r<w'.heap.size/\Holds encB w' r 0 (hZ n)):=by
 have b:(n:Int)/16777216%256=SP.ub (bV n 16777216):=jL n 16777216;have b0:(n:Int)/16777216=SP.ub (bV n 16777216):=oM;clear b;have b1:(n:Int)/65536%256=SP.ub (bV n 65536):=jL n 65536;have m:(n:Int)/256%256=SP.ub (bV n 256):=jL n 256;have o:(n:Int)%256=SP.ub (bV n 1):=xK n;have i:=xO w (bV n 16777216) (bV n 65536) (bV n 256) (bV n 1);have f:Hid (hZ n=#[bV n 16777216,bV n 65536,bV n 256,bV n 1]):=rfl;generalize bV n 16777216=d at *;generalize bV n 65536=c at *;generalize bV n 256=g at *;generalize bV n 1=j at *;have k:kZ w (w.alloc (.cells #[.int .u8 (SP.ub d),.int .u8 (SP.ub c),.int .u8 (SP.ub g),.int .u8 (SP.ub j)] 5)):=(UR _ _).alloc (Uw _) _;go_enter func200,ntmps200;go_wp2;go_ret;refine⟨_,rfl,k,_,rfl,by rw[UB];omega,?_⟩;rw[f.out];exact i
theorem AS(a:Bs)(j:a.size=33)(w:Ur):UH prog 135 #[pvl a] w (rZ w λe w'=>Sm w.heap.size w' e [(1,a)]):=by
 have l:=Hid.mk' (rM j w);obtain⟨g,d⟩:=hE (w.alloc (.cells (aA a).toArray 103));rw[d.out]at l;have K:Hid (Row g w.heap.size (aA a)/\kZ w g):=by rw[<-d.out];exact⟨aE w _ _,aC w _⟩
 obtain⟨va,f⟩:=hE (pvl a);have i:Hid ((Ve 103 va).run prog w=.ok (jZ w.heap.size) g):=by rw[<-f.out];exact l
 rw[f.out];go_enter func135,ntmps135;go_wp2_with (first|(refine aF (u:=va) (v:=jZ w.heap.size) (w':=g) rfl 103 (.tmp 0) rfl ?_ ?_ ?_;rfl;exact i.out)|fail)
 refine(gwL [pE (pvl a),pE (nv 1),pM (w.heap.size<=·) [(1,a)],pM (w.heap.size<=·) [(1,a)]] (λW=>Row W w.heap.size (aA a)/\kZ w W) (λW W' b h=>⟨h.1.below b,h.2.trans (b.mono h.2.size)⟩)).draws kR kR ⟨
  iD 103 1 w.heap.size 0 (aA a) uCP (by rw[aB j];exact cV) rfl (λW c=>c.1.2.1) (λ_=>rfl),
  NP 70 #[uZ 1] λW c=>(IY W).mono (by
   rintro e W' ⟨u,rfl,b,rfl⟩;exact⟨_,rfl,b,rfl⟩),
  eD 0 3 1 4 64 (λx y=>#[x,y]) λx y W hx m c=>by
   obtain rfl:x=pvl a:=hx;obtain rfl:y=nv 1:=m;refine(kU a j 1 W).mono ?_;rintro e W' ⟨u,rfl,b,k,rfl,n,hR⟩;exact⟨_,rfl,b,Sm.one hR (UC c.2.size n) rfl⟩,
  DT 2 5 id λx W h=>h,yCn⟩ ⟨K.1,K.2.drew⟩ ?_
 intro V o hR c;have m:=mk1 (hR 3 (Xl (VR kR)));have n:=mk1 (c.2);dsimp only[bU,VK];go_wp2;go_ret;exact⟨_,rfl,n.out,m.out⟩
theorem u9s:(prog.underlying 9).map (·.isRow)=some false:=kR
def pH(n:Nat)(b:Bs):S1:=⟨λv W=>∃r,v=sZ r n n/\r<W.heap.size/\Holds encB W r 0 b,λ_ _ _ c ⟨r,d,k,e⟩=>⟨r,d,Ux k c.size,Holds.below e c k⟩⟩
noncomputable def hpN (P:Nat) [NeZero P] (lb:ByteArray) (i:Nat):Bs:=wr (.some (hpt P lb (hZ i).toList):EC.Pt P)
theorem Jh(lb:ByteArray)(i:Nat):(hpN P lb i).size=33:=aT _
theorem OW(C:Fld P)(lb:ByteArray)(f:lb.size<=1000000)(i:Nat)(B:i<4294967296)(k:Nat)(w:Ur)(D:k<w.heap.size)(E:w.cell? ⟨k,0,none⟩=some (.string lb)):
 UH prog 201 #[iZ i,jZ k] w (rZ w λe w'=>Sm w.heap.size w' e [(1,hpN P lb i)]):=by
 obtain⟨T,l⟩:=hE (hpN P lb i);have m:T.size=33:=by rw[<-l.out];exact Jh _ _
 rw[l.out];have s:=λ(W:Ur) (n:Option Ww) (o t:Nat) (F:PartOk W (.slice n o t) (hZ i).toList)=>FM C lb f n o t (hZ i).toList W F
 have z:wr (.some (hpt P lb (hZ i).toList):EC.Pt P)=T:=l.out;rw[z]at s;have a:=Hid.mk' s;have A:=mk1 (E);have d:=Hid.mk' (λW=>xC i B W);go_enter func201,ntmps201;go_wp2_with fail
 refine(gwL [pE (.string lb),pE (iZ i),pH 4 (hZ i),pE (pvl T),pM (w.heap.size<=·) [(1,T)],pM (w.heap.size<=·) [(1,T)]] (λW=>W.cell? ⟨k,0,none⟩=some (.string lb)/\kZ w W) (λW W' b h=>⟨by rw[b.cell (p:=⟨k,0,none⟩) (Ux D h.2.size)];exact h.1,h.2.trans (b.mono h.2.size)⟩)).draws kR kR ⟨
  PD 9 1 k 0 (.string lb) u9s rfl (λW c=>c.1) (λ_=>rfl),
  gO 0 (iZ i),
  oW 1 5 200 (λx=>#[x]) (λx W hx c=>by
   obtain rfl:x=iZ i:=hx;refine(d W).mono ?_;rintro e W' ⟨u,rfl,b,r,rfl,q,j⟩;exact⟨_,rfl,b,r,rfl,q,j⟩),
  eD 0 4 2 6 136 (λx y=>#[x,y]) (λx y W hx v c=>by
   obtain rfl:x=.string lb:=hx;obtain⟨r,rfl,q,j⟩:=v;refine(a W _ _ _ (IL j)).mono ?_;rintro e W' ⟨u,rfl,b,rfl⟩;exact⟨_,rfl,b,rfl⟩),
  oW 3 7 135 (λx=>#[x]) (λx W hx c=>by
   obtain rfl:x=pvl T:=hx;refine(AS T m W).mono ?_;rintro e W' ⟨u,rfl,b,j⟩;exact⟨_,rfl,b,j.q.mono λg q=>UC c.2.size q⟩),
  DT 4 8 id (λx W h=>h),yCn⟩ ⟨A.out,(UR _ w).drew⟩ ?_
 intro V v hR c;have j:=mk1 (hR 5 (Xl (VR kR)));have q:=mk1 (c.2);dsimp only[bU,VK];simp only[UN,Us,Uu,Uv];go_wp2;go_ret;exact⟨_,rfl,q.out,j.out⟩
theorem uSu:prog.underlying 129=some (.slice 131):=kR
theorem iSu:(prog.info? 131).map (λi=>(i.size,decide (i.bytes<=4000),i.zero.isSome))=some (1,true,true):=kR
theorem RQ:(prog.info? 131).map (·.size)=some 1:=kR
structure LsI(w W:Ur)(K n i:Nat)(T:Nat->List (Nat × Bs)):Prop where
 bl:kZ w W
 lt:K<W.heap.size
 th:W.there K 0 n
 ge:w.heap.size<=K
 el:∀j,j<i->∃x,W.cell? ⟨K,j,none⟩=some x/\SmQ (λg=>w.heap.size<=g/\g≠K) W x (T j)
theorem LsI.grow{w W W':Ur}{K n i:Nat}{T:Nat->List (Nat × Bs)}(h:LsI w W K n i T)(k:kZ W W'):LsI w W' K n i T:=
 ⟨h.bl.trans (k.mono h.bl.size),Ux h.lt k.size,dJ h.th k h.lt,h.ge,λj b=>by
  obtain⟨x,c,d⟩:=h.el j b;exact⟨x,by rw[k.cell (p:=⟨K,j,none⟩) h.lt];exact c,d.keep (Kq.of_below k)⟩⟩
theorem Kq.set{Q:Nat->Prop}{W:Ur}{K o:Nat}{vs:List Ut}(k:∀g,Q g->g≠K):Kq Q W (W.setCells K o vs):=⟨by rw[setCells_size];exact Uw _,λg b _=>aH K vs o W g (k g b)⟩
theorem LsI.put{w W:Ur}{K n i:Nat}{T:Nat->List (Nat × Bs)}{x:Ut}(h:LsI w W K n i T)(o:i<n)(hx:SmQ (λg=>w.heap.size<=g/\g≠K) W x (T i)):LsI w (W.setCells K i [x]) K n (i+1) T:=by
 have c:Kq (λg=>w.heap.size<=g/\g≠K) W (W.setCells K i [x]):=Kq.set λg l=>l.2
 refine⟨RG.below_setCells h.ge _ _ _ h.bl,by rw[setCells_size];exact h.lt,VW h.th _ _ _,h.ge,λj p=>?_⟩;by_cases e:j=i
 ·subst e;refine⟨x,?_,hx.keep c⟩;have:=VO W K j [x] (λt b=>by
   have k:t=0:=by simp at b;omega
   subst k;have:=h.th j o;rwa[UD]at this) 0 x rfl
  exact this
 ·obtain⟨y,m,f⟩:=h.el j oM;refine⟨y,?_,f.keep c⟩;have d:W.rangeAt K j [y]:=λt u b=>by
   have k:t=0:=by have:=(UF.1 b).1;simp at this;omega
   subst k;obtain rfl:y=u:=by simpa using b
   exact m
  exact Vh d K i [x] (UX (by simp;omega)) 0 y rfl
theorem LsI.gl{w W:Ur}{K n:Nat}{T:Nat->List (Nat × Bs)}(h:LsI w W K n n T):GLq (w.heap.size<=·) W (sZ K n n) n T:=
 ⟨K,0,n,rfl,Uw _,h.ge,h.lt,λj k=>by
  obtain⟨x,b,c⟩:=h.el j k;exact⟨x,by rw[UD];exact b,c.mono λg d=>d.1⟩⟩
theorem SmQ.one{Q:Nat->Prop}{W:Ur}{v:Ut}{l:List (Nat × Bs)}(h:SmQ Q W v l):v.cells=#[v]/\v.oneCell'=true:=by
 obtain⟨g,c,rfl,-⟩:=h;exact⟨rfl,rfl⟩
theorem Aa(n:Nat)(C:n<=512)(f:Xs)(cap:Array Ut)(hf:∀args W,(callFunc f args).run prog W=.ok (.enter f args) W)(T:Nat->List (Nat × Bs))(w:Ur)
 (B:∀i W,i<n->kZ w W->UH prog f (#[iZ i]++cap) W (rZ W λe W'=>Sm W.heap.size W' e (T i))) :
 UH prog 162 #[iZ n,.func (.func f) #[] cap] w (rZ w λe w'=>GLq (w.heap.size<=·) w' e n T):=by
 obtain⟨C0,d,p⟩:=Ch uSu iSu n C;have k:=p w;obtain⟨K,s⟩:∃K,Hid (w.heap.size=K):=⟨_,rfl⟩
 obtain⟨u,b⟩:∃u,Hid (w.alloc (.cells C0.toArray 131)=u):=⟨_,rfl⟩
 have r:Ar w u K 1 n 0 (λ_=>[]):=Ar.new _ d b.out s.out;rw[b.out,s.out]at k;have I:Hid (LsI w u K n 0 T):=⟨r.bl,r.lt,by have:=r.th;rwa[Xk]at this,by rw[s.out];exact Uw _,λj M=>absurd M (Yo _)⟩
 have L:=Hid.mk' B;have F:=Hid.mk' hf;obtain⟨fv,o⟩:=hE (Z2 (.func f) #[] cap);rw[o.out];clear r d p B hf b s;go_enter func162,ntmps162;go_wp2;clear k;go_loopg [11] n (λm s11 W=>∃i:Nat,i+m=n/\s11=iZ i/\Hid (LsI w W K n i T))
 case atStart=>exact⟨0,oM,rfl,I⟩
 case round =>
  obtain⟨i,D,rfl,c⟩:=hrel;by_cases v:i<n
  ·have x:(i:Int)<(n:Int):=oM;have y:=atS K 0 n n i v;rw[show 0+1*i=i by omega]at y;have E:=Hid.mk' v;go_wp2_with (first|(refine rR rfl 16 17 _ rfl f cap (iZ i) ?_ ?_ F.out (L i wr E.out c.bl) ?_;exact o.symm;rfl;intro e W' hR;refine Zh ?_)|fail)
   obtain⟨J,N⟩:=hR;have z:=c.grow J;have l:SmQ (λg=>w.heap.size<=g/\g≠K) W' e (T i):=N.q.mono λg G=>⟨UC (UC c.bl.size (Uw _)) G,by have:=c.lt;omega⟩
   have A:=mk1 (z.put v l);have H:Hid (W'.there K i 1):=λt O=>by
    have q:t=0:=oM;subst q;have:=z.th i v;rwa[UD]at this
   have a:=Hid.mk' l.one;obtain⟨P,q⟩:=hE (W'.setCells K i [e]);rw[q.out]at A;show wpList _ _ _ _ _ _;go_wp2_with (first|(refine fV rfl 131 _ _ rfl K i e ?_ ?_ a.1 a.2 H.out RQ ?_;rfl;rfl;rw[q.out])|fail)
   go_roundg (gk-1)
   case measure=>omega
   case rel=>exact⟨i+1,oM,rfl,A⟩
  ·have x:¬(i:Int)<(n:Int):=oM;obtain rfl:i=n:=oM;have l:=mk2 c.bl c.gl;go_wp2;go_ret;exact⟨_,rfl,l.1,l.2⟩
theorem tQ(C:Fld P)(lb:ByteArray)(c:lb.size<=1000000)(n:Nat)(o:n<=512)(w:Ur):
 UH prog 134 #[.string lb,iZ n] w (rZ w λe w'=>GLq (w.heap.size<=·) w' e n (λi=>[(1,hpN P lb i)])):=by
 obtain⟨f,b⟩:=hE (w.alloc (.cells #[.string lb] 9));obtain⟨k,m⟩:=hE (w.heap.size);have t:kZ w f:=by rw[<-b.out];exact aC _ _
 have hR:Row f k [.string lb]:=by rw[<-b.out,<-m.out];exact aE w _ _
 have q:=Hid.mk' (Aa n o 201 #[jZ k] (λ_ _=>kR) (λi=>[(1,hpN P lb i)]) f (λi W u l=>OW C lb c i oM k W (Ux hR.1 l.size) (by rw[l.cell (p:=⟨k,0,none⟩) hR.1];exact hR.2.1 0 _ rfl)));have d:=Hid.mk' t;go_enter func134,ntmps134;go_wp2_with fail
 rw[b.out,m.out];refine q.mono ?_;rintro e x ⟨v,rfl,j,hG⟩;have r:=mk2 (d.trans (j.mono d.size)) (hG.mono λg s=>UC d.size s);go_wp2;go_ret;exact⟨_,rfl,r.out⟩
noncomputable def hpU (P:Nat) [NeZero P]:Bs:=wr (.some (hpt P ⟨#[105,110,110,101,114]⟩ []):EC.Pt P)
theorem iGr:(prog.info? 133).map (·.size)=some 3:=kR
theorem uGr:(prog.underlying 133).map (·.isRow)=some true:=kR
noncomputable def gGT (P:Nat) [NeZero P] (i:Nat):List (Nat × Bs):=[(1,hpN P ⟨#[108,101,102,116]⟩ i)]
noncomputable def hGT (P:Nat) [NeZero P] (i:Nat):List (Nat × Bs):=[(1,hpN P ⟨#[114,105,103,104,116]⟩ i)]
noncomputable def uGT (P:Nat) [NeZero P]:List (Nat × Bs):=[(1,hpU P)]
theorem xQ(C:Fld P)(n:Nat)(R:n<=512)(w:Ur):
 UH prog 62 #[iZ n] w (rZ w λe w'=>GRq (w.heap.size<=·) w' e n (gGT P) (hGT P) (uGT P)):=by
 have J:=λW=>tQ C ⟨#[108,101,102,116]⟩ dC n R W
 have y:=λW=>tQ C ⟨#[114,105,103,104,116]⟩ dC n R W
 have O:=λW:Ur=>FM C ⟨#[105,110,110,101,114]⟩ dC none 0 0 [] W ⟨none,0,0,0,#[],rfl,rfl,Uw _,WA _,U4 rfl⟩
 have X:wr (.some (hpt P ⟨#[105,110,110,101,114]⟩ []):EC.Pt P)=hpU P:=rfl;rw[X]at O;have T:=λW=>AS (hpU P) (aT _) W
 obtain⟨U,L⟩:∃U,Hid (hpU P=U):=⟨_,rfl⟩
 have e1:uGT P=[(1,U)]:=by unfold uGT;rw[L.out]
 rw[e1];rw[L.out]at O T;have u:=Hid.mk' (V3 J (V3 y (V3 O T)));have Y:(λi=>[(1,hpN P ⟨#[108,101,102,116]⟩ i)])=gGT P:=rfl;have e3:(λi=>[(1,hpN P ⟨#[114,105,103,104,116]⟩ i)])=hGT P:=rfl;rw[Y,e3]at u;generalize gGT P=G at u⊢;generalize hGT P=H at u⊢;clear J y O T X e1 Y e3 C R;obtain⟨E,A⟩:∃E,Hid (w.alloc (.cells #[.slice none 0 0,.slice none 0 0,.slice none 0 0] 133)=E):=⟨_,rfl⟩
 obtain⟨k,N⟩:∃k,Hid (w.heap.size=k):=⟨_,rfl⟩
 have M:Hid (kZ w E/\Row E k [.slice none 0 0,.slice none 0 0,.slice none 0 0]):=by rw[<-A.out,<-N.out];exact⟨aC _ _,aE w _ _⟩
 go_enter func62,ntmps62;go_wp2_with fail
 rw[A.out,N.out];refine(u.1 E).mono ?_;rintro e Q ⟨v1,rfl,K,hG⟩;have z:Hid (kZ w Q/\Row Q k [.slice none 0 0,.slice none 0 0,.slice none 0 0]/\GLq (k < ·) Q v1 n G):=⟨M.1.trans (K.mono M.1.size),M.2.below K,hG.mono λg o=>Ux M.2.1 o⟩
 go_wp2_with fail
 refine(u.2.1 Q).mono ?_;rintro e B ⟨v2,rfl,t,hG⟩;have x:Hid (kZ w B/\Row B k [.slice none 0 0,.slice none 0 0,.slice none 0 0]/\GLq (k < ·) B v1 n G/\GLq (k < ·) B v2 n H):=⟨z.1.trans (t.mono z.1.size),z.2.1.below t,z.2.2.keep (Kq.of_below t),hG.mono λg o=>Ux z.2.1.1 o⟩
 go_wp2_with fail
 refine(u.2.2.1 B).mono ?_;rintro e a ⟨v,rfl,f,rfl⟩;have s:Hid (kZ w a/\Row a k [.slice none 0 0,.slice none 0 0,.slice none 0 0]/\GLq (k < ·) a v1 n G/\GLq (k < ·) a v2 n H):=⟨x.1.trans (f.mono x.1.size),x.2.1.below f,x.2.2.1.keep (Kq.of_below f),x.2.2.2.keep (Kq.of_below f)⟩
 obtain⟨vu,F⟩:=hE (pvl U);have Z:Hid (∀W:Ur,UH prog 135 #[vu] W (rZ W λe w'=>Sm W.heap.size w' e [(1,U)])):=by rw[<-F.out];exact u.2.2.2
 rw[F.out];go_wp2_with fail
 refine(Z a).mono ?_;rintro e c ⟨v3,rfl,b,hS⟩;have d:Hid (kZ w c/\Row c k [.slice none 0 0,.slice none 0 0,.slice none 0 0]/\GLq (k < ·) c v1 n G/\GLq (k < ·) c v2 n H/\SmQ (k < ·) c v3 [(1,U)]):=⟨s.1.trans (b.mono s.1.size),s.2.1.below b,s.2.2.1.keep (Kq.of_below b),s.2.2.2.keep (Kq.of_below b),hS.q.mono λg o=>Ux s.2.1.1 o⟩
 clear b hS s Z;obtain⟨j,q,c1,rfl,-⟩:=d.2.2.1;obtain⟨p,m,c2,rfl,-⟩:=d.2.2.2.1;obtain⟨r,l,rfl,-⟩:=d.2.2.2.2;obtain⟨I,D⟩:∃I,Hid (c.setCells k 0 [.slice (some ⟨j,q,none⟩) n c1,.slice (some ⟨p,m,none⟩) n c2,sZ r [(1,U)].length l]=I):=⟨_,Hid.mk' rfl⟩
 have V:Hid (kZ w I/\Row I k [.slice (some ⟨j,q,none⟩) n c1,.slice (some ⟨p,m,none⟩) n c2,sZ r [(1,U)].length l]/\GRq (w.heap.size<=·) I (.agg #[.slice (some ⟨j,q,none⟩) n c1,.slice (some ⟨p,m,none⟩) n c2,sZ r [(1,U)].length l]) n G H [(1,U)]):=by
  rw[<-D.out];have S:∀g,k<g->w.heap.size<=g:=λg o=>by rw[N.out];omega
  have kq:Kq (k < ·) c (c.setCells k 0 [.slice (some ⟨j,q,none⟩) n c1,.slice (some ⟨p,m,none⟩) n c2,sZ r [(1,U)].length l]):=Kq.set λg o=>Nat.ne_of_gt o
  exact⟨RG.below_setCells (by rw[N.out];exact Uw _) _ _ _ d.1,d.2.1.put rfl,_,_,_,rfl,(d.2.2.1.keep kq).mono S,(d.2.2.2.1.keep kq).mono S,(d.2.2.2.2.keep kq).mono S⟩
 have S:=mk1 (d.2.1.2.2);go_wp2_with (refine bG (v:=.agg #[.slice (some ⟨j,q,none⟩) n c1,.slice (some ⟨p,m,none⟩) n c2,sZ r [(1,U)].length l]) (w':=c) rfl (.build 133 _) rfl ?_ ?_;kernel_rfl;refine Zh ?_)
 show wpList _ _ _ _ _ _;refine U2 rfl 133 _ _ rfl k 0 #[.slice (some ⟨j,q,none⟩) n c1,.slice (some ⟨p,m,none⟩) n c2,sZ r [(1,U)].length l] ?_ ?_ S.out iGr ?_ ?_
 ·kernel_rfl
 ·kernel_rfl
 ·kernel_rfl
 rw[show(#[.slice (some ⟨j,q,none⟩) n c1,.slice (some ⟨p,m,none⟩) n c2,sZ r [(1,U)].length l]:Array Ut).toList=[.slice (some ⟨j,q,none⟩) n c1,.slice (some ⟨p,m,none⟩) n c2,sZ r [(1,U)].length l] from rfl,D.out];go_wp2;refine UE (aG 2 133 rfl V.2.1 rfl uGr iGr) rfl ?_;exact⟨_,rfl,V.1,V.2.2⟩
theorem u22:(prog.underlying 23).map (·.isRow)=some false:=kR
theorem SU(k o n c i:Nat)(b:i<n)(w:Ur):(Vl 24 (.slice (some ⟨k,o,none⟩) n c) (iZ i)).run prog w=.ok (.pointer (some ⟨k,o+i,none⟩)) w:=by
 go_simp
theorem lF(k o n c i:Nat)(b:i<n)(w:Ur):(Vl 124 (.slice (some ⟨k,o,none⟩) n c) (iZ i)).run prog w=.ok (.pointer (some ⟨k,o+4*i,none⟩)) w:=by
 go_simp
theorem TL(N:Nat)(j:N<=512):∃C0:List Ut,C0.length=4*N/\∀w:Ur,(XE 124 (iZ N) (iZ N)).run prog w=.ok (sZ w.heap.size N N) (w.alloc (.cells C0.toArray 49)):=by
 have g:prog.underlying 124=some (.slice 49):=kR;have d:(prog.info? 49).map (λi=>(i.size,decide (i.bytes<=4000),i.zero.isSome))=some (4,true,true):=kR;obtain⟨i,b,k⟩:=Uy.1 d;simp only[V8.injEq,decide_eq_true_eq]at k;obtain⟨e,l,f⟩:=k;obtain⟨z,c⟩:=Vr.1 f;refine⟨(madeCells z.cells (N*4)).toList,by rw[UK,YK,Vv],λw=>?_⟩;have m:(i.bytes:Int)*(N:Int)<=281474976710656:=by
  have:i.bytes*N<=4000*512:=WS l j;have n:((i.bytes*N:Nat):Int)<=281474976710656:=oM;rwa[Xy]at n
 have:=run_make (P:=prog) w 124 49 i z g b c .i64 .i64 (N:Int) (N:Int) oM oM m oM;rw[X4,e]at this;rw[XF];exact this
def Up(N:Nat)(w:Ur)(n:Nat)(L:Nat->Bs)(e:Ut)(w':Ur):Prop:=
 ((∃j,j<n/\rq N (L j)=none)/\kZ w w'/\e=.tuple #[.slice none 0 0,.bool false]) \/
 ((∀j,j<n->(rq N (L j)).isSome=true)/\∃k C,Made w k C w'/\Rows 4 n (λj=>wn ((rq N (L j)).getD 0)) n C/\e=.tuple #[sZ k n n,.bool true])
theorem Nm(O:Ord N)(n cap:Nat)(hn:n<=512)(q:Option Ww)(L:Nat->Bs)(w:Ur)(hA:Args w q n L):UH prog 121 #[(.func (.func 16) #[] #[]),.slice q n cap] w (Ret λe w'=>Up N w n L e w'):=by
 obtain⟨C,h2,R⟩:=TL n hn;go_enter func121,ntmps121;refine RG.M.enter [(0,.v (.func (.func 16) #[] #[])),(1,.v (.slice q n cap))] 35 kR ?_;intro a0 M0;repeat refine Uz ?_
 refine M0.U [.x (.slice none 0 0),.x (.bool false)] [0,1] ⟨st,st,yCn⟩ ?_;intro a1 w1 M1;repeat refine Uz ?_
 refine M1.t [.x 11 [] (.slice q n cap),.x 12 [(11,0)] (iZ n),⟨some 13,[(12,1)],.s 0 n n,.make 0⟩,.s 6 [(13,2)] (.s 0 n n)] [(2,C)] [] [C] [(0,.v (.func (.func 16) #[] #[])),(1,.v (.slice q n cap)),(6,.s 0 n n)] ⟨st,st,mJ 0 rfl _ rfl 124 49 12 12 n rfl rfl sx sx R,st,yCn⟩ ?_;intro j2 a2 w2 M2;repeat refine Uz ?_
 refine M2.U [.x (.slice q n cap),.x (iZ n),.x (iZ 0)] [0,6,14,15,16] ⟨st,st,st,yCn⟩ ?_;intro a3 w3 M3;repeat refine Uz ?_
 refine XJ ?_;refine wp_loop_ghost (λm a wr=>∃(i:Nat) (C:List Ut) (S:Nat),i+m=n/\(∀j,j<i->(rq N (L j)).isSome=true)/\Rows 4 n (λj=>wn ((rq N (L j)).getD 0)) i C/\RG.M w w.heap.size [] 35 [C] [S] [(0,.v (.func (.func 16) #[] #[])),(6,.s 0 n n),(14,.v (.slice q n cap)),(15,.v (iZ n)),(16,.v (iZ i))] a wr) n ⟨0,C,_,oM,λj hj=>oM,⟨h2,λj r hj=>oM⟩,M3⟩ ?_;clear R;intro m' a wr;rintro⟨i,C,S,h9,p,hR,B⟩;by_cases x:i<n
 ·obtain⟨z,h6,J,hc⟩:=hA oM;subst h6;obtain⟨v,hv,I⟩:=hc i x;have o:w.cell? ⟨z,0+i,none⟩=some v:=by rw[UD];exact hv
  have y:=λw' (H:BelX w.heap.size [] w w')=>EA O v (L i) w' (I.below H.below)
  obtain⟨m,hm⟩:∃m,m=(rq N (L i)).getD 0:=⟨_,rfl⟩
  cases u:(rq N (L i)).isSome with
  | true =>
   have D:∀w',BelX w.heap.size [] w w'->UH prog 16 #[v] w' (Ret λe A=>kZ w' A/\e=.tuple #[nv m,.bool true]):=λw' H=>by
    have h:=y w' H;rw[u,<-hm]at h;exact h
   have K:=hR.len;have g:0+4*i+(wn m).length<=C.length:=by rw[K];show 0+4*i+4<=4*n;omega
   obtain⟨F,l⟩:∃c,rep C (0+4*i) (wn m)=c:=⟨_,rfl⟩
   have h0:=l ▸ RG.rep_at g;have W:F.length=C.length:=l ▸ cU g;have T:Rows 4 n (λj=>wn ((rq N (L j)).getD 0)) (i+1) F:=by
    have:=hR.next x rfl;rw[<-l,hm];exact this
   repeat refine Uz ?_
   refine B.U [.x (.bool true)] [0,6,14,15,16,17] ⟨aQ rfl .lss 3 3 16 15 (iZ i) (iZ n) (.bool true) rfl rfl sx sx (λw=>kR) (gA x),yCn⟩ ?_;intro Q P k;repeat refine Uz ?_
   refine VE k.ev ?_;refine WU ?_;refine Uz ?_;refine XJ ?_;repeat refine Uz ?_
   refine k.U [.x (iZ i),.x (.pointer (some ⟨z,0+i,none⟩)),.x v,.x (iZ i),.x v] [0,6,7,8,14,15,16] ⟨st,bD rfl 24 14 16 rfl (.v (sZ z n cap)) (iZ i) sx sx (λμ w=>SU _ 0 _ _ i x w),bM rfl z (0+i) J UY 23 19 rfl v rfl sx o u22,st,st,yCn⟩ ?_;intro G M d;repeat refine Uz ?_
   refine d.T [.x (.func (.func 16) #[] #[]),.x v,.c (.tuple #[nv m,.bool true]),.x (.tuple #[nv m,.bool true]),.x (nv m),.x (.bool true),.m 1,.u 1,.x (.bool true)] [(6,RG.z 4)] [(1,7,wn m)] [C,wn m] [0,6,7,9,10,14,15,16] ⟨st,st,clB (λ_ _=>kR) D,st,st,st,mk 1 49,RG.pt i40,st,yCn⟩ ?_;intro h3 U Z E;repeat refine Uz ?_
   refine E.U [.x (.bool true),.x (.bool false)] [0,6,7,9,14,15,16,28] ⟨st,st,yCn⟩ ?_;intro h1 h5 t;repeat refine Uz ?_
   refine VI t.ev ?_;refine WU ?_;repeat refine Uz ?_
   refine t.tx [.s 29 [] (.s 0 n n),.x 30 [] (iZ i),.x 31 [] (nv m),.s 32 [(29,0),(30,1)] (.p 0 (0+4*i)),.u [(32,3),(31,2)] 0] [] [(0,4,F)] [F,wn m] [(0,.v (.func (.func 16) #[] #[])),(6,.s 0 n n),(14,.v (sZ z n cap)),(15,.v (iZ n)),(16,.v (iZ i))] kR (congrArg (λn=>[n]) W) ⟨st,st,ld u40 i40,bD rfl 124 29 30 rfl (.s 0 n n) (iZ i) sx sx (λμ w=>lF _ 0 _ _ i x w),eZ 0 (0+4*i) rfl _ rfl 49 (.tmp 32) (.tmp 31) (wn m) rfl rfl sx sx g h0 i40 rfl,yCn⟩ ?_;intro h4 X f;repeat refine Uz ?_
   refine f.U [.x (iZ ((i+1:Nat):Int)),.x (iZ ((i+1:Nat):Int))] [0,6,14,15,16] ⟨aP rfl .add 3 3 16 (iZ i) (iZ 1) (iZ ((i+1:Nat):Int)) rfl rfl sx (λw=>kR) (uQ i 1 oM oM),st,yCn⟩ ?_;intro h8 h7 Y;show ∃n',_;exact⟨m'-1,oM,i+1,F,S,oM,λj hj=>(by
    by_cases V:j=i
    ·rw[V];exact u
    ·exact p j oM),T,RG.M.drop (cs:=[F]) (cs2:=[_]) (ks:=[S]) (ks2:=[_]) Y rfl rfl⟩
  | false =>
   have D:∀w',BelX w.heap.size [] w w'->UH prog 16 #[v] w' (Ret λe A=>kZ w' A/\e=.tuple #[nv m,.bool false]):=λw' H=>by
    have h:=y w' H;rw[u,<-hm]at h;exact h
   repeat refine Uz ?_
   refine B.U [.x (.bool true)] [0,14,16,17] ⟨aQ rfl .lss 3 3 16 15 (iZ i) (iZ n) (.bool true) rfl rfl sx sx (λw=>kR) (gA x),yCn⟩ ?_;intro Q P k;repeat refine Uz ?_
   refine VE k.ev ?_;refine WU ?_;refine Uz ?_;refine XJ ?_;repeat refine Uz ?_
   refine k.U [.x (iZ i),.x (.pointer (some ⟨z,0+i,none⟩)),.x v,.x (iZ i),.x v] [0,8] ⟨st,bD rfl 24 14 16 rfl (.v (sZ z n cap)) (iZ i) sx sx (λμ w=>SU _ 0 _ _ i x w),bM rfl z (0+i) J UY 23 19 rfl v rfl sx o u22,st,st,yCn⟩ ?_;intro G M d;repeat refine Uz ?_
   refine d.T [.x (.func (.func 16) #[] #[]),.x v,.c (.tuple #[nv m,.bool false]),.x (.tuple #[nv m,.bool false]),.x (nv m),.x (.bool false),.m 1,.u 1,.x (.bool false)] [(6,RG.z 4)] [(1,7,wn m)] [C,wn m] [10] ⟨st,st,clB (λ_ _=>kR) D,st,st,st,mk 1 49,RG.pt i40,st,yCn⟩ ?_;intro h3 U Z E;repeat refine Uz ?_
   refine E.U [.x (.bool false),.x (.bool true)] [28] ⟨st,st,yCn⟩ ?_;intro h1 h5 t;repeat refine Uz ?_
   refine VE t.ev ?_;repeat refine Uz ?_
   refine t.U [.x (.slice none 0 0),.x (.bool false)] [4,5] ⟨st,st,yCn⟩ ?_;intro h4 X f;refine Wr ?_;refine UE (v:=.tuple #[.slice none 0 0,.bool false]) (fX 4 5 rfl (.slice none 0 0) (.bool false) f.av f.av) f.sl.defers ?_;exact⟨_,rfl,U4 ⟨⟨i,x,by simpa using u⟩,f.st.bel.below,rfl⟩⟩
 ·have f:i=n:=oM;rw[f]at p hR;repeat refine Uz ?_
  refine B.U [.x (.bool false)] [6,17] ⟨aQ rfl .lss 3 3 16 15 (iZ i) (iZ n) (.bool false) rfl rfl sx sx (λw=>kR) (nH x),yCn⟩ ?_;intro Q P k;repeat refine Uz ?_
  refine VI k.ev ?_;refine wp_exit ?_;dsimp only[Exit.then,Exit.inBlock];rw[yCl rfl];repeat refine Uz ?_
  refine k.U [.s (.s 0 n n),.s (.s 0 n n),.x (.bool true)] [4,5] ⟨st,st,st,yCn⟩ ?_;intro G M d;refine Wr ?_;refine UE (v:=_) (fX 4 5 rfl _ (.bool true) (d.at (s:=.s 0 n n)) d.av) d.sl.defers ?_;exact⟨_,rfl,UX ⟨p,_,C,d.st.made (b:=0) rfl,hR,rfl⟩⟩
def prS(N:Nat)(a b:Nat->Nat):Nat->Nat
 | 0=>0
 | i+1=>sPl N (prS N a b i) (sTi N (b i) (a i))
theorem AN(k:0<N)(a b:Nat->Nat):∀i,prS N a b i<N
 | 0=>k
 | _+1=>V7 _ k
structure CbS(w W:Ur)(N k4 k5 i:Nat)(a b:Nat->Nat):Prop where
 bl:kZ w W
 r4:Row W k4 [uZ 0,uZ 0,uZ 0,uZ 0]
 r5:Row W k5 (wn (prS N a b i))
theorem CbS.grow{w W W':Ur}{c i:Nat}{a b:Nat->Nat}(h:CbS w W N c d i a b)(k:kZ W W'):CbS w W' N c d i a b:=
 ⟨h.bl.trans (k.mono h.bl.size),h.r4.below k,h.r5.below k⟩
theorem CbS.drew{w W:Ur}{k c i:Nat}{a b:Nat->Nat}(h:CbS w W N k c i a b):CbS w W.drew N k c i a b:=⟨h.bl.drew,h.r4,h.r5⟩
theorem wn0:wn 0=[uZ 0,uZ 0,uZ 0,uZ 0]:=kR
theorem aR{W:Ur}{k K o:Nat}{vs us:List Ut}(h:Row W k vs)(b:k≠K):Row (W.setCells K o us) k vs:=aV h (by rw[setCells_size];exact Uw _) (aH K us o W k b)
theorem CbS.put{w W:Ur}{c k i:Nat}{a b:Nat->Nat}(h:CbS w W N c k i a b)(e:w.heap.size<=k)(d:c≠k):CbS w (W.setCells k 0 (wn (prS N a b (i+1)))) N c k (i+1) a b:=
 ⟨RG.below_setCells e _ _ _ h.bl,aR h.r4 d,h.r5.put rfl⟩
theorem Bc(O:Ord N){Q:Nat->Prop}(n:Nat)(hn:n<=512)(a b:Nat->Nat)(ha:∀i,i<n->a i<N)(t:∀i,i<n->b i<N)(va vb:Ut)(w:Ur)(h1:SLq Q w va n a)(h2:SLq Q w vb n b):
 UH prog 78 #[va,vb] w (rZ w λe w'=>e=nv (prS N a b n)):=by
 obtain⟨g1,o1,c1,rfl,-,-,h0,U⟩:=h1;obtain⟨r,A,c2,rfl,-,-,T,h3⟩:=h2;obtain⟨c,z⟩:∃k,Hid (w.heap.size=k):=⟨_,rfl⟩
 obtain⟨w1,G⟩:∃w1,Hid ((w.alloc (.cells #[uZ 0,uZ 0,uZ 0,uZ 0] 49)).alloc (.cells #[uZ 0,uZ 0,uZ 0,uZ 0] 49)=w1):=⟨_,rfl⟩
 have K1:Hid (CbS w w1 N c (c+1) 0 a b):=by
  rw[<-G.out,<-z.out];have hR:=aE (w.alloc (.cells #[uZ 0,uZ 0,uZ 0,uZ 0] 49)) [uZ 0,uZ 0,uZ 0,uZ 0] 49;rw[UB]at hR;exact⟨(aC w _).alloc (by rw[UB];omega) _,(aE w _ _).alloc _,by show Row _ _ (wn 0);rw[wn0];exact hR⟩
 have f:Hid (Ord N/\(∀i,i<n->a i<N)/\(∀i,i<n->b i<N)/\(∀j,j<n->w.rangeAt g1 (o1+4*j) (wn (a j)))/\(∀j,j<n->w.rangeAt r (A+4*j) (wn (b j)))/\g1<w.heap.size/\r<w.heap.size/\w.heap.size<=c):=⟨O,ha,t,U,h3,h0,T,by rw[z.out];exact Uw _⟩
 obtain⟨d,X,Y⟩:=Uy.1 u40;have HD:Hid (prog.underlying 49=some d/\d.isRow=true):=⟨X,Y⟩
 clear O ha t U h3 h0 T X Y;go_enter func78,ntmps78;go_wp2;rw[G.out,z.out];clear G z;go_loopg [10] n (λm s10 W=>∃i:Nat,i+m=n/\s10=iZ i/\Hid (CbS w W N c (c+1) i a b))
 case atStart=>exact⟨0,oM,rfl,K1⟩
 case round =>
  clear K1;obtain⟨i,h9,rfl,E⟩:=hrel;by_cases R:i<n
  ·have h7:(i:Int)<(n:Int):=oM;have hc:(i:Int)<=600:=oM;have HL:=Hid.mk' R;have h8:=lF g1 o1 n c1 i R;have B0:Hid (wr.rangeAt g1 (o1+4*i) (wn (a i))):=RG.range_below (f.2.2.2.1 i R) E.bl f.2.2.2.2.2.1;obtain⟨L,C⟩:∃k,Hid (wr.heap.size=k):=⟨_,rfl⟩
   obtain⟨P,M⟩:∃P,Hid (wr.alloc (.cells #[uZ 0,uZ 0,uZ 0,uZ 0] 49)=P):=⟨_,rfl⟩
   obtain⟨W2,I⟩:∃W2,Hid (P.setCells L 0 (wn (a i))=W2):=⟨_,rfl⟩
   have F1:Hid (Row P L [uZ 0,uZ 0,uZ 0,uZ 0]/\kZ wr P):=by rw[<-M.out,<-C.out];exact⟨aE wr _ _,aC wr _⟩
   have F2:Hid (Row W2 L (wn (a i))/\CbS w W2 N c (c+1) i a b):=by
    rw[<-I.out];exact⟨F1.1.put rfl,E.grow (RG.below_setCells (by rw[C.out];exact Uw _) _ _ _ F1.2)⟩
   obtain⟨va,h5⟩:∃v,Hid (U3 (wn (a i)).toArray=v):=⟨_,rfl⟩
   have HO:Hid ((wn (a i)).toArray.all (·.oneCell')=true):=aM _;clear E;go_wp2_with (first|(refine U6 rfl 49 _ rfl g1 (o1+4*i) ?_ (wn (a i)) d ?_ ?_ ?_ ?_ ?_;rfl;exact B0.out;exact HD.1;exact HD.2;exact i40;rw[h5.out])|(refine bG (v:=jZ L) (w':=P) rfl (.alloc 49) rfl ?_ ?_;(rw[<-M.out,<-C.out];kernel_rfl))|(refine U2 rfl 49 _ _ rfl L 0 (wn (a i)).toArray ?_ ?_ ?_ ?_ ?_ ?_;rfl;exact h5.symm;exact F1.1.2.2;exact i40;exact HO.out;rw[show(wn (a i)).toArray.toList=wn (a i) from rfl,I.out])|fail)
   clear M I C F1 HO;obtain⟨s,F⟩:∃s,Hid (prS N a b i=s):=⟨_,rfl⟩
   have HN:Hid (s<N/\a i<N/\b i<N):=⟨by rw[<-F.out];exact AN f.1.pos a b i,f.2.1 i R,f.2.2.1 i R⟩
   obtain⟨p,K⟩:∃p,Hid (sTi N (b i) (a i)=p):=⟨_,rfl⟩
   obtain⟨q,o⟩:∃q,Hid (sPl N s p=q):=⟨_,rfl⟩
   have HP:Hid (p<N):=by show p<N;rw[<-K.out];exact V7 _ f.1.pos
   have HQ:Hid (prS N a b (i+1)=q):=by show _=_;rw[<-o.out,<-K.out,<-F.out];rfl
   have hT:=λW=>iI f.1 (b i) (a i) HN.2.2 HN.2.1 W
   have J:=λW=>mY f.1 s p HN.1 HP.out W
   rw[K.out]at hT;rw[o.out]at J;have S:∀W,kZ w W->W.rangeAt r (A+4*i) (wn (b i)):=λW B=>RG.range_below (f.2.2.2.2.1 i R) B f.2.2.2.2.2.2.1
   have h4:∀W,CbS w W N c (c+1) i a b->W.rangeAt (c+1) 0 (wn s):=λW h=>by rw[<-F.out];exact h.r5.2.1
   refine(gwL [pE (nv s),pE (.iface 49 (nv s)),pE (.slice (some ⟨r,A,none⟩) n c2),pE (iZ i),pE (.pointer (some ⟨r,A+4*i,none⟩)),pE (nv (b i)),pE (.iface 49 (nv (b i))),pE (nv (a i)),pE (nv p),pE (nv q)] (λW=>CbS w W N c (c+1) i a b/\Row W L (wn (a i))) (λW W' t h=>⟨h.1.grow t,h.2.below t⟩)).last 10 kR kR kR ⟨
    iD 49 5 (c+1) 0 (wn s) u40 i40 rfl (λW B=>h4 W B.1) (λ_=>rfl),
    rF 0 15 (nv s) (.iface 49 (nv s)) (λx W h=>h) (λ_=>rfl),
    gO 1 (.slice (some ⟨r,A,none⟩) n c2),
    gO 6 (iZ i),
    A0 2 17 3 18 (.slice (some ⟨r,A,none⟩) n c2) (iZ i) (.pointer (some ⟨r,A+4*i,none⟩)) (Vl 124 (.slice (some ⟨r,A,none⟩) n c2) (iZ i)) (lF r A n c2 i HL.out) (λx W h=>h) (λx W h=>h) (λ_=>rfl),
    gLr 4 19 (λW B=>S W B.1.bl) u40 i40,
    rF 5 20 (nv (b i)) (.iface 49 (nv (b i))) (λx W h=>h) (λ_=>rfl),
    iD 49 7 L 0 (wn (a i)) u40 i40 rfl (λW B=>B.2.2.1) (λ_=>rfl),
    oV 49 6 21 7 22 (pE (nv (b i))) 79 (λx W h=>⟨_,h,rfl⟩) (λx y W hx g B=>by
     obtain rfl:x=nv (b i):=hx;obtain rfl:y=nv (a i):=g;refine(hT W).mono ?_;rintro e W' ⟨u,rfl,t,rfl⟩;exact⟨_,rfl,t,rfl⟩),
    oV 49 1 16 8 23 (pE (nv s)) 80 (λx W h=>⟨_,h,rfl⟩) (λx y W hx g B=>by
     obtain rfl:x=nv s:=hx;obtain rfl:y=nv p:=g;refine(J W).mono ?_;rintro e W' ⟨u,rfl,t,rfl⟩;exact⟨_,rfl,t,rfl⟩),yCn⟩ ⟨F2.2.drew,F2.1⟩ ?_
   intro V W3 h6 H;have Z:V 9=nv q:=h6 9 dC;obtain⟨D,l⟩:∃D,Hid (W3.setCells (c+1) 0 (wn q)=D):=⟨_,rfl⟩
   have K4:Hid (CbS w D N c (c+1) (i+1) a b):=by
    have h:=H.1.put (by have:=f.2.2.2.2.2.2.2;omega) oM;rw[HQ.out,l.out]at h;exact h
   have HT:Hid (W3.there (c+1) 0 4):=H.1.r5.2.2;dsimp only[bU,VK,Xn,Xo];simp only[UN,Us,Uu,Uv];obtain⟨vq,g⟩:∃v,Hid (nv q=v):=⟨_,rfl⟩
   rw[Z,g.out];clear h6 H Z F2 hT J S h4;generalize V 0=s0;generalize V 1=s1;generalize V 2=s2;generalize V 3=s3;generalize V 4=s4;generalize V 5=s5;generalize V 6=s6;generalize V 7=s7;generalize V 8=s8;go_wp2_with (first|(refine U2 rfl 49 _ _ rfl (c+1) 0 (wn q).toArray ?_ ?_ ?_ ?_ ?_ ?_;rfl;exact g.symm;exact HT.out;exact i40;exact aM q;rw[show(wn q).toArray.toList=wn q from rfl,l.out])|fail)
   go_roundg (gk-1)
   case measure=>omega
   case rel=>exact⟨i+1,oM,rfl,K4⟩
  ·have h7:¬(i:Int)<(n:Int):=oM;obtain rfl:i=n:=oM;obtain⟨q,o⟩:∃q,Hid (prS N a b i=q):=⟨_,rfl⟩
   obtain⟨D,l⟩:∃D,Hid (wr.setCells c 0 (wn q)=D):=⟨_,rfl⟩
   have R5:Hid (wr.rangeAt (c+1) 0 (wn q)/\wr.there c 0 4):=⟨by rw[<-o.out];exact E.r5.2.1,E.r4.2.2⟩
   have K4:Hid (kZ w D/\Row D c (wn q)):=by
    rw[<-l.out];exact⟨RG.below_setCells f.2.2.2.2.2.2.2 _ _ _ E.bl,E.r4.put rfl⟩
   obtain⟨vq,g⟩:∃v,Hid (nv q=v):=⟨_,rfl⟩
   clear E;go_wp2_with (first|(refine U6 rfl 49 _ rfl (c+1) 0 ?_ (wn q) d ?_ ?_ ?_ ?_ ?_;rfl;exact R5.1;exact HD.1;exact HD.2;exact i40;rw[show U3 (wn q).toArray=vq from g.out])|(refine U2 rfl 49 _ _ rfl c 0 (wn q).toArray ?_ ?_ ?_ ?_ ?_ ?_;rfl;exact g.symm;exact R5.2;exact i40;exact aM q;rw[show(wn q).toArray.toList=wn q from rfl,l.out])|fail)
   refine UE (aG 4 49 rfl K4.2 rfl u40 i40) rfl ?_;exact⟨_,rfl,K4.1,by rw[o.out];rfl⟩
theorem AB:(prog.underlying 131).map (·.isRow)=some false:=kR
structure CbM(w W:Ur)(v:Ut)(l:List (Nat × Bs)):Prop where
 bl:kZ w W
 sm:SmZ w.heap.size W v l
theorem CbM.grow{w W W':Ur}{v:Ut}{l:List (Nat × Bs)}(h:CbM w W v l)(k:kZ W W'):CbM w W' v l:=⟨h.bl.trans (k.mono h.bl.size),h.sm.grow k⟩
theorem CbM.drew{w W:Ur}{v:Ut}{l:List (Nat × Bs)}(h:CbM w W v l):CbM w W.drew v l:=⟨h.bl.drew,h.sm.grow ⟨rfl,rfl,rfl,Uw _,λ_ _=>rfl⟩⟩
theorem Ik{W:Ur}{v:Ut}{l:List (Nat × Bs)}(h:SmZ B W v l):SmZ 0 W v l:=by
 rcases h with h|⟨g,c,k,d,-,b⟩
 ·exact U4 h
 ·exact UX ⟨g,c,k,d,WA _,b⟩
theorem JP(O:Ord N){Q:Nat->Prop}(n c:Nat)(X:0<n)(h0:0<c)(hn:n<=512)(h6:c*n<=400)(a:Nat->Nat)(T:Nat->List (Nat × Bs))(ha:∀i,i<n->a i<N)(hT:∀i,i<n->TOk N (T i))(hl:∀i,i<n->(T i).length=c)(va vb:Ut)(w:Ur)(h1:SLq Q w va n a)(L:GLq Q w vb n T):
 UH prog 139 #[va,vb] w (rZ w λe w'=>Sm w.heap.size w' e (dH N a T n)):=by
 obtain⟨I,Y,c1,rfl,-,-,h3,P⟩:=h1;obtain⟨b,f,c2,rfl,-,-,M,h4⟩:=L;have K1:Hid (CbM w w (.slice none 0 0) (dH N a T 0)):=⟨UR _ _,U4 ⟨rfl,rfl⟩⟩
 have k:Hid (Ord N/\(∀i,i<n->a i<N)/\(∀i,i<n->TOk N (T i))/\(∀i,i<n->(T i).length=c)/\(∀j,j<n->w.rangeAt I (Y+4*j) (wn (a j)))/\(∀j,j<n->∃x,w.cell? ⟨b,f+j,none⟩=some x/\SmQ Q w x (T j))/\I<w.heap.size/\b<w.heap.size/\0<c/\c*n<=400/\0<n):=⟨O,ha,hT,hl,P,h4,h3,M,h0,h6,X⟩
 obtain⟨d,R,U⟩:=Uy.1 u40;have HD:Hid (prog.underlying 49=some d/\d.isRow=true):=⟨R,U⟩
 go_enter func139,ntmps139;go_wp2;go_loopg [5,10] n (λm s5 s10 W=>∃i:Nat,i+m=n/\s10=iZ i/\Hid (CbM w W s5 (dH N a T i)))
 case atStart=>exact⟨0,oM,rfl,K1⟩
 case round =>
  obtain⟨i,he,rfl,J⟩:=hrel;by_cases s:i<n
  ·have h5:(i:Int)<(n:Int):=oM;have F:=Hid.mk' s;have hc:=lF I Y n c1 i s;have B0:=mk1 (RG.range_below (k.2.2.2.2.1 i s) J.bl k.2.2.2.2.2.2.1);obtain⟨r,t⟩:=hE (wr.heap.size);obtain⟨K,H⟩:=hE (wr.alloc (.cells #[uZ 0,uZ 0,uZ 0,uZ 0] 49));obtain⟨W2,E⟩:=hE (K.setCells r 0 (wn (a i)));have F1:Hid (Row K r [uZ 0,uZ 0,uZ 0,uZ 0]/\kZ wr K):=by rw[<-H.out,<-t.out];exact⟨aE wr _ _,aC wr _⟩
   have F2:Hid (Row W2 r (wn (a i))/\CbM w W2 u5 (dH N a T i)):=by
    rw[<-E.out];exact⟨F1.1.put rfl,J.grow (RG.below_setCells (by rw[t.out];exact Uw _) _ _ _ F1.2)⟩
   obtain⟨va,B⟩:=hE (U3 (wn (a i)).toArray);have HO:Hid ((wn (a i)).toArray.all (·.oneCell')=true):=aM _;go_wp2_with (first|(refine U6 rfl 49 _ rfl I (Y+4*i) ?_ (wn (a i)) d ?_ ?_ ?_ ?_ ?_;rfl;exact B0.out;exact HD.1;exact HD.2;exact i40;rw[B.out])|(refine bG (v:=jZ r) (w':=K) rfl (.alloc 49) rfl ?_ ?_;(rw[<-H.out,<-t.out];kernel_rfl))|(refine U2 rfl 49 _ _ rfl r 0 (wn (a i)).toArray ?_ ?_ ?_ ?_ ?_ ?_;rfl;exact B.symm;exact F1.1.2.2;exact i40;exact HO.out;rw[show(wn (a i)).toArray.toList=wn (a i) from rfl,E.out])|fail)
   obtain⟨x,Z,h7⟩:=k.2.2.2.2.2.1 i s;have HX:=mk2 Z h7;obtain⟨l,o⟩:=hE (dH N a T i);have C:dH N a T (i+1)=l++(T i).map (tmT N (a i)):=by rw[<-o.out];rfl
   have h8:l.length=c*i:=by rw[<-o.out];exact eR N a i λj hj=>k.2.2.2.1 j oM
   have h9:c*i+c<=c*n:=by have:=Yj c (yAX s);rwa[Yk]at this
   have G:Hid (l.length<=500/\(T i).length<=500/\0<(T i).length/\TOk N l):=⟨by have:=k.2.2.2.2.2.2.2.2.2.1;omega,by rw[k.2.2.2.1 i s];have:=k.2.2.2.2.2.2.2.2.2.1;omega,by rw[k.2.2.2.1 i s];exact k.2.2.2.2.2.2.2.2.1,by rw[<-o.out];exact oH k.1.pos i λj hj=>k.2.2.1 j oM⟩
   have HE:Hid (dH N a T (i+1)=l++(T i).map (tmT N (a i))):=C;rw[o.out]at F2;refine(gwL [pE u5,pE (.iface 131 u5),pE (.slice (some ⟨b,f,none⟩) n c2),pE (iZ i),pE (.pointer (some ⟨b,f+1*i,none⟩)),pE x,pE (.iface 131 x),pE (nv (a i)),pM (w.heap.size<=·) ((T i).map (tmT N (a i))),pM (w.heap.size<=·) (l++(T i).map (tmT N (a i))),pM (w.heap.size<=·) (l++(T i).map (tmT N (a i)))] (λW=>CbM w W u5 l/\Row W r (wn (a i))) (λW W' A h=>⟨h.1.grow A,h.2.below A⟩)).draws kR kR ⟨
    gO 5 u5,
    rF 0 15 u5 (.iface 131 u5) (λx W h=>h) (λ_=>rfl),
    gO 1 (.slice (some ⟨b,f,none⟩) n c2),
    gO 6 (iZ i),
    A0 2 17 3 18 (.slice (some ⟨b,f,none⟩) n c2) (iZ i) (.pointer (some ⟨b,f+1*i,none⟩)) (Vl 129 (.slice (some ⟨b,f,none⟩) n c2) (iZ i)) (atS b f n c2 i F.out) (λx W h=>h) (λx W h=>h) (λ_=>rfl),
    fF 131 4 19 b (f+1*i) x AB (λx W h=>h) (λW q=>by rw[Xk,q.1.bl.cell (p:=⟨b,f+i,none⟩) k.2.2.2.2.2.2.2.1];exact HX.1) (λ_=>rfl),
    rF 5 20 x (.iface 131 x) (λx W h=>h) (λ_=>rfl),
    iD 49 7 r 0 (wn (a i)) u40 i40 rfl (λW q=>q.2.2.1) (λ_=>rfl),
    oV 131 6 21 7 22 (pE x) 164 (λx W h=>⟨_,h,rfl⟩) (λz y W hx D q=>by
     obtain rfl:z=x:=hx;obtain rfl:y=nv (a i):=D;refine(eG k.1 (k.2.1 i F.out) 0 z (T i) (by have:=G.2.1;omega) (k.2.2.1 i F.out).szm (k.2.2.1 i F.out).lt W (HX.2.sm.grow q.1.bl)).mono ?_;rintro e W' ⟨u,rfl,A,V⟩;exact⟨_,rfl,A,V.q.mono λg S=>UC q.1.bl.size S⟩),
    oV 131 1 16 8 23 (pE u5) 65 (λx W h=>⟨_,h,rfl⟩) (λz y W hx D q=>by
     obtain rfl:z=u5:=hx;have D:=D;refine(cO 0 z y l ((T i).map (tmT N (a i))) (by rw[UA,UQ];have:=G.2.2.1;omega) G.1 (by rw[UQ];exact G.2.1) G.2.2.2.sz ((k.2.2.1 i F.out).tm k.1.pos (a i)).sz W (Ik q.1.sm) (UX D.sm)).mono ?_;rintro e W' ⟨u,rfl,A,V⟩;exact⟨_,rfl,A,V.q.mono λg S=>UC q.1.bl.size S⟩),
    DT 9 24 id (λx W h=>h),yCn⟩ ⟨F2.2.drew,F2.1⟩ ?_
   intro V W3 D S;have q:Hid (CbM w W3 (V 10) (dH N a T (i+1))):=⟨S.1.bl,UX (by rw[HE.out];exact D 10 (Xl (VR kR)))⟩
   dsimp only[bU,VK];go_wp2;go_roundg (gk-1)
   case measure=>omega
   case rel=>exact⟨i+1,oM,rfl,q⟩
  ·have h5:¬(i:Int)<(n:Int):=oM;obtain rfl:i=n:=oM;have q:Hid (kZ w wr/\Sm w.heap.size wr u5 (dH N a T i)):=⟨J.bl,by
    rcases J.sm with⟨-,h⟩|h
    ·exfalso;have:=eR N a i k.2.2.2.1;rw[h]at this;have L:=yAz k.2.2.2.2.2.2.2.2.1 k.2.2.2.2.2.2.2.2.2.2;rw[<-this]at L;exact absurd L (Nat.lt_irrefl _)
    ·exact h⟩
   go_wp2;go_ret;exact⟨_,rfl,q.1,q.2⟩
theorem rSc:(prog.underlying 49).map (·.isRow)=some true:=u40
theorem nSc:(prog.info? 49).map (·.size)=some 4:=i40
def nM(N x y n:Nat)(a:Nat->Nat)(i:Nat):Nat:=sPl N (sTi N (a i) x) (sTi N (a (n+i)) y)
structure FdS(w W:Ur)(K k4 k5 n i x y:Nat)(f:Nat->Nat):Prop where
 ar:Ar w W K 4 n i (λj=>wn (f j))
 r4:Row W k4 (wn x)
 r5:Row W k5 (wn y)
theorem FdS.grow{w W W':Ur}{K c n i x:Nat}{f:Nat->Nat}(h:FdS w W K b c n i x y f)(k:kZ W W'):FdS w W' K b c n i x y f:=⟨h.ar.grow k,h.r4.below k,h.r5.below k⟩
theorem FdS.drew{w W:Ur}{K k n i x:Nat}{f:Nat->Nat}(h:FdS w W K k b n i x y f):FdS w W.drew K k b n i x y f:=h.grow ⟨rfl,rfl,rfl,Uw _,λ_ _=>rfl⟩
theorem FdS.put{w W:Ur}{K k n i x:Nat}{f:Nat->Nat}(h:FdS w W K k b n i x y f)(g:w.heap.size<=K)(c:i<n)(d:k≠K)(e:b≠K):FdS w (W.setCells K (4*i) (wn (f i))) K k b n (i+1) x y f:=
 ⟨h.ar.put g c (λ_ _=>rfl),aR h.r4 d,aR h.r5 e⟩
theorem Oa(a b:Nat)(h:a+b<4611686018427387904)(w:Ur):(binOp .add 3 (iZ a) (iZ b)).run prog w=.ok (iZ ((a+b:Nat):Int)) w:=by
 have k:(a:Int)+(b:Int)<4611686018427387904:=oM;have d:-4611686018427387904<(a:Int)+(b:Int):=oM;have c:VS.wrap ((a:Int)+(b:Int))=((a+b:Nat):Int):=by rw[Yl];omega
 go_simp
theorem SQ(w:Ur)(x y:Nat):∃k,Hid ((w.alloc (.cells (wn x).toArray 49)).alloc (.cells (wn y).toArray 49)=k)/\kZ w k/\Row k w.heap.size (wn x)/\Row k (w.heap.size+1) (wn y)/\k.heap.size=w.heap.size+2:=by
 have hR:=aE (w.alloc (.cells (wn x).toArray 49)) (wn y) 49;rw[UB]at hR;exact⟨_,Hid.mk' rfl,(aC w _).alloc (by rw[UB];omega) _,(aE w _ _).alloc _,hR,by rw[UB,UB]⟩
theorem Jz(O:Ord N){Q:Nat->Prop}(n:Nat)(hn:n<=500)(a:Nat->Nat)(x y:Nat)(hx:x<N)(A:y<N)(ha:∀i,i<n+n->a i<N)(va:Ut)(w:Ur)(h1:SLq Q w va (n+n) a):
 UH prog 160 #[va,nv x,nv y] w (rZ w λe w'=>SLq (w.heap.size<=·) w' e n (nM N x y n a)):=by
 obtain⟨b,c,c1,rfl,-,-,h3,h0⟩:=h1;obtain⟨m,hm⟩:∃m,Hid (n+n=m):=⟨_,rfl⟩
 have hq:(m:Int).tdiv 2=(n:Int):=by rw[<-hm.out,X9 oM];omega
 obtain⟨T,h7,S,D,M,U⟩:=SQ w x y;obtain⟨C0,h5,he⟩:=Ch uS4 iS4 n oM;have o:=he T;obtain⟨K,hK⟩:∃K,Hid (T.heap.size=K):=⟨_,rfl⟩
 obtain⟨w3,P⟩:∃w3,Hid (T.alloc (.cells C0.toArray 49)=w3):=⟨_,rfl⟩
 have Y:Ar T w3 K 4 n 0 (λj=>wn (nM N x y n a j)):=Ar.new _ h5 P.out hK.out;rw[P.out,hK.out]at o;obtain⟨d,l⟩:∃k,Hid (w.heap.size=k):=⟨_,rfl⟩
 rw[l.out]at D M U;have HK:Hid (K=d+2/\w.heap.size<=d):=⟨by rw[<-hK.out,U],by rw[l.out];exact Uw _⟩
 have K1:Hid (FdS w w3 K d (d+1) n 0 x y (nM N x y n a)):=⟨⟨S.trans (Y.bl.mono S.size),Y.lt,Y.th,λj hj=>absurd hj (Yo _)⟩,D.below Y.bl,M.below Y.bl⟩
 have g:Hid (Ord N/\x<N/\y<N/\(∀i,i<n+n->a i<N)/\(∀j,j<n+n->w.rangeAt b (c+4*j) (wn (a j)))/\b<w.heap.size):=⟨O,hx,A,ha,h0,h3⟩
 obtain⟨vx,h4⟩:∃v,Hid (nv x=v):=⟨_,rfl⟩
 obtain⟨vy,h8⟩:∃v,Hid (nv y=v):=⟨_,rfl⟩
 obtain⟨s,E⟩:∃s,Hid (w.alloc (.cells (wn x).toArray 49)=s):=⟨_,rfl⟩
 have B1:Hid ((Ve 49 vx).run prog w=.ok (jZ d) s):=by rw[<-h4.out,<-E.out,<-l.out];exact boxS x w
 have B2:Hid ((Ve 49 vy).run prog s=.ok (.pointer (some ⟨d+1,0,none⟩)) T):=by
  have h:=boxS y s;rw[show s.heap.size=d+1 by rw[<-E.out,UB,l.out]]at h;have e:s.alloc (.cells (wn y).toArray 49)=T:=by rw[<-E.out];exact h7.out
  rw[e]at h;rw[<-h8.out];exact h
 rw[h4.out,h8.out,hm.out];clear O hx A ha h0 h3 S D M U Y h5 he hK P l h7;go_enter func160,ntmps160;go_wp2_with (first|(refine aF (u:=vx) (v:=jZ d) (w':=s) rfl 49 (.tmp 1) rfl ?_ ?_ ?_;rfl;exact B1.out)|(refine aF (u:=vy) (v:=.pointer (some ⟨d+1,0,none⟩)) (w':=T) rfl 49 (.tmp 2) rfl ?_ ?_ ?_;rfl;exact B2.out)|fail)
 clear o B1 B2 hq;go_loopg [15] n (λm s15 W=>∃i:Nat,i+m=n/\s15=iZ i/\Hid (FdS w W K d (d+1) n i x y (nM N x y n a)))
 case atStart=>exact⟨0,oM,rfl,K1⟩
 case round =>
  clear K1;obtain⟨i,hr,rfl,X⟩:=hrel;by_cases hi:i<n
  ·have hk:(i:Int)<(n:Int):=oM;have hs:(i:Int)<=600:=oM;have HL:=Hid.mk' hi;have KP:=X;clear X;go_wp2_with fail
   obtain⟨p1,J⟩:∃p,Hid (sTi N (a i) x=p):=⟨_,rfl⟩
   obtain⟨p2,F⟩:∃p,Hid (sTi N (a (n+i)) y=p):=⟨_,rfl⟩
   obtain⟨q,hg⟩:∃q,Hid (sPl N p1 p2=q):=⟨_,rfl⟩
   have HP:Hid (p1<N/\p2<N):=⟨by rw[<-J.out];exact V7 _ g.1.pos,by rw[<-F.out];exact V7 _ g.1.pos⟩
   have HQ:Hid (nM N x y n a i=q):=by show _=_;rw[<-hg.out,<-J.out,<-F.out];rfl
   have L:=λW=>iI g.1 (a i) x (g.2.2.2.1 i oM) g.2.1 W
   have G:=λW=>iI g.1 (a (n+i)) y (g.2.2.2.1 (n+i) oM) g.2.2.1 W
   have R:=λW=>mY g.1 p1 p2 HP.1 HP.2 W
   rw[J.out]at L;rw[F.out]at G;rw[hg.out]at R;have h6:∀W,kZ w W->W.rangeAt b (c+4*i) (wn (a i)):=λW f=>RG.range_below (g.2.2.2.2.1 i oM) f g.2.2.2.2.2
   have Z:∀W,kZ w W->W.rangeAt b (c+4*(n+i)) (wn (a (n+i))):=λW f=>RG.range_below (g.2.2.2.2.1 (n+i) oM) f g.2.2.2.2.2
   have hl:i<m:=by rw[<-hm.out];omega
   have hc:n+i<m:=by rw[<-hm.out];omega
   refine(gwL [pE (sZ K n n),pE (iZ i),pE (.slice (some ⟨b,c,none⟩) m c1),pE (iZ i),pE (.pointer (some ⟨b,c+4*i,none⟩)),pE (nv (a i)),pE (.iface 49 (nv (a i))),pE (nv x),pE (nv p1),pE (.iface 49 (nv p1)),pE (.slice (some ⟨b,c,none⟩) m c1),pE (sZ K n n),pE (iZ n),pE (iZ i),pE (iZ ((n+i:Nat):Int)),pE (.pointer (some ⟨b,c+4*(n+i),none⟩)),pE (nv (a (n+i))),pE (.iface 49 (nv (a (n+i)))),pE (nv y),pE (nv p2),pE (nv q),pE (.pointer (some ⟨K,0+4*i,none⟩))] (λW=>FdS w W K d (d+1) n i x y (nM N x y n a)) (λW W' C h=>h.grow C)).last 22 kR kR kR ⟨
    gO 7 (sZ K n n),
    gO 8 (iZ i),
    gO 0 (.slice (some ⟨b,c,none⟩) m c1),
    gO 8 (iZ i),
    A0 2 20 3 21 (.slice (some ⟨b,c,none⟩) m c1) (iZ i) (.pointer (some ⟨b,c+4*i,none⟩)) (Vl 124 (.slice (some ⟨b,c,none⟩) m c1) (iZ i)) (lF b c m c1 i hl) (λx W h=>h) (λx W h=>h) (λ_=>rfl),
    gLr 4 22 (λW f=>h6 W f.ar.bl) rSc nSc,
    rF 5 23 (nv (a i)) (.iface 49 (nv (a i))) (λx W h=>h) (λ_=>rfl),
    iD 49 4 d 0 (wn x) rSc nSc rfl (λW f=>f.r4.2.1) (λ_=>rfl),
    oV 49 6 24 7 25 (pE (nv (a i))) 79 (λx W h=>⟨_,h,rfl⟩) (λz u W hx A f=>by
     obtain rfl:z=nv (a i):=hx;obtain rfl:u=nv x:=A;refine(L W).mono ?_;rintro e W' ⟨u,rfl,C,rfl⟩;exact⟨_,rfl,C,rfl⟩),
    rF 8 26 (nv p1) (.iface 49 (nv p1)) (λx W h=>h) (λ_=>rfl),
    gO 0 (.slice (some ⟨b,c,none⟩) m c1),
    gO 7 (sZ K n n),
    rF 11 29 (sZ K n n) (iZ n) (λx W h=>h) (λ_=>rfl),
    gO 8 (iZ i),
    Jo .add 3 3 30 31 rfl (λa W r=>⟨_,_,iZ ((n+i:Nat):Int),r.n 12 30 kR kR,r.n 13 31 kR kR,kR,Oa n i oM W,rfl⟩),
    A0 10 28 14 32 (.slice (some ⟨b,c,none⟩) m c1) (iZ ((n+i:Nat):Int)) (.pointer (some ⟨b,c+4*(n+i),none⟩)) (Vl 124 (.slice (some ⟨b,c,none⟩) m c1) (iZ ((n+i:Nat):Int))) (lF b c m c1 (n+i) hc) (λx W h=>h) (λx W h=>h) (λ_=>rfl),
    gLr 15 33 (λW f=>Z W f.ar.bl) rSc nSc,
    rF 16 34 (nv (a (n+i))) (.iface 49 (nv (a (n+i)))) (λx W h=>h) (λ_=>rfl),
    iD 49 5 (d+1) 0 (wn y) rSc nSc rfl (λW f=>f.r5.2.1) (λ_=>rfl),
    oV 49 17 35 18 36 (pE (nv (a (n+i)))) 79 (λx W h=>⟨_,h,rfl⟩) (λz u W hx A f=>by
     obtain rfl:z=nv (a (n+i)):=hx;obtain rfl:u=nv y:=A;refine(G W).mono ?_;rintro e W' ⟨u,rfl,C,rfl⟩;exact⟨_,rfl,C,rfl⟩),
    oV 49 9 27 19 37 (pE (nv p1)) 80 (λx W h=>⟨_,h,rfl⟩) (λz u W hx A f=>by
     obtain rfl:z=nv p1:=hx;obtain rfl:u=nv p2:=A;refine(R W).mono ?_;rintro e W' ⟨u,rfl,C,rfl⟩;exact⟨_,rfl,C,rfl⟩),
    A0 0 18 1 19 (sZ K n n) (iZ i) (.pointer (some ⟨K,0+4*i,none⟩)) (Vl 124 (sZ K n n) (iZ i)) (lF K 0 n n i HL.out) (λx W h=>h) (λx W h=>h) (λ_=>rfl),yCn⟩ KP.drew ?_
   intro V W3 H I;have B:V 20=nv q:=H 20 dC;have r:V 21=.pointer (some ⟨K,0+4*i,none⟩):=H 21 dC;obtain⟨W4,h9⟩:∃W4,Hid (W3.setCells K (4*i) (wn q)=W4):=⟨_,rfl⟩
   have K4:Hid (FdS w W4 K d (d+1) n (i+1) x y (nM N x y n a)):=by
    have h:=I.put (by have:=HK.out;omega) hi (by have:=HK.out;omega) (by have:=HK.out;omega);rw[HQ.out,h9.out]at h;exact h
   have HT:Hid (W3.there K (4*i) 4):=λt ht=>by
    have:=I.ar.th (4*i+t) oM;rwa[UD]at this
   dsimp only[bU,VK,Xn,Xo];simp only[UN,Us,Uu,Uv];obtain⟨vq,h2⟩:∃v,Hid (nv q=v):=⟨_,rfl⟩
   rw[B,r,h2.out,UD];clear H I B r KP L G R Z h6;generalize V 0=s0;generalize V 1=s1;generalize V 2=s2;generalize V 3=s3;generalize V 4=s4;generalize V 5=s5;generalize V 6=s6;generalize V 7=s7;generalize V 8=s8;generalize V 9=s9;generalize V 10=s10;generalize V 11=s11;generalize V 12=s12;generalize V 13=s13;generalize V 14=s14;generalize V 15=s15;generalize V 16=s16;generalize V 17=s17;generalize V 18=s18;generalize V 19=s19;go_wp2_with (first|(refine U2 rfl 49 _ _ rfl K (4*i) (wn q).toArray ?_ ?_ ?_ ?_ ?_ ?_;rfl;exact h2.symm;exact HT.out;exact i40;exact aM q;rw[show(wn q).toArray.toList=wn q from rfl,h9.out])|fail)
   go_roundg (gk-1)
   case measure=>omega
   case rel=>exact⟨i+1,oM,rfl,K4⟩
  ·have hk:¬(i:Int)<(n:Int):=oM;obtain rfl:i=n:=oM;have K4:Hid (kZ w wr/\SLq (w.heap.size<=·) wr (sZ K i i) i (nM N x y i a)):=⟨X.ar.bl,K,0,i,rfl,Uw _,by have:=HK.out;omega,X.ar.lt,λj hj=>by rw[UD];exact X.ar.rw j hj⟩
   clear X;go_wp2;go_ret;exact⟨_,rfl,K4.1,K4.2⟩
end
section
open Go.RowKit Go.Sort Go.Deep
theorem aN{w k:Ur}{g:Nat}{z:List Ut}{T:U8}(c:Hid (w.heap.size=g))(b:Hid (w.alloc (.cells z.toArray T)=k)):Hid (kZ w k/\Row k g z):=by
 rw[<-b.out,<-c.out];exact⟨aC _ _,aE w _ _⟩
theorem ET{w b k:Ur}{g:Nat}{z vs:List Ut}{T:U8}(d:Hid (w.heap.size=g))(e:Hid (w.alloc (.cells z.toArray T)=b))(f:Hid (b.setCells g 0 vs=k))(c:vs.length=z.length):Hid (b.there g 0 vs.toArray.size/\kZ w k/\Row k g vs):=by
 have h:=(aN d e).out;rw[<-f.out];exact⟨by rw[VC,c];exact h.2.2.2,RG.below_setCells (by rw[d.out];exact Uw _) _ _ _ h.1,h.2.put c⟩
structure Kz(Z:Nat->Prop)(w w':Ur):Prop where
 os:w'.os=w.os
 tape:w'.tape=w.tape
 output:w'.output=w.output
 size:w.heap.size<=w'.heap.size
 block:∀g,g<w.heap.size->Z g->w'.heap[g]? = w.heap[g]?
section
variable {Z:Nat->Prop}{w w' W:Ur}{k o:Nat}{vs:List Ut}
theorem Kz.of(h:kZ w w'):Kz Z w w':=⟨h.os,h.tape,h.output,h.size,λg k _=>h.block g k⟩
theorem Kz.trans(h:Kz Z w w')(k:Kz Z w' W):Kz Z w W:=⟨k.os.trans h.os,k.tape.trans h.tape,k.output.trans h.output,UC h.size k.size,λg c b=>(k.block g (Ux c h.size) b).trans (h.block g c b)⟩
theorem Kz.bel(h:Kz Z w w')(b:∀g,Z g):kZ w w':=⟨h.os,h.tape,h.output,h.size,λg k=>h.block g k (b g)⟩
theorem Kz.kq{Q:Nat->Prop}(h:Kz Z w w')(k:∀g,Q g->Z g):Kq Q w w':=⟨h.size,λg c b=>h.block g b (k g c)⟩
theorem Kz.set(h:Kz Z w W)(b:w.heap.size<=k\/¬Z k):Kz Z w (W.setCells k o vs):=by
 obtain⟨d,f,e⟩:=mX k vs o W;refine⟨d.trans h.os,f.trans h.tape,e.trans h.output,by rw[setCells_size];exact h.size,λg i c=>?_⟩;rw[aH k vs o W g (by rintro rfl;rcases b with b|b;omega;exact b c)];exact h.block g i c
theorem Kz.range(h:Kz Z w w')(b:Z k)(c:k<w.heap.size)(d:w.rangeAt k o vs):w'.rangeAt k o vs:=(h.kq λ_ h=>h).range b c d
end
structure LsS(Z:Nat->Prop)(w W:Ur)(K n i:Nat)(a:Nat->Nat):Prop where
 kz:Kz Z w W
 lt:K<W.heap.size
 th:W.there K 0 (4*n)
 rw:∀j,j<i->W.rangeAt K (4*j) (wn (a j))
theorem Da{w w':Ur}{k o n:Nat}(h:w.there k o n)(e:w'.heap[k]? = w.heap[k]?):w'.there k o n:=λj b=>by
 have:=h j b;rw[UW (a:=⟨k,o+j,none⟩) e,VU (a:=⟨k,o+j,none⟩) e];exact this
theorem LsS.grow{Z:Nat->Prop}{w W W':Ur}{K n i:Nat}{a:Nat->Nat}(h:LsS Z w W K n i a)(b:Z K)(k:Kz Z W W'):LsS Z w W' K n i a:=
 ⟨h.kz.trans k,Ux h.lt k.size,Da h.th (k.block K h.lt b),λj c=>k.range b h.lt (h.rw j c)⟩
theorem LsS.put{Z:Nat->Prop}{w W:Ur}{K n i:Nat}{a:Nat->Nat}(h:LsS Z w W K n i a)(b:w.heap.size<=K)(d:i<n):LsS Z w (W.setCells K (4*i) (wn (a i))) K n (i+1) a:=by
 refine⟨h.kz.set (U4 b),by rw[setCells_size];exact h.lt,VW h.th _ _ _,λj c=>?_⟩;by_cases e:j=i
 ·subst e;exact VO W K _ _ λt k=>by
   have k:t<4:=k;have:=h.th (4*j+t) oM;rwa[UD]at this
 ·exact Vh (h.rw j oM) K _ _ (UX (by
   show 4*j+4<=4*i\/4*i+4<=4*j;omega))
theorem zZ(n:Nat)(N:n<=512)(f:Xs)(cap:Array Ut)(hf:∀args W,(callFunc f args).run prog W=.ok (.enter f args) W)(a:Nat->Nat)(Z:Nat->Prop)(I:Nat->Ur->Prop)(w:Ur)(L:∀g,w.heap.size<=g->Z g)(q:∀W,kZ w W->I 0 W)(v:∀i W K o vs,w.heap.size<=K->I i W->I i (YL W K o vs))
 (M:∀i W,i<n->Kz Z w W->I i W->UH prog f (#[iZ i]++cap) W (Ret λe W'=>Kz Z W W'/\I (i+1) W'/\e=nv (a i))) :
 UH prog 132 #[iZ n,.func (.func f) #[] cap] w (Ret λe w'=>Kz Z w w'/\I n w'/\SLq (w.heap.size<=·) w' e n a/\∃g c,e=sZ g n c):=by
 obtain⟨C0,r,x⟩:=Ch uS4 iS4 n N;have k:=x w;obtain⟨K,l⟩:=hE (w.heap.size);obtain⟨A,d⟩:=hE (w.alloc (.cells C0.toArray 49));have p:Ar w A K 4 n 0 (λ_=>[]):=Ar.new _ r d.out l.out;rw[d.out,l.out]at k;have T:Hid (LsS Z w A K n 0 a/\I 0 A):=⟨⟨Kz.of p.bl,p.lt,p.th,λj D=>absurd D (Yo _)⟩,q A p.bl⟩
 have U:=mk1 M;have Q:=mk1 hf;have z:Hid (Z K/\w.heap.size<=K/\∀i W o vs,I i W->I i (YL W K o vs)):=⟨L K (YQ l.out),YQ l.out,λi W o vs=>v i W K o vs (YQ l.out)⟩
 obtain⟨fv,u⟩:=hE (Z2 (.func f) #[] cap);rw[u.out];clear p r x M hf d l q v L;go_enter func132,ntmps132;go_wp2;clear k;go_loopg [11] n (λm s11 W=>∃i:Nat,i+m=n/\s11=iZ i/\Hid (LsS Z w W K n i a/\I i W))
 case atStart=>exact⟨0,oM,rfl,T⟩
 case round =>
  obtain⟨i,O,rfl,b⟩:=hrel;by_cases E:i<n
  ·have C:(i:Int)<(n:Int):=oM;have F:=lF K 0 n n i E;rw[UD]at F;have P:=mk1 E;go_wp2_with (first|(refine rR rfl 16 17 _ rfl f cap (iZ i) ?_ ?_ Q.out (U i wr P.out b.1.kz b.2) ?_;exact u.symm;rfl;intro e W' hR;refine Zh ?_)|fail)
   obtain⟨J,H,rfl⟩:=hR;have B:=b.1.grow z.1 J;obtain⟨G,y⟩:=hE (W'.setCells K (4*i) (wn (a i)));have R:Hid (LsS Z w G K n (i+1) a/\I (i+1) G):=by rw[<-y.out];exact⟨B.put z.2.1 E,z.2.2 _ _ _ _ H⟩
   have S:Hid (W'.there K (4*i) 4):=λt V=>by
    have:=B.th (4*i+t) oM;rwa[UD]at this
   obtain⟨X,s⟩:=hE (nv (a i));rw[s.out];clear J H B b;show wpList _ _ _ _ _ _;go_wp2_with (first|(refine U2 rfl 49 _ _ rfl K (4*i) (wn (a i)).toArray ?_ ?_ ?_ ?_ ?_ ?_;rfl;exact s.symm;exact S.out;exact i40;exact aM _;rw[show(wn (a i)).toArray.toList=wn (a i) from rfl,y.out])|fail)
   go_roundg (gk-1)
   case measure=>omega
   case rel=>exact⟨i+1,oM,rfl,R⟩
  ·have C:¬(i:Int)<(n:Int):=oM;obtain rfl:i=n:=oM;have s:Hid (Kz Z w wr/\I i wr/\SLq (w.heap.size<=·) wr (sZ K i i) i a):=⟨b.1.kz,b.2,K,0,i,rfl,Uw _,z.2.1,b.1.lt,λj D=>by rw[UD];exact b.1.rw j D⟩
   go_wp2;go_ret;exact⟨_,rfl,s.1,s.2.1,s.2.2,_,_,rfl⟩
theorem GI(n:Nat)(c:n<=512)(f:Xs)(cap:Array Ut)(hf:∀args W,(callFunc f args).run prog W=.ok (.enter f args) W)(a:Nat->Nat)(Z:Nat->Prop)(I:Nat->Ur->Prop)(w:Ur)(m:∀g,w.heap.size<=g->Z g)(k:∀W,kZ w W->I 0 W)(b:∀i W K o vs,w.heap.size<=K->I i W->I i (YL W K o vs))
 (p:∀i W,i<n->Kz Z w W->I i W->UH prog f (#[iZ i]++cap) W (Ret λe W'=>Kz Z W W'/\I (i+1) W'/\e=nv (a i))) :
 UH prog 132 #[iZ n,.func (.func f) #[] cap] w (Ret λe w'=>Kz Z w w'/\I n w'/\SLq (w.heap.size<=·) w' e n a):=
 (zZ n c f cap hf a Z I w m k b p).mono λ_ _ ⟨v,h,j,d,l,_⟩=>⟨v,h,j,d,l⟩
theorem jB(n:Nat)(c:n<=512)(f:Xs)(cap:Array Ut)(hf:∀args W,(callFunc f args).run prog W=.ok (.enter f args) W)(a:Nat->Nat)(w:Ur)
 (j:∀i W,i<n->kZ w W->UH prog f (#[iZ i]++cap) W (rZ W λe W'=>e=nv (a i))) :
 UH prog 132 #[iZ n,.func (.func f) #[] cap] w (rZ w λe w'=>SLq (w.heap.size<=·) w' e n a):=by
 refine(GI n c f cap hf a (λ_=>True) (λ_ _=>True) w (λ_ _=>trivial) (λ_ _=>trivial) (λ_ _ _ _ _ _ _=>trivial) λi W g d _=>?_).mono ?_
 ·refine(j i W g (d.bel λ_=>trivial)).mono ?_;rintro e w' ⟨v,rfl,b,k⟩;exact⟨v,rfl,Kz.of b,trivial,k⟩
 ·rintro e w' ⟨v,rfl,b,-,k⟩;exact⟨v,rfl,b.bel λ_=>trivial,k⟩
end
section
open Go.RowKit Go.Sort Go.Deep
variable {P:Nat}[NeZero P]{N:Nat}
abbrev w1c(x:Nat):List Ut:=[uZ x,uZ 0,uZ 0,uZ 0]
theorem Oo{x:Nat}(hx:x<18446744073709551616):wn x=w1c x:=by
 unfold wn;rw[US hx,Xg hx,Xg (by omega:x<340282366920938463463374607431768211456),Xg (by omega:x<6277101735386680763835789423207666416102355444464034512896)];rfl
theorem zW(x:Nat)(hx:x<18446744073709551616):Gives 70 #[uZ x] (nv x):=by
 unfold nv;rw[Oo hx];intro w;go_enter func70,ntmps70;refine RG.M.enter [(0,.v (uZ x))] 6 kR ?_;intro a0 c;repeat refine Uz ?_
 refine c.T [.m 0] [(0,RG.z 4)] [] [RG.z 4] [0,2] ⟨mk 0 49,yCn⟩ ?_;intro k g f d;repeat refine Uz ?_
 refine d.T [.x (uZ x),.x (.agg (w1c x).toArray),.x (.agg (w1c x).toArray),.u 0] [] [(0,3,w1c x)] [w1c x] [2] ⟨st,st,st,RG.pt i40,yCn⟩ ?_;intro a2 e b;refine Wr ?_;refine UE (v:=.agg (w1c x).toArray) (aI b.st 2 49 rfl 0 _ rfl (b.at (s:=(.p 0 0))) u40 i40) b.sl.defers ?_;exact⟨_,rfl,b.st.bel.below,rfl⟩
theorem MJ(v i:Nat)(hv:v<18446744073709551616):v/2^i<18446744073709551616:=Nat.lt_of_le_of_lt (Nat.div_le_self _ _) hv
theorem rU{w b W W':Ur}{k x:Nat}(c:Hid (w.heap.size=k))(g:Hid (w.alloc (.cells (RG.z 4).toArray 49)=b))(e:kZ b W)(f:Hid (W.setCells k 0 (wn x)=W')):Hid (W.there k 0 4/\kZ w W'/\Row W' k (wn x)):=by
 have h:=(aN c g).out;have d:=h.2.below e;rw[<-f.out];exact⟨d.2.2,RG.below_setCells (YQ c.out) _ _ _ (h.1.trans (e.mono h.1.size)),d.put rfl⟩
theorem Jc(v i k:Nat)(hv:v<18446744073709551616)(B:i<64)(w:Ur)(n:k<w.heap.size)(o:w.cell? ⟨k,0,none⟩=some (uZ v)):UH prog 129 #[iZ i,jZ k] w (rZ w λe w'=>e=nv (v/2^i%2)):=by
 obtain⟨q,g⟩:=hE (w.heap.size);obtain⟨l,b⟩:=hE (w.alloc (.cells (RG.z 4).toArray 49));have r:=aN g b;have t:l.cell? ⟨k,0,none⟩=some (uZ v):=by rw[r.1.cell (p:=⟨k,0,none⟩) n];exact o
 have f:bits .and .u64 ((v:Int)/2^i) 1=((v/2^i%2:Nat):Int):=by
  rw[<-and_one _ (MJ v i hv),Int.natCast_ediv,Int.natCast_pow];rfl
 have m:=mk1 (zW (v/2^i%2) (by omega));generalize v/2^i%2=x at f m⊢;have s:=mk1 f;clear o n f;go_enter func129,ntmps129;go_wp2_with (first|(refine alR 3 g b ?_)|fail)
 rw[s.out];refine(m l).mono ?_;rintro e u ⟨z,rfl,j,rfl⟩;obtain⟨a,c⟩:=hE (u.setCells q 0 (wn x));have R:=rU g b j c;obtain⟨y,d⟩:=hE (nv x);rw[d.out];go_wp2_with (first|(refine stR 3 c d R.1 i40 (aM x) ?_)|fail)
 refine UE (aG 3 49 rfl R.2.2 rfl u40 i40) rfl ?_;exact⟨_,rfl,R.2.1,rfl⟩
theorem Pm(O:Ord N)(v i k g:Nat)(hv:v<18446744073709551616)(G:i<64)(w:Ur)(t:k<w.heap.size)(c:g<w.heap.size)(B:w.cell? ⟨k,0,none⟩=some (uZ v))(f:w.cell? ⟨g,0,none⟩=some (.func (.func 129) #[] #[jZ k])):UH prog 130 #[iZ i,jZ g] w (rZ w λe w'=>e=nv (sMi N (v/2^i%2) 1)):=by
 obtain⟨q,o⟩:=hE (w.heap.size);obtain⟨a,b⟩:=hE (w.alloc (.cells (RG.z 4).toArray 49));have r:=aN o b;have u:a.cell? ⟨g,0,none⟩=some (.func (.func 129) #[] #[jZ k]):=by rw[r.1.cell (p:=⟨g,0,none⟩) c];exact f
 have y:=mk1 (Jc v i k hv G a (Ux t r.1.size) (by rw[r.1.cell (p:=⟨k,0,none⟩) t];exact B));have z:=mk1 (Dl O (v/2^i%2) 1 (by have:=O.n2;omega) (by have:=O.n2;omega));have F:=mk1 (zW 1 (by decide));generalize v/2^i%2=x at y z⊢;obtain⟨vf,d⟩:=hE (Z2 (.func 129) #[] #[jZ k]);rw[d.out]at u;clear B t f c;go_enter func130,ntmps130;go_wp2_with (first|(refine alR 3 o b ?_)|(refine rR rfl 4 5 _ rfl 129 #[jZ k] (iZ i) ?_ ?_ (λ_ _=>kR) y.out ?_;exact d.symm;rfl;intro e W' hR;refine Zh ?_)|fail)
 obtain⟨m,rfl⟩:=hR;show wpList _ _ _ _ _ _;go_wp2_with fail
 refine(F W').mono ?_;rintro e E ⟨C,rfl,l,rfl⟩;go_wp2_with fail
 refine(z E).mono ?_;rintro e D ⟨C,rfl,s,rfl⟩;obtain⟨I,n⟩:=hE (D.setCells q 0 (wn (sMi N x 1)));have R:=rU o b (m.trans ((l.trans (s.mono l.size)).mono m.size)) n;obtain⟨H,j⟩:=hE (nv (sMi N x 1));rw[j.out];go_wp2_with (first|(refine stR 3 n j R.1 i40 (aM _) ?_)|fail)
 refine UE (aG 3 49 rfl R.2.2 rfl u40 i40) rfl ?_;exact⟨_,rfl,R.2.1,rfl⟩
end
namespace RG
open Go Go.RowKit
variable {P:VD}{ops:Array Vk}{Q:Yq->Act->Ur->Prop}{w:Ur}{a0:Act}{F:Flow}
def nC(k:Array Vk):Nat->Nat->Nat->Bool
 | 0,i,j=>depOn k i j
 | f+1,i,j=>depOn k i j || (VG i).any (λx=>depOn k i x && nC k f x j)
def mG(k:Array Vk)(n:Nat):Bool:=(VG n).all (λj=>nC k 5 n j) && (VG k.size).all (λi=>decide (i<=n) || depOn k i (i-1))
theorem yI{n i:Nat}(h:mG ops n=true)(c:n<i)(b:i<ops.size):depOn ops i (i-1)=true:=by
 unfold mG at h;rw[UL]at h;have k:=Va.1 h.2 i (V0.2 b);rw[Xx,decide_eq_true_eq]at k;rcases k with k|k
 ·omega
 ·exact k
theorem wQ{L:Array Bool}{a:Act}(b:InvF F ops a0 L a w):∀(f i j:Nat),i<ops.size->on L i=true->nC ops f i j=true->on L j=true
 | 0,i,j,his,hi,h=>by
  have k:=U0 his;unfold nC depOn at h;rw[k]at h;exact Ba (ho:=k) b h hi
 | f+1,i,j,his,hi,h=>by
  have k:=U0 his;unfold nC at h;rw[Xx]at h;have hd:∀x,depOn ops i x=true->on L x=true:=λx hx=>by
   unfold depOn at hx;rw[k]at hx;exact Ba (ho:=k) b hx hi
  rcases h with h|h
  ·exact hd j h
  ·obtain⟨x,hx,c⟩:=yA6.1 h;rw[UL]at c;exact wQ b f x j (by have:=V0.1 hx;omega) (hd x c.1) c.2
theorem zC{n:Nat}(D:∀i,n<i->i<ops.size->depOn ops i (i-1)=true)(v:∀(i:Nat) (o:Vk),ops[i]? = some o->∀e∈o.after,VP .any e=true->e.on<i):∀(c:Nat) (L:Array Bool) (a:Act) (w:Ur) (m:Nat),n<=m->m<=ops.size->L.size=ops.size->(∀j,on L j=true↔j<m)->unl L=c->wpList P ops Q (ops.toList.drop m) a w->wpAny P .any ops Q c L a w:=by
 intro c;induction c with
 | zero =>
  intro L a w m y u t k A h;have q:m=ops.size:=by
   rcases Ws m ops.size with d|d
   ·have:=kN A m oM;rw[k]at this;omega
   ·omega
  rw[q,<-UK,yA4]at h;refine⟨?_,h⟩;apply List.eq_nil_iff_forall_not_mem.2;intro i r;obtain⟨d,o,ho,-⟩:=mem_ready.1 r;have f:=(k i).2 (by rw[q];exact(UZ.1 ho).1);unfold on at f;rw[UI]at d f;cases hh:L[i]? with
  | none=>rw[hh]at d;cases d
  | some b=>rw[hh]at d f;rw[show b=false from d]at f;cases f
 | succ c ih =>
  intro L a w m y u t k A h;have s:∀i,i∈U7 .any ops L->i=m:=λi r=>by
   obtain⟨d,o,ho,p⟩:=mem_ready.1 r;have g:on L i=false:=by
    unfold on;rw[UI]at d⊢;cases hh:L[i]? with
    | none=>rfl
    | some b=>rw[hh]at d;exact d
   have l:=(UZ.1 ho).1;rcases Nat.lt_trichotomy i m with f|f|f
   ·rw[(k i).2 f]at g;cases g
   ·exact f
   ·have:=(k (i-1)).1 (gC ho p (D i oM l));omega
  refine⟨λB=>?_,λi r=>?_⟩
  ·rcases Ws m ops.size with d|d
   ·exfalso;have ho:ops[m]? = some ops[m]:=U0 _;have g:on L m=false:=by
     cases x:on L m with
     | false=>rfl
     | true=>have:=(k m).1 x;omega
    have:m∈U7 .any ops L:=mem_ready.2 ⟨?_,_,ho,λe z x=>(k e.on).2 (v m _ ho e z x)⟩
    ·rw[B]at this;cases this
    ·unfold on at g;rw[UI,U0 (by rw[t];exact d)]at g⊢;exact g
   ·have q:m=ops.size:=oM;rw[q,<-UK,yA4]at h;exact h
  ·obtain rfl:=s i r;obtain⟨d,o,ho,p⟩:=mem_ready.1 r;have l:=(UZ.1 ho).1;have q:ops.toList.drop i=o :: ops.toList.drop (i+1):=by
    rw[List.drop_eq_getElem_cons (by rw[UK];exact l)];have:ops.toList[i]? = some o:=by rw[Vq];exact ho
    rw[UG (by rw[UK];exact l)]at this;rw[UO.inj this]
   rw[q]at h;have x:wpOp P ops Q i (λz w'=>wpList P ops Q (ops.toList.drop (i+1)) z w') a w:=by
    unfold wpOp;rw[ho];exact h
   refine ZB (λz w' C=>ih _ z w' (i+1) oM oM (by rw[Array.size_setIfInBounds];exact t) (λj=>?_) (by have:=lN d;omega) C) x;rw[eC (by rw[t];omega)];constructor
   ·intro g;rw[Xx]at g;rcases g with g|g
    ·have:=(k j).1 g;omega
    ·have:i=j:=by simpa using g
     omega
   ·intro g;by_cases f:j<i
    ·rw[(k j).2 f,Bool.true_or]
    ·rw[show j=i by omega];simp
theorem xW(F:Flow)(n:Nat)(Z:Array Bool->Act->Prop)(T:n<ops.size)(v:mG ops n=true)(J:P.follows .mixedOrders=true)(R:RegF P Q F ops a0 n)(N:∀b,F.B b w.drew)(M:∀L,(∀i,on L i=false)->Z L a0)
 (B:∀(k:Nat) (o:Vk) (L:Array Bool) (a:Act) (w:Ur),k<n->(∀i,on L i=true->i<n)->ops[k]? = some o->on L k=false->(∀e∈o.after,VP .any e=true->on L e.on=true)->InvF F ops a0 L a w->Z L a->wpOp P ops Q k (λA w'=>InvF F ops a0 (L.setIfInBounds k true) A w'/\Z (L.setIfInBounds k true) A) a w)
 (S:∀(V:Nat->Ut) (w':Ur),(∀i,i<n->F.kill i=[]->F.R i (V i) w')->(∀b,F.killB b=[]->F.B b w')->(∃L a,Z L a/\∀i,i<n->on L i=true/\∀d,aX ops i=some d->a.tmps[d]? = some (V i))->wpList P ops Q (ops.toList.drop n) (bU V (ops.toList.take n) 0 a0) w'):(V6 id ops true).wp P Q a0 w:=by
 have D:∀(i:Nat) (o:Vk),ops[i]? = some o->∀e∈o.after,VP .any e=true->e.on<i:=λi o ho=>(R.of ho).1
 have key:∀(g:Nat) (L:Array Bool) (a:Act) (w:Ur),unl L=g->(∀j,n<=j->on L j=false)->InvF F ops a0 L a w->Z L a->wpAny P .any ops Q g L a w:=by
  intro g;induction g with
  | zero =>
   intro L a w C c q H;have:=kN C n (by rw[q.size];omega);rw[c n (Uw _)]at this;cases this
  | succ g ih =>
   intro L a w C c q H;by_cases f:∀j,j<n->on L j=true
   ·have m:∀j,on L j=true↔j<n:=λj=>⟨λp=>(by
     rcases Ws j n with h|h
     ·exact h
     ·rw[c j h]at p;cases p),f j⟩
    obtain⟨V,t,E⟩:=q.all;have K:=q.act R oM m t;have u:∀l:List Nat,l=[]->∀x∈l,on L x=false:=λl I x hx=>by rw[I]at hx;cases hx
    have r:=S V w (λj p O=>E j (f j p) (u _ O)) (λb G=>q.base b (u _ G)) ⟨L,a,H,λi z=>⟨f i z,λd hd=>t i d (f i z) hd⟩⟩;rw[<-K]at r;exact zC (λi s y=>yI v s y) D _ L a w n (Uw _) oM q.size m C r
   ·refine⟨λI=>?_,λi z=>?_⟩
    ·exact absurd (λj p=>q.full R I j oM) f
    ·obtain⟨s,o,ho,m⟩:=mem_ready.1 z;have t:=(UZ.1 ho).1;have G:on L i=false:=by
      unfold on;rw[UI]at s⊢;cases hh:L[i]? with
      | none=>rfl
      | some b=>rw[hh]at s;exact s
     have u:i<n:=by
      rcases Ws i n with h|h
      ·exact h
      ·exfalso;rcases Ws n i with y|y
       ·have:=gC ho m (yI v y t);rw[c (i-1) oM]at this;cases this
       ·obtain rfl:i=n:=oM;refine f λj p=>?_
        unfold mG at v;rw[UL]at v;have r:=Va.1 v.1 j (V0.2 p);unfold nC at r;rw[Xx]at r;rcases r with r|r
        ·exact gC ho m r
        ·obtain⟨x,hx,E⟩:=yA6.1 r;rw[UL]at E;exact wQ q 4 x j (by have:=V0.1 hx;omega) (gC ho m E.1) E.2
     refine ZB (λA w' r=>ih _ A w' (by have:=lN s;omega) (λj p=>?_) r.1 r.2) (B i o L a w u (λj p=>?_) ho G m q H)
     ·rw[eC (by rw[q.size];exact t),c j p];simp only[Bool.false_or,beq_eq_false_iff_ne];omega
     ·rcases Ws j n with h|h
      ·exact h
      ·rw[c j h]at p;cases p
 have c:∀i,on (Array.replicate ops.size false) i=false:=λi=>by
  unfold on;rw[UI,Array.getElem?_replicate];by_cases h:i<ops.size
  ·rw[yCl h];rfl
  ·rw[yCm h];rfl
 refine wp_region_any J (key _ _ a0 _ ?_ (λj _=>c j) ⟨Array.size_replicate,(λi o _ h=>by rw[c]at h;cases h),rfl,rfl,λ_ _=>rfl,⟨λ_=>WR,λi d h=>(by rw[c]at h;cases h),λi h=>(by rw[c]at h;cases h)⟩,λb _=>N b⟩ (M _ c));unfold unl;rw[Array.toList_replicate,List.countP_replicate];simp
theorem qF(F:Flow)(n:Nat)(e:n<ops.size)(q:mG ops n=true)(f:P.follows .mixedOrders=true)(R:RegF P Q F ops a0 n)(p:∀b,F.B b w.drew)
 (r:∀(V:Nat->Ut) (w':Ur),(∀i,i<n->F.kill i=[]->F.R i (V i) w')->(∀b,F.killB b=[]->F.B b w')->wpList P ops Q (ops.toList.drop n) (bU V (ops.toList.take n) 0 a0) w'):(V6 id ops true).wp P Q a0 w:=
 xW F n (λ_ _=>True) e q f R p (λ_ _=>trivial) (λk o L a w d c l g j m _=>ZB (λ_ _ h=>⟨h,yCn⟩) (Ey R d c l g j m)) λV w' d c _=>r V w' d c
theorem Gw.tail2(G:Gw)(n:Nat)(k:(decide (n<ops.size) && mG ops n)=true)(f:P.follows .mixedOrders=true)(e:Be ops a0.tmps.size=true)(h:iK P Q G.flow ops a0 0 (ops.toList.take n))(d:G.B w.drew)
 (j:∀(V:Nat->Ut) (w':Ur),(∀i,i<n->G.R i (V i) w')->G.B w'->wpList P ops Q (ops.toList.drop n) (bU V (ops.toList.take n) 0 a0) w'):(V6 id ops true).wp P Q a0 w:=by
 rw[UL,decide_eq_true_eq]at k;exact qF G.flow n k.1 k.2 f (Gw.reg e h) (λ_=>d) λV w' c g=>j V w' (λi b=>c i b rfl) (g 0 rfl)
end RG
section
open Go.RowKit Go.Sort Go.Deep
variable {P:Nat}[NeZero P]{N:Nat}
structure FdM(w W:Ur)(K k4 k5 n i x y:Nat)(f:Nat->List (Nat × Bs)):Prop where
 ls:LsI w W K n i f
 r4:Row W k4 (wn x)
 r5:Row W k5 (wn y)
theorem FdM.grow{w W W':Ur}{K c n i x:Nat}{f:Nat->List (Nat × Bs)}(h:FdM w W K b c n i x y f)(k:kZ W W'):FdM w W' K b c n i x y f:=⟨h.ls.grow k,h.r4.below k,h.r5.below k⟩
theorem FdM.drew{w W:Ur}{K k n i x:Nat}{f:Nat->List (Nat × Bs)}(h:FdM w W K k b n i x y f):FdM w W.drew K k b n i x y f:=h.grow ⟨rfl,rfl,rfl,Uw _,λ_ _=>rfl⟩
theorem FdM.put{w W:Ur}{K k n i x:Nat}{f:Nat->List (Nat × Bs)}{v:Ut}(h:FdM w W K k b n i x y f)(c:i<n)(d:k≠K)(e:b≠K)(hv:SmQ (λg=>w.heap.size<=g/\g≠K) W v (f i)):FdM w (W.setCells K i [v]) K k b n (i+1) x y f:=
 ⟨h.ls.put c hv,aR h.r4 d,aR h.r5 e⟩
theorem JA(O:Ord N){Q:Nat->Prop}(n:Nat)(hn:n<=500)(c:Nat)(hc:c<=200)(Y:0<c)(a:Nat->List (Nat × Bs))(x y:Nat)(hx:x<N)(r:y<N)(ha:∀i,i<n+n->TOk N (a i)/\(a i).length=c)(va:Ut)(w:Ur)(h1:GLq Q w va (n+n) a):
 UH prog 217 #[va,nv x,nv y] w (rZ w λe w'=>GLq (w.heap.size<=·) w' e n (kY N x y n a)):=by
 obtain⟨d,b,c1,rfl,-,-,Z,T⟩:=h1;obtain⟨m,hm⟩:=hE (n+n);have hq:(m:Int).tdiv 2=(n:Int):=by rw[<-hm.out,X9 oM];omega
 obtain⟨P,h5,M,G,J,q⟩:=SQ w x y;obtain⟨C0,h4,hk⟩:=Ch uSu iSu n oM;have X:=hk P;obtain⟨K,hK⟩:=hE (P.heap.size);obtain⟨w3,L⟩:=hE (P.alloc (.cells C0.toArray 131));have S:Ar P w3 K 1 n 0 (λ_=>[]):=Ar.new _ h4 L.out hK.out;rw[L.out,hK.out]at X;obtain⟨f,o⟩:=hE (w.heap.size);rw[o.out]at G J q;have HK:Hid (K=f+2/\w.heap.size<=f):=⟨by rw[<-hK.out,q],by rw[o.out];exact Uw _⟩
 have K1:Hid (FdM w w3 K f (f+1) n 0 x y (kY N x y n a)):=⟨⟨M.trans (S.bl.mono M.size),S.lt,by have:=S.th;rwa[Xk]at this,by have:=HK.out;omega,λj hj=>absurd hj (Yo _)⟩,G.below S.bl,J.below S.bl⟩
 have l:=mk8 O hx r ha T Z hc Y;obtain⟨vx,h0⟩:=hE (nv x);obtain⟨vy,h7⟩:=hE (nv y);obtain⟨R,H⟩:=hE (w.alloc (.cells (wn x).toArray 49));have B1:Hid ((Ve 49 vx).run prog w=.ok (jZ f) R):=by rw[<-h0.out,<-H.out,<-o.out];exact boxS x w
 have B2:Hid ((Ve 49 vy).run prog R=.ok (.pointer (some ⟨f+1,0,none⟩)) P):=by
  have h:=boxS y R;rw[show R.heap.size=f+1 by rw[<-H.out,UB,o.out]]at h;have e:R.alloc (.cells (wn y).toArray 49)=P:=by rw[<-H.out];exact h5.out
  rw[e]at h;rw[<-h7.out];exact h
 rw[h0.out,h7.out,hm.out];clear O hx r ha T Z hc Y M G J q S h4 hk hK L o h5;go_enter func217,ntmps217;go_wp2_with (first|(refine aF (u:=vx) (v:=jZ f) (w':=R) rfl 49 (.tmp 1) rfl ?_ ?_ ?_;rfl;exact B1.out)|(refine aF (u:=vy) (v:=.pointer (some ⟨f+1,0,none⟩)) (w':=P) rfl 49 (.tmp 2) rfl ?_ ?_ ?_;rfl;exact B2.out)|fail)
 go_loopg [15] n (λm s15 W=>∃i:Nat,i+m=n/\s15=iZ i/\Hid (FdM w W K f (f+1) n i x y (kY N x y n a)))
 case atStart=>exact⟨0,oM,rfl,K1⟩
 case round =>
  obtain⟨i,k6,rfl,KM⟩:=hrel;by_cases hi:i<n
  ·have hw:(i:Int)<(n:Int):=oM;have HL:=Hid.mk' hi;have KP:=KM;go_wp2_with fail
   obtain⟨B,k0,k2⟩:=l.2.2.2.2.1 i oM;obtain⟨C,hr,q⟩:=l.2.2.2.2.1 (n+i) oM;have HX:=mk4 k0 k2 hr q;have s:=mk2 (l.2.2.2.1 i oM) (l.2.2.2.1 (n+i) oM);have HZ:=mk1 (l.2.2.2.2.2.2);obtain⟨D,A⟩:=hE ((a i).map (tmT N x));obtain⟨I,E⟩:=hE ((a (n+i)).map (tmT N y));have HQ:Hid (kY N x y n a i=D++I):=by show _=_;rw[<-A.out,<-E.out];rfl
   have HY:Hid (D.length=c/\I.length=c/\TOk N D/\TOk N I):=⟨by rw[<-A.out,UQ];exact s.1.2,by rw[<-E.out,UQ];exact s.2.2,by rw[<-A.out];exact s.1.1.tm l.1.pos x,by rw[<-E.out];exact s.2.1.tm l.1.pos y⟩
   have h9:=λ(W:Ur) (k:kZ w W)=>eG l.1 l.2.1 0 B (a i) (by rw[s.1.2];have:=HZ.out;omega) s.1.1.szm s.1.1.lt W (HX.2.1.sm.grow k)
   have h2:=λ(W:Ur) (k:kZ w W)=>eG l.1 l.2.2.1 0 C (a (n+i)) (by rw[s.2.2];have:=HZ.out;omega) s.2.1.szm s.2.1.lt W (HX.2.2.2.sm.grow k)
   have k3:=λ(W:Ur) (u v:Ut) (hu:Sm 0 W u D) (hv:Sm 0 W v I)=>cO 0 u v D I (by rw[UA];have:=HY.1;have:=HZ.out;omega) (by have:=HY.1;have:=HZ.out;omega) (by have:=HY.2.1;have:=HZ.out;omega) HY.2.2.1.sz HY.2.2.2.sz W (UX hu) (UX hv)
   rw[A.out]at h9;rw[E.out]at h2;have k1:∀W,kZ w W->W.cell? ⟨d,b+1*i,none⟩=some B:=λW k=>by rw[Xk,k.cell (p:=⟨d,b+i,none⟩) l.2.2.2.2.2.1];exact HX.1
   have hl:∀W,kZ w W->W.cell? ⟨d,b+1*(n+i),none⟩=some C:=λW k=>by rw[Xk,k.cell (p:=⟨d,b+(n+i),none⟩) l.2.2.2.2.2.1];exact HX.2.2.1
   have k5:i<m:=by rw[<-hm.out];omega
   have he:n+i<m:=by rw[<-hm.out];omega
   refine(gwL [pE (sZ K n n),pE (iZ i),pE (.slice (some ⟨d,b,none⟩) m c1),pE (iZ i),pE (.pointer (some ⟨d,b+1*i,none⟩)),pE B,pE (.iface 131 B),pE (nv x),pM (λg=>w.heap.size<=g/\g≠K) D,pI 131 (pM (λg=>w.heap.size<=g/\g≠K) D),pE (.slice (some ⟨d,b,none⟩) m c1),pE (sZ K n n),pE (iZ n),pE (iZ i),pE (iZ ((n+i:Nat):Int)),pE (.pointer (some ⟨d,b+1*(n+i),none⟩)),pE C,pE (.iface 131 C),pE (nv y),pM (λg=>w.heap.size<=g/\g≠K) I,pM (λg=>w.heap.size<=g/\g≠K) (D++I),pE (.pointer (some ⟨K,0+1*i,none⟩))] (λW=>FdM w W K f (f+1) n i x y (kY N x y n a)) (λW W' F h=>h.grow F)).last 22 kR kR kR ⟨
    gO 7 (sZ K n n),
    gO 8 (iZ i),
    gO 0 (.slice (some ⟨d,b,none⟩) m c1),
    gO 8 (iZ i),
    A0 2 20 3 21 (.slice (some ⟨d,b,none⟩) m c1) (iZ i) (.pointer (some ⟨d,b+1*i,none⟩)) (Vl 129 (.slice (some ⟨d,b,none⟩) m c1) (iZ i)) (atS d b m c1 i k5) (λx W h=>h) (λx W h=>h) (λ_=>rfl),
    fF 131 4 22 d (b+1*i) B AB (λx W h=>h) (λW k=>k1 W k.ls.bl) (λ_=>rfl),
    rF 5 23 B (.iface 131 B) (λx W h=>h) (λ_=>rfl),
    iD 49 4 f 0 (wn x) rSc nSc rfl (λW k=>k.r4.2.1) (λ_=>rfl),
    oV 131 6 24 7 25 (pE B) 164 (λx W h=>⟨_,h,rfl⟩) (λz u W hx r k=>by
     obtain rfl:z=B:=hx;obtain rfl:u=nv x:=r;refine(h9 W k.ls.bl).mono ?_;rintro e W' ⟨u,rfl,F,V⟩;exact⟨_,rfl,F,V.q.mono λg U=>⟨UC k.ls.bl.size U,by have:=k.ls.lt;omega⟩⟩),
    DT 8 26 (λv=>.iface 131 v) (λx W h=>⟨x,rfl,h⟩),
    gO 0 (.slice (some ⟨d,b,none⟩) m c1),
    gO 7 (sZ K n n),
    rF 11 29 (sZ K n n) (iZ n) (λx W h=>h) (λ_=>rfl),
    gO 8 (iZ i),
    Jo .add 3 3 30 31 rfl (λa W hp=>⟨_,_,iZ ((n+i:Nat):Int),hp.n 12 30 kR kR,hp.n 13 31 kR kR,kR,Oa n i oM W,rfl⟩),
    A0 10 28 14 32 (.slice (some ⟨d,b,none⟩) m c1) (iZ ((n+i:Nat):Int)) (.pointer (some ⟨d,b+1*(n+i),none⟩)) (Vl 129 (.slice (some ⟨d,b,none⟩) m c1) (iZ ((n+i:Nat):Int))) (atS d b m c1 (n+i) he) (λx W h=>h) (λx W h=>h) (λ_=>rfl),
    fF 131 15 33 d (b+1*(n+i)) C AB (λx W h=>h) (λW k=>hl W k.ls.bl) (λ_=>rfl),
    rF 16 34 C (.iface 131 C) (λx W h=>h) (λ_=>rfl),
    iD 49 5 (f+1) 0 (wn y) rSc nSc rfl (λW k=>k.r5.2.1) (λ_=>rfl),
    oV 131 17 35 18 36 (pE C) 164 (λx W h=>⟨_,h,rfl⟩) (λz u W hx r k=>by
     obtain rfl:z=C:=hx;obtain rfl:u=nv y:=r;refine(h2 W k.ls.bl).mono ?_;rintro e W' ⟨u,rfl,F,V⟩;exact⟨_,rfl,F,V.q.mono λg U=>⟨UC k.ls.bl.size U,by have:=k.ls.lt;omega⟩⟩),
    oV 131 9 27 19 37 (pM (λg=>w.heap.size<=g/\g≠K) D) 65 (λx W h=>h) (λz u W hx r k=>by
     have hx:=hx;have r:=r;refine(k3 W z u hx.sm r.sm).mono ?_;rintro e W' ⟨u,rfl,F,V⟩;exact⟨_,rfl,F,V.q.mono λg U=>⟨UC k.ls.bl.size U,by have:=k.ls.lt;omega⟩⟩),
    A0 0 18 1 19 (sZ K n n) (iZ i) (.pointer (some ⟨K,0+1*i,none⟩)) (Vl 129 (sZ K n n) (iZ i)) (atS K 0 n n i HL.out) (λx W h=>h) (λx W h=>h) (λ_=>rfl),yCn⟩ KP.drew ?_
   intro V W3 h3 h6;have hS:=h3 20 dC;have U:=h3 21 dC;dsimp only[bU,VK,Xn,Xo];simp only[UN,Us,Uu,Uv];generalize V 20=vq at hS⊢;obtain⟨W4,h8⟩:=hE (W3.setCells K i [vq]);have K4:Hid (FdM w W4 K f (f+1) n (i+1) x y (kY N x y n a)):=by
    have h:=h6.put (v:=vq) hi (by have:=HK.out;omega) (by have:=HK.out;omega) (by rw[HQ.out];exact hS);rw[h8.out]at h;exact h
   have HT:Hid (W3.there K i 1):=λt ht=>by
    have hz:t=0:=oM;subst hz;have:=h6.ls.th i hi;rwa[UD]at this
   have HE:=Hid.mk' hS.one;rw[U,UD,Xk];go_wp2_with (first|(refine fV rfl 131 _ _ rfl K i vq ?_ ?_ HE.1 HE.2 HT.out RQ ?_;rfl;rfl;rw[h8.out])|fail)
   go_roundg (gk-1)
   case measure=>omega
   case rel=>exact⟨i+1,oM,rfl,K4⟩
  ·have hw:¬(i:Int)<(n:Int):=oM;obtain rfl:i=n:=oM;have K4:=mk2 KM.ls.bl KM.ls.gl;go_wp2;go_ret;exact⟨_,rfl,K4.1,K4.2⟩
structure GOk(N n c:Nat)(G H:Nat->List (Nat × Bs))(U:List (Nat × Bs)):Prop where
 n0:0<n
 c0:0<c
 cn:c*n<=64
 g:∀i,i<n->TOk N (G i)/\(G i).length=c
 h:∀i,i<n->TOk N (H i)/\(H i).length=c
 u:TOk N U
 u0:0<U.length
 u9:U.length<=16
theorem GOk.nle{n c:Nat}{G:Nat->List (Nat × Bs)}(h:GOk N n c G H U):n<=64:=by
 have k:=h.cn;have:=Nat.mul_le_mul_right n h.c0;omega
theorem GOk.cle{n c:Nat}{G:Nat->List (Nat × Bs)}(h:GOk N n c G H U):c<=64:=by
 have k:=h.cn;have:=Yj c h.n0;omega
theorem CL(k c b:Ut)(w:Ur):(Ve 133 (.agg #[k,c,b])).run prog w=.ok (jZ w.heap.size) (w.alloc (.cells #[k,c,b] 133)):=kR
theorem uGL:(prog.underlying 129).map (·.isRow)=some false:=kR
theorem xJ(O:Ord N){Q:Nat->Prop}(n c:Nat)(G H:Nat->List (Nat × Bs))(U:List (Nat × Bs))(hG:GOk N n c G H U)(a b:Nat->Nat)(ha:∀i,i<n->a i<N)(j:∀i,i<n->b i<N)(v va p:Ut)(w:Ur)(h0:GRq Q w v n G H U)(T:SLq Q w va n a)(P:SLq Q w p n b):
 UH prog 66 #[v,va,p] w (rZ w λe w'=>Sm w.heap.size w' e (dH N a G n++dH N b H n)):=by
 obtain⟨l,m,E,rfl,Y,R,-⟩:=h0.ex;have B:=λ(W:Ur) (d:kZ w W)=>JP O n c hG.n0 hG.c0 (by have:=hG.nle;omega) (by have:=hG.cn;omega) a G ha (λi f=>(hG.g i f).1) (λi f=>(hG.g i f).2) va l W (T.keep (Kq.of_below d)) (Y.keep (Kq.of_below d))
 have s:=λ(W:Ur) (d:kZ w W)=>JP O n c hG.n0 hG.c0 (by have:=hG.nle;omega) (by have:=hG.cn;omega) b H j (λi f=>(hG.h i f).1) (λi f=>(hG.h i f).2) p m W (P.keep (Kq.of_below d)) (R.keep (Kq.of_below d))
 have L:(dH N a G n).length=c*n:=eR N a n λi f=>(hG.g i f).2
 have l2:(dH N b H n).length=c*n:=eR N b n λi f=>(hG.h i f).2
 have t1:TOk N (dH N a G n):=oH O.pos n λi f=>(hG.g i f).1
 have t2:TOk N (dH N b H n):=oH O.pos n λi f=>(hG.h i f).1
 have X:=yAz hG.c0 hG.n0;have S:=hG.cn;generalize dH N a G n=C at B L t1⊢;generalize dH N b H n=lb at s l2 t2⊢;have F:=λ(W:Ur) (u z:Ut) (M:Sm 0 W u C) (hz:Sm 0 W z lb)=>cO 0 u z C lb (by rw[UA];omega) oM oM t1.sz t2.sz W (UX M) (UX hz)
 have I:=Hid.mk' (V3 B (V3 s F));obtain⟨D,t⟩:=hE (w.alloc (.cells #[l,m,E] 133));obtain⟨k,K⟩:=hE (w.heap.size);have J:Hid (Row D k [l,m,E]/\kZ w D):=by rw[<-t.out,<-K.out];exact⟨aE w _ _,aC w _⟩
 obtain⟨v0,A⟩:=hE (U3 #[l,m,E]);have Z:Hid ((Ve 133 v0).run prog w=.ok (jZ k) D):=by rw[<-A.out,<-t.out,<-K.out];exact CL _ _ _ _
 rw[A.out];go_enter func66,ntmps66;go_wp2_with (first|(refine aF (u:=v0) (v:=jZ k) (w':=D) rfl 133 (.tmp 0) rfl ?_ ?_ ?_;rfl;exact Z.out)|fail)
 refine(gwL [pE va,pE (jZ k),pE l,pM (w.heap.size<=·) C,pE p,pE (oZ k 1),pE m,pM (w.heap.size<=·) lb,pM (w.heap.size<=·) (C++lb),pM (w.heap.size<=·) (C++lb)] (λW=>Row W k [l,m,E]/\kZ w W) (λW W' j h=>⟨h.1.below j,h.2.trans (j.mono h.2.size)⟩)).draws kR kR ⟨
  gO 1 va,
  gO 3 (jZ k),
  fF 129 1 8 k 0 l uGL (λx W h=>h) (λW d=>d.1.2.1 0 _ rfl) (λ_=>rfl),
  eD 0 7 2 9 139 (λx y=>#[x,y]) (λx y W hx o d=>by
   obtain rfl:x=va:=hx;obtain rfl:y=l:=o;refine(I.1 W d.2).mono ?_;rintro e W' ⟨u,rfl,j,q⟩;exact⟨_,rfl,j,q.q.mono λg r=>UC d.2.size r⟩),
  gO 2 p,
  gP 3 (jZ k) (oZ k 1),
  fF 129 5 12 k 1 m uGL (λx W h=>h) (λW d=>d.1.2.1 1 _ rfl) (λ_=>rfl),
  eD 4 11 6 13 139 (λx y=>#[x,y]) (λx y W hx o d=>by
   obtain rfl:x=p:=hx;obtain rfl:y=m:=o;refine(I.2.1 W d.2).mono ?_;rintro e W' ⟨u,rfl,j,q⟩;exact⟨_,rfl,j,q.q.mono λg r=>UC d.2.size r⟩),
  eD 3 10 7 14 65 (λx y=>#[x,y]) (λx y W hx o d=>by
   have hx:=hx;have o:=o;refine(I.2.2 W x y hx.sm o.sm).mono ?_;rintro e W' ⟨u,rfl,j,q⟩;exact⟨_,rfl,j,q.q.mono λg r=>UC d.2.size r⟩),
  DT 8 15 id (λx W h=>h),yCn⟩ ⟨J.1,J.2.drew⟩ ?_
 intro V r hR d;have o:=mk1 (hR 9 (Xl (VR kR)));have q:=mk1 (d.2);dsimp only[bU,VK];simp only[UN,Us,Uu,Uv];go_wp2;go_ret;exact⟨_,rfl,q.out,o.out⟩
theorem Fg(O:Ord N){Q:Nat->Prop}(n c:Nat)(G H:Nat->List (Nat × Bs))(U:List (Nat × Bs))(hG:GOk N n c G H U)(a b:Nat->Nat)(Z:∀i,i<n->a i<N)(f:∀i,i<n->b i<N)(v va m:Ut)(w:Ur)(Y:GRq Q w v n G H U)(T:SLq Q w va n a)(S:SLq Q w m n b):
 UH prog 158 #[v,va,m] w (rZ w λe w'=>Sm w.heap.size w' e (Jk N a b (prS N a b n) G H U n)):=by
 have A:=λ(W:Ur) (d:kZ w W)=>xJ O n c G H U hG a b Z f v va m W (Y.keep (Kq.of_below d)) (T.keep (Kq.of_below d)) (S.keep (Kq.of_below d))
 have t:=λ(W:Ur) (d:kZ w W)=>Bc O n (by have:=hG.nle;omega) a b Z f va m W (T.keep (Kq.of_below d)) (S.keep (Kq.of_below d))
 obtain⟨q,r,l,rfl,-,-,h5⟩:=Y.ex;have l1:(dH N a G n).length=c*n:=eR N a n λi s=>(hG.g i s).2
 have l2:(dH N b H n).length=c*n:=eR N b n λi s=>(hG.h i s).2
 have t1:TOk N (dH N a G n):=oH O.pos n λi s=>(hG.g i s).1
 have t2:TOk N (dH N b H n):=oH O.pos n λi s=>(hG.h i s).1
 have h4:=yAz hG.c0 hG.n0;have h3:=hG.cn;unfold Jk;have pl:=AN O.pos a b n;have L:=hG.u.tm O.pos (prS N a b n);have l3:(U.map (tmT N (prS N a b n))).length<=16:=by rw[UQ];exact hG.u9
 generalize prS N a b n=p at t pl L l3⊢;have F:=λ(W:Ur) (d:kZ w W)=>eG O pl 0 l U (by have:=hG.u9;omega) hG.u.szm hG.u.lt W (h5.sm.grow d)
 generalize U.map (tmT N p)=I at F L l3⊢;have R:=t1.app t2;have l4:(dH N a G n++dH N b H n).length=c*n+c*n:=by rw[UA,l1,l2]
 generalize dH N a G n++dH N b H n=j at A R l4⊢;have M:=λ(W:Ur) (u z:Ut) (hu:Sm 0 W u j) (P:Sm 0 W z I)=>cO 0 u z j I (by rw[UA];omega) oM oM R.sz L.sz W (UX hu) (UX P)
 have K:=Hid.mk' (V3 A (V3 t (V3 F M)));obtain⟨J,D⟩:=hE (w.alloc (.cells #[q,r,l] 133));obtain⟨k,hk⟩:=hE (w.heap.size);have X:Hid (Row J k [q,r,l]/\kZ w J):=by rw[<-D.out,<-hk.out];exact⟨aE w _ _,aC w _⟩
 obtain⟨v0,E⟩:=hE (U3 #[q,r,l]);have B1:Hid ((Ve 133 v0).run prog w=.ok (jZ k) J):=by rw[<-E.out,<-D.out,<-hk.out];exact CL _ _ _ _
 rw[E.out];go_enter func158,ntmps158;go_wp2_with (first|(refine aF (u:=v0) (v:=jZ k) (w':=J) rfl 133 (.tmp 0) rfl ?_ ?_ ?_;rfl;exact B1.out)|fail)
 refine(gwL [pE (.agg #[q,r,l]),pE va,pE m,pM (w.heap.size<=·) j,pE (oZ k 2),pE l,pE va,pE m,pE (nv p),pM (w.heap.size<=·) I,pM (w.heap.size<=·) (j++I),pM (w.heap.size<=·) (j++I)] (λW=>Row W k [q,r,l]/\kZ w W) (λW W' f h=>⟨h.1.below f,h.2.trans (f.mono h.2.size)⟩)).draws kR kR ⟨
  iD 133 3 k 0 [q,r,l] uGr iGr rfl (λW d=>d.1.2.1) (λ_=>rfl),
  gO 1 va,
  gO 2 m,
  rG 0 7 1 8 2 9 66 (λx y z=>#[x,y,z]) (λx y z W hx o P d=>by
   obtain rfl:x=.agg #[q,r,l]:=hx;obtain rfl:y=va:=o;obtain rfl:z=m:=P;refine(K.1 W d.2).mono ?_;rintro e W' ⟨u,rfl,f,B⟩;exact⟨_,rfl,f,B.q.mono λg C=>UC d.2.size C⟩),
  gP 3 (jZ k) (oZ k 2),
  fF 131 4 11 k 2 l AB (λx W h=>h) (λW d=>d.1.2.1 2 _ rfl) (λ_=>rfl),
  gO 1 va,
  gO 2 m,
  eD 6 13 7 14 78 (λx y=>#[x,y]) (λx y W hx o d=>by
   obtain rfl:x=va:=hx;obtain rfl:y=m:=o;refine(K.2.1 W d.2).mono ?_;rintro e W' ⟨u,rfl,f,rfl⟩;exact⟨_,rfl,f,rfl⟩),
  eD 5 12 8 15 164 (λx y=>#[x,y]) (λx y W hx o d=>by
   obtain rfl:x=l:=hx;obtain rfl:y=nv p:=o;refine(K.2.2.1 W d.2).mono ?_;rintro e W' ⟨u,rfl,f,B⟩;exact⟨_,rfl,f,B.q.mono λg C=>UC d.2.size C⟩),
  eD 3 10 9 16 65 (λx y=>#[x,y]) (λx y W hx o d=>by
   have hx:=hx;have o:=o;refine(K.2.2.2 W x y hx.sm o.sm).mono ?_;rintro e W' ⟨u,rfl,f,B⟩;exact⟨_,rfl,f,B.q.mono λg C=>UC d.2.size C⟩),
  DT 10 17 id (λx W h=>h),yCn⟩ ⟨X.1,X.2.drew⟩ ?_
 intro V C hR d;have o:=mk1 (hR 11 (Xl (VR kR)));have B:=mk1 (d.2);dsimp only[bU,VK];simp only[UN,Us,Uu,Uv];go_wp2;go_ret;exact⟨_,rfl,B.out,o.out⟩
end
namespace RG
open Go Go.RowKit
variable {P:VD}{ops:Array Vk}{Q:Yq->Act->Ur->Prop}{w:Ur}{a0:Act}{G:Gw}{S:Ur->Ur->Prop}{m k:Nat}{o:Vk}
def Gw.st(G:Gw)(m:Nat)(S:Ur->Ur->Prop):Flow:=⟨G.R,λ_=>G.B,λi w w'=>(i=m/\S w w')\/kZ w w',λ_=>[],λ_=>[]⟩
theorem jQ(h:bF P Q G.flow ops a0 k o):bF P Q (G.st m S) ops a0 k o:=λa w K b d c e=>h a w K b d c λv w' hE hR=>e v w' (UX hE) hR
theorem Tk(h:∀(a:Act) (w:Ur),PreG G ops a0 m o a w->∃w',(U5 a.eval o).run P w=.ok .skip w'/\S w w'/\G.R m WR w'):bF P Q (G.st m S) ops a0 m o:=by
 intro a w K b g e i;obtain⟨w',f,c,hR⟩:=h a w ⟨λj d k hd=>b j d k rfl hd,g,e 0 rfl⟩;unfold VT;rw[f];exact i _ _ (U4 ⟨rfl,c⟩) hR
theorem Gw.tailS(G:Gw)(m:Nat)(S:Ur->Ur->Prop)(n:Nat)(g:∀j v w w',j≠m->S w w'->G.R j v w->G.R j v w')(f:∀w w',S w w'->G.B w->G.B w')(c:(decide (n<ops.size) && mG ops n)=true)(p:P.follows .mixedOrders=true)(s:Be ops a0.tmps.size=true)(h:iK P Q (G.st m S) ops a0 0 (ops.toList.take n))(k:G.B w.drew)
 (t:∀(V:Nat->Ut) (w':Ur),(∀i,i<n->G.R i (V i) w')->G.B w'->wpList P ops Q (ops.toList.drop n) (bU V (ops.toList.take n) 0 a0) w'):(V6 id ops true).wp P Q a0 w:=by
 rw[UL,decide_eq_true_eq]at c;refine qF (G.st m S) n c.1 c.2 p ⟨s,tB h,λi j _ _ d _ _ v w w' hE hR=>?_,λi b _ _ w w' hE k=>?_⟩ (λ_=>k) λV w' r q=>t V w' (λi l=>r i l rfl) (q 0 rfl)
 ·rcases hE with⟨l,o⟩|hE
  ·exact g j v w w' (λe=>d (l.trans e.symm)) o hR
  ·exact G.sR j v w w' hE hR
 ·rcases hE with⟨-,o⟩|hE
  ·exact f w w' o k
  ·exact G.sB w w' hE k
end RG
section
open Go.RowKit Go.Sort Go.Deep
variable {P:Nat}[NeZero P]{N:Nat}
theorem qE{P:VD}{m:Func}{tmps:Array Ut}{W:Ur}{k:Nat}{vs us:List Ut}(t l:WF)(T c:U8)(o:m.results=#[.cell t T,.cell l c])(h:Row W k vs)(w:Row W e us)(n:tmps[t]? = some (jZ k))(i:tmps[l]? = some (jZ e))
 (f:(P.underlying T).map (·.isRow)=some true) (v:(P.info? T).map (·.size)=some vs.length) (b:(P.underlying c).map (·.isRow)=some true) (j:(P.info? c).map (·.size)=some us.length):(results m tmps).run P W=.ok (.tuple #[.agg vs.toArray,.agg us.toArray]) W:=by
 obtain⟨d,f,hd⟩:=Uy.1 f;obtain⟨r,b,g⟩:=Uy.1 b;have s:=Yg (P:=P) W k 0 T vs d h.2.1 f hd v;have u:=Yg (P:=P) W e 0 c us r w.2.1 b g j;have p:tmps.getD t WR=jZ k:=by rw[UI,n];rfl
 have q:tmps.getD l WR=jZ e:=by rw[UI,i];rfl
 unfold results;rw[o];simp only[XC,YR,Y1,p,q,asAddr];simp[UV,s,u]
section
variable {P:VD}{ops:Array Vk}{rest:List Vk}{op:Vk}{a:Act}{w w':Ur}{v:Ut}{Q:Yq->Act->Ur->Prop}
theorem fB(k:op.guard=none)(T:U8)(t:WF)(_:op.op=.alloc T)(_:op.dst=some t)(b:(U5 a.eval op).run P w=.ok (.value v) w')(h:wpList P ops Q rest (a.put op.dst v) w'):wpList P ops Q (op :: rest) a w:=
 Xi k λK c=>by
  unfold VT;rw[b];exact c _ _ h
end
theorem N9(g o j:Nat):(⟨g,o,none⟩:Ww).add j=⟨g,o+j,none⟩:=by
 unfold Zk;by_cases k:j=0
 ·subst k;rw[yCl rfl];rfl
 ·rw[yCm k]
theorem Ip(b o n c k:Nat)(d:k<=c)(w:Ur):(Xp 129 (.slice (some ⟨b,o,none⟩) n c) none (some (iZ k)) none).run prog w=.ok (.slice (some ⟨b,o,none⟩) k c) w:=by
 have e:¬(k:Int)<0:=oM;have f:(k:Int)<=(c:Int):=oM;go_simp
theorem Io(b o n c k:Nat)(d:k<n)(i:n<=c)(w:Ur):(Xp 129 (.slice (some ⟨b,o,none⟩) n c) (some (iZ k)) none none).run prog w=.ok (.slice (some ⟨b,o+k,none⟩) (n-k) (c-k)) w:=by
 have f:¬(k:Int)<0:=oM;have j:(k:Int)<=(n:Int):=oM;have g:¬c=k:=oM;have e:=N9 b o (1*k);rw[Xk]at e;go_simp
theorem Di(b o n c k:Nat)(d:k<=c)(w:Ur):(Xp 124 (.slice (some ⟨b,o,none⟩) n c) none (some (iZ k)) none).run prog w=.ok (.slice (some ⟨b,o,none⟩) k c) w:=by
 have e:¬(k:Int)<0:=oM;have f:(k:Int)<=(c:Int):=oM;go_simp
theorem Dh(b o n c k:Nat)(d:k<n)(i:n<=c)(w:Ur):(Xp 124 (.slice (some ⟨b,o,none⟩) n c) (some (iZ k)) none none).run prog w=.ok (.slice (some ⟨b,o+k*4,none⟩) (n-k) (c-k)) w:=by
 have f:¬(k:Int)<0:=oM;have j:(k:Int)<=(n:Int):=oM;have g:¬c=k:=oM;have e:=N9 b o (k*4);rw[Vv]at e;rw[Vv k 4];go_simp
theorem GLq.high{Q:Nat->Prop}{W:Ur}{g o n c:Nat}{T:Nat->List (Nat × Bs)}(h:GLq Q W (.slice (some ⟨g,o,none⟩) (n+n) c) (n+n) T):GLq Q W (.slice (some ⟨g,o+n,none⟩) n (c-n)) n (λi=>T (n+i)):=by
 obtain⟨m,p,r,e,q,k,f,b⟩:=h;injection e with e1 e2 e3
 injection e1 with e1
 injection e1 with e1 e4
 subst e1 e3 e4;refine⟨g,o+n,c-n,rfl,oM,k,f,λj s=>?_⟩;obtain⟨x,d,l⟩:=b (n+j) oM;exact⟨x,by rw[Nat.add_assoc];exact d,l⟩
theorem GLq.low{Q:Nat->Prop}{W:Ur}{g o n c:Nat}{T:Nat->List (Nat × Bs)}(h:GLq Q W (.slice (some ⟨g,o,none⟩) (n+n) c) (n+n) T):GLq Q W (.slice (some ⟨g,o,none⟩) n c) n T:=by
 obtain⟨m,i,p,e,l,b,k,d⟩:=h;injection e with e1 e2 e3
 injection e1 with e1
 injection e1 with e1 e4
 subst e1 e3 e4;exact⟨g,o,c,rfl,oM,b,k,λj f=>d j oM⟩
theorem SLq.high{Q:Nat->Prop}{W:Ur}{g o n c:Nat}{T:Nat->Nat}(h:SLq Q W (.slice (some ⟨g,o,none⟩) (n+n) c) (n+n) T):SLq Q W (.slice (some ⟨g,o+n*4,none⟩) n (c-n)) n (λi=>T (n+i)):=by
 obtain⟨f,l,p,e,m,k,d,b⟩:=h;injection e with e1 e2 e3
 injection e1 with e1
 injection e1 with e1 e4
 subst e1 e3 e4;refine⟨g,o+n*4,c-n,rfl,oM,k,d,λj q=>?_⟩;have:=b (n+j) oM;rw[show o+4*(n+j)=o+n*4+4*j by omega]at this;exact this
theorem SLq.low{Q:Nat->Prop}{W:Ur}{g o n c:Nat}{T:Nat->Nat}(h:SLq Q W (.slice (some ⟨g,o,none⟩) (n+n) c) (n+n) T):SLq Q W (.slice (some ⟨g,o,none⟩) n c) n T:=by
 obtain⟨m,i,p,e,l,b,k,d⟩:=h;injection e with e1 e2 e3
 injection e1 with e1
 injection e1 with e1 e4
 subst e1 e3 e4;exact⟨g,o,c,rfl,oM,b,k,λj f=>d j oM⟩
def CrR(Q:Nat->Prop)(w:Ur)(n:Nat)(G H:Nat->List (Nat × Bs))(U:List (Nat × Bs))(e:Ut)(w':Ur):Prop:=kZ w w'/\∃k b,e=.tuple #[.agg k,.agg b]/\k.size=3/\b.size=3/\k.all (·.oneCell')=true/\b.all (·.oneCell')=true/\GRq Q w' (.agg k) n (λi=>G (n+i)) H U/\GRq Q w' (.agg b) n G (λi=>H (n+i)) U
theorem GP{Q:Nat->Prop}(n:Nat)(he:0<n)(hn:n<=500)(G H:Nat->List (Nat × Bs))(U:List (Nat × Bs))(v:Ut)(w:Ur)(h0:GRq Q w v (n+n) G H U):
 UH prog 157 #[v] w (Ret (CrR Q w n G H U)):=by
 obtain⟨vg,vh,d,rfl,h3,h4,h5⟩:=h0.ex;obtain⟨c,b,c1,rfl,h6,-⟩:=id h3;obtain⟨f,g,c2,rfl,h8,-⟩:=id h4;obtain⟨g3,c3,rfl,-⟩:=id h5;have K:Hid (GLq Q w (.slice (some ⟨c,b+n,none⟩) n (c1-n)) n (λi=>G (n+i))/\GLq Q w (.slice (some ⟨f,g,none⟩) n c2) n H/\GLq Q w (.slice (some ⟨c,b,none⟩) n c1) n G/\GLq Q w (.slice (some ⟨f,g+n,none⟩) n (c2-n)) n (λi=>H (n+i))/\SmQ Q w (.slice (some (aZ g3)) U.length c3) U):=⟨h3.high,h4.low,h3.low,h4.high,h5⟩
 have B:=Io c b (n+n) c1 n oM h6;have E:=Ip f g (n+n) c2 n oM;have C:=Ip c b (n+n) c1 n oM;have t:=Io f g (n+n) c2 n oM h8;rw[Nat.add_sub_cancel]at B t;obtain⟨m,hm⟩:∃m,Hid (n+n=m):=⟨_,rfl⟩
 have hq:(m:Int).tdiv 2=(n:Int):=by rw[<-hm.out,X9 oM];omega
 rw[hm.out]at B E C t;rw[hm.out];obtain⟨d,r⟩:∃v,Hid (Vw (some (aZ g3)) U.length c3=v):=⟨_,rfl⟩
 have h7:d.oneCell'=true:=by rw[<-r.out];rfl
 rw[r.out]at K;rw[r.out];obtain⟨k,P⟩:∃k,Hid (w.heap.size=k):=⟨_,rfl⟩
 obtain⟨A,z⟩:∃A,Hid (w.alloc (.cells #[.slice (some ⟨c,b,none⟩) m c1,.slice (some ⟨f,g,none⟩) m c2,d] 133)=A):=⟨_,rfl⟩
 obtain⟨R,O⟩:∃R,Hid (A.alloc (.cells #[.slice none 0 0,.slice none 0 0,.slice none 0 0] 133)=R):=⟨_,rfl⟩
 obtain⟨J,Y⟩:∃J,Hid (R.alloc (.cells #[.slice none 0 0,.slice none 0 0,.slice none 0 0] 133)=J):=⟨_,rfl⟩
 have h9:R.heap.size=k+2:=by rw[<-O.out,UB,<-z.out,UB,P.out]
 have D:A.heap.size=k+1:=by rw[<-z.out,UB,P.out]
 have I:Hid (Below w.heap.size w J/\Row J k [.slice (some ⟨c,b,none⟩) m c1,.slice (some ⟨f,g,none⟩) m c2,d]/\Row J (k+1) [.slice none 0 0,.slice none 0 0,.slice none 0 0]/\Row J (k+2) [.slice none 0 0,.slice none 0 0,.slice none 0 0]):=by
  have b1:Below w.heap.size w A:=by rw[<-z.out];exact aC _ _
  have p:Row A k [.slice (some ⟨c,b,none⟩) m c1,.slice (some ⟨f,g,none⟩) m c2,d]:=by rw[<-z.out,<-P.out];exact aE w _ _
  have o:=aE A [.slice none 0 0,.slice none 0 0,.slice none 0 0] 133;have l:=aE (A.alloc (.cells #[.slice none 0 0,.slice none 0 0,.slice none 0 0] 133)) [.slice none 0 0,.slice none 0 0,.slice none 0 0] 133;rw[UB,D]at l;rw[D]at o;rw[<-Y.out,<-O.out];exact⟨(b1.alloc b1.size _).alloc (by rw[UB];have:=b1.size;omega) _,(p.alloc _).alloc _,o.alloc _,l⟩
 obtain⟨v0,Z⟩:∃v,Hid (U3 #[.slice (some ⟨c,b,none⟩) m c1,.slice (some ⟨f,g,none⟩) m c2,d]=v):=⟨_,rfl⟩
 have B1:Hid ((Ve 133 v0).run prog w=.ok (jZ k) A):=by rw[<-Z.out,<-z.out,<-P.out];exact CL _ _ _ _
 rw[Z.out];have HK:Hid (w.heap.size=k):=P;have HV:Hid (d.oneCell'=true):=h7;have HZ:Hid (A.heap.size=k+1/\R.heap.size=k+2):=⟨D,h9⟩
 have cK:J.cell? ⟨k,0,none⟩=some (.slice (some ⟨c,b,none⟩) m c1):=I.2.1.2.1 0 _ rfl;clear h0 h3 h4 h5 h6 h8 h7 P D h9;go_enter func157,ntmps157;go_wp2_with (first|(refine aF (u:=v0) (v:=jZ k) (w':=A) rfl 133 (.tmp 0) rfl ?_ ?_ ?_;rfl;exact B1.out)|(refine fB (v:=.pointer (some ⟨k+1,0,none⟩)) (w':=R) rfl 133 2 rfl rfl ?_ ?_;(rw[<-O.out,<-HZ.1];kernel_rfl))|(refine fB (v:=.pointer (some ⟨k+2,0,none⟩)) (w':=J) rfl 133 3 rfl rfl ?_ ?_;(rw[<-Y.out,<-HZ.2];kernel_rfl))|fail)
 clear cK hq;obtain⟨T,ha⟩:∃s,Hid (Vw (some ⟨c,b,none⟩) m c1=s):=⟨_,rfl⟩
 obtain⟨sh,hc⟩:∃s,Hid (Vw (some ⟨f,g,none⟩) m c2=s):=⟨_,rfl⟩
 rw[ha.out]at B C I;rw[hc.out]at E t I;obtain⟨o,L⟩:∃e,Hid ((#[.slice (some ⟨c,b+n,none⟩) n (c1-n),.slice (some ⟨f,g,none⟩) n c2,d]:Array Ut)=e):=⟨_,rfl⟩
 obtain⟨y,N⟩:∃e,Hid ((#[.slice (some ⟨c,b,none⟩) n c1,.slice (some ⟨f,g+n,none⟩) n (c2-n),d]:Array Ut)=e):=⟨_,rfl⟩
 have q:Hid (o.size=3/\y.size=3/\o.all (·.oneCell')=true/\y.all (·.oneCell')=true):=by
  rw[<-L.out,<-N.out,<-r.out];exact⟨rfl,rfl,kR,kR⟩
 have HI:Hid ((prog.info? 133).map (·.size)=some o.size/\(prog.info? 133).map (·.size)=some y.size/\(prog.info? 133).map (·.size)=some o.toList.length/\(prog.info? 133).map (·.size)=some y.toList.length):=by
  rw[UK,UK,q.1,q.2.1];exact⟨iGr,iGr,iGr,iGr⟩
 refine(gwL [pE (jZ k),pE T,pE (iZ n),pE (.slice (some ⟨c,b+n,none⟩) n (c1-n)),pE (.pointer (some ⟨k,1,none⟩)),pE sh,pE (iZ n),pE (.slice (some ⟨f,g,none⟩) n c2),pE (.pointer (some ⟨k,2,none⟩)),pE d,pE (.agg #[.slice (some ⟨c,b+n,none⟩) n (c1-n),.slice (some ⟨f,g,none⟩) n c2,d]),
  pE (jZ k),pE T,pE (iZ n),pE (.slice (some ⟨c,b,none⟩) n c1),pE (.pointer (some ⟨k,1,none⟩)),pE sh,pE (iZ n),pE (.slice (some ⟨f,g+n,none⟩) n (c2-n)),pE (.pointer (some ⟨k,2,none⟩)),pE d,pE (.agg #[.slice (some ⟨c,b,none⟩) n c1,.slice (some ⟨f,g+n,none⟩) n (c2-n),d]),⟨λ_ W=>Row W (k+1) o.toList,λ_ _ _ F h=>h.below F⟩] (λW=>Below w.heap.size w W/\Row W k [T,sh,d]/\(k+1<W.heap.size/\W.there (k+1) 0 3)/\Row W (k+2) [.slice none 0 0,.slice none 0 0,.slice none 0 0]) (λW W' F h=>⟨h.1.trans (F.mono h.1.size),h.2.1.below F,⟨Ux h.2.2.1.1 F.size,dJ h.2.2.1.2 F h.2.2.1.1⟩,h.2.2.2.below F⟩)).tailS 22 (λW W'=>W'=W.setCells (k+1) 0 o.toList) 23 (λj v W W' M S hR=>by
  subst S;match j,hR,M with
  | 0,hR,_=>exact hR
  | 1,hR,_=>exact hR
  | 2,hR,_=>exact hR
  | 3,hR,_=>exact hR
  | 4,hR,_=>exact hR
  | 5,hR,_=>exact hR
  | 6,hR,_=>exact hR
  | 7,hR,_=>exact hR
  | 8,hR,_=>exact hR
  | 9,hR,_=>exact hR
  | 10,hR,_=>exact hR
  | 11,hR,_=>exact hR
  | 12,hR,_=>exact hR
  | 13,hR,_=>exact hR
  | 14,hR,_=>exact hR
  | 15,hR,_=>exact hR
  | 16,hR,_=>exact hR
  | 17,hR,_=>exact hR
  | 18,hR,_=>exact hR
  | 19,hR,_=>exact hR
  | 20,hR,_=>exact hR
  | 21,hR,_=>exact hR
  | 22,_,M=>exact absurd rfl M
  | _+23,_,_=>trivial) (λW W' S h=>by subst S;exact⟨RG.below_setCells (by rw[HK.out];omega) _ _ _ h.1,aR h.2.1 oM,⟨by rw[setCells_size];exact h.2.2.1.1,VW h.2.2.1.2 _ _ _⟩,aR h.2.2.2 oM⟩) kR kR kR ⟨
  jQ (gO 1 (jZ k)),
  jQ (fF 129 0 9 k 0 T uGL (λx W h=>h) (λW l=>l.2.1.2.1 0 _ rfl) (λ_=>rfl)),
  jQ (gO 4 (iZ n)),
  jQ (RG.gX 1 10 2 11 B),
  jQ (gP 1 (jZ k) (.pointer (some ⟨k,1,none⟩))),
  jQ (fF 129 4 13 k 1 sh uGL (λx W h=>h) (λW l=>l.2.1.2.1 1 _ rfl) (λ_=>rfl)),
  jQ (gO 4 (iZ n)),
  jQ (RG.gX 5 14 6 15 E),
  jQ (gP 1 (jZ k) (.pointer (some ⟨k,2,none⟩))),
  jQ (fF 131 8 17 k 2 d AB (λx W h=>h) (λW l=>l.2.1.2.1 2 _ rfl) (λ_=>rfl)),
  jQ (Jn [(12,.slice (some ⟨c,b+n,none⟩) n (c1-n)),(16,.slice (some ⟨f,g,none⟩) n c2),(18,d)] (.agg #[.slice (some ⟨c,b+n,none⟩) n (c1-n),.slice (some ⟨f,g,none⟩) n c2,d]) (λa W p=>⟨p.n 3 12 kR kR,p.n 7 16 kR kR,p.n 9 18 kR kR,yCn⟩) (λ_=>rfl) (λW=>by
   rw[<-r.out];kernel_rfl)),
  jQ (gO 1 (jZ k)),
  jQ (fF 129 11 20 k 0 T uGL (λx W h=>h) (λW l=>l.2.1.2.1 0 _ rfl) (λ_=>rfl)),
  jQ (gO 4 (iZ n)),
  jQ (RG.gX 12 21 13 22 C),
  jQ (gP 1 (jZ k) (.pointer (some ⟨k,1,none⟩))),
  jQ (fF 129 15 24 k 1 sh uGL (λx W h=>h) (λW l=>l.2.1.2.1 1 _ rfl) (λ_=>rfl)),
  jQ (gO 4 (iZ n)),
  jQ (RG.gX 16 25 17 26 t),
  jQ (gP 1 (jZ k) (.pointer (some ⟨k,2,none⟩))),
  jQ (fF 131 19 28 k 2 d AB (λx W h=>h) (λW l=>l.2.1.2.1 2 _ rfl) (λ_=>rfl)),
  jQ (Jn [(23,.slice (some ⟨c,b,none⟩) n c1),(27,.slice (some ⟨f,g+n,none⟩) n (c2-n)),(29,d)] (.agg #[.slice (some ⟨c,b,none⟩) n c1,.slice (some ⟨f,g+n,none⟩) n (c2-n),d]) (λa W p=>⟨p.n 14 23 kR kR,p.n 18 27 kR kR,p.n 20 29 kR kR,yCn⟩) (λ_=>rfl) (λW=>by
   rw[<-r.out];kernel_rfl)),
  Tk λa W p=>⟨_,by
   have V:a.eval (.tmp 19)=.agg o:=by
    have:=p.n 10 19 kR kR;rw[<-L.out];exact this
   have h2:a.eval (.tmp 2)=.pointer (some ⟨k+1,0,none⟩):=(p.o 2 kR).trans rfl;have X:W.there (k+1) 0 o.size:=by rw[q.1];exact p.b.2.2.1.2
   unfold U5;simp only[V,h2,Yy,X6,UV,Wt,Vm,ZC W (k+1) 0 133 o X HI.1 q.2.2.1],rfl,⟨by rw[setCells_size];exact p.b.2.2.1.1,VO W (k+1) 0 o.toList (by rw[UK,q.1];exact p.b.2.2.1.2),VW (by rw[UK,q.1];exact p.b.2.2.1.2) _ _ _⟩⟩,yCn⟩ ⟨I.1.drew,I.2.1,⟨I.2.2.1.1,I.2.2.1.2.2⟩,I.2.2.2⟩ ?_
 intro V w3 hR l;have p:V 21=.agg #[.slice (some ⟨c,b,none⟩) n c1,.slice (some ⟨f,g+n,none⟩) n (c2-n),d]:=hR 21 dC;have F:Row w3 (k+1) o.toList:=hR 22 dC;rw[N.out]at p;obtain⟨M,X⟩:∃M,Hid (w3.setCells (k+2) 0 y.toList=M):=⟨_,rfl⟩
 have K5:Hid (Row M (k+1) o.toList/\Row M (k+2) y.toList/\Below w.heap.size w M):=by
  rw[<-X.out];exact⟨aR F oM,l.2.2.2.put (by rw[UK,q.2.1];rfl),RG.below_setCells (by rw[HK.out];omega) _ _ _ l.1⟩
 have HT:Hid (w3.there (k+2) 0 y.size):=by
  rw[q.2.1];exact l.2.2.2.2.2
 have HP:Hid (CrR Q w n G H U (.tuple #[.agg o.toList.toArray,.agg y.toList.toArray]) M):=by
  have kq:∀ {Q:Nat->Prop},Kq Q w M:=Kq.of_below K5.2.2;refine⟨K5.2.2,o,y,rfl,q.1,q.2.1,q.2.2.1,q.2.2.2,?_,?_⟩
  ·rw[<-L.out];exact⟨_,_,_,rfl,K.1.keep kq,K.2.1.keep kq,K.2.2.2.2.keep kq⟩
  ·rw[<-N.out];exact⟨_,_,_,rfl,K.2.2.1.keep kq,K.2.2.2.1.keep kq,K.2.2.2.2.keep kq⟩
 dsimp only[bU,VK,Xn,Xo];simp only[UN,Us,Uu,Uv];obtain⟨x2,S⟩:∃x,Hid (U3 y=x):=⟨_,rfl⟩
 rw[p,S.out];clear hR l p F B E C t;generalize V 0=s0;generalize V 1=s1;generalize V 2=s2;generalize V 3=s3;generalize V 4=s4;generalize V 5=s5;generalize V 6=s6;generalize V 7=s7;generalize V 8=s8;generalize V 9=s9;generalize V 10=s10;generalize V 11=s11;generalize V 12=s12;generalize V 13=s13;generalize V 14=s14;generalize V 15=s15;generalize V 16=s16;generalize V 17=s17;generalize V 18=s18;generalize V 19=s19;generalize V 20=s20;go_wp2_with (first|(refine U2 rfl 133 (.tmp 3) _ rfl (k+2) 0 y ?_ ?_ ?_ ?_ ?_ ?_;rfl;exact S.symm;exact HT.out;exact HI.2.1;exact q.2.2.2;rw[X.out])|fail)
 refine UE (qE 2 3 133 133 rfl K5.1 K5.2.1 rfl rfl uGr HI.2.2.1 uGr HI.2.2.2) rfl ?_;exact⟨_,rfl,HP.out⟩
theorem GRq.ar{Q:Nat->Prop}{W:Ur}{v:Ut}{n:Nat}{G:Nat->List (Nat × Bs)}(h:GRq Q W v n G H U):∃e:Array Ut,v=.agg e/\e.size=3/\e.all (·.oneCell')=true:=by
 obtain⟨k,f,j,rfl,⟨b,i,c1,rfl,-⟩,⟨g,d,c2,rfl,-⟩,⟨l,c,rfl,-⟩⟩:=h.ex;exact⟨_,rfl,rfl,kR⟩
structure FgI(w W:Ur)(k x xi:Nat)(vg vh vu:Ut):Prop where
 bl:kZ w W
 r2:Row W k [vg,vh,vu]
 r3:Row W (k+1) (wn x)
 r4:Row W (k+2) [.slice none 0 0,.slice none 0 0,.slice none 0 0]
theorem FgI.grow{w W W':Ur}{k x c:Nat}{d f e:Ut}(h:FgI w W k x c d f e)(b:kZ W W'):FgI w W' k x c d f e:=⟨h.bl.trans (b.mono h.bl.size),h.r2.below b,h.r3.below b,h.r4.below b⟩
theorem FgI.drew{w W:Ur}{k x:Nat}{c e d:Ut}(h:FgI w W k x b c e d):FgI w W.drew k x b c e d:=h.grow ⟨rfl,rfl,rfl,Uw _,λ_ _=>rfl⟩
theorem Fq(O:Ord N){Q:Nat->Prop}(n c:Nat)(hy:0<n)(G H:Nat->List (Nat × Bs))(U:List (Nat × Bs))(hG:GOk N (n+n) c G H U)(x:Nat)(hx:x<N)(v:Ut)(w:Ur)(hQ:∀g,w.heap.size<=g->Q g)(h0:GRq Q w v (n+n) G H U):
 UH prog 161 #[v,nv x] w (rZ w λe w'=>GRq Q w' e n (kY N (sIn N x) x n G) (kY N x (sIn N x) n H) U):=by
 obtain⟨r,q,i,rfl,h3,h4,h5⟩:=h0.ex;have hl:sIn N x<N:=V7 _ O.pos;have hm:=λW=>uS O x hx W
 have I:=λ(W:Ur) (f:kZ w W)=>JA O n (by have:=hG.nle;omega) c (by have:=hG.cle;omega) hG.c0 G (sIn N x) x hl hx hG.g r W (h3.keep (Kq.of_below f))
 have L:=λ(W:Ur) (f:kZ w W)=>JA O n (by have:=hG.nle;omega) c (by have:=hG.cle;omega) hG.c0 H x (sIn N x) hx hl hG.h q W (h4.keep (Kq.of_below f))
 generalize kY N (sIn N x) x n G=S at I⊢;generalize kY N x (sIn N x) n H=H' at L⊢;generalize sIn N x=j at hm I L;have HX:=mk3 hm I L;have HU:=mk2 h5 hQ;obtain⟨k,hk⟩:=hE (w.heap.size);obtain⟨o,s⟩:=hE (w.alloc (.cells #[r,q,i] 133));obtain⟨C,A⟩:=hE (o.alloc (.cells (wn x).toArray 49));obtain⟨X,K⟩:=hE (C.alloc (.cells #[.slice none 0 0,.slice none 0 0,.slice none 0 0] 133));have J:o.heap.size=k+1:=by rw[<-s.out,UB,hk.out]
 have h8:C.heap.size=k+2:=by rw[<-A.out,UB,J]
 have K3:Hid (FgI w X k x j r q i):=by
  have b1:kZ w o:=by rw[<-s.out];exact aC _ _
  have m:kZ o C:=by rw[<-A.out];exact aC _ _
  have l:kZ C X:=by rw[<-K.out];exact aC _ _
  have p:Row o k [r,q,i]:=by rw[<-s.out,<-hk.out];exact aE w _ _
  have B:Row C (k+1) (wn x):=by rw[<-A.out,<-J];exact aE o _ _
  have t:Row X (k+2) [.slice none 0 0,.slice none 0 0,.slice none 0 0]:=by rw[<-K.out,<-h8];exact aE C _ _
  exact⟨(b1.trans (m.mono b1.size)).trans (l.mono (UC b1.size m.size)),(p.below m).below l,B.below l,t⟩
 obtain⟨v0,h9⟩:=hE (U3 #[r,q,i]);obtain⟨vx,t⟩:=hE (nv x);have B1:Hid ((Ve 133 v0).run prog w=.ok (jZ k) o):=by rw[<-h9.out,<-s.out,<-hk.out];exact CL _ _ _ _
 have B2:Hid ((Ve 49 vx).run prog o=.ok (.pointer (some ⟨k+1,0,none⟩)) C):=by rw[<-t.out,<-A.out,<-J];exact boxS x o
 have HZ:=mk1 (h8);obtain⟨d,hr,ht⟩:=Uy.1 u40;have HD:=mk2 hr ht;rw[h9.out,t.out];go_enter func161,ntmps161;go_wp2_with (first|(refine aF (u:=v0) (v:=jZ k) (w':=o) rfl 133 (.tmp 0) rfl ?_ ?_ ?_;rfl;exact B1.out)|(refine aF (u:=vx) (v:=.pointer (some ⟨k+1,0,none⟩)) (w':=C) rfl 49 (.tmp 1) rfl ?_ ?_ ?_;rfl;exact B2.out)|(refine fB (v:=.pointer (some ⟨k+2,0,none⟩)) (w':=X) rfl 133 4 rfl rfl ?_ ?_;(rw[<-K.out,<-HZ.out];kernel_rfl))|(refine ldR 3 K3.r3.2.1 t u40 nSc ?_)|fail)
 rw[<-t.out];refine(HX.1 X).mono ?_;rintro e T ⟨u,rfl,hu,rfl⟩;obtain⟨M,E⟩:=hE (T.heap.size);obtain⟨w5,Z⟩:=hE (T.alloc (.cells #[uZ 0,uZ 0,uZ 0,uZ 0] 49));obtain⟨w6,h7⟩:=hE (w5.setCells M 0 (wn j));have F5:Hid (Row w5 M [uZ 0,uZ 0,uZ 0,uZ 0]/\kZ T w5):=by rw[<-Z.out,<-E.out];exact⟨aE T _ _,aC _ _⟩
 have K6:Hid (FgI w w6 k x j r q i/\Row w6 M (wn j)):=by
  rw[<-h7.out];exact⟨(K3.grow hu).grow (RG.below_setCells (by rw[E.out];exact Uw _) _ _ _ F5.2),F5.1.put rfl⟩
 obtain⟨vi,P⟩:=hE (nv j);rw[P.out];go_wp2_with (first|(refine alR 5 E Z ?_)|(refine stR 5 h7 P F5.1.2.2 nSc (aM j) ?_)|fail)
 refine(gwL [pE (jZ k),pE r,pE (nv j),pE (nv x),pG (λg=>w.heap.size<=g/\g≠k+2) n S,pE (oZ k 1),pE q,pE (nv x),pE (nv j),pG (λg=>w.heap.size<=g/\g≠k+2) n H',pE (oZ k 2),pE i,⟨λv W=>∃x y,v=.agg #[x,y,i]/\GLq (λg=>w.heap.size<=g/\g≠k+2) W x n S/\GLq (λg=>w.heap.size<=g/\g≠k+2) W y n H',λ_ _ _ l ⟨x,y,R,h2,h3⟩=>⟨x,y,R,h2.keep (Kq.of_below l),h3.keep (Kq.of_below l)⟩⟩] (λW=>FgI w W k x j r q i/\Row W M (wn j)) (λW W' l h=>⟨h.1.grow l,h.2.below l⟩)).last 13 kR kR kR ⟨
  gO 2 (jZ k),
  fF 129 0 8 k 0 r uGL (λx W h=>h) (λW f=>f.1.r2.2.1 0 _ rfl) (λ_=>rfl),
  iD 49 5 M 0 (wn j) rSc nSc rfl (λW f=>f.2.2.1) (λ_=>rfl),
  iD 49 3 (k+1) 0 (wn x) rSc nSc rfl (λW f=>f.1.r3.2.1) (λ_=>rfl),
  rG 1 9 2 10 3 11 217 (λx y z=>#[x,y,z]) (λa b c W m l p f=>by
   obtain rfl:a=r:=m;obtain rfl:b=nv j:=l;obtain rfl:c=nv x:=p;refine(HX.2.1 W f.1.bl).mono ?_;rintro e W' ⟨u,rfl,l,B⟩;exact⟨_,rfl,l,B.mono λg D=>⟨UC f.1.bl.size D,by have:=f.1.r4.1;omega⟩⟩),
  gP 2 (jZ k) (oZ k 1),
  fF 129 5 13 k 1 q uGL (λx W h=>h) (λW f=>f.1.r2.2.1 1 _ rfl) (λ_=>rfl),
  iD 49 3 (k+1) 0 (wn x) rSc nSc rfl (λW f=>f.1.r3.2.1) (λ_=>rfl),
  iD 49 5 M 0 (wn j) rSc nSc rfl (λW f=>f.2.2.1) (λ_=>rfl),
  rG 6 14 7 15 8 16 217 (λx y z=>#[x,y,z]) (λa b c W m l p f=>by
   obtain rfl:a=q:=m;obtain rfl:b=nv x:=l;obtain rfl:c=nv j:=p;refine(HX.2.2 W f.1.bl).mono ?_;rintro e W' ⟨u,rfl,l,B⟩;exact⟨_,rfl,l,B.mono λg D=>⟨UC f.1.bl.size D,by have:=f.1.r4.1;omega⟩⟩),
  gP 2 (jZ k) (oZ k 2),
  fF 131 10 18 k 2 i AB (λx W h=>h) (λW f=>f.1.r2.2.1 2 _ rfl) (λ_=>rfl),
  bN (λa W B=>by
   have R:=B.n 4 12 kR kR;have h2:=B.n 9 17 kR kR;have h3:=B.n 11 19 kR kR;obtain⟨Y,V,c1,e1,-⟩:=id R;obtain⟨g2,o2,c2,F,-⟩:=id h2;obtain⟨g3,c3,e3,-⟩:=HU.1;rw[e1]at R;rw[F]at h2;refine⟨[(12,.slice (some ⟨Y,V,none⟩) n c1),(17,.slice (some ⟨g2,o2,none⟩) n c2),(19,i)],.agg #[.slice (some ⟨Y,V,none⟩) n c1,.slice (some ⟨g2,o2,none⟩) n c2,i],W,⟨e1,F,h3,yCn⟩,?_,UR _ _,⟨_,_,rfl,R,h2⟩⟩;rw[e3];kernel_rfl),yCn⟩ ⟨K6.1.drew,K6.2⟩ ?_
 intro V F hR f;obtain⟨m,p,hV,Y,h6⟩:∃x y,V 12=.agg #[x,y,i]/\GLq (λg=>w.heap.size<=g/\g≠k+2) F x n S/\GLq (λg=>w.heap.size<=g/\g≠k+2) F y n H':=hR 12 dC;have hq:=HU.1.keep (Kq.of_below f.1.bl);have B:∀g,w.heap.size<=g/\g≠k+2->Q g:=λg D=>HU.2 g D.1
 have gr:GRq Q F (.agg #[m,p,i]) n S H' U:=⟨_,_,_,rfl,Y.mono B,h6.mono B,hq⟩
 obtain⟨e,he,hz,hw⟩:=gr.ar;obtain rfl:#[m,p,i]=e:=by injection he
 obtain⟨w8,hn⟩:=hE (F.setCells (k+2) 0 [m,p,i]);have K8:Hid (kZ w w8/\Row w8 (k+2) [m,p,i]/\GRq Q w8 (.agg #[m,p,i]) n S H' U):=by
  rw[<-hn.out];have kq:Kq (λg=>w.heap.size<=g/\g≠k+2) F (F.setCells (k+2) 0 [m,p,i]):=Kq.set λg D=>D.2
  have hj:kZ w (F.setCells (k+2) 0 [m,p,i]):=RG.below_setCells (by rw[hk.out];omega) _ _ _ f.1.bl;exact⟨hj,f.1.r4.put rfl,_,_,_,rfl,(Y.keep kq).mono B,(h6.keep kq).mono B,HU.1.keep (Kq.of_below hj)⟩
 have HT:=mk2 f.1.r4.2.2 hw;dsimp only[bU,VK,Xn,Xo];simp only[UN,Us,Uu,Uv];obtain⟨ve,hi⟩:=hE (U3 #[m,p,i]);rw[hV,hi.out];go_wp2_with (first|(refine U2 rfl 133 (.tmp 4) _ rfl (k+2) 0 #[m,p,i] ?_ ?_ ?_ ?_ ?_ ?_;rfl;exact hi.symm;exact HT.1;exact iGr;exact HT.2;rw[show(#[m,p,i]:Array Ut).toList=[m,p,i] from rfl,hn.out])|fail)
 refine UE (aG 4 133 rfl K8.2.1 rfl uGr iGr) rfl ?_;exact⟨_,rfl,K8.1,K8.2.2⟩
def lgV(r:Nat):Ut:=.agg #[jZ r]
theorem uLg:(prog.underlying 145).map (·.isRow)=some true:=kR
theorem iLg:(prog.info? 145).map (·.size)=some 1:=kR
theorem uLp:(prog.underlying 141).map (·.isRow)=some false:=kR
theorem Nb(r:Nat)(w:Ur):(Ve 145 (lgV r)).run prog w=.ok (jZ w.heap.size) (w.alloc (.cells #[jZ r] 145)):=kR
theorem fE{W:Ur}{K o:Nat}{vs:List Ut}(h:Holds encB W r 0 L)(k:r≠K):Holds encB (W.setCells K o vs) r 0 L:=λj b=>by
 have e:=aH K vs o W r k;rw[UW (a:=⟨r,0+j,none⟩) e,VU (a:=⟨r,0+j,none⟩) e];exact h j b
theorem GG(k:ByteArray)(w:Ur)(b:k.size<=1048576):UH prog 144 #[.string k] w (rZ w λe w'=>∃r,e=lgV r/\w.heap.size<=r/\r<w'.heap.size/\Holds encB w' r 0 (newL k.data.toList)):=by
 obtain⟨L,q⟩:=hE (newL k.data.toList);rw[q.out];obtain⟨p,d⟩:=hE (w.alloc (.cells #[.pointer none] 145));have m:Hid (Row p w.heap.size [.pointer none]/\kZ w p):=by rw[<-d.out];exact⟨aE w _ _,aC w _⟩
 go_enter func144,ntmps144;go_wp2_with fail
 rw[d.out];refine(Gq k p b).mono ?_;rintro e s ⟨u,rfl,f,r,rfl,n,o,i⟩;rw[q.out]at i;have t:=Ux m.1.1 n;have c:=mk4 (m.1.below f) (m.2.trans (f.mono m.2.size)) i o;obtain⟨j,g⟩:=hE (s.setCells w.heap.size 0 [jZ r]);have l:Hid (Row j w.heap.size [jZ r]/\kZ w j/\Holds encB j r 0 L/\r<j.heap.size):=by
  rw[<-g.out];exact⟨c.1.put rfl,RG.below_setCells (Uw _) _ _ _ c.2.1,fE c.2.2.1 oM,by rw[setCells_size];exact c.2.2.2⟩
 go_wp2_with (refine bG (v:=.agg #[jZ r]) (w':=s) rfl (.build 145 _) rfl ?_ ?_;kernel_rfl;refine Zh ?_)
 show wpList _ _ _ _ _ _;refine U2 rfl 145 _ _ rfl w.heap.size 0 #[jZ r] ?_ ?_ ?_ ?_ ?_ ?_
 ·kernel_rfl
 ·kernel_rfl
 ·exact c.1.2.2
 ·exact iLg
 ·kernel_rfl
 rw[show(#[jZ r]).toList=[jZ r] from rfl,g.out];go_wp2;refine UE (aG 2 145 rfl l.1 rfl uLg iLg) rfl ?_;exact⟨_,rfl,l.2.1,r,rfl,oM,l.2.2.2,l.2.2.1⟩
theorem yX(O:Ord N)(r:Nat)(L:Bs)(w:Ur)(t:Holds encB w r 0 L)(G:L.size=32):
 UH prog 209 #[.agg #[jZ r]] w (Ret λe w'=>SP.Only r 0 32 w w'/\Holds encB w' r 0 (bB L)/\e=nv (cha N L)):=by
 have q:=Holds.lt t oM;obtain⟨b,k⟩:∃b,Hid ((w.alloc (.cells #[jZ r] 143)).alloc (.cells #[uZ 0,uZ 0,uZ 0,uZ 0] 49)=b):=⟨_,rfl⟩
 have p:Hid (Row b (w.heap.size+1) [uZ 0,uZ 0,uZ 0,uZ 0]/\kZ w b/\Holds encB b r 0 L/\b.rangeAt w.heap.size 0 [jZ r]):=by
  rw[<-k.out];have c:kZ w ((w.alloc (.cells #[jZ r] 143)).alloc (.cells #[uZ 0,uZ 0,uZ 0,uZ 0] 49)):=(aC w _).alloc (by rw[UB];omega) _;have hR:=aE (w.alloc (.cells #[jZ r] 143)) [uZ 0,uZ 0,uZ 0,uZ 0] 49;rw[UB]at hR;exact⟨hR,c,Holds.below t c q,((aE w [jZ r] 143).alloc _).2.1⟩
 clear t;obtain⟨d,f,i⟩:=Uy.1 u124;have C:Hid (prog.underlying 143=some d/\d.isRow=true):=⟨f,i⟩
 clear f i;have B:=Dk O r L ⟨#[99,104,97,108,108,101,110,103,101]⟩ b dC p.2.2.1 G;have g:oS N (CO L (⟨#[99,104,97,108,108,101,110,103,101]⟩:ByteArray).data.toList 64)=cha N L:=rfl;have n:tI L (⟨#[99,104,97,108,108,101,110,103,101]⟩:ByteArray).data.toList=bB L:=rfl;rw[g,n]at B;have s:(bB L).size=32:=bE _ _;have z:=Hid.mk' B;obtain⟨m,y⟩:=hE (cha N L);obtain⟨D,c⟩:=hE (bB L);rw[y.out,c.out]at z;rw[c.out]at s;rw[y.out,c.out];go_enter func209,ntmps209;go_wp2_with (refine U6 rfl 143 _ rfl w.heap.size 0 ?_ [jZ r] d ?_ ?_ ?_ ?_ ?_;kernel_rfl;(rw[k.out];exact p.2.2.2);exact C.1;exact C.2;exact i124;rw[k.out])
 refine z.mono ?_;rintro e E ⟨v,rfl,a,A,rfl⟩;have F:=Holds.lt A oM;have o:=mk3 (p.1.only a oM) ((SP.Only.of_below p.2.1 rfl q).trans a) A;obtain⟨u,l⟩:=hE (E.setCells (w.heap.size+1) 0 (wn m));have x:Hid (Row u (w.heap.size+1) (wn m)/\SP.Only r 0 32 w u/\Holds encB u r 0 D):=by rw[<-l.out];exact⟨o.1.put rfl,dW o.2.1 q oM _,fE o.2.2 oM⟩
 obtain⟨H,j⟩:=hE (nv m);rw[j.out];go_wp2_with (refine U2 rfl 49 _ _ rfl (w.heap.size+1) 0 (wn m).toArray ?_ ?_ ?_ ?_ ?_ ?_;rfl;exact j.symm;exact o.1.2.2;exact i40;exact aM m;rw[show(wn m).toArray.toList=wn m from rfl,l.out])
 refine UE (aG 2 49 rfl x.1 rfl u40 i40) rfl ?_;exact⟨_,rfl,x.2.1,x.2.2,rfl⟩
def chS(N:Nat)(L:Bs):Nat:=tZ (cha N L)
theorem FG[NeZero N](d:1<N)(L:Bs)(b:cha N L<N):chS N L=(kM N L).val:=by
 unfold chS kM Mt tZ;generalize cha N L=c at b;have hv:(ofF N c).val=c:=US b;by_cases k:c=0
 ·subst k;rw[yCl rfl,yCl rB];exact(US d).symm
 ·rw[yCm k,yCm (λe=>k (by rw[<-hv,e];exact YO N)),hv]
theorem yF(O:Ord N)(r:Nat)(L:Bs)(w:Ur)(y:Holds encB w r 0 L)(P:L.size=32):
 UH prog 147 #[lgV r] w (Ret λe w'=>SP.Only r 0 32 w w'/\Holds encB w' r 0 (bB L)/\e=nv (chS N L)):=by
 have t:=Holds.lt y oM;obtain⟨c,b⟩:∃c,Hid ((w.alloc (.cells #[jZ r] 145)).alloc (.cells #[uZ 0,uZ 0,uZ 0,uZ 0] 49)=c):=⟨_,rfl⟩
 have p:Hid (Row c (w.heap.size+1) [uZ 0,uZ 0,uZ 0,uZ 0]/\kZ w c/\Holds encB c r 0 L/\c.rangeAt w.heap.size 0 [jZ r]):=by
  rw[<-b.out];have k:kZ w ((w.alloc (.cells #[jZ r] 145)).alloc (.cells #[uZ 0,uZ 0,uZ 0,uZ 0] 49)):=(aC w _).alloc (by rw[UB];omega) _;have hR:=aE (w.alloc (.cells #[jZ r] 145)) [uZ 0,uZ 0,uZ 0,uZ 0] 49;rw[UB]at hR;exact⟨hR,k,Holds.below y k t,((aE w [jZ r] 145).alloc _).2.1⟩
 clear y;obtain⟨d,g,i⟩:=Uy.1 u124;have I:Hid (prog.underlying 143=some d/\d.isRow=true):=⟨g,i⟩
 clear g i;have Q:=yX O r L c p.2.2.1 P;have B:cha N L<N:=uU O _;have l:=λW=>Mq O B W
 have u:tZ (cha N L)=chS N L:=rfl;rw[u]at l;have x:(bB L).size=32:=bE _ _;obtain⟨m,C⟩:=hE (cha N L);obtain⟨q,D⟩:=hE (chS N L);obtain⟨J,f⟩:=hE (bB L);have E:=Hid.mk' Q;have G:=Hid.mk' l;rw[C.out,f.out]at E;rw[C.out,D.out]at G;rw[f.out]at x;rw[D.out,f.out];unfold lgV;go_enter func147,ntmps147;go_wp2_with (refine U6 rfl 143 _ rfl w.heap.size 0 ?_ [jZ r] d ?_ ?_ ?_ ?_ ?_;kernel_rfl;(rw[b.out];exact p.2.2.2);exact I.1;exact I.2;exact i124;rw[b.out])
 refine E.mono ?_;rintro e K ⟨v,rfl,F,H,rfl⟩;have j:=Holds.lt H oM;have A:=mk3 (p.1.only F oM) ((SP.Only.of_below p.2.1 rfl t).trans F) H;go_wp2_with fail
 refine(G K).mono ?_;rintro e M ⟨R,rfl,k,rfl⟩;have s:=mk3 (A.1.below k) (A.2.1.trans (SP.Only.of_below k rfl j)) (Holds.below A.2.2 k j);obtain⟨z,o⟩:=hE (M.setCells (w.heap.size+1) 0 (wn q));have a:Hid (Row z (w.heap.size+1) (wn q)/\SP.Only r 0 32 w z/\Holds encB z r 0 J):=by rw[<-o.out];exact⟨s.1.put rfl,dW s.2.1 t oM _,fE s.2.2 oM⟩
 obtain⟨S,n⟩:=hE (nv q);rw[n.out];go_wp2_with (refine U2 rfl 49 _ _ rfl (w.heap.size+1) 0 (wn q).toArray ?_ ?_ ?_ ?_ ?_ ?_;rfl;exact n.symm;exact s.1.2.2;exact i40;exact aM q;rw[show(wn q).toArray.toList=wn q from rfl,o.out])
 refine UE (aG 2 49 rfl a.1 rfl u40 i40) rfl ?_;exact⟨_,rfl,a.2.1,a.2.2,rfl⟩
structure CaI(w W:Ur)(k r:Nat)(X Y L:Bs):Prop where
 on:SP.Only r 0 32 w W
 r0:Row W k [jZ r]
 r1:Row W (k+1) (aA X)
 r2:Row W (k+2) (aA Y)
 r3:Row W (k+3) [uZ 0,uZ 0,uZ 0,uZ 0]
 lg:Holds encB W r 0 L
theorem CaI.grow{w W W':Ur}{k:Nat}{X Y:Bs}(h:CaI w W k r X Y L)(d:L.size=32)(b:kZ W W'):CaI w W' k r X Y L:=
 have c:=Holds.lt h.lg oM
 ⟨h.on.trans (SP.Only.of_below b rfl c),h.r0.below b,h.r1.below b,h.r2.below b,h.r3.below b,Holds.below h.lg b c⟩
theorem CaI.say{w W W':Ur}{k:Nat}{X Y c:Bs}(h:CaI w W k r X Y L)(e:r<k)(b:SP.Only r 0 32 W W')(d:Holds encB W' r 0 c):CaI w W' k r X Y c:=
 ⟨h.on.trans b,h.r0.only b oM,h.r1.only b oM,h.r2.only b oM,h.r3.only b oM,d⟩
theorem sW(O:Ord N)(r:Nat)(L X Y:Bs)(l p:ByteArray)(h1:l.size<=1048576)(h2:p.size<=1048576)(hX:X.size=33)(hY:Y.size=33)(w:Ur)(hL:Holds encB w r 0 L)(hl:L.size=32):
 UH prog 146 #[lgV r,.string l,pvl X,.string p,pvl Y] w (Ret λe w'=>SP.Only r 0 32 w w'/\Holds encB w' r 0 (bB (jW l.data.toList p.data.toList L X Y))/\e=nv (chS N (jW l.data.toList p.data.toList L X Y))):=by
 have hr:=Holds.lt hL oM;obtain⟨C,G⟩:∃C,Hid (uN L l.data.toList X.toList=C):=⟨_,rfl⟩
 have s1:C.size=32:=by rw[<-G.out];exact kP _ _ _
 obtain⟨z,H⟩:∃z,Hid (uN C p.data.toList Y.toList=z):=⟨_,rfl⟩
 have s2:z.size=32:=by rw[<-H.out];exact kP _ _ _
 have e2:jW l.data.toList p.data.toList L X Y=z:=by unfold jW;rw[G.out,H.out]
 rw[e2];obtain⟨k,I⟩:∃k,Hid (w.heap.size=k):=⟨_,rfl⟩
 obtain⟨b,g⟩:∃b,Hid (w.alloc (.cells #[jZ r] 145)=b):=⟨_,rfl⟩
 obtain⟨c,n⟩:∃c,Hid (b.alloc (.cells (aA X).toArray 103)=c):=⟨_,rfl⟩
 obtain⟨f,s⟩:∃f,Hid (c.alloc (.cells (aA Y).toArray 103)=f):=⟨_,rfl⟩
 obtain⟨E,B⟩:∃E,Hid (f.alloc (.cells #[uZ 0,uZ 0,uZ 0,uZ 0] 49)=E):=⟨_,rfl⟩
 have Z:b.heap.size=k+1:=by rw[<-g.out,UB,I.out]
 have z2:c.heap.size=k+2:=by rw[<-n.out,UB,Z]
 have z3:f.heap.size=k+3:=by rw[<-s.out,UB,z2]
 have D:r<k:=by rw[<-I.out];exact hr
 have HK:Hid (w.heap.size<=k):=by show _<=_;rw[I.out];exact Uw _
 have K4:Hid (CaI w E k r X Y L):=by
  have b1:kZ w b:=by rw[<-g.out];exact aC _ _
  have o:kZ b c:=by rw[<-n.out];exact aC _ _
  have i:kZ c f:=by rw[<-s.out];exact aC _ _
  have j:kZ f E:=by rw[<-B.out];exact aC _ _
  have y:Row b k [jZ r]:=by rw[<-g.out,<-I.out];exact aE w _ _
  have F:Row c (k+1) (aA X):=by rw[<-n.out,<-Z];exact aE b _ _
  have a:Row f (k+2) (aA Y):=by rw[<-s.out,<-z2];exact aE c _ _
  have A:Row E (k+3) [uZ 0,uZ 0,uZ 0,uZ 0]:=by rw[<-B.out,<-z3];exact aE f _ _
  have t:kZ w E:=((b1.trans (o.mono b1.size)).trans (i.mono (UC b1.size o.size))).trans (j.mono (UC b1.size (UC o.size i.size)));exact⟨SP.Only.of_below t rfl hr,((y.below o).below i).below j,(F.below i).below j,a.below j,A,Holds.below hL t hr⟩
 obtain⟨vl,P⟩:∃v,Hid (lgV r=v):=⟨_,rfl⟩
 obtain⟨vX,Q⟩:∃v,Hid (pvl X=v):=⟨_,rfl⟩
 obtain⟨vY,K⟩:∃v,Hid (pvl Y=v):=⟨_,rfl⟩
 have B1:Hid ((Ve 145 vl).run prog w=.ok (jZ k) b):=by rw[<-P.out,<-g.out,<-I.out];exact Nb r w
 have B2:Hid ((Ve 103 vX).run prog b=.ok (.pointer (some ⟨k+1,0,none⟩)) c):=by rw[<-Q.out,<-n.out,<-Z];exact rM hX b
 have B3:Hid ((Ve 103 vY).run prog c=.ok (.pointer (some ⟨k+2,0,none⟩)) f):=by rw[<-K.out,<-s.out,<-z2];exact rM hY c
 have HZ:Hid (f.heap.size=k+3):=z3;rw[P.out,Q.out,K.out];have U:Hid (Ord N/\l.size<=1048576/\p.size<=1048576/\X.size=33/\Y.size=33):=⟨O,h1,h2,hX,hY⟩
 clear hL Z z2 z3 g n s I e2 O h1 h2 hX hY;go_enter func146,ntmps146;go_wp2_with (first|(refine aF (u:=vl) (v:=jZ k) (w':=b) rfl 145 (.tmp 0) rfl ?_ ?_ ?_;rfl;exact B1.out)|(refine aF (u:=vX) (v:=.pointer (some ⟨k+1,0,none⟩)) (w':=c) rfl 103 (.tmp 2) rfl ?_ ?_ ?_;rfl;exact B2.out)|(refine aF (u:=vY) (v:=.pointer (some ⟨k+2,0,none⟩)) (w':=f) rfl 103 (.tmp 4) rfl ?_ ?_ ?_;rfl;exact B3.out)|(refine fB (v:=.pointer (some ⟨k+3,0,none⟩)) (w':=E) rfl 49 10 rfl rfl ?_ ?_;(rw[<-B.out,<-HZ.out];kernel_rfl))|fail)
 refine(gwL [pE (jZ k),pE (jZ k),pE (jZ r),pE (.string l),pE (.slice (some ⟨k+1,0,none⟩) 33 33)] (λW=>CaI w W k r X Y L) (λW W' hb h=>h.grow hl hb)).tail2 5 kR kR kR ⟨
  gO 5 (jZ k),
  rF 0 11 (jZ k) (jZ k) (λx W h=>h) (λ_=>rfl),
  fF 141 1 12 k 0 (jZ r) uLp (λx W h=>h) (λW a=>a.r0.2.1 0 _ rfl) (λ_=>rfl),
  gO 1 (.string l),
  gP 7 (.pointer (some ⟨k+1,0,none⟩)) (.slice (some ⟨k+1,0,none⟩) 33 33),yCn⟩ (K4.grow hl ⟨rfl,rfl,rfl,Uw _,λ_ _=>rfl⟩) ?_
 intro V w5 hR a;have j:V 2=jZ r:=hR 2 dC;have o:V 3=.string l:=hR 3 dC;have i:V 4=.slice (some ⟨k+1,0,none⟩) 33 33:=hR 4 dC;dsimp only[bU,VK,Xn,Xo];simp only[UN,Us,Uu,Uv];rw[j,o,i];have y:=Hid.mk' a;clear hR a j o i K4;generalize V 0=s0;generalize V 1=h3;go_wp2_with fail
 refine(Bq r L l (some ⟨k+1,0,none⟩) 33 33 X.toList w5 U.2.1 (OG y.lg) hl (wO U.2.2.2.1 y.r1)).mono ?_;rintro e w6 ⟨rfl,A,t⟩;rw[G.out]at t;have K6:Hid (CaI w w6 k r X Y C):=y.say D A (OE t);clear A t y;go_wp2_with fail
 refine(gwL [pE (jZ k),pE (jZ k),pE (jZ r),pE (.string p),pE (.slice (some ⟨k+2,0,none⟩) 33 33)] (λW=>CaI w W k r X Y C) (λW W' hb h=>h.grow s1 hb)).tail2 5 kR kR kR ⟨
  gO 5 (jZ k),
  rF 0 17 (jZ k) (jZ k) (λx W h=>h) (λ_=>rfl),
  fF 141 1 18 k 0 (jZ r) uLp (λx W h=>h) (λW a=>a.r0.2.1 0 _ rfl) (λ_=>rfl),
  gO 3 (.string p),
  gP 9 (.pointer (some ⟨k+2,0,none⟩)) (.slice (some ⟨k+2,0,none⟩) 33 33),yCn⟩ (K6.grow s1 ⟨rfl,rfl,rfl,Uw _,λ_ _=>rfl⟩) ?_
 intro V w7 hR a;have j:V 2=jZ r:=hR 2 dC;have o:V 3=.string p:=hR 3 dC;have i:V 4=.slice (some ⟨k+2,0,none⟩) 33 33:=hR 4 dC;dsimp only[bU,VK,Xn,Xo];simp only[UN,Us,Uu,Uv];rw[j,o,i];have y:=Hid.mk' a;clear hR a j o i K6;generalize V 0=h4;generalize V 1=s3;go_wp2_with fail
 refine(Bq r C p (some ⟨k+2,0,none⟩) 33 33 Y.toList w7 U.2.2.1 (OG y.lg) s1 (wO U.2.2.2.2 y.r2)).mono ?_;rintro e w8 ⟨rfl,A,t⟩;rw[H.out]at t;have K8:Hid (CaI w w8 k r X Y z):=y.say D A (OE t);clear A t y;have HS:=Hid.mk' (yF U.1 r z w8 K8.lg s2);have h0:(bB z).size=32:=bE _ _;obtain⟨q,hq⟩:∃m,Hid (chS N z=m):=⟨_,rfl⟩
 obtain⟨L3,F⟩:∃m,Hid (bB z=m):=⟨_,rfl⟩
 rw[hq.out,F.out]at HS;rw[F.out]at h0;obtain⟨d,J,M⟩:=Uy.1 uLg;have HD:Hid (prog.underlying 145=some d/\d.isRow=true):=⟨J,M⟩
 clear J M;go_wp2_with (first|(refine U6 rfl 145 (.tmp 5) rfl k 0 ?_ [jZ r] d ?_ ?_ ?_ ?_ ?_;rfl;exact K8.r0.2.1;exact HD.1;exact HD.2;exact iLg;skip)|fail)
 refine HS.mono ?_;rintro e w9 ⟨v,rfl,A,t,rfl⟩;have K9:Hid (CaI w w9 k r X Y L3):=K8.say D A t;clear A t K8 HS;obtain⟨R,T⟩:∃R,Hid (w9.setCells (k+3) 0 (wn q)=R):=⟨_,rfl⟩
 have KA:Hid (Row R (k+3) (wn q)/\SP.Only r 0 32 w R/\Holds encB R r 0 L3):=by
  have S:=HZ.out;rw[<-T.out];exact⟨K9.r3.put rfl,dW K9.on hr (by have:=HK.out;omega) _,fE K9.lg oM⟩
 obtain⟨vm,S⟩:∃vm,Hid (nv q=vm):=⟨_,rfl⟩
 rw[S.out];go_wp2_with (refine U2 rfl 49 _ _ rfl (k+3) 0 (wn q).toArray ?_ ?_ ?_ ?_ ?_ ?_;rfl;exact S.symm;exact K9.r3.2.2;exact nSc;exact aM q;rw[show(wn q).toArray.toList=wn q from rfl,T.out])
 refine UE (aG 10 49 rfl KA.1 rfl rSc nSc) rfl ?_;exact⟨_,rfl,KA.2.1,by rw[F.out];exact KA.2.2,by rw[hq.out];rfl⟩
theorem v7:prog.underlying 24=some (.slice 23):=kR
theorem Jf:(prog.info? 23).map (λi=>(i.size,i.bytes,i.zero.map λz=>z.cells.size))=some (1,24,some 1):=kR
theorem lH(g o j:Nat):(⟨g,o,none⟩:Ww).add j=⟨g,o+j,none⟩:=by
 unfold Zk;by_cases k:j=0
 ·subst k;rw[yCl rfl];rfl
 ·rw[yCm k]
structure VL(w:Ur)(q:Option Ww)(m:Nat)(ys:List Ut):Prop where
 len:ys.length=m
 nil:q=none->m=0
 cells:ys=[]\/∃b o,q=some ⟨b,o,none⟩/\b<w.heap.size/\∀(j:Nat) u,ys[j]? = some u->w.cell? ⟨b,o+j,none⟩=some u
 one:∀u∈ys,u.oneCell'=true
theorem VL.below{w w':Ur}{m:Nat}(h:VL w q m ys)(c:kZ w w'):VL w' q m ys:=
 ⟨h.len,h.nil,by
  rcases h.cells with g|⟨b,o,e,k,f⟩
  ·exact U4 g
  ·exact UX ⟨b,o,e,Ux k c.size,λj u d=>by rw[c.cell (p:=⟨b,o+j,none⟩) k];exact f j u d⟩,h.one⟩
structure GLs(w W:Ur)(v:Ut)(xs:List Ut):Prop where
 bl:kZ w W
 ow:W.ownsRow w.heap.size 23 1 v xs.length xs
 nn:v.ownBlock≠none
theorem GLs.lt{w W:Ur}{v:Ut}(h:GLs w W v xs):∃g cap,v=sZ g xs.length cap/\w.heap.size<=g/\g<W.heap.size:=by
 rcases id h.ow with⟨-,⟨rfl,d⟩|⟨g,cap,cur,rfl,b,k,-⟩⟩
 ·exact absurd rfl h.nn
 ·refine⟨g,cap,rfl,b,?_⟩;by_cases c:g<W.heap.size
  ·exact c
  ·rw[WP oM]at k;cases k
theorem GLs.below{w W W':Ur}{v:Ut}(h:GLs w W v xs)(d:kZ W W'):GLs w W' v xs:=by
 refine⟨h.bl.trans (d.mono h.bl.size),?_,h.nn⟩;rcases h.ow with⟨c,k|⟨g,cap,cur,k,f,b,e⟩⟩
 ·exact⟨c,U4 k⟩
 ·refine⟨c,UX ⟨g,cap,cur,k,f,?_,e⟩⟩;rw[d.block g (by
   by_cases i:g<W.heap.size
   ·exact i
   ·rw[WP oM]at b;cases b)]
  exact b
theorem GLs.app2{w W:Ur}{v:Ut}{m c:Nat}(h:GLs w W v xs)(hx:VL W q m ys)(J:xs.length+m<=1000000):
 ∃n W',(Vt #[24,24] 24 #[v,.slice q m c]).run prog W=.ok n W'/\GLs w W' n (xs++ys)/\W.heap.size<=W'.heap.size:=by
 obtain⟨i,t,s⟩:=Uy.1 Jf;simp only[V8.injEq]at s;obtain⟨E,D,F⟩:=s;obtain⟨z,G,r⟩:=Uy.1 F;obtain⟨g,cap,rfl,C,x⟩:=h.lt;cases q with
 | none =>
  have y:=hx.nil rfl;subst y;obtain rfl:ys=[]:=List.length_eq_zero_iff.1 hx.len;rcases id h.ow with⟨-,⟨d,-⟩|⟨A,f,cur,d,H,I,B,K⟩⟩
  ·cases d
  ·injection d with d _ h0'
   injection d with d
   injection d with d
   subst d h0';have p:=Y9 (P:=prog) W 24 24 24 23 i v7 t g 0 xs.length cap (.slice none 0 c) 0 [] (yCa (e':=23) _ v7 c) B (λj e=>by cases e) (λj e=>by cases e);refine⟨_,_,p,?_,Uw _⟩;rw[Xw];exact h
 | some a =>
  obtain⟨n,W',H,p,d,y⟩:=Y3 (P:=prog) W w.heap.size 24 24 23 i z 1 24 v7 t G E D r dC _ xs.length xs h.ow a m c ys (by rw[hx.len];omega)
   (λj u e=>by
    rcases hx.cells with rfl|⟨b,o,B,-,I⟩
    ·cases e
    ·obtain rfl:=UO.inj B;rw[lH];exact I j u e) hx.one (by unfold maxLen;omega) oM h.bl.size
  refine⟨n,W',H,⟨⟨by rw[d.os,h.bl.os],by rw[d.tape,h.bl.tape],by rw[d.output,h.bl.output],UC h.bl.size d.size,λk e=>?_⟩,?_,?_⟩,d.size⟩
  ·rw[d.block k (Ux e h.bl.size) (by simp[Wp];omega)];exact h.bl.block k e
  ·rw[UA,hx.len];exact p
  ·rcases p.2 with⟨B,-⟩|⟨A,f,cur,rfl,-⟩
   ·have:=(y.1 B).1;exact absurd this (by simp)
   ·simp[Wp]
theorem GLs.app{w W:Ur}{v:Ut}{m c:Nat}(h:GLs w W v xs)(hx:VL W q m ys)(b:xs.length+m<=1000000):
 ∃k W',(Vt #[24,24] 24 #[v,.slice q m c]).run prog W=.ok k W'/\GLs w W' k (xs++ys):=by
 obtain⟨k,W',d,e,-⟩:=h.app2 (c:=c) hx b;exact⟨k,W',d,e⟩
end
end Go.Proofs.YtdoammpgchejcaaGreat
