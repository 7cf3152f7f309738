import Derived.Deep.AppendSrc
import Derived.Lib.ConvBytes
import Derived.Laws.MathBits
import Derived.Deep.LoopGhost
import Derived.Laws.AppendOwn
import Derived.Test.YtdoammpgchejcaaGreatsz4
set_option linter.unusedVariables false
set_option linter.constructorNameAsVariable false
set_option linter.unusedSimpArgs false
set_option maxRecDepth 1000000
set_option maxHeartbeats 4000000
namespace Go.Proofs.YtdoammpgchejcaaGreat
open EC NT RG SP
open _root_.And renaming intro->V0
open _root_.Array renaming all_eq_true'->WW,getD_eq_getD_getElem?->UH,getElem?_eq_getElem->UZ,getElem?_eq_none->WM,getElem?_eq_some_iff->UY,getElem?_toList->Vo,length_toList->UJ,mapM_eq_mapM_toList->Xz,toArray_toList->XC
open _root_.Bool renaming and_eq_true->UK,or_eq_true->Xu
open _root_.Fin renaming ext->X8,val_add->yAD,val_mul->XI
open _root_.Go renaming Addr->Wt,Calls->UG,Exit->Yo,FuncId->Xp,Oper->Vj,Program->VC,Tmp->WB,TypeId->U7,Value->Us,World->Uq,bodyPost_ret->UD,execOp->U4,run_append_own->Y1,run_append_room_src->Y6,run_loadVar_mid->Ye,run_storeVar_mid->ZA,size_madeCells->YI,undef->WO,wpList_load_mid->U5,wpList_plain->Xf,wpList_store_mid->U1,wpOp_mono->Zz,wp_block->XG,wp_cond_false->VH,wp_cond_true->VD,wp_ret->We,wp_seq->Uy,wp_skip->WR
open _root_.Go.Act renaming put->UM
open _root_.Go.Addr renaming add->Zi
open _root_.Go.Builtin renaming append_->Vr,zeroCells->WC
open _root_.Go.Code renaming region->V3
open _root_.Go.Instr renaming box->Vd,build->Zg,indexAt->Vk,makeSlice->XB,sliceAt->Xm,storeAt->Yw,sureAddr->X4
open _root_.Go.IntKind renaming i64->VR,wrap_i64->Yj
open _root_.Go.Next renaming value->Xo
open _root_.Go.Oper renaming wp->VS
open _root_.Go.Region renaming binds->VO,ready->U6
open _root_.Go.Result renaming andThen_ok->Vl
open _root_.Go.RowKit.Below renaming refl->UQ
open _root_.Go.RowKit.Hid renaming out->Zf
open _root_.Go.Sem renaming run_bind->UU,run_pure->Wq
open _root_.Go.Src renaming ofNil->yB8
open _root_.Go.Value renaming agg->U2,func->Z0,ownBlock->V8,slice->Vv
open _root_.Go.World renaming cell?_of_block->UV,frozen?_of_block->VT,rangeAt_setCells_apart->Vg,rangeAt_setCells_same->VN,setCells->YJ,size_alloc->UA,there_setCells->VV
open _root_.Int renaming natCast_add->yBs,natCast_mul->Xv,tdiv_eq_ediv_of_nonneg->X7,toNat_natCast->XZ
open _root_.List renaming all_eq_true->U9,any_eq_true->yA4,append_nil->Xt,drop->Xl,drop_length->yA2,flatMap_append->Zq,getElem?_eq_getElem->UF,getElem?_eq_some_iff->UE,getElem_mem->VG,length_append->Uz,length_map->UP,mapM_cons->YP,mapM_nil->YZ,mem_append->Wy,mem_cons_of_mem->Va,mem_cons_self->Vt,mem_map->Vm,mem_range->VZ,mem_singleton->WL,mem_toArray->X6,not_mem_nil->UX,range->VF,setIfInBounds_toArray->Ur,set_cons_succ->Ut,set_cons_zero->Uu,size_toArray->VB,take->Xk
open _root_.Nat renaming div_eq_of_lt->Xd,le_of_ble_eq_true->VQ,le_of_eq->YO,le_refl->Uv,le_trans->UB,lt_of_lt_of_le->Uw,lt_of_succ_le->Xi,lt_or_ge->Wp,mod_eq_of_lt->UR,mod_lt->V4,mul_comm->Vu,mul_le_mul->WP,mul_le_mul_left->Yh,mul_pos->yAx,mul_succ->Yi,not_lt_zero->Ym,one_mul->Xh,pos_of_neZero->Yy,pow_succ->V6,reduceAdd->VJ,succ_le_of_lt->yAV,zero_add->UC,zero_le->Wx,zero_mod->YM
open _root_.Option renaming isSome_iff_exists->Vq,map_eq_some_iff->Ux,some->UN
open _root_.Or renaming inl->U3,inr->UW
open _root_.Prod renaming fst->Zw,mk->V5,snd->Zv
open _root_.Subtype renaming ext->Yr
open Go.Proofs.Tryz
open Go.RowKit Go.Sort Go.Deep
section
open Go.Shelf
variable {P:Nat}[NeZero P]{N:Nat}
theorem wV(k:ByteArray)(a:Option Wt)(m c:Nat)(w:Uq):
 UG prog 50 #[.string k,.slice a m c] w (Ret λe w'=>e=.func (.func 112) #[] #[jZ w.heap.size,.pointer (some ⟨w.heap.size+1,0,none⟩)]/\w'=(w.alloc (.cells #[.string k] 9)).alloc (.cells #[.slice a m c] 23)):=by
 go_enter func50,ntmps50;go_wp2;go_ret;exact⟨_,rfl,rfl,rfl⟩
noncomputable def hpt (P:Nat) [NeZero P] (k:ByteArray) (b:List UInt8):Fin P × Fin P:=(cands P k b 256).headD (gX P,gY P)
theorem MZ{k:ByteArray}{b:List UInt8}{i:Nat}{x:Fin P × Fin P}(h:cand P k b i=some x):x.2*x.2=x.1*x.1*x.1+7:=by
 unfold cand at h;split at h
 ·obtain⟨y,c,rfl⟩:=Ux.1 h;exact Nv c
 ·cases h
theorem JX{k:ByteArray}{b:List UInt8}{n:Nat}{x:Fin P × Fin P}(h:x∈cands P k b n):x.2*x.2=x.1*x.1*x.1+7:=by
 unfold cands at h;obtain⟨i,-,c⟩:=List.mem_filterMap.1 h;exact MZ c
theorem AY(C:Fld P)(k:ByteArray)(b:List UInt8):On (.some (hpt P k b):EC.Pt P):=by
 unfold hpt;cases h:cands P k b 256 with
 | nil=>exact Cr C
 | cons x r=>exact IV (x:=x.1) (y:=x.2) (JX (by rw[h];exact Vt))
theorem Lv(C:Fld P)(q:Fin P × Fin P)(h:On (.some q:EC.Pt P)):tD q.1 q.2=wr (.some q:EC.Pt P):=vM C ⟨rfl,rfl⟩ h
theorem Pv(C:Fld P)(k:ByteArray)(b:List UInt8):tD (hpt P k b).1 (hpt P k b).2=wr (.some (hpt P k b):EC.Pt P):=Lv C _ (AY C k b)
theorem Ae(C:Fld P)(k:ByteArray)(a:Option Wt)(m c:Nat)(b:List UInt8)(w:Uq)(f:k.size<=1000000)(l:PartOk w (.slice a m c) b):
 UG prog 49 #[.func (.func 112) #[] #[jZ w.heap.size,.pointer (some ⟨w.heap.size+1,0,none⟩)]] ((w.alloc (.cells #[.string k] 9)).alloc (.cells #[.slice a m c] 23)) (rZ w λe w'=>e=pv (hpt P k b).1 (hpt P k b).2):=by
 have g:=Made.alloc w [.string k] 9;have j:=Made.alloc (w.alloc (.cells #[.string k] 9)) [.slice a m c] 23;have d:kZ w ((w.alloc (.cells #[.string k] 9)).alloc (.cells #[.slice a m c] 23)):=((UQ _ w).alloc (Uv _) _).alloc (by rw[UA];omega) _;have q:((w.alloc (.cells #[.string k] 9)).alloc (.cells #[.slice a m c] 23)).heap.size=w.heap.size+2:=by rw[UA,UA]
 have p:((w.alloc (.cells #[.string k] 9)).alloc (.cells #[.slice a m c] 23)).cell? ⟨w.heap.size,0,none⟩=some (.string k):=by
  rw[UV (a:=⟨w.heap.size,0,none⟩) (Below.heap_alloc _ _ _ (by rw[UA];exact Nat.lt_succ_self _))];exact g.range 0 _ rfl
 have o:((w.alloc (.cells #[.string k] 9)).alloc (.cells #[.slice a m c] 23)).cell? ⟨w.heap.size+1,0,none⟩=some (.slice a m c):=by
  have:=j.range 0 _ rfl;rwa[UA]at this
 refine(MN C _ (cands P k b 256) 256 _ (λn=>Pp C k (.slice a m c) b w.heap.size (w.heap.size+1) _ f p o oM oM (l.below d) n)).mono ?_;rintro e w' ⟨v,rfl,i,rfl⟩;exact⟨_,rfl,d.trans (i.mono d.size),rfl⟩
theorem Kw(C:Fld P)(k:ByteArray)(a:Option Wt)(m c:Nat)(b:List UInt8)(w:Uq)(j:k.size<=1000000)(t:PartOk w (.slice a m c) b):
 UG prog 202 #[.string k,.slice a m c] w (rZ w λe w'=>Hb w (wr (.some (hpt P k b):EC.Pt P)) e w'):=by
 have x:=Ae C k a m c b w j t;have l:∀w,UG prog 52 #[pv (hpt P k b).1 (hpt P k b).2] w (rZ w λe w'=>mL w (tD (hpt P k b).1 (hpt P k b).2) e w'):=vK C _ _;rw[Pv C]at l;go_enter func202,ntmps202;go_wp2_with fail
 refine(wV k a m c w).mono ?_;rintro e z ⟨v,rfl,rfl,rfl⟩;go_wp2_with fail
 refine x.mono ?_;rintro e A ⟨v,rfl,p,rfl⟩;have f:=mk1 (p);go_wp2_with fail
 refine(l _).mono ?_;rintro e u ⟨v,rfl,r,g,d,rfl,n,q,i,o⟩;have s:=mk1 (f.trans (r.mono f.size));have y:Hid (Hb w (wr (.some (hpt P k b):EC.Pt P)) (.tuple #[sZ g 33 d,iZ 0]) u):=⟨g,d,rfl,n,UB f.size q,i,o⟩
 go_wp2
 go_ret2
 exact⟨_,rfl,s.out,y.out⟩
end
section
variable {P:Nat}[NeZero P]{N:Nat}
theorem FK(C:Fld P)(lb:ByteArray)(p:lb.size<=1000000)(q:Option Wt)(s t:Nat)(tx:List UInt8)(w:Uq)(E:PartOk w (.slice q s t) tx):
 UG prog 136 #[.string lb,.slice q s t] w (rZ w λe w'=>e=pvl (wr (.some (hpt P lb tx):EC.Pt P))):=by
 obtain⟨T,x⟩:=hE (wr (.some (hpt P lb tx):EC.Pt P));have o:T.size=33:=by rw[<-x.out];exact aT _
 rw[x.out];have G:=mk1 (C);have I:=Hid.mk' E;have H:=Hid.mk' p;obtain⟨j,i⟩:=hE (w.alloc (.cells z33.toArray 103));have l:Hid (Row j w.heap.size z33/\kZ w j):=by rw[<-i.out];exact⟨aE w _ _,aC w _⟩
 obtain⟨d,r,u⟩:=Ux.1 uCP;have a:=mk2 r u;go_enter func136,ntmps136;go_wp2_with (refine bG (v:=jZ w.heap.size) (w':=j) rfl (.alloc 103) rfl ?_ ?_;(rw[<-i.out];kernel_rfl))
 refine(Kw G.out lb q s t tx j H.out (I.below l.2)).mono ?_;rintro e D ⟨K,rfl,b,g,J,rfl,-,-,F,A⟩;rw[x.out]at A;have n:=mk3 (l.1.below b) (l.2.trans (b.mono l.2.size)) (pW A F);have B:=FU g J;obtain⟨z,c⟩:=hE (D.setCells w.heap.size 0 (aA T));have k:=aB o;have y:Hid (Row z w.heap.size (aA T)/\kZ w z):=by rw[<-c.out];exact⟨n.1.put (by rw[k];rfl),RG.below_setCells (Uv _) _ _ _ n.2.1⟩
 obtain⟨L,f⟩:=hE (U2 (aA T).toArray);have m:Hid ((prog.info? 103).map (·.size)=some (aA T).length/\D.there w.heap.size 0 (aA T).toArray.size/\(prog.info? 103).map (·.size)=some (aA T).toArray.size):=by
  have e:(aA T).toArray.size=33:=by rw[VB];exact k
  refine⟨by rw[k];exact cV,by rw[e];exact n.1.2.2,by rw[e];exact cV⟩
 go_wp2_with (first|(refine U5 rfl 103 _ rfl g 0 ?_ (aA T) d ?_ ?_ ?_ ?_ ?_;rfl;exact n.2.2.2.1;exact a.1;exact a.2;exact m.1;rw[f.out])|(refine U1 rfl 103 _ _ rfl w.heap.size 0 (aA T).toArray ?_ ?_ ?_ ?_ ?_ ?_;rfl;exact f.symm;exact m.2.1;exact m.2.2;exact bW T;rw[show(aA T).toArray.toList=aA T from rfl,c.out]))
 refine UD (aG 4 103 rfl y.1 rfl uCP m.1) rfl ?_;exact⟨_,rfl,y.2,rfl⟩
theorem IX:Gives 70 #[uZ 1] (nv 1):=by
 intro w;go_enter func70,ntmps70;refine RG.M.enter [(0,.v (uZ 1))] 6 kR ?_;intro a0 d;repeat refine Uy ?_
 refine d.T [.m 0] [(0,RG.z 4)] [] [RG.z 4] [0,2] ⟨mk 0 49,yCl⟩ ?_;intro k f g c;repeat refine Uy ?_
 refine c.T [.x (uZ 1),.x (nv 1),.x (nv 1),.u 0] [] [(0,3,wn 1)] [wn 1] [2] ⟨st,st,st,RG.pt i40,yCl⟩ ?_;intro a2 e b;refine We ?_;refine UD (v:=nv 1) (aI b.st 2 49 rfl 0 _ rfl (b.at (s:=(.p 0 0))) u40 i40) b.sl.defers ?_;exact⟨_,rfl,b.st.bel.below,rfl⟩
def Sm(B:Nat)(W:Uq)(v:Us)(l:List (Nat × Bs)):Prop:=∃g c,v=sZ g l.length c/\l.length<=c/\B<=g/\g<W.heap.size/\W.rangeAt g 0 (aU l)
theorem Sm.grow{B:Nat}{W W':Uq}{v:Us}{l:List (Nat × Bs)}(h:Sm B W v l)(k:kZ W W'):Sm B W' v l:=by
 obtain⟨g,c,e,d,i,b,f⟩:=h;exact⟨g,c,e,d,i,Uw b k.size,RG.range_below f k b⟩
theorem cellsT_one'(n:Nat)(a:Bs):aU [(n,a)]=wn n++aA a:=by rw[fG];exact Xt _
theorem Sm.one{B W k n}{w:Uq}{a:Bs}(h:Row w k (wn n++aA a))(b:B<=k)(c:w=W):Sm B W (sZ k 1 1) [(n,a)]:=by
 subst c;exact⟨k,1,rfl,Uv _,b,h.1,by rw[cellsT_one'];exact h.2.1⟩
theorem infoT':(prog.info? 226).map (λi=>(i.size,i.bytes,i.zero.map λz=>z.cells.size))=some (37,72,some 37):=kR
theorem Fg(n:Nat)(u:n<=10000000)(w:Uq):UG prog 203 #[.slice none 0 0,iZ n] w (rZ w λe w'=>w'.ownsRow w.heap.size 226 37 e 0 []):=by
 by_cases o:n=0
 ·subst o;go_enter func203,ntmps203;go_wp2;go_ret;exact⟨_,rfl,UQ _ _,World.ownsRow_nil _ _ _ _⟩
 ·obtain⟨i,t,m⟩:=Ux.1 infoT';simp only[V5.injEq]at m;obtain⟨v,p,q⟩:=m;obtain⟨z,s,l⟩:=Ux.1 q;have g:=Lib.run_append_nil_zeros (P:=prog) w 131 3 131 226 i z .i64 .i64 C3 Qz t s n oM oM oM (by rw[p];omega);have d:=grownCap_ge w n 0 226;have k:=grownCap_le_maxLen w n 0 226 (by unfold maxLen;omega);have b:(WC z.cells n++WC z.cells (grownCap w n 0 226-n)).size=grownCap w n 0 226*37:=by rw[Array.size_append,size_zeroCells,size_zeroCells,l];omega
  generalize grownCap w n 0 226=j at g d k b;generalize WC z.cells n++WC z.cells (j-n)=cur at g b;obtain⟨f,c⟩:∃f,Hid (w.drew.alloc (.cells cur 226)=f):=⟨_,rfl⟩
  rw[c.out]at g;have r:=Hid.mk' g;have K:Hid (kZ w f/\f.ownsRow w.heap.size 226 37 (sZ w.heap.size 0 j) 0 []):=by
   rw[<-c.out];exact⟨(UQ _ _).drew.alloc (Uv _) _,World.ownsRow_made w.drew cur j (Uv _) k b⟩
  go_enter func203,ntmps203;go_wp2_with (at_builtin;refine Lib.wpList_append_run _ rfl _ _ _ _ rfl _ _ rfl rfl _ _ r.out ?_)
  go_ret;exact⟨_,rfl,K.1,K.2⟩
theorem D6(l m:List (Nat × Bs)):aU (l++m)=aU l++aU m:=by unfold aU;rw[Zq]
theorem GX(l:List (Nat × Bs)):∀u∈aU l,u.oneCell'=true:=λu k=>by
 unfold aU at k;obtain⟨x,-,hx⟩:=List.mem_flatMap.1 k;exact cells_one x.1 x.2 u hx
theorem qI:∀ {l:List (Nat × Bs)},(∀x∈l,x.2.size=33)->(aU l).length=l.length*37
 | [],_=>rfl
 | x :: r,h=>by
  rw[fG,Uz,gJ (h x Vt),qI λy k=>h y (Va _ k),List.length_cons];omega
theorem Ca{b B:Nat}{W:Uq}{v x:Us}{l m:List (Nat × Bs)}(d:W.ownsRow b 226 37 v l.length (aU l))(w:∀y∈m,y.2.size=33)(hx:Sm B W x m)(E:l.length+m.length<=1000000)(p:b<=W.heap.size):
 ∃e W',(Vr #[131,131] 131 #[v,x]).run prog W=.ok e W'/\W'.ownsRow b 226 37 e (l++m).length (aU (l++m))/\W.grownBy W' v.ownBlock:=by
 obtain⟨i,A,g⟩:=Ux.1 infoT';simp only[V5.injEq]at g;obtain⟨D,r,s⟩:=g;obtain⟨z,t,f⟩:=Ux.1 s;obtain⟨k,c,rfl,G,F,e3,o⟩:=hx;obtain⟨e,W',n,a,C,-⟩:=Y1 (P:=prog) W b 131 131 226 i z 37 72 C3 A t D r f dC v l.length (aU l) d (aZ k) m.length c (aU m) (qI w)
  (λj u q=>by
   have:=o j u q;rw[UC]at this;rw[add0];exact this) (GX m) (by unfold maxLen;omega) oM p
 exact⟨e,W',n,by rw[Uz,D6];exact a,C⟩
theorem atS(k o n c i:Nat)(b:i<n)(w:Uq):(Vk 129 (.slice (some ⟨k,o,none⟩) n c) (iZ i)).run prog w=.ok (.pointer (some ⟨k,o+1*i,none⟩)) w:=by
 go_simp
def eO(L:Nat->List (Nat × Bs))(k:Nat):List (Nat × Bs):=(VF k).flatMap L
theorem dE(L:Nat->List (Nat × Bs))(i:Nat):eO L (i+1)=eO L i++L i:=by
 unfold eO;rw[List.range_succ,Zq];simp
theorem Bi(L:Nat->List (Nat × Bs)){k m:Nat}(b:∀j,j<k->(L j).length<=m):∀i,i<=k->(eO L i).length<=m*i
 | 0,_=>Uv _
 | i+1,hi=>by
  have d:=Bi L b i oM;have c:=b i oM;rw[dE,Uz,Yi];omega
theorem GQ(g k c:Nat)(L:Nat->List (Nat × Bs))(G:k<=1000)(Q:∀j,j<k->(L j).length<=600)(C:∀j,j<k->∀x∈L j,x.2.size=33)(w:Uq)(U:g<w.heap.size)(R:∀j,j<k->∃x,w.cell? ⟨g,j,none⟩=some x/\Sm 0 w x (L j)):
 UG prog 138 #[sZ g k c] w (rZ w λe w'=>w'.ownsRow w.heap.size 226 37 e (eO L k).length (aU (eO L k))):=by
 have J:=Hid.mk' R;have s:=mk1 (Bi L Q);have X:=Hid.mk' U;have T:=Hid.mk' C;go_enter func138,ntmps138;go_wp2_with fail
 go_loopg [3,11] k (λm s3 s11 W=>∃i:Nat,i+m=k/\s11=iZ i/\s3=iZ ((eO L i).length:Int)/\w=W)
 case atStart=>exact⟨0,oM,rfl,rfl,rfl⟩
 case round =>
  obtain⟨i,O,rfl,rfl,rfl⟩:=hrel;by_cases M:i<k
  ·have t:(i:Int)<(k:Int):=oM;obtain⟨x,K,hE⟩:=J.out i M;obtain⟨F,H,rfl,r,-⟩:=hE;have l:=atS g 0 k c i M;rw[show 0+1*i=i by omega]at l;have d:(eO L (i+1)).length=(eO L i).length+(L i).length:=by rw[dE,Uz]
   have n:=s.out i oM;have q:=s.out (i+1) oM;obtain⟨a,o⟩:=hE ((eO L i).length);obtain⟨b,f⟩:=hE ((L i).length);rw[o.out]at d n;rw[f.out]at d r;rw[o.out];rw[f.out]at K;go_wp2;go_roundg (gk-1)
   case measure=>omega
   case rel=>exact⟨i+1,oM,rfl,by rw[d,yBs],rfl⟩
  ·have t:¬(i:Int)<(k:Int):=oM;obtain rfl:i=k:=oM;go_wp2_with fail
   refine(Fg (eO L i).length (by have:=s.out i (Uv _);omega) w).mono ?_;rintro e Y ⟨v,rfl,n,z⟩;have S:=mk2 n z;go_wp2_with fail
   go_loopg [6,27] i (λm s6 s27 W=>∃j:Nat,j+m=i/\s27=iZ j/\Hid (kZ w W/\W.ownsRow w.heap.size 226 37 s6 (eO L j).length (aU (eO L j))))
   case atStart=>exact⟨0,oM,rfl,S⟩
   case round =>
    obtain⟨j,V,rfl,f⟩:=hrel;by_cases A:j<i
    ·have D:(j:Int)<(i:Int):=oM;obtain⟨x,r,o⟩:=J.out j A;have K:wr.cell? ⟨g,j,none⟩=some x:=by rw[f.1.cell (p:=⟨g,j,none⟩) X.out];exact r
     have hE:=o.grow f.1;have q:=s.out (j+1) oM;have d:(eO L (j+1)).length=(eO L j).length+(L j).length:=by rw[dE,Uz]
     obtain⟨I,W',E,B,N⟩:=Ca f.2 (T j A) hE (by rw[<-d];omega) f.1.size;rw[<-dE]at B;have P:Hid (kZ w W'/\W'.ownsRow w.heap.size 226 37 I (eO L (j+1)).length (aU (eO L (j+1)))):=⟨f.1.grown N f.1.size (λk G=>(f.2.lt k G).1),B⟩
     have u:=Hid.mk' E;obtain⟨F,H,rfl,-⟩:=hE;have l:=atS g 0 i c j A;rw[show 0+1*j=j by omega]at l;clear E B N d q f o r;go_wp2_with (first|(refine lK (x:=u6) (y:=sZ F (L j).length H) (v:=I) (w':=W') rfl _ _ 131 rfl ?_ ?_ ?_ ?_;rfl;rfl;exact u.out)|fail)
     go_roundg (gk-1)
     case measure=>omega
     case rel=>exact⟨j+1,oM,rfl,P⟩
    ·have D:¬(j:Int)<(i:Int):=oM;obtain rfl:j=i:=oM;go_wp2;go_ret;exact⟨_,rfl,f.1,f.2⟩
theorem EM{W:Uq}{k:Nat}{v:Us}{l:List (Nat × Bs)}(h:W.ownsRow k 226 37 v l.length (aU l))(i:0<l.length):Sm k W v l:=by
 have c:=λ{g:Nat}=>h.cells (g:=g)
 rcases h.2 with⟨-,m⟩|⟨g,cap,cur,rfl,f,d,e,-⟩
 ·omega
 ·refine⟨g,cap,rfl,e,f,(UY.1 d).1,λj u b=>?_⟩;have:=c (g:=g) rfl j u b;rw[add0]at this;rw[UC];exact this
theorem rT(B:Nat)(s t:Us)(l m:List (Nat × Bs))(i:0<l.length)(P:l.length<=500)(Q:m.length<=500)(a:∀x∈l,x.2.size=33)(q:∀x∈m,x.2.size=33)(w:Uq)(I:Sm B w s l)(G:Sm B w t m):
 UG prog 65 #[s,t] w (rZ w λe w'=>Sm w.heap.size w' e (l++m)):=by
 have K:=i;obtain⟨p,c1,M,-⟩:=id I;obtain⟨y,c2,L,-⟩:=id G;subst M;subst L;obtain⟨b,k⟩:=hE (w.alloc (.cells #[sZ p l.length c1,sZ y m.length c2] 131));have D:kZ w b:=by rw[<-k.out];exact aC _ _
 have A:w.heap.size<b.heap.size:=by rw[<-k.out,UA];omega
 have E:b.rangeAt w.heap.size 0 [sZ p l.length c1,sZ y m.length c2]:=by rw[<-k.out];exact(Made.alloc w [sZ p l.length c1,sZ y m.length c2] 131).range
 have N:=Hid.mk' (GQ w.heap.size 2 2 (λj=>if j=0 then l else m) dC (λj _=>by show(if j=0 then l else m).length<=600;split<;>omega) (λj _=>by
  show ∀x∈(if j=0 then l else m),x.2.size=33;split
  ·exact a
  ·exact q) b A (λj d=>by
  have r:∀ {v:Us}{l:List (Nat × Bs)},Sm B w v l->Sm 0 b v l:=λh=>by
   obtain⟨g,c,f,n,-,z,o⟩:=h.grow D;exact⟨g,c,f,n,Wx _,z,o⟩
  have d:j=0\/j=1:=oM;rcases d with rfl|rfl
  ·exact⟨_,E 0 _ rfl,r I⟩
  ·exact⟨_,E 1 _ rfl,r G⟩))
 have d:eO (λj=>if j=0 then l else m) 2=l++m:=by rw[dE,dE];rfl
 have u:=Hid.mk' D;have C:Hid (eO (λj=>if j=0 then l else m) 2=l++m/\0<(l++m).length):=⟨d,by rw[Uz];omega⟩
 go_enter func65,ntmps65;go_wp2_with fail
 rw[k.out];refine N.mono ?_;rintro e F ⟨J,rfl,r,ho⟩;rw[C.1]at ho;have H:Hid (kZ w F/\Sm w.heap.size F J (l++m)):=by
  obtain⟨g,c,f,n,O,z,o⟩:=EM ho C.2;exact⟨u.trans (r.mono u.size),g,c,f,n,UB u.size O,z,o⟩
 go_wp2;go_ret;exact⟨_,rfl,H.1,H.2⟩
theorem Sm.point(C:Fld P)(O:Ord N)(b:∀r:EC.Pt P,On r->mul N r=none){B:Nat}{w:Uq}{v:Us}{l:List (Nat × Bs)}(h:Sm B w v l)(i:0<l.length)(a:l.length<=512)(p:∀x∈l,x.1<N)(f:PtsL P l):
 UG prog 67 #[v] w (rZ w λe w'=>e=pvl (wr (fJ P l))):=by
 obtain⟨g,c,rfl,-,-,z,s⟩:=h;have d:∀x∈l.map (·.2),x.size=33:=λx hx=>by
  obtain⟨y,k,rfl⟩:=Vm.1 hx;obtain⟨X,-,e⟩:=f y k;rw[e];exact aT _
 have m:∀j (k:j<l.length),((l[j]?).getD (0,#[]))=l[j]:=λj k=>by rw[UF k];rfl
 have q:∀j,j<l.length->On (fR P ((l[j]?).getD (0,#[])).2):=λj k=>by rw[m j k];exact f.on C (VG k)
 refine(Dd C O b g l.length c i a (λj=>((l[j]?).getD (0,#[])).1) (λj=>fR P ((l[j]?).getD (0,#[])).2) (λj k=>by rw[m j k];exact p _ (VG k)) q w z (λj k=>?_)).mono ?_
 ·rw[m j k];obtain⟨X,D,n⟩:=f _ (VG k);rw[n,lM C D,<-n];intro t u o;have E:t<37:=by
   have:=(UE.1 o).1;rw[gJ (d _ (Vm.2 ⟨_,VG k,rfl⟩))]at this;exact this
  have:=s (37*j+t) u (by rw[lD l d j k t E];exact o);rw[UC]at this;exact this
 ·rintro e w' ⟨u,rfl,n,rfl⟩;refine⟨_,rfl,n,?_⟩;rw[wE C l f _ (Uv _),List.take_length]
theorem xE(C:Fld P){a b:EC.Pt P}(c:On a)(k:On b):∀n,mul n (EC.add a b)=EC.add (mul n a) (mul n b)
 | 0=>rfl
 | n+1=>by
  show EC.add (mul n (EC.add a b)) (EC.add a b)=EC.add (EC.add (mul n a) a) (EC.add (mul n b) b);rw[xE C c k n];exact C.cur.swap (cG C.cur c n) (cG C.cur k n) c k
def SmZ(B:Nat)(W:Uq)(v:Us)(l:List (Nat × Bs)):Prop:=(v=.slice none 0 0/\l=[])\/Sm B W v l
theorem SmZ.grow{B:Nat}{W W':Uq}{v:Us}{l:List (Nat × Bs)}(h:SmZ B W v l)(k:kZ W W'):SmZ B W' v l:=by
 rcases h with h|h
 ·exact U3 h
 ·exact UW (h.grow k)
theorem SmZ.form{B:Nat}{W:Uq}{v:Us}{l:List (Nat × Bs)}(h:SmZ B W v l):∃q c,v=.slice q l.length c/\l.length<=c:=by
 rcases h with⟨rfl,rfl⟩|⟨g,c,b,k,-⟩
 ·exact⟨none,0,rfl,Uv _⟩
 ·exact⟨_,_,b,k⟩
theorem Qh:∀W:Uq,(Vr #[131,131] 131 #[.slice none 0 0,.slice none 0 0]).run prog W=.ok (.slice none 0 0) W:=λW=>kR
theorem IQ{b B:Nat}{W:Uq}{v x:Us}{l m:List (Nat × Bs)}(k:W.ownsRow b 226 37 v l.length (aU l))(f:∀y∈m,y.2.size=33)(hx:SmZ B W x m)(e:l.length+m.length<=1000000)(d:b<=W.heap.size):
 ∃c W',(Vr #[131,131] 131 #[v,x]).run prog W=.ok c W'/\W'.ownsRow b 226 37 c (l++m).length (aU (l++m))/\W.grownBy W' v.ownBlock:=by
 rcases hx with⟨rfl,rfl⟩|hx
 ·rw[Xt];rcases id k.2 with⟨rfl,p⟩|⟨g,cap,cur,rfl,s,q,r,-⟩
  ·exact⟨_,_,Qh W,k,⟨rfl,rfl,rfl,Uv _,λ_ _ _=>rfl⟩⟩
  ·obtain⟨i,n,o⟩:=Ux.1 infoT';have:=Y6 (P:=prog) W 131 131 131 226 i C3 n g 0 l.length cap (.slice none 0 0) 0 [] (yB8 (e':=226) _ C3 0) oM (λj c=>by cases c) (λj c=>by cases c);exact⟨_,_,this,k,⟨rfl,rfl,rfl,Uv _,λ_ _ _=>rfl⟩⟩
 ·exact Ca k f hx e d
theorem GP(g k c:Nat)(L:Nat->List (Nat × Bs))(G:k<=1000)(Q:∀j,j<k->(L j).length<=600)(C:∀j,j<k->∀x∈L j,x.2.size=33)(w:Uq)(U:g<w.heap.size)(R:∀j,j<k->∃x,w.cell? ⟨g,j,none⟩=some x/\SmZ 0 w x (L j)):
 UG prog 138 #[sZ g k c] w (rZ w λe w'=>w'.ownsRow w.heap.size 226 37 e (eO L k).length (aU (eO L k))):=by
 have J:=Hid.mk' R;have s:=mk1 (Bi L Q);have X:=Hid.mk' U;have T:=Hid.mk' C;go_enter func138,ntmps138;go_wp2_with fail
 go_loopg [3,11] k (λm s3 s11 W=>∃i:Nat,i+m=k/\s11=iZ i/\s3=iZ ((eO L i).length:Int)/\w=W)
 case atStart=>exact⟨0,oM,rfl,rfl,rfl⟩
 case round =>
  obtain⟨i,O,rfl,rfl,rfl⟩:=hrel;by_cases M:i<k
  ·have t:(i:Int)<(k:Int):=oM;obtain⟨x,K,hE⟩:=J.out i M;obtain⟨F,H,rfl,r⟩:=hE.form;have l:=atS g 0 k c i M;rw[show 0+1*i=i by omega]at l;have d:(eO L (i+1)).length=(eO L i).length+(L i).length:=by rw[dE,Uz]
   have n:=s.out i oM;have q:=s.out (i+1) oM;obtain⟨a,o⟩:∃a,Hid ((eO L i).length=a):=⟨_,rfl⟩
   obtain⟨b,f⟩:∃b,Hid ((L i).length=b):=⟨_,rfl⟩
   rw[o.out]at d n;rw[f.out]at d r;rw[o.out];rw[f.out]at K;go_wp2;go_roundg (gk-1)
   case measure=>omega
   case rel=>exact⟨i+1,oM,rfl,by rw[d,yBs],rfl⟩
  ·have t:¬(i:Int)<(k:Int):=oM;obtain rfl:i=k:=oM;go_wp2_with fail
   refine(Fg (eO L i).length (by have:=s.out i (Uv _);omega) w).mono ?_;rintro e Y ⟨v,rfl,n,z⟩;have S:=mk2 n z;go_wp2_with fail
   go_loopg [6,27] i (λm s6 s27 W=>∃j:Nat,j+m=i/\s27=iZ j/\Hid (kZ w W/\W.ownsRow w.heap.size 226 37 s6 (eO L j).length (aU (eO L j))))
   case atStart=>exact⟨0,oM,rfl,S⟩
   case round =>
    obtain⟨j,V,rfl,f⟩:=hrel;by_cases A:j<i
    ·have D:(j:Int)<(i:Int):=oM;obtain⟨x,r,o⟩:=J.out j A;have K:wr.cell? ⟨g,j,none⟩=some x:=by rw[f.1.cell (p:=⟨g,j,none⟩) X.out];exact r
     have hE:=o.grow f.1;have q:=s.out (j+1) oM;have d:(eO L (j+1)).length=(eO L j).length+(L j).length:=by rw[dE,Uz]
     obtain⟨I,W',E,B,N⟩:=IQ f.2 (T j A) hE (by rw[<-d];omega) f.1.size;rw[<-dE]at B;have P:Hid (kZ w W'/\W'.ownsRow w.heap.size 226 37 I (eO L (j+1)).length (aU (eO L (j+1)))):=⟨f.1.grown N f.1.size (λk G=>(f.2.lt k G).1),B⟩
     have u:=Hid.mk' E;obtain⟨F,H,rfl,-⟩:=hE.form;have l:=atS g 0 i c j A;rw[show 0+1*j=j by omega]at l;clear E B N d q f o r;go_wp2_with (first|(refine lK (x:=u6) (y:=.slice F (L j).length H) (v:=I) (w':=W') rfl _ _ 131 rfl ?_ ?_ ?_ ?_;rfl;rfl;exact u.out)|fail)
     go_roundg (gk-1)
     case measure=>omega
     case rel=>exact⟨j+1,oM,rfl,P⟩
    ·have D:¬(j:Int)<(i:Int):=oM;obtain rfl:j=i:=oM;go_wp2;go_ret;exact⟨_,rfl,f.1,f.2⟩
theorem cO(B:Nat)(s t:Us)(l m:List (Nat × Bs))(i:0<(l++m).length)(O:l.length<=500)(P:m.length<=500)(a:∀x∈l,x.2.size=33)(q:∀x∈m,x.2.size=33)(w:Uq)(I:SmZ B w s l)(G:SmZ B w t m):
 UG prog 65 #[s,t] w (rZ w λe w'=>Sm w.heap.size w' e (l++m)):=by
 obtain⟨p,c1,L,-⟩:=I.form;obtain⟨y,c2,K,-⟩:=G.form;subst L;subst K;obtain⟨b,k⟩:=hE (w.alloc (.cells #[.slice p l.length c1,.slice y m.length c2] 131));have D:kZ w b:=by rw[<-k.out];exact aC _ _
 have A:w.heap.size<b.heap.size:=by rw[<-k.out,UA];omega
 have E:b.rangeAt w.heap.size 0 [.slice p l.length c1,.slice y m.length c2]:=by rw[<-k.out];exact(Made.alloc w [.slice p l.length c1,.slice y m.length c2] 131).range
 have M:=Hid.mk' (GP w.heap.size 2 2 (λj=>if j=0 then l else m) dC (λj _=>by show(if j=0 then l else m).length<=600;split<;>omega) (λj _=>by
  show ∀x∈(if j=0 then l else m),x.2.size=33;split
  ·exact a
  ·exact q) b A (λj d=>by
  have r:∀ {v:Us}{l:List (Nat × Bs)},SmZ B w v l->SmZ 0 b v l:=λh=>by
   rcases h.grow D with h|⟨g,c,f,n,-,z,o⟩
   ·exact U3 h
   ·exact UW ⟨g,c,f,n,Wx _,z,o⟩
  have d:j=0\/j=1:=oM;rcases d with rfl|rfl
  ·exact⟨_,E 0 _ rfl,r I⟩
  ·exact⟨_,E 1 _ rfl,r G⟩))
 have d:eO (λj=>if j=0 then l else m) 2=l++m:=by rw[dE,dE];rfl
 have u:=Hid.mk' D;have C:=mk2 d i;go_enter func65,ntmps65;go_wp2_with fail
 rw[k.out];refine M.mono ?_;rintro e F ⟨J,rfl,r,ho⟩;rw[C.1]at ho;have H:Hid (kZ w F/\Sm w.heap.size F J (l++m)):=by
  obtain⟨g,c,f,n,N,z,o⟩:=EM ho C.2;exact⟨u.trans (r.mono u.size),g,c,f,n,UB u.size N,z,o⟩
 go_wp2;go_ret;exact⟨_,rfl,H.1,H.2⟩
structure Kp(w:Uq)(W:Uq)(rs:List (Nat × List Us)):Prop where
 bl:kZ w W
 rw:∀x∈rs,Row W x.1 x.2
theorem Kp.grow{w W W':Uq}{b:List (Nat × List Us)}(h:Kp w W b)(k:kZ W W'):Kp w W' b:=⟨h.bl.trans (k.mono h.bl.size),λx hx=>(h.rw x hx).below k⟩
theorem Kp.drew{w W:Uq}{k:List (Nat × List Us)}(h:Kp w W k):Kp w W.drew k:=⟨h.bl.drew,h.rw⟩
theorem Kp.at{w W:Uq}{b:List (Nat × List Us)}(h:Kp w W b){k:Nat}{c:List Us}(i:Nat)(d:b[i]? = some (k,c)):Row W k c:=h.rw _ (List.mem_of_getElem? d)
def Nw(B:Nat)(c:List Us)(v:Us)(W:Uq):Prop:=∃k,v=jZ k/\B<=k/\Row W k c
section
variable (w:Uq) (k6 k8 k9 k10 x kk c z B0:Nat) (A F:Bs) (v1:Us)
def R5:Nat->Us->Uq->Prop
 | 0,v,_=>v=nv kk
 | 1,v,_=>v=pvl A
 | 2,v,_=>v=pvl F
 | 3,v,W=>Nw B0 z33 v W
 | _,_,_=>True
def Two(v:Us)(W:Uq):Prop:=∃k y,v=sZ k 2 2/\k<W.heap.size/\W.cell? ⟨k,0,none⟩=some (sZ k9 33 33)/\W.cell? ⟨k,1,none⟩=some y/\El 32 W y (bx z)
def Ans(v:Us)(W:Uq):Prop:=W.ownsRow B0 5 1 v 65 ((F.toList++(bx z).toList).map encB)
def R7:Nat->Us->Uq->Prop
 | 0,v,_=>v=sZ k9 33 33
 | 1,v,_=>v=nv c
 | 2,v,_=>v=nv kk
 | 3,v,_=>v=nv x
 | 4,v,_=>v=nv z
 | 5,v,W=>El 32 W v (bx z)
 | 6,v,W=>Two k9 z v W
 | 7,v,W=>Ans z B0 F v W
 | 8,v,W=>Ans z B0 F v W
 | 9,v,_=>v=iZ 0
 | _,_,_=>True
end
theorem qD{P:VC}{c:Func}{tmps:Array Us}{W:Uq}{k:Nat}{vs:List Us}{v:Us}(t u:WB)(T:U7)(e:c.results=#[.cell t T,.tmp u])(h:Row W k vs)(j:tmps[t]? = some (jZ k))(hv:tmps[u]? = some v)
 (b:(P.underlying T).map (·.isRow)=some true) (i:(P.info? T).map (·.size)=some vs.length):(results c tmps).run P W=.ok (.tuple #[.agg vs.toArray,v]) W:=by
 obtain⟨d,b,hd⟩:=Ux.1 b;have l:=Ye (P:=P) W k 0 T vs d h.2.1 b hd i;have f:tmps.getD t WO=jZ k:=by rw[UH,j];rfl
 have g:tmps.getD u WO=v:=by rw[UH,hv];rfl
 unfold results;rw[e];simp only[Xz,YP,YZ,f,g,asAddr];simp[UU,l]
theorem NV(w:Uq):(Zg 103 #[]).run prog w=.ok (.agg z33.toArray) w:=kR
theorem Qg(g o k:Nat)(w:Uq):(Instr.arrayAt 103 (.slice (some ⟨g,o,none⟩) 33 k)).run prog w=.ok (oZ g o) w:=kR
theorem EE{k:Bs}{p:Fin P × Fin P}(h:rd P k=some p):k.size=33:=by
 unfold rd at h;split at h
 ·assumption
 ·cases h
theorem GI{W:Uq}{g o:Nat}{b:Bs}(h:Holds encB W g o b):W.rangeAt g o (aA b):=λj u k=>by
 unfold aA at k;rw[List.getElem?_map]at k;obtain⟨x,hx,rfl⟩:=Ux.1 k;have c:j<b.size:=by have:=(UE.1 hx).1;simpa using this
 rw[(h j c).1,getElem!_pos b j c];rw[Vo,UZ c]at hx;rw[UN.inj hx]
theorem FI(C:Fld P)(v:Us)(k:Bs)(p:Fin P × Fin P)(w:Uq)(hv:Arg33 w v k)(a:rd P k=some p):UG prog 53 #[v] w (rZ w λe w'=>e=.tuple #[pvl k,.bool true]):=by
 have y:=EE a;have L:Hid (∀W,kZ w W->UG prog 118 #[v] W (rZ W λe w'=>e=.bool true)):=λW G=>by
  have h:=Cq C v k W (hv.below G);rw[a]at h;exact h
 obtain⟨q,n,cap,rfl,F,I⟩:=hv;rw[y]at F;subst F;obtain⟨g,o,rfl,-,H,K⟩:=I rfl;have B:=mk2 (GI K) H;obtain⟨m,l⟩:=hE (w.alloc (.cells z33.toArray 103));have f:Hid (Row m w.heap.size z33/\kZ w m):=by rw[<-l.out];exact⟨aE w _ _,aC w _⟩
 obtain⟨d,t,u⟩:=Ux.1 uCP;have A:=mk2 t u;have J:=Hid.mk' y;have D:=Qg g o cap;go_enter func53,ntmps53;go_wp2_with (first|(refine bG (v:=jZ w.heap.size) (w':=m) rfl (.alloc 103) rfl ?_ ?_;(rw[<-l.out];kernel_rfl))|fail)
 refine(L m f.2).mono ?_;rintro e E ⟨M,rfl,c,rfl⟩;have s:=mk3 (f.1.below c) (f.2.trans (c.mono f.2.size)) (RG.range_below B.1 (f.2.trans (c.mono f.2.size)) B.2);obtain⟨z,i⟩:=hE (E.setCells w.heap.size 0 (aA k));have b:=aB J.out;have x:Hid (Row z w.heap.size (aA k)/\kZ w z):=by rw[<-i.out];exact⟨s.1.put (by rw[b];rfl),RG.below_setCells (Uv _) _ _ _ s.2.1⟩
 obtain⟨N,j⟩:=hE (U2 (aA k).toArray);have r:Hid ((prog.info? 103).map (·.size)=some (aA k).length/\E.there w.heap.size 0 (aA k).toArray.size/\(prog.info? 103).map (·.size)=some (aA k).toArray.size):=by
  have e:(aA k).toArray.size=33:=by rw[VB];exact b
  refine⟨by rw[b];exact cV,by rw[e];exact s.1.2.2,by rw[e];exact cV⟩
 go_wp2_with (first|(refine U5 rfl 103 _ rfl g o ?_ (aA k) d ?_ ?_ ?_ ?_ ?_;rfl;exact s.2.2;exact A.1;exact A.2;exact r.1;rw[j.out])|(refine U1 rfl 103 _ _ rfl w.heap.size 0 (aA k).toArray ?_ ?_ ?_ ?_ ?_ ?_;rfl;exact j.symm;exact r.2.1;exact r.2.2;exact bW k;rw[show(aA k).toArray.toList=aA k from rfl,i.out])|fail)
 refine UD (qD 2 3 103 rfl x.1 rfl rfl uCP r.1) rfl ?_;exact⟨_,rfl,x.2,rfl⟩
theorem M8(C:Fld P)(v:Us)(i:Bs)(w:Uq)(hv:Arg33 w v i)(r:rd P i=none):UG prog 53 #[v] w (rZ w λe w'=>e=.tuple #[.agg z33.toArray,.bool false]):=by
 have t:Hid (∀W,kZ w W->UG prog 118 #[v] W (rZ W λe w'=>e=.bool false)):=λW p=>by
  have h:=Cq C v i W (hv.below p);rw[r]at h;exact h
 obtain⟨f,d⟩:=hE (w.alloc (.cells z33.toArray 103));have g:Hid (Row f w.heap.size z33/\kZ w f):=by rw[<-d.out];exact⟨aE w _ _,aC w _⟩
 obtain⟨q,c⟩:=hE (U2 z33.toArray);have s:Hid (z33.toArray.all (·.oneCell')=true):=by show _=_;decide +kernel
 go_enter func53,ntmps53;go_wp2_with (first|(refine bG (v:=jZ w.heap.size) (w':=f) rfl (.alloc 103) rfl ?_ ?_;(rw[<-d.out];kernel_rfl))|fail)
 refine(t f g.2).mono ?_;rintro e j ⟨u,rfl,k,rfl⟩;have l:=mk2 (g.1.below k) (g.2.trans (k.mono g.2.size));obtain⟨n,b⟩:=hE (j.setCells w.heap.size 0 z33);have m:Hid (Row n w.heap.size z33/\kZ w n):=by rw[<-b.out];exact⟨l.1.put rfl,RG.below_setCells (Uv _) _ _ _ l.2⟩
 have o:=Hid.mk' (NV j);rw[c.out]at o;go_wp2_with (first|(refine lJ (v:=q) (w':=j) rfl 103 _ rfl #[] ?_ ?_ ?_;kernel_rfl;exact o.out)|(refine U1 rfl 103 _ _ rfl w.heap.size 0 z33.toArray ?_ ?_ ?_ ?_ ?_ ?_;rfl;exact c.symm;exact l.1.2.2;exact cV;exact s.out;rw[show z33.toArray.toList=z33 from rfl,b.out])|fail)
 refine UD (qD 2 3 103 rfl m.1 rfl rfl uCP cV) rfl ?_;exact⟨_,rfl,m.2,rfl⟩
theorem atP(k o n c i:Nat)(b:i<n)(w:Uq):(Vk 200 (.slice (some ⟨k,o,none⟩) n c) (iZ i)).run prog w=.ok (.pointer (some ⟨k,o+33*i,none⟩)) w:=by
 go_simp
theorem Ru(N:Nat)(g:N<=512):∃C0:List Us,C0.length=33*N/\∀w:Uq,(XB 200 (iZ N) (iZ N)).run prog w=.ok (sZ w.heap.size N N) (w.alloc (.cells C0.toArray 103)):=by
 have c:prog.underlying 200=some (.slice 103):=kR;have f:(prog.info? 103).map (λi=>(i.size,decide (i.bytes<=4000),i.zero.isSome))=some (33,true,true):=kR;obtain⟨i,b,k⟩:=Ux.1 f;simp only[V5.injEq,decide_eq_true_eq]at k;obtain⟨n,d,m⟩:=k;obtain⟨z,e⟩:=Vq.1 m;refine⟨(madeCells z.cells (N*33)).toList,by rw[UJ,YI,Vu],λw=>?_⟩;have j:(i.bytes:Int)*(N:Int)<=281474976710656:=by
  have:i.bytes*N<=4000*512:=WP d g;have l:((i.bytes*N:Nat):Int)<=281474976710656:=oM;rwa[Xv]at l
 have:=run_make (P:=prog) w 200 103 i z c b e .i64 .i64 (N:Int) (N:Int) oM oM j oM;rw[XZ,n]at this;rw[XC];exact this
structure Az(w W:Uq)(K k i:Nat)(L:Nat->Bs):Prop where
 bl:kZ w W
 lt:K<W.heap.size
 th:W.there K 0 (33*k)
 rw:∀j,j<i->W.rangeAt K (33*j) (aA (L j))
theorem Az.grow{w W W':Uq}{K k i:Nat}{L:Nat->Bs}(h:Az w W K k i L)(b:kZ W W'):Az w W' K k i L:=
 ⟨h.bl.trans (b.mono h.bl.size),Uw h.lt b.size,dJ h.th b h.lt,λj c=>RG.range_below (h.rw j c) b h.lt⟩
theorem Az.put{w W:Uq}{K k i:Nat}{L:Nat->Bs}(h:Az w W K k i L)(d:w.heap.size<=K)(f:i<k)(c:∀j,j<=i->(L j).size=33):Az w (W.setCells K (33*i) (aA (L i))) K k (i+1) L:=by
 refine⟨RG.below_setCells d _ _ _ h.bl,by rw[setCells_size];exact h.lt,VV h.th _ _ _,λj g=>?_⟩;by_cases b:j=i
 ·subst b;refine VN W K _ _ λt e=>?_
  rw[aB (c j (Uv _))]at e;have:=h.th (33*j+t) oM;rwa[UC]at this
 ·exact Vg (h.rw j oM) K _ _ (UW (U3 (by rw[aB (c j oM)];omega)))
def Un(P:Nat)[NeZero P](w:Uq)(k:Nat)(L:Nat->Bs)(e:Us)(w':Uq):Prop:=
 kZ w w'/\(((∀j,j<k->∃p,rd P (L j)=some p)/\∃K,e=.tuple #[sZ K k k,.bool true]/\w.heap.size<=K/\K<w'.heap.size/\∀j,j<k->w'.rangeAt K (33*j) (aA (L j)))\/((∃j,j<k/\rd P (L j)=none)/\e=.tuple #[.slice none 0 0,.bool false]))
def Oi(P:Nat)[NeZero P](w:Uq)(k:Nat)(L:Nat->Bs)(e:Us)(w':Uq):Prop:=
 kZ w w'/\(((∀j,j<k->∃p,rd P (L j)=some p)/\∃K,e=.tuple #[sZ K k k,.bool true]/\w.heap.size<=K/\K<w'.heap.size/\w'.there K 0 (33*k)/\∀j,j<k->w'.rangeAt K (33*j) (aA (L j)))\/((∃j,j<k/\rd P (L j)=none)/\e=.tuple #[.slice none 0 0,.bool false]))
theorem Qi(C:Fld P)(D o k c:Nat)(hk:k<=512)(L:Nat->Bs)(w:Uq)(hg:D<w.heap.size)(hL:∀j,j<k->∃v,w.cell? ⟨D,o+j,none⟩=some v/\Arg33 w v (L j)):
 UG prog 120 #[.func (.func 53) #[] #[],.slice (some ⟨D,o,none⟩) k c] w (Ret (Oi P w k L)):=by
 obtain⟨C0,R,N⟩:=Ru k hk;have n:=N w;obtain⟨w1,z⟩:=hE (w.alloc (.cells C0.toArray 103));rw[z.out]at n;have HM:=Hid.mk' n;have K1:Hid (Az w w1 w.heap.size k 0 L):=by
  have hR:Row w1 w.heap.size C0:=by rw[<-z.out];exact aE w _ _
  refine⟨by rw[<-z.out];exact aC _ _,hR.1,by rw[<-R];exact hR.2.2,λj V=>oM⟩
 have S:Hid (Fld P/\(∀j,j<k->∃v,w.cell? ⟨D,o+j,none⟩=some v/\Arg33 w v (L j))/\D<w.heap.size):=⟨C,hL,hg⟩
 obtain⟨d,Q,K⟩:=Ux.1 uCP;have HD:=mk2 Q K;have HO:Hid (z33.toArray.all (·.oneCell')=true):=by show _=_;decide +kernel
 clear Q K C hL hg N R z;go_enter func120,ntmps120;go_wp2;clear n;go_loopg [16] k (λm s16 W=>∃i:Nat,i+m=k/\s16=iZ i/\Hid (Az w W w.heap.size k i L/\∀j,j<i->∃p,rd P (L j)=some p))
 case atStart=>exact⟨0,oM,rfl,K1.out,λj V=>oM⟩
 case round =>
  obtain⟨i,h0,rfl,r⟩:=hrel;by_cases J:i<k
  ·have X:(i:Int)<(k:Int):=oM;obtain⟨v,M,H⟩:=S.2.1 i J;have hc:wr.cell? ⟨D,o+i,none⟩=some v:=by rw[r.1.bl.cell (p:=⟨D,o+i,none⟩) S.2.2];exact M
   have HA:Hid (Arg33 wr v (L i)):=H.below r.1.bl;have Y:=atB D o k c i J;rw[show o+1*i=o+i by omega]at Y;clear M H;obtain⟨b,a⟩:∃b,Hid (L i=b):=⟨_,rfl⟩
   rw[a.out]at HA;obtain⟨g,f⟩:∃g:Nat,True:=⟨0,yCl⟩
   clear f g;cases I:rd P b with
   | none =>
    go_wp2_with fail
    refine(M8 S.1 v b wr HA.out I).mono ?_;rintro e A ⟨vv,rfl,F,rfl⟩;obtain⟨vz,l⟩:=hE (U2 z33.toArray);rw[l.out];obtain⟨g,f⟩:=hE (A.heap.size);obtain⟨y,x⟩:=hE (A.alloc (.cells z33.toArray 103));obtain⟨G,u⟩:=hE (y.setCells g 0 z33);have E:Hid (Row y g z33/\kZ w y/\w.heap.size<=g):=by
     have s:=r.1.bl.trans (F.mono r.1.bl.size);rw[<-x.out,<-f.out];exact⟨aE A _ _,s.alloc s.size _,s.size⟩
    have s:Hid (kZ w G):=by rw[<-u.out];exact RG.below_setCells E.2.2 _ _ _ E.2.1
    have B:Hid (i<k/\rd P (L i)=none):=⟨J,by rw[a.out];exact I⟩
    go_wp2_with (first|(refine bG (v:=jZ g) (w':=y) rfl (.alloc 103) rfl ?_ ?_;(rw[<-x.out,<-f.out];kernel_rfl))|(refine U1 rfl 103 _ _ rfl g 0 z33.toArray ?_ ?_ ?_ ?_ ?_ ?_;rfl;exact l.symm;exact E.1.2.2;exact cV;exact HO.out;rw[show z33.toArray.toList=z33 from rfl,u.out])|fail)
    go_ret2
    exact⟨_,rfl,s.out,UW ⟨⟨i,B.out⟩,rfl⟩⟩
   | some p =>
    have hs:=EE I;go_wp2_with fail
    refine(FI S.1 v b p wr HA.out I).mono ?_;rintro e A ⟨vv,rfl,F,rfl⟩;obtain⟨vz,l⟩:=hE (pvl b);rw[l.out];have s:=aB hs;have Z:(aA b).toArray.size=33:=by rw[VB];exact s
    obtain⟨g,f⟩:=hE (A.heap.size);obtain⟨y,x⟩:=hE (A.alloc (.cells z33.toArray 103));obtain⟨G,u⟩:=hE (y.setCells g 0 (aA b));obtain⟨W4,O⟩:=hE (G.setCells w.heap.size (33*i) (aA b));have A1:=r.1.grow F;have E:Hid (Row y g z33/\kZ A y):=by
     rw[<-x.out,<-f.out];exact⟨aE A _ _,aC _ _⟩
    have U:Hid (Row G g (aA b)/\Az w G w.heap.size k i L):=by
     rw[<-u.out];exact⟨E.1.put (by rw[s];rfl),A1.grow (RG.below_setCells (by rw[f.out];exact Uv _) _ _ _ E.2)⟩
    have K4:Hid (Az w W4 w.heap.size k (i+1) L/\∀j,j<i+1->∃p,rd P (L j)=some p):=by
     have B:∀j,j<i+1->∃p,rd P (L j)=some p:=λj V=>by
      by_cases T:j=i
      ·subst T;exact⟨p,by rw[a.out];exact I⟩
      ·exact r.2 j oM
     have h:=U.2.put (Uv _) J (λj V=>by obtain⟨q,T⟩:=B j oM;exact EE T);rw[a.out,O.out]at h;exact⟨h,B⟩
    have B:Hid ((prog.info? 103).map (·.size)=some (aA b).length/\(prog.info? 103).map (·.size)=some (aA b).toArray.size/\y.there g 0 (aA b).toArray.size/\G.there w.heap.size (33*i) (aA b).toArray.size):=by
     rw[s,Z];refine⟨cV,cV,E.1.2.2,λt T=>?_⟩;have:=U.2.th (33*i+t) oM;rwa[UC]at this
    have T:=atP w.heap.size 0 k k i J;go_wp2_with (first|(refine bG (v:=jZ g) (w':=y) rfl (.alloc 103) rfl ?_ ?_;(rw[<-x.out,<-f.out];kernel_rfl))|(refine U1 rfl 103 _ _ rfl g 0 (aA b).toArray ?_ ?_ ?_ ?_ ?_ ?_;rfl;exact l.symm;exact B.2.2.1;exact B.2.1;exact bW b;rw[show(aA b).toArray.toList=aA b from rfl,u.out])|(refine U5 rfl 103 _ rfl g 0 ?_ (aA b) d ?_ ?_ ?_ ?_ ?_;rfl;exact U.1.2.1;exact HD.1;exact HD.2;exact B.1;rw[show U2 (aA b).toArray=vz from l.out])|(refine U1 rfl 103 _ _ rfl w.heap.size (33*i) (aA b).toArray ?_ ?_ ?_ ?_ ?_ ?_;rfl;exact l.symm;exact B.2.2.2;exact B.2.1;exact bW b;rw[show(aA b).toArray.toList=aA b from rfl,O.out])|fail)
    go_roundg (gk-1)
    case measure=>omega
    case rel=>exact⟨i+1,oM,rfl,K4⟩
  ·have X:¬(i:Int)<(k:Int):=oM;obtain rfl:i=k:=oM;go_wp2
   go_ret2
   exact⟨_,rfl,r.1.bl,U3 ⟨r.2,w.heap.size,rfl,Uv _,r.1.lt,r.1.th,r.1.rw⟩⟩
theorem Qj(C:Fld P)(b k c:Nat)(e:k<=512)(L:Nat->Bs)(w:Uq)(g:b<w.heap.size)(d:∀j,j<k->∃v,w.cell? ⟨b,j,none⟩=some v/\Arg33 w v (L j)):
 UG prog 120 #[.func (.func 53) #[] #[],sZ b k c] w (Ret (Oi P w k L)):=Qi C b 0 k c e L w g λj f=>by rw[UC];exact d j f
theorem Kh(C:Fld P)(b k c:Nat)(g:k<=512)(L:Nat->Bs)(w:Uq)(i:b<w.heap.size)(f:∀j,j<k->∃v,w.cell? ⟨b,j,none⟩=some v/\Arg33 w v (L j)):
 UG prog 120 #[.func (.func 53) #[] #[],sZ b k c] w (Ret (Un P w k L)):=by
 refine(Qj C b k c g L w i f).mono ?_;rintro e w' ⟨v,rfl,d,h⟩;refine⟨_,rfl,d,?_⟩;rcases h with⟨p,K,l,n,m,-,o⟩|h
 ·exact U3 ⟨p,K,l,n,m,o⟩
 ·exact UW h
theorem IU(O:Ord N){a:Nat}(c:a<N):Gives 149 #[nv a] (nv (sMi N 0 a)):=by
 intro w;have h:=Dk O 0 a O.pos c;generalize sMi N 0 a=m at h⊢;go_enter func149,ntmps149;refine RG.M.enter [(0,.v (nv a))] 6 kR ?_;intro a0 d;repeat refine Uy ?_
 refine d.T [.m 0,.m 1] [(0,wn a),(1,RG.z 4)] [] [wn a,RG.z 4] [1,2] ⟨mk 0 49,mk 1 49,yCl⟩ ?_;intro e g i j b;repeat refine Uy ?_
 refine b.T [.x (nv 0),.x (nv a),.c (nv m),.u 1] [] [(1,3,wn m)] [wn a,wn m] [2] ⟨st,ld u40 i40,cl h,RG.pt i40,yCl⟩ ?_;intro a2 f k;refine We ?_;refine UD (v:=nv m) (aI k.st 2 49 rfl 1 _ rfl (k.at (s:=(.p 1 0))) u40 i40) k.sl.defers ?_;exact⟨_,rfl,k.st.bel.below,rfl⟩
theorem TJ(N:Nat)(f:N<=512):∃C0:List Us,C0.length=37*N/\∀w:Uq,(XB 131 (iZ N) (iZ N)).run prog w=.ok (sZ w.heap.size N N) (w.alloc (.cells C0.toArray 226)):=by
 have e:(prog.info? 226).map (λi=>(i.size,decide (i.bytes<=4000),i.zero.isSome))=some (37,true,true):=kR;obtain⟨i,b,k⟩:=Ux.1 e;simp only[V5.injEq,decide_eq_true_eq]at k;obtain⟨m,c,l⟩:=k;obtain⟨z,d⟩:=Vq.1 l;refine⟨(madeCells z.cells (N*37)).toList,by rw[UJ,YI,Vu],λw=>?_⟩;have g:(i.bytes:Int)*(N:Int)<=281474976710656:=by
  have:i.bytes*N<=4000*512:=WP c f;have j:((i.bytes*N:Nat):Int)<=281474976710656:=oM;rwa[Xv]at j
 have:=run_make (P:=prog) w 131 226 i z C3 b d .i64 .i64 (N:Int) (N:Int) oM oM g oM;rw[XZ,m]at this;rw[XC];exact this
theorem GW{W:Uq}{g:Nat}{l:List (Nat × Bs)}(k:∀x∈l.map (·.2),x.size=33)(d:W.rangeAt g 0 (aU l))(j:Nat)(c:j<l.length):W.rangeAt g (37*j) (wn (l[j]).1++aA (l[j]).2):=λt u b=>by
 have e:t<37:=by
  have:=(UE.1 b).1;rw[gJ (k _ (Vm.2 ⟨_,VG c,rfl⟩))]at this;exact this
 have:=d (37*j+t) u (by rw[lD l k j c t e];exact b);rw[UC]at this;exact this
theorem Dm{W:Uq}{g:Nat}{l:List (Nat × Bs)}(k:∀x∈l.map (·.2),x.size=33)(i:∀j (b:j<l.length),W.rangeAt g (37*j) (wn (l[j]).1++aA (l[j]).2)):W.rangeAt g 0 (aU l):=λt u c=>by
 have f:t<l.length*37:=by
  have:=(UE.1 c).1;rwa[qI λx hx=>k _ (Vm.2 ⟨x,hx,rfl⟩)]at this
 have b:t/37<l.length:=Nat.div_lt_of_lt_mul oM;have m:t%37<37:=V4 _ dC;have e:37*(t/37)+t%37=t:=Nat.div_add_mod _ _;have d:=lD l k (t/37) b (t%37) m;rw[e,c]at d;have:=i (t/37) b (t%37) u d.symm;rw[e]at this;rw[UC];exact this
def tmT(N n:Nat)(x:Nat × Bs):Nat × Bs:=(sTi N n x.1,x.2)
structure Tz(w W:Uq)(N n K k3 i:Nat)(l:List (Nat × Bs)):Prop where
 bl:kZ w W
 lt:K<W.heap.size
 ne:k3≠K
 th:W.there K 0 (37*l.length)
 r3:Row W k3 (wn n)
 rw:∀j (hj:j<l.length),j<i->W.rangeAt K (37*j) (wn (tmT N n (l[j])).1++aA (tmT N n (l[j])).2)
theorem Tz.grow{w W W':Uq}{n K c i:Nat}{l:List (Nat × Bs)}(h:Tz w W N n K c i l)(k:kZ W W'):Tz w W' N n K c i l:=
 ⟨h.bl.trans (k.mono h.bl.size),Uw h.lt k.size,h.ne,dJ h.th k h.lt,h.r3.below k,λj d b=>RG.range_below (h.rw j d b) k h.lt⟩
theorem Tz.drew{w W:Uq}{n K k i:Nat}{l:List (Nat × Bs)}(h:Tz w W N n K k i l):Tz w W.drew N n K k i l:=⟨h.bl.drew,h.lt,h.ne,h.th,h.r3,h.rw⟩
theorem Tz.put{w W:Uq}{n K d i:Nat}{l:List (Nat × Bs)}(h:Tz w W N n K d i l)(g:w.heap.size<=K)(o:i<l.length)(c:∀x∈l.map (·.2),x.size=33):Tz w (W.setCells K (37*i) (wn (tmT N n (l[i])).1++aA (tmT N n (l[i])).2)) N n K d (i+1) l:=by
 have b:∀(j:Nat) (k:j<l.length),(wn (tmT N n (l[j])).1++aA (tmT N n (l[j])).2).length=37:=λj k=>gJ (c _ (Vm.2 ⟨_,VG k,rfl⟩))
 refine⟨RG.below_setCells g _ _ _ h.bl,by rw[setCells_size];exact h.lt,h.ne,VV h.th _ _ _,⟨by rw[setCells_size];exact h.r3.1,Vg h.r3.2.1 K _ _ (U3 h.ne),VV h.r3.2.2 _ _ _⟩,λj k f=>?_⟩;by_cases e:j=i
 ·subst e;refine VN W K _ _ λt m=>?_
  rw[b j k]at m;have:=h.th (37*j+t) oM;rwa[UC]at this
 ·exact Vg (h.rw j k oM) K _ _ (UW (U3 (by rw[b j k];omega)))
section
variable (w:Uq) (n K k3 k7 i s m:Nat) (p:Bs) (l:List (Nat × Bs))
def Rt:Nat->Us->Uq->Prop
 | 0,v,_=>v=sZ K l.length l.length
 | 1,v,_=>v=iZ i
 | 2,v,_=>v=nv n
 | 3,v,_=>v=jZ k7
 | 4,v,_=>v=nv s
 | 5,v,_=>v=nv m
 | 6,v,_=>v=oZ k7 4
 | 7,v,_=>v=pvl p
 | 8,v,_=>v=tvl m p
 | 9,v,_=>v=.pointer (some ⟨K,0+37*i,none⟩)
 | _,_,_=>True
def Gt(N:Nat):Gw:=⟨Rt n K k7 i s m p l,λW=>Tz w W N n K k3 i l/\Row W k7 (wn s++aA p),λj v W W' k h=>by
 match j,h with
 | 0,h=>exact h
 | 1,h=>exact h
 | 2,h=>exact h
 | 3,h=>exact h
 | 4,h=>exact h
 | 5,h=>exact h
 | 6,h=>exact h
 | 7,h=>exact h
 | 8,h=>exact h
 | 9,h=>exact h
 | _+10,_=>trivial,λW W' k h=>⟨h.1.grow k,h.2.below k⟩⟩
end
theorem eG(O:Ord N){n:Nat}(hn:n<N)(B:Nat)(s:Us)(l:List (Nat × Bs))(hl:l.length<=512)(h6:∀x∈l.map (·.2),x.size=33)(U:∀x∈l,x.1<N)(w:Uq)(hS:Sm B w s l):
 UG prog 164 #[s,nv n] w (rZ w λe w'=>Sm w.heap.size w' e (l.map (tmT N n))):=by
 obtain⟨g,c,rfl,hc,-,hg,hr⟩:=hS;have HB:=Hid.mk' (boxS n w);obtain⟨D,r⟩:∃D,Hid (w.alloc (.cells (wn n).toArray 49)=D):=⟨_,rfl⟩
 rw[r.out]at HB;obtain⟨E,A⟩:∃k,Hid (w.heap.size=k):=⟨_,rfl⟩
 obtain⟨K,hK⟩:∃k,Hid (D.heap.size=k):=⟨_,rfl⟩
 have e1:K=E+1:=by rw[<-hK.out,<-A.out,<-r.out,UA]
 obtain⟨C0,ha,h7⟩:=TJ l.length hl;have I:=h7 D;obtain⟨Y,F⟩:∃Y,Hid (D.alloc (.cells C0.toArray 226)=Y):=⟨_,rfl⟩
 rw[F.out,hK.out]at I;rw[A.out]at HB;have K2:Hid (Tz w Y N n K E 0 l):=by
  have f:Row D E (wn n):=by rw[<-r.out,<-A.out];exact aE w _ _
  have b1:kZ w D:=by rw[<-r.out];exact aC _ _
  have o:kZ D Y:=by rw[<-F.out];exact aC _ _
  have d:Row Y K C0:=by rw[<-F.out,<-hK.out];exact aE D _ _
  exact⟨b1.trans (o.mono b1.size),d.1,oM,by rw[<-ha];exact d.2.2,f.below o,λj hj q=>oM⟩
 have C:Hid (Ord N/\n<N/\(∀x∈l.map (·.2),x.size=33)/\(∀x∈l,x.1<N)/\g<w.heap.size/\w.rangeAt g 0 (aU l)/\w.heap.size<=K):=⟨O,hn,h6,U,hg,hr,by rw[A.out];omega⟩
 obtain⟨d',h9,h0⟩:=Ux.1 uT;have HD:Hid (prog.underlying 226=some d'/\d'.isRow=true):=⟨h9,h0⟩
 obtain⟨vn,hs⟩:∃v,Hid (nv n=v):=⟨_,rfl⟩
 rw[hs.out]at HB⊢;clear h9 h0 O hn h6 U hg hr h7 ha r F hK A e1;go_enter func164,ntmps164;go_wp2_with (first|(refine aF (u:=vn) (v:=jZ E) (w':=D) rfl 49 (.tmp 1) rfl ?_ ?_ ?_;rfl;exact HB.out)|fail)
 clear I;go_loopg [13] l.length (λm s13 W=>∃i:Nat,i+m=l.length/\s13=iZ i/\Hid (Tz w W N n K E i l))
 case atStart=>exact⟨0,oM,rfl,K2⟩
 case round =>
  clear K2 HB;obtain⟨i,hw,rfl,P⟩:=hrel;by_cases o:i<l.length
  ·have hq:(i:Int)<(l.length:Int):=oM;obtain⟨s,M⟩:∃s,Hid ((l[i]'o).1=s):=⟨(l[i]'o).1,(rfl:(l[i]'o).1=(l[i]'o).1)⟩
   obtain⟨p,J⟩:∃p,Hid ((l[i]'o).2=p):=⟨(l[i]'o).2,(rfl:(l[i]'o).2=(l[i]'o).2)⟩
   have H:Hid (p.size=33):=by rw[<-J.out];exact C.2.2.1 _ (Vm.2 ⟨_,VG o,rfl⟩)
   have he:Hid (s<N):=by rw[<-M.out];exact C.2.2.2.1 _ (VG o)
   have B0:Hid (wr.rangeAt g (37*i) (wn s++aA p)):=by
    have h:=RG.range_below (GW C.2.2.1 C.2.2.2.2.2.1 i o) P.bl C.2.2.2.2.1;rw[M.out,J.out]at h;exact h
   obtain⟨q,G⟩:∃k,Hid (wr.heap.size=k):=⟨_,rfl⟩
   obtain⟨S,L⟩:∃S,Hid (wr.alloc (.cells zT.toArray 226)=S):=⟨_,rfl⟩
   obtain⟨W2,R⟩:∃W2,Hid (S.setCells q 0 (wn s++aA p)=W2):=⟨_,rfl⟩
   have f:(wn s++aA p).length=37:=gJ H.out;have F1:Hid (Row S q zT/\kZ wr S):=by rw[<-L.out,<-G.out];exact⟨aE wr _ _,aC wr _⟩
   have F2:Hid (Row W2 q (wn s++aA p)/\Tz w W2 N n K E i l):=by
    rw[<-R.out];exact⟨F1.1.put (by rw[f];rfl),P.grow (RG.below_setCells (by rw[G.out];exact Uv _) _ _ _ F1.2)⟩
   have hm:Hid ((prog.info? 226).map (·.size)=some (wn s++aA p).length):=by show _=_;rw[f];exact iT
   have X:Hid ((prog.info? 226).map (·.size)=some (wn s++aA p).toArray.size/\S.there q 0 (wn s++aA p).toArray.size):=by
    have e:(wn s++aA p).toArray.size=37:=by rw[VB];exact f
    rw[e];exact⟨iT,F1.1.2.2⟩
   have hk:Hid ((wn s++aA p).toArray.all (·.oneCell')=true):=by
    show _=_;rw[WW];intro u hu;exact cells_one s p u (X6.1 hu)
   have k0:=atT g 0 l.length c i o;obtain⟨vt,Z⟩:∃v,Hid (U2 (wn s++aA p).toArray=v):=⟨_,rfl⟩
   have HL:Hid (i<l.length):=o;clear f P F1;go_wp2_with (first|(refine U5 rfl 226 _ rfl g (37*i) ?_ (wn s++aA p) d' ?_ ?_ ?_ ?_ ?_;rfl;exact B0.out;exact HD.1;exact HD.2;exact hm.out;rw[Z.out])|(refine bG (v:=jZ q) (w':=S) rfl (.alloc 226) rfl ?_ ?_;(rw[<-L.out,<-G.out];kernel_rfl))|(refine U1 rfl 226 _ _ rfl q 0 (wn s++aA p).toArray ?_ ?_ ?_ ?_ ?_ ?_;rfl;exact Z.symm;exact X.2;exact X.1;exact hk.out;rw[show(wn s++aA p).toArray.toList=wn s++aA p from rfl,R.out])|fail)
   clear L R G;refine(Gt w n K E q i s (sTi N n s) p l N).last 10 kR kR kR ⟨
    bN λa W d=>⟨[(5,sZ K l.length l.length)],sZ K l.length l.length,W,⟨d.o 5 kR,yCl⟩,kR,UQ _ _,rfl⟩,
    bN λa W d=>⟨[(6,iZ i)],iZ i,W,⟨d.o 6 kR,yCl⟩,kR,UQ _ _,rfl⟩,
    iQ 49 3 rfl Go.Proofs.YtdoammpgchejcaaGreat.u40 λa W d=>⟨E,0,wn n,d.o 3 kR,d.b.1.r3.2.1,i40,rfl⟩,
    bN λa W d=>⟨[(7,jZ q)],jZ q,W,⟨d.o 7 kR,yCl⟩,kR,UQ _ _,rfl⟩,
    iQ 49 21 rfl Go.Proofs.YtdoammpgchejcaaGreat.u40 λa W d=>⟨q,0,wn s,d.n 3 21 kR kR,kA d.b.2.2.1,i40,rfl⟩,
    gK λa W d=>⟨[(20,nv n),(22,nv s)],79,#[nv n,nv s],⟨d.n 2 20 kR kR,d.n 4 22 kR kR,yCl⟩,kR,(iI C.1 n s C.2.1 he.out W).mono (by
     rintro e W' ⟨u,rfl,Q,rfl⟩;exact⟨_,rfl,Q,rfl⟩)⟩,
    bN λa W d=>⟨[(7,jZ q)],oZ q 4,W,⟨d.o 7 kR,yCl⟩,kR,UQ _ _,rfl⟩,
    iQ 103 24 rfl uCP λa W d=>⟨q,4,aA p,d.n 6 24 kR kR,lT (xs:=wn s) d.b.2.2.1,by rw[aB H.out];exact cV,rfl⟩,
    bN λa W d=>⟨[(23,nv (sTi N n s)),(25,pvl p)],tvl (sTi N n s) p,W,⟨d.n 5 23 kR kR,d.n 7 25 kR kR,yCl⟩,by
     rw[V5.injEq];refine⟨kR,?_⟩;refine Eq.trans (b:=((Zg 226 #[(0,nv (sTi N n s)),(1,pvl p)]) >>= λv=>pure (Xo v)).run prog W) kR ?_;rw[UU,SQ H.out];rfl,UQ _ _,rfl⟩,
    bN λa W d=>⟨[(18,sZ K l.length l.length),(19,iZ i)],.pointer (some ⟨K,0+37*i,none⟩),W,⟨d.n 0 18 kR kR,d.n 1 19 kR kR,yCl⟩,by
     rw[V5.injEq];refine⟨kR,?_⟩;show((Vk 131 (sZ K l.length l.length) (iZ i)) >>= λv=>pure (Xo v)).run prog W=_;rw[UU,atT K 0 l.length l.length i HL.out];rfl,UQ _ _,rfl⟩,yCl⟩ ⟨F2.2.drew,F2.1⟩ ?_
   intro V W3 T Q;have h3:V 8=tvl (sTi N n s) p:=T 8 dC;have h5:V 9=.pointer (some ⟨K,0+37*i,none⟩):=T 9 dC;have d:(wn (sTi N n s)++aA p).length=37:=gJ H.out;obtain⟨W4,h8⟩:∃W4,Hid (W3.setCells K (37*i) (wn (sTi N n s)++aA p)=W4):=⟨_,rfl⟩
   have K4:Hid (Tz w W4 N n K E (i+1) l):=by
    have h:=Q.1.put C.2.2.2.2.2.2 HL.out C.2.2.1;have e:tmT N n (l[i]'HL.out)=(sTi N n s,p):=by
     have h1:=M.out;have h2:=J.out;unfold tmT;rw[h1,h2]
    rw[e]at h;rw[<-h8.out];exact h
   have HT:Hid (W3.there K (37*i) (wn (sTi N n s)++aA p).toArray.size/\(prog.info? 226).map (·.size)=some (wn (sTi N n s)++aA p).toArray.size/\(wn (sTi N n s)++aA p).toArray.all (·.oneCell')=true):=by
    have e:(wn (sTi N n s)++aA p).toArray.size=37:=by rw[VB];exact d
    refine⟨λt ht=>?_,by rw[e];exact iT,?_⟩
    ·rw[e]at ht;have:=Q.1.th (37*i+t) (by have:=HL.out;omega);rwa[UC]at this
    ·rw[WW];intro u hu;exact cells_one _ p u (X6.1 hu)
   dsimp only[bU,VJ,Xk,Xl];simp only[UM,Ur,Ut,Uu];obtain⟨vz,h4⟩:∃v,Hid (tvl (sTi N n s) p=v):=⟨_,rfl⟩
   rw[h3,h5,h4.out,UC];clear T Q h3 h5 d F2;generalize V 0=s0;generalize V 1=s1;generalize V 2=s2;generalize V 3=s3;generalize V 4=s4;generalize V 5=s5;generalize V 6=s6;generalize V 7=s7;go_wp2_with (first|(refine U1 rfl 226 _ _ rfl K (37*i) (wn (sTi N n s)++aA p).toArray ?_ ?_ ?_ ?_ ?_ ?_;rfl;exact h4.symm;exact HT.1;exact HT.2.1;exact HT.2.2;rw[show(wn (sTi N n s)++aA p).toArray.toList=wn (sTi N n s)++aA p from rfl,h8.out])|fail)
   go_roundg (gk-1)
   case measure=>omega
   case rel=>exact⟨i+1,oM,rfl,K4⟩
  ·have hq:¬(i:Int)<(l.length:Int):=oM;obtain rfl:i=l.length:=oM;have d:Hid (kZ w wr/\Sm w.heap.size wr (sZ K l.length l.length) (l.map (tmT N n))):=by
    refine⟨P.bl,K,l.length,by rw[UP],by rw[UP];exact Uv _,C.2.2.2.2.2.2,P.lt,Dm (λx hx=>?_) λj hj=>?_⟩
    ·obtain⟨y,q,rfl⟩:=Vm.1 hx;obtain⟨z,f,rfl⟩:=Vm.1 q;exact C.2.2.1 _ (Vm.2 ⟨z,f,rfl⟩)
    ·rw[List.getElem_map];rw[UP]at hj;exact P.rw j hj hj
   clear P;go_wp2;go_ret;exact⟨_,rfl,d.1,d.2⟩
end
namespace SPA
structure Md(N:Nat)[NeZero N](M:Type) where
 ad:M->M->M
 zo:M
 ac:(Fin N)->M->M
 comm:∀a b,ad a b=ad b a
 assoc:∀a b c,ad (ad a b) c=ad a (ad b c)
 zadd:∀a,ad zo a=a
 acAd:∀r a b,ac r (ad a b)=ad (ac r a) (ac r b)
 adAc:∀r s a,ac (r+s) a=ad (ac r a) (ac s a)
 acAc:∀r s a,ac r (ac s a)=ac (r*s) a
 acOne:∀a,ac 1 a=a
 zac:∀a,ac 0 a=zo
variable {N:Nat}[NeZero N]{M:Type}
namespace Md
variable (D:Md N M)
theorem SZ(a:M):D.ad a D.zo=a:=by rw[D.comm,D.zadd]
theorem swap(a b c d:M):D.ad (D.ad a b) (D.ad c d)=D.ad (D.ad a c) (D.ad b d):=by
 rw[D.assoc,<-D.assoc b,D.comm b c,D.assoc c,<-D.assoc]
theorem acz(r:(Fin N)):D.ac r D.zo=D.zo:=by
 have h:=D.zac D.zo;rw[<-h,D.acAc,show r*0=(0:(Fin N)) by grind]
def sm(f:Nat->M):Nat->M
 | 0=>D.zo
 | n+1=>D.ad (sm f n) (f n)
theorem mV{f g:Nat->M}:∀n,(∀i,i<n->f i=g i)->D.sm f n=D.sm g n
 | 0,_=>rfl
 | n+1,h=>by
  show D.ad _ _=D.ad _ _;rw[mV n λi k=>h i oM,h n oM]
theorem BH(f g:Nat->M):∀n,D.sm (λi=>D.ad (f i) (g i)) n=D.ad (D.sm f n) (D.sm g n)
 | 0=>(D.zadd _).symm
 | n+1=>by
  show D.ad _ _=D.ad (D.ad _ _) (D.ad _ _);rw[BH f g n,D.swap]
theorem EB(r:(Fin N))(f:Nat->M):∀n,D.sm (λi=>D.ac r (f i)) n=D.ac r (D.sm f n)
 | 0=>(D.acz r).symm
 | n+1=>by
  show D.ad _ _=D.ac r (D.ad _ _);rw[EB r f n,D.acAd]
theorem Ik(f:Nat->M)(n:Nat):∀m,D.sm f (n+m)=D.ad (D.sm f n) (D.sm (λi=>f (n+i)) m)
 | 0=>(D.SZ _).symm
 | m+1=>by
  show D.ad (D.sm f (n+m)) _=D.ad _ (D.ad _ _);rw[Ik f n m,D.assoc];rfl
instance:Std.Associative D.ad:=⟨D.assoc⟩
instance:Std.Commutative D.ad:=⟨D.comm⟩
def dt(a:Nat->(Fin N))(g:Nat->M)(n:Nat):M:=D.sm (λi=>D.ac (a i) (g i)) n
theorem DX(a:Nat->(Fin N))(g:Nat->M)(n m:Nat):D.dt a g (n+m)=D.ad (D.dt a g n) (D.dt (λi=>a (n+i)) (λi=>g (n+i)) m):=D.Ik _ n m
theorem DY(x y:(Fin N))(b:x*y=1)(a c:Nat->(Fin N))(g k:Nat->M)(n:Nat):
 D.dt (λi=>x*a i+y*c i) (λi=>D.ad (D.ac y (g i)) (D.ac x (k i))) n
  = D.ad (D.ad (D.ac (x*x) (D.dt a k n)) (D.ad (D.dt a g n) (D.dt c k n))) (D.ac (y*y) (D.dt c g n)):=by
 unfold dt;rw[<-D.EB,<-D.EB,<-D.BH,<-D.BH,<-D.BH];refine D.mV n λi _=>?_
 rw[D.acAd,D.acAc,D.acAc,D.acAc,D.acAc,show(x*a i+y*c i)*y=a i+y*y*c i by grind,show(x*a i+y*c i)*x=x*x*a i+c i by grind,D.adAc,D.adAc]
 ac_rfl
theorem Fx(a c:Nat->(Fin N))(g:Nat->M)(n:Nat):D.dt (λi=>a i+c i) g n=D.ad (D.dt a g n) (D.dt c g n):=by
 unfold dt;rw[<-D.BH];exact D.mV n λi _=>D.adAc _ _ _
theorem NS(r:(Fin N))(a:Nat->(Fin N))(g:Nat->M)(n:Nat):D.dt (λi=>r*a i) g n=D.ac r (D.dt a g n):=by
 unfold dt;rw[<-D.EB];exact D.mV n λi _=>(D.acAc _ _ _).symm
end Md
def own(N:Nat)[NeZero N]:Md N (Fin N) where
 ad:=(·+·)
 zo:=0
 ac:=(·*·)
 comm:=by grind
 assoc:=by grind
 zadd:=by grind
 acAd:=by grind
 adAc:=by grind
 acAc:=by grind
 acOne:=by grind
 zac:=by grind
namespace Md
variable (D:Md N M)
def pr(a b:Nat->(Fin N))(n:Nat):(Fin N):=(own N).dt a b n
def hd(a b:Nat->(Fin N))(g h:Nat->M)(u:M)(n:Nat):M:=D.ad (D.ad (D.dt a g n) (D.dt b h n)) (D.ac (pr a b n) u)
def lf(a b:Nat->(Fin N))(g h:Nat->M)(u:M)(n:Nat):M:=D.hd a (λi=>b (n+i)) (λi=>g (n+i)) h u n
def rt(a b:Nat->(Fin N))(g h:Nat->M)(u:M)(n:Nat):M:=D.hd (λi=>a (n+i)) b g (λi=>h (n+i)) u n
def fS(x y:(Fin N))(n:Nat)(a:Nat->(Fin N))(i:Nat):(Fin N):=x*a i+y*a (n+i)
def fP(x y:(Fin N))(n:Nat)(g:Nat->M)(i:Nat):M:=D.ad (D.ac x (g i)) (D.ac y (g (n+i)))
theorem halved(x y:(Fin N))(k:x*y=1)(a b:Nat->(Fin N))(g h:Nat->M)(u:M)(n:Nat):
 D.hd (fS x y n a) (fS y x n b) (D.fP y x n g) (D.fP x y n h) u n
  = D.ad (D.ad (D.ac (x*x) (D.lf a b g h u n)) (D.hd a b g h u (n+n))) (D.ac (y*y) (D.rt a b g h u n)):=by
 have d:=D.DY x y k a (λi=>a (n+i)) g (λi=>g (n+i)) n;have c:=D.DY y x (by rw[<-k];grind) b (λi=>b (n+i)) h (λi=>h (n+i)) n;have e3:=(own N).DY x y k a (λi=>a (n+i)) b (λi=>b (n+i)) n;unfold lf rt hd pr;rw[show D.dt (fS x y n a) (D.fP y x n g) n=_ from d,show D.dt (fS y x n b) (D.fP x y n h) n=_ from c,show(own N).dt (fS x y n a) (fS y x n b) n=_ from e3,D.DX,D.DX,(own N).DX];simp only[D.acAd,D.acAc];rw[show(own N).ad ((own N).ad ((own N).ac (x*x) ((own N).dt a (λi=>b (n+i)) n)) ((own N).ad ((own N).dt a b n) ((own N).dt (λi=>a (n+i)) (λi=>b (n+i)) n))) ((own N).ac (y*y) ((own N).dt (λi=>a (n+i)) b n))
  = (x*x*(own N).dt a (λi=>b (n+i)) n+(own N).ad ((own N).dt a b n) ((own N).dt (λi=>a (n+i)) (λi=>b (n+i)) n))+y*y*(own N).dt (λi=>a (n+i)) b n from rfl,D.adAc,D.adAc]
 ac_rfl
def pv{S:Type}(ch:S->M->M->S × (Fin N))(iv:(Fin N)->(Fin N))(u:M):Nat->S->(Nat->(Fin N))->(Nat->(Fin N))->(Nat->M)->(Nat->M)->List (M × M) × (Fin N) × (Fin N)
 | 0,_,a,b,_,_=>([],a 0,b 0)
 | t+1,s,a,b,g,h =>
  let L:=D.lf a b g h u (2^t)
  let T:=D.rt a b g h u (2^t)
  let c:=ch s L T
  let r:=pv ch iv u t c.1 (fS c.2 (iv c.2) (2^t) a) (fS (iv c.2) c.2 (2^t) b) (D.fP (iv c.2) c.2 (2^t) g) (D.fP c.2 (iv c.2) (2^t) h)
  ((L,T) :: r.1,r.2)
def vf{S:Type}(ch:S->M->M->S × (Fin N))(iv:(Fin N)->(Fin N))(u:M)(a b:(Fin N)):List (M × M)->S->M->(Nat->M)->(Nat->M)->Prop
 | [],_,p,g,h=>p=D.ad (D.ad (D.ac a (g 0)) (D.ac b (h 0))) (D.ac (a*b) u)
 | (L,T) :: l,s,p,g,h =>
  let c:=ch s L T
  let x:=c.2
  let y:=iv x
  vf ch iv u a b l c.1 (D.ad (D.ad (D.ac (x*x) L) p) (D.ac (y*y) T)) (D.fP y x (2^l.length) g) (D.fP x y (2^l.length) h)
theorem Jk(a b:Nat->(Fin N))(g h:Nat->M)(u:M):D.hd a b g h u 1=D.ad (D.ad (D.ac (a 0) (g 0)) (D.ac (b 0) (h 0))) (D.ac (a 0*b 0) u):=by
 show D.ad (D.ad (D.ad D.zo _) (D.ad D.zo _)) (D.ac ((0:(Fin N))+a 0*b 0) u)=_;rw[D.zadd,D.zadd,show(0:(Fin N))+a 0*b 0=a 0*b 0 by grind]
structure Rg(R:Type) where
 l:Nat->R
 m:Nat->R
 s:Nat->R
 q:Nat->R
 Y:Nat->R
 W:Nat->R
 T:Nat->R
 z:R
 x:R
def Rg.Ok(r:Rg (Fin N))(n:Nat):Prop:=∀i,i<n->r.l i*r.m i=0/\r.m i=r.l i-1/\r.Y i*r.W i=1
def Rg.a0(r:Rg (Fin N))(i:Nat):(Fin N):=r.l i-r.z
def Rg.b0(r:Rg (Fin N))(i:Nat):(Fin N):=r.Y i*(r.m i+r.z)+r.z*r.z*r.T i
def Rg.b1(r:Rg (Fin N))(i:Nat):(Fin N):=r.Y i*r.q i
def Rg.a(r:Rg (Fin N))(i:Nat):(Fin N):=r.a0 i+r.s i*r.x
def Rg.b(r:Rg (Fin N))(i:Nat):(Fin N):=r.b0 i+r.b1 i*r.x
def Rg.sY(r:Rg (Fin N))(n:Nat):(Fin N):=(own N).sm r.Y n
def Rg.sT(r:Rg (Fin N))(n:Nat):(Fin N):=(own N).sm r.T n
def Rg.v(r:Rg (Fin N))(n:Nat):(Fin N):=pr r.l r.T n
def Rg.d(r:Rg (Fin N))(n:Nat):(Fin N):=(r.z-r.z*r.z)*r.sY n-r.z*r.z*r.z*r.sT n
def Rg.t1(r:Rg (Fin N))(n:Nat):(Fin N):=pr r.a0 r.b1 n+pr r.s r.b0 n
def Rg.t2(r:Rg (Fin N))(n:Nat):(Fin N):=pr r.s r.b1 n
theorem uV(a b:Nat->(Fin N))(n:Nat):pr a b (n+1)=pr a b n+a n*b n:=rfl
theorem Rg.t0(r:Rg (Fin N)):∀n,r.Ok n->pr r.a0 r.b0 n=r.z*r.z*r.v n+r.d n
 | 0,_=>by
  show(0:(Fin N))=r.z*r.z*0+((r.z-r.z*r.z)*0-r.z*r.z*r.z*0);grind
 | n+1,h=>by
  have b:=t0 r n λi f=>h i oM
  obtain⟨e,c,_⟩:=h n oM;have d:r.v (n+1)=r.v n+r.l n*r.T n:=rfl;have k:r.d (n+1)=(r.z-r.z*r.z)*(r.sY n+r.Y n)-r.z*r.z*r.z*(r.sT n+r.T n):=rfl;have e3:r.d n=(r.z-r.z*r.z)*r.sY n-r.z*r.z*r.z*r.sT n:=rfl;rw[uV,b,d,k,e3];unfold Rg.a0 Rg.b0;rw[c]at e⊢;generalize r.v n=A,r.sY n=B,r.sT n=C,r.l n=l,r.Y n=y,r.T n=t,r.z=z at *;grind
theorem Rg.tt(r:Rg (Fin N)):∀n,pr r.a r.b n=pr r.a0 r.b0 n+r.t1 n*r.x+r.t2 n*r.x*r.x
 | 0=>by
  show(0:(Fin N))=0+(0+0)*r.x+0*r.x*r.x;grind
 | n+1=>by
  have b:=tt r n;have d:r.t1 (n+1)=(pr r.a0 r.b1 n+r.a0 n*r.b1 n)+(pr r.s r.b0 n+r.s n*r.b0 n):=rfl;have k:r.t2 (n+1)=pr r.s r.b1 n+r.s n*r.b1 n:=rfl;have e3:r.t1 n=pr r.a0 r.b1 n+pr r.s r.b0 n:=rfl;have c:r.t2 n=pr r.s r.b1 n:=rfl;rw[uV,b,d,k,e3,c,uV];show _+(r.a0 n+r.s n*r.x)*(r.b0 n+r.b1 n*r.x)=_;generalize pr r.a0 r.b0 n=A,pr r.a0 r.b1 n=B,pr r.s r.b0 n=C,pr r.s r.b1 n=E,r.a0 n=a0,r.b0 n=b0,r.s n=s,r.b1 n=b1,r.x=x;grind
def cm(H G:M)(c r:(Fin N)):M:=D.ad (D.ac c H) (D.ac r G)
theorem Db(r:Rg (Fin N))(n:Nat)(h:r.Ok n)(H G:M)(k t1 t2:(Fin N)):
 D.cm H G (pr r.a r.b n) (t1*r.x+t2*(r.x*r.x)+r.z*r.z*k)
  = D.ad (D.ad (D.ac (r.z*r.z) (D.cm H G (r.v n) k)) (D.ac (r.d n) H)) (D.ad (D.ac r.x (D.cm H G (r.t1 n) t1)) (D.ac (r.x*r.x) (D.cm H G (r.t2 n) t2))):=by
 rw[r.tt,r.t0 n h];unfold cm;simp only[D.acAd,D.acAc];rw[show r.z*r.z*r.v n+r.d n+r.t1 n*r.x+r.t2 n*r.x*r.x=r.z*r.z*r.v n+r.d n+r.x*r.t1 n+r.x*r.x*r.t2 n by grind,
  show t1*r.x+t2*(r.x*r.x)+r.z*r.z*k=r.x*t1+r.x*r.x*t2+r.z*r.z*k by grind]
 simp only[D.adAc]
 ac_rfl
theorem xX{a c:Nat->(Fin N)}{g k:Nat->M}(n:Nat)(h:∀i,i<n->D.ac (a i) (g i)=D.ac (c i) (k i)):D.dt a g n=D.dt c k n:=D.mV n h
theorem Uj(r:Rg (Fin N))(g:Nat->M)(n:Nat):D.dt r.a g n=D.ad (D.ad (D.dt r.l g n) (D.ac r.x (D.dt r.s g n))) (D.dt (λ_=>-r.z) g n):=by
 rw[<-D.NS,<-D.Fx,<-D.Fx];refine D.xX n λi _=>?_
 show D.ac (r.l i-r.z+r.s i*r.x) _=_;rw[show r.l i-r.z+r.s i*r.x=r.l i+r.x*r.s i+-r.z by grind]
theorem Ui(r:Rg (Fin N))(k:Nat->M)(n:Nat)(h:r.Ok n):D.dt r.b (λi=>D.ac (r.W i) (k i)) n
 = D.ad (D.ad (D.dt r.m k n) (D.ac r.x (D.dt r.q k n))) (D.dt (λi=>r.z+r.z*r.z*(r.T i*r.W i)) k n):=by
 rw[<-D.NS,<-D.Fx,<-D.Fx];refine D.xX n λi b=>?_
 obtain⟨_,_,c⟩:=h i b;rw[D.acAc];show D.ac ((r.Y i*(r.m i+r.z)+r.z*r.z*r.T i+r.Y i*r.q i*r.x)*r.W i) _=_;rw[show(r.Y i*(r.m i+r.z)+r.z*r.z*r.T i+r.Y i*r.q i*r.x)*r.W i=r.m i+r.x*r.q i+(r.z+r.z*r.z*(r.T i*r.W i)) by
  generalize r.Y i=y,r.W i=w,r.m i=m,r.q i=q,r.T i=t,r.z=z,r.x=x at *;grind]
theorem B8(r:Rg (Fin N))(n:Nat)(h:r.Ok n)(G:M)(g k:Nat->M)(U:M)(al b w:(Fin N)):
 D.ad (D.ad (D.ad (D.ad (D.ad (D.ac al G) (D.ad (D.dt r.l g n) (D.dt r.m k n))) (D.ac r.x (D.ad (D.ac b G) (D.ad (D.dt r.s g n) (D.dt r.q k n))))) (D.ac (-(al+b*r.x)) G))
  (D.ad (D.dt (λ_=>-r.z) g n) (D.dt (λi=>r.z+r.z*r.z*(r.T i*r.W i)) k n))) (D.ac (pr r.a r.b n*w) U)
  = D.hd r.a r.b g (λi=>D.ac (r.W i) (k i)) (D.ac w U) n:=by
 unfold hd;rw[D.Uj,D.Ui r k n h,D.acAc];simp only[D.acAd,D.acAc];have e:D.ad (D.ac al G) (D.ad (D.ac (r.x*b) G) (D.ac (-(al+b*r.x)) G))=D.zo:=by
  rw[<-D.adAc,<-D.adAc,show al+(r.x*b+-(al+b*r.x))=(0:(Fin N)) by grind,D.zac]
 generalize D.ac al G=A at *;generalize D.ac (r.x*b) G=B at *;generalize D.ac (-(al+b*r.x)) G=E at *;refine Eq.trans ?_ (D.zadd _);rw[<-e]
 ac_rfl
end Md
end SPA
section
open SPA
variable {P:Nat}[NeZero P]{N:Nat}[NeZero N]
abbrev OnP(P:Nat)[NeZero P]:={p:EC.Pt P // On p}
def aD(C:Fld P)(k:∀r:EC.Pt P,On r->mul N r=none):Md N (OnP P) where
 ad a b:=⟨EC.add a.1 b.1,C.cur.on a.2 b.2⟩
 zo:=⟨none,iN⟩
 ac r a:=⟨mul r.val a.1,cG C.cur a.2 _⟩
 comm a b:=Yr (C.cur.comm a.2 b.2)
 assoc a b c:=Yr (C.cur.assoc a.2 b.2 c.2)
 zadd _:=rfl
 acAd r a b:=Yr (xE C a.2 b.2 _)
 adAc r s a:=Yr (by
  show mul (r+s).val a.1=_;rw[yAD,mul_mod C k a.2,mul_add C.cur a.2])
 acAc r s a:=Yr (by
  show _=mul (r*s).val a.1;rw[XI,mul_mod C k a.2,Vu,mB C.cur a.2])
 acOne a:=Yr (by
  show mul (1:Fin N).val a.1=_;rw[show(1:Fin N).val=1%N from rfl,mul_mod C k a.2];rfl)
 zac a:=Yr (by
  show mul (0:Fin N).val a.1=_;rw[show(0:Fin N).val=0%N from rfl,mul_mod C k a.2];rfl)
omit [NeZero N] in
theorem mA(a b:Fin N):(a+b).val=sPl N a.val b.val:=yAD a b
omit [NeZero N] in
theorem fL(a b:Fin N):(a*b).val=sTi N a.val b.val:=XI a b
omit [NeZero N] in
theorem I7(a b:Fin N):(a-b).val=sMi N a.val b.val:=by
 rw[Fin.sub_def];show(N-b.val+a.val)%N=(a.val+N-b.val)%N;have:=b.isLt;rw[show N-b.val+a.val=a.val+N-b.val by omega]
omit [NeZero N] in
theorem I3(a:Fin N):(-a).val=sMi N 0 a.val:=by
 rw[Fin.neg_def];show(N-a.val)%N=(0+N-a.val)%N;rw[UC]
def ivF(a:Fin N):Fin N:=⟨sIn N a.val,V4 _ (Yy N)⟩
theorem sM(h:IsP N)(a:Fin N)(b:a.val≠0):a*ivF a=1:=by
 apply X8;have k:=h.1;have hd:¬N ∣ a.val:=λhd=>by
  have:=Nat.le_of_dvd oM hd;have:=a.isLt;omega
 rw[XI,show(ivF a).val=a.val^(N-2)%N from rfl,Nat.mul_mod_mod,<-Nat.pow_succ',show(N-2).succ=N-1 by omega,h.fermat1 a.val hd];show 1=1%N;rw[UR oM]
structure Tl(N:Nat)(l:List (Nat × Bs))(X:OnP P):Prop where
 pts:PtsL P l
 lt:∀x∈l,x.1<N
 sum:fJ P l=X.1
omit [NeZero N] in
theorem BD(C:Fld P):∀ {l m:List (Nat × Bs)},PtsL P l->PtsL P m->fJ P (l++m)=EC.add (fJ P l) (fJ P m)
 | [],_,_,_=>rfl
 | x :: r,m,h,hm=>by
  have k:PtsL P r:=λz b=>h z (Va _ b)
  show EC.add (mul x.1 (fR P x.2)) (fJ P (r++m))=EC.add (EC.add _ _) _;rw[BD C k hm];exact(C.cur.assoc (cG C.cur (h.on C Vt) _) (nT C k) (nT C hm)).symm
omit [NeZero N] in
theorem Ev(C:Fld P)(k:∀r:EC.Pt P,On r->mul N r=none)(n:Nat):∀ {l:List (Nat × Bs)},PtsL P l->fJ P (l.map (tmT N n))=mul n (fJ P l)
 | [],_=>(nG n).symm
 | x :: r,h=>by
  have b:PtsL P r:=λz c=>h z (Va _ c)
  have hx:=h.on C (x:=x) Vt;show EC.add (mul (sTi N n x.1) (fR P x.2)) (fJ P (r.map (tmT N n)))=mul n (EC.add (mul x.1 (fR P x.2)) (fJ P r));rw[Ev C k n b,xE C (cG C.cur hx _) (nT C b)];unfold sTi;rw[mul_mod C k hx,Vu,mB C.cur hx]
section
variable (C:Fld P) (hord:∀r:EC.Pt P,EC.On r->EC.mul N r=none)
theorem Tl.nil:Tl N [] (aD C hord).zo:=⟨λ_ h=>(UX h).elim,λ_ h=>(UX h).elim,rfl⟩
theorem Tl.app{l m:List (Nat × Bs)}{X Y:OnP P}(h:Tl N l X)(k:Tl N m Y):Tl N (l++m) ((aD C hord).ad X Y):=
 ⟨λx hx=>(Wy.1 hx).elim (h.pts x) (k.pts x),λx hx=>(Wy.1 hx).elim (h.lt x) (k.lt x),by
  rw[BD C h.pts k.pts,h.sum,k.sum];rfl⟩
theorem Tl.tm{l:List (Nat × Bs)}{X:OnP P}(h:Tl N l X)(n:Fin N):Tl N (l.map (tmT N n.val)) ((aD C hord).ac n X):=
 ⟨λx hx=>by
  obtain⟨y,k,rfl⟩:=Vm.1 hx;exact h.pts y k,λx hx=>by
  obtain⟨y,k,rfl⟩:=Vm.1 hx;exact V4 _ (Yy N),by
  rw[Ev C hord n.val h.pts,h.sum];rfl⟩
omit [NeZero N] in
theorem Tl.one(C:Fld P)(k:1<N)(X:OnP P):Tl N [(1,wr X.1)] X:=
 ⟨λx hx=>⟨X.1,X.2,by rw[WL.1 hx]⟩,λx hx=>by rw[WL.1 hx];exact k,by
  show EC.add (mul 1 (fR P (wr X.1))) none=_;rw[lM C X.2,bK];rfl⟩
def dH(N:Nat)(a:Nat->Nat)(T:Nat->List (Nat × Bs)):Nat->List (Nat × Bs)
 | 0=>[]
 | n+1=>dH N a T n++(T n).map (tmT N (a n))
theorem Fz{a:Nat->Fin N}{T:Nat->List (Nat × Bs)}{g:Nat->OnP P}:∀n,(∀i,i<n->Tl N (T i) (g i))->Tl N (dH N (λi=>(a i).val) T n) ((aD C hord).dt a g n)
 | 0,_=>Tl.nil C hord
 | n+1,h=>(Fz n λi k=>h i oM).app C hord ((h n oM).tm C hord (a n))
theorem eR(N:Nat)(a:Nat->Nat){T:Nat->List (Nat × Bs)}{c:Nat}:∀n,(∀i,i<n->(T i).length=c)->(dH N a T n).length=c*n
 | 0,_=>rfl
 | n+1,h=>by
  show(dH N a T n++_).length=_;rw[Uz,UP,eR N a n (λi k=>h i oM),h n oM,Yi]
def kY(N x y n:Nat)(T:Nat->List (Nat × Bs))(i:Nat):List (Nat × Bs):=(T i).map (tmT N x)++(T (n+i)).map (tmT N y)
theorem MM{T:Nat->List (Nat × Bs)}{g:Nat->OnP P}(x y:Fin N)(n:Nat)(h:∀i,i<n+n->Tl N (T i) (g i))(i:Nat)(k:i<n):Tl N (kY N x.val y.val n T i) ((aD C hord).fP x y n g i):=
 ((h i oM).tm C hord x).app C hord ((h (n+i) oM).tm C hord y)
theorem Jw(N x y n:Nat){T:Nat->List (Nat × Bs)}{c:Nat}(h:∀i,i<n+n->(T i).length=c)(i:Nat)(k:i<n):(kY N x y n T i).length=c+c:=by
 unfold kY;rw[Uz,UP,UP,h i oM,h (n+i) oM]
end
end
section
open SPA
variable {N:Nat}[NeZero N]
def pwF(x:Fin N):Nat->Fin N
 | 0=>1
 | i+1=>pwF x i*x
theorem Ds{x y:Fin N}(h:x*y=1):∀i,pwF x i*pwF y i=1
 | 0=>by
  show(1:Fin N)*1=1
  grobner
 | i+1=>by
  have k:=Ds h i;show pwF x i*x*(pwF y i*y)=1;generalize pwF x i=a at *;generalize pwF y i=b at *
  grobner
def ofF(N:Nat)[NeZero N](n:Nat):Fin N:=⟨n%N,V4 _ (Yy N)⟩
theorem ER(a b:Nat):ofF N (a+b)=ofF N a+ofF N b:=X8 (by
 rw[yAD];show(a+b)%N=(a%N+b%N)%N;rw[Nat.add_mod])
theorem EQ(a b:Nat):ofF N (a*b)=ofF N a*ofF N b:=X8 (by
 rw[XI];show(a*b)%N=(a%N*(b%N))%N;rw[Nat.mul_mod])
theorem rB:ofF N 0=0:=X8 rfl
theorem EP:ofF N 1=1:=X8 rfl
theorem Dq:∀i,pwF (ofF N 2) i=ofF N (2^i)
 | 0=>EP.symm
 | i+1=>by
  show pwF (ofF N 2) i*ofF N 2=_;rw[Dq i,<-EQ,V6]
def btF(N:Nat)[NeZero N](v i:Nat):Fin N:=ofF N (v/2^i%2)
theorem J1(v:Nat):∀n,Md.pr (btF N v) (pwF (ofF N 2)) n=ofF N (v%2^n)
 | 0=>by
  rw[Nat.pow_zero,Nat.mod_one];exact rB.symm
 | n+1=>by
  rw[Md.uV,J1 v n,Dq];show _+ofF N _*_=_;rw[<-EQ,<-ER,V6,Nat.mod_mul,Vu (2^n)]
theorem two_sum:∀n,(SPA.own N).sm (pwF (ofF N 2)) n=ofF N (2^n-1)
 | 0=>rB.symm
 | n+1=>by
  show(SPA.own N).sm _ n+_=_;rw[two_sum n,Dq,<-ER];have:=Nat.pow_pos (n:=n) (show 0<2 by decide);rw[show 2^n-1+2^n=2^(n+1)-1 by rw[V6];omega]
theorem SD(v i:Nat):btF N v i=0\/btF N v i=1:=by
 unfold btF;rcases Nat.mod_two_eq_zero_or_one (v/2^i)with h|h<;>rw[h]
 ·exact U3 rB
 ·exact UW EP
def rgF(v:Nat)(s q:Nat->Fin N)(y k z x:Fin N):Md.Rg (Fin N):=⟨btF N v,λi=>btF N v i-1,s,q,pwF y,pwF k,pwF (ofF N 2),z,x⟩
theorem IB(v:Nat)(s q:Nat->Fin N){y k:Fin N}(z x:Fin N)(h:y*k=1)(n:Nat):(rgF v s q y k z x).Ok n:=λi _=>⟨by
 show btF N v i*(btF N v i-1)=0;rcases SD (N:=N) v i with e|e<;>rw[e]<;>grobner,rfl,Ds h i⟩
theorem QT(v:Nat)(s q:Nat->Fin N)(y k z x:Fin N)(n:Nat)(hv:v<2^n):(rgF v s q y k z x).v n=ofF N v:=by
 show Md.pr (btF N v) (pwF (ofF N 2)) n=_;rw[J1,UR hv]
theorem QU(v:Nat)(s q:Nat->Fin N)(y k z x:Fin N)(n:Nat):(rgF v s q y k z x).d n=(z-z*z)*(SPA.own N).sm (pwF y) n-z*z*z*ofF N (2^n-1):=by
 show _-z*z*z*(SPA.own N).sm (pwF (ofF N 2)) n=_;rw[two_sum];rfl
end
namespace SPA
variable {N:Nat}[NeZero N]{M:Type}
namespace Md
variable (D:Md N M)
theorem AQ(p:M):D.ad p (D.ac (-1) p)=D.zo:=by
 have h:=D.adAc 1 (-1) p;rw[show(1:(Fin N))+-1=0 by grind,D.zac,D.acOne]at h;exact h.symm
theorem Oy(e p:M):D.ad e (D.ac (-1) p)=D.zo↔p=e:=by
 constructor
 ·intro h;have k:D.ad (D.ad e (D.ac (-1) p)) p=D.ad D.zo p:=by rw[h]
  rw[D.assoc,D.comm _ p,D.AQ,D.SZ,D.zadd]at k;exact k.symm
 ·rintro rfl;exact D.AQ p
theorem Jc{a b c:(Fin N)}(d:a*b=1)(k:a*c=1):b=c:=by
 have:b=(a*b)*c+b*(1-a*c):=by grind
 rw[d,k]at this;grind
structure Vs(S M:Type) where
 s:S
 p:M
 g:Nat->M
 h:Nat->M
structure Ps(S R M:Type) where
 s:S
 a:Nat->R
 b:Nat->R
 g:Nat->M
 h:Nat->M
section
variable {S:Type}(ch:S->M->M->S × (Fin N)) (iv:(Fin N)->(Fin N)) (u:M)
def Ep(n:Nat)(L T:M)(v:Vs S M):Vs S M:=
 let c:=ch v.s L T
 ⟨c.1,D.ad (D.ad (D.ac (c.2*c.2) L) v.p) (D.ac (iv c.2*iv c.2) T),D.fP (iv c.2) c.2 n v.g,D.fP c.2 (iv c.2) n v.h⟩
def vst(t:Nat)(L T:Nat->M)(v:Vs S M):Nat->Vs S M
 | 0=>v
 | i+1=>D.Ep ch iv (2^(t-(i+1))) (L i) (T i) (vst t L T v i)
def pL(n:Nat)(q:Ps S (Fin N) M):M:=D.lf q.a q.b q.g q.h u n
def pT(n:Nat)(q:Ps S (Fin N) M):M:=D.rt q.a q.b q.g q.h u n
def qT(n:Nat)(q:Ps S (Fin N) M):Ps S (Fin N) M:=
 let c:=ch q.s (D.pL u n q) (D.pT u n q)
 ⟨c.1,fS c.2 (iv c.2) n q.a,fS (iv c.2) c.2 n q.b,D.fP (iv c.2) c.2 n q.g,D.fP c.2 (iv c.2) n q.h⟩
def pst(t:Nat)(q:Ps S (Fin N) M):Nat->Ps S (Fin N) M
 | 0=>q
 | i+1=>D.qT ch iv u (2^(t-(i+1))) (pst t q i)
def pLi(t:Nat)(q:Ps S (Fin N) M)(i:Nat):M:=D.pL u (2^(t-(i+1))) (D.pst ch iv u t q i)
def pTi(t:Nat)(q:Ps S (Fin N) M)(i:Nat):M:=D.pT u (2^(t-(i+1))) (D.pst ch iv u t q i)
def hdP(n:Nat)(q:Ps S (Fin N) M):M:=D.hd q.a q.b q.g q.h u n
theorem beside(k:∀s L T,(ch s L T).2*iv (ch s L T).2=1)(t:Nat)(q:Ps S (Fin N) M):∀i,i<=t ->
 D.vst ch iv t (D.pLi ch iv u t q) (D.pTi ch iv u t q) ⟨q.s,D.hdP u (2^t) q,q.g,q.h⟩ i
  = ⟨(D.pst ch iv u t q i).s,D.hdP u (2^(t-i)) (D.pst ch iv u t q i),(D.pst ch iv u t q i).g,(D.pst ch iv u t q i).h⟩
 | 0,_=>rfl
 | i+1,hi=>by
  have b:=beside k t q i oM;show D.Ep ch iv _ _ _ (D.vst ch iv t _ _ _ i)=_;rw[b];have e:2^(t-i)=2^(t-(i+1))+2^(t-(i+1)):=by
   rw[show t-i=t-(i+1)+1 by omega,V6];omega
  show(⟨_,_,_,_⟩:Vs S M)=⟨(D.qT ch iv u _ (D.pst ch iv u t q i)).s,D.hdP u _ (D.qT ch iv u _ (D.pst ch iv u t q i)),(D.qT ch iv u _ (D.pst ch iv u t q i)).g,(D.qT ch iv u _ (D.pst ch iv u t q i)).h⟩;unfold pLi pTi;generalize D.pst ch iv u t q i=r;rw[e];have h:=D.halved _ _ (k r.s (D.pL u (2^(t-(i+1))) r) (D.pT u (2^(t-(i+1))) r)) r.a r.b r.g r.h u (2^(t-(i+1)))
  congr 1
  exact h.symm
def KV(a b:(Fin N))(v:Vs S M):Prop:=v.p=D.ad (D.ad (D.ac a (v.g 0)) (D.ac b (v.h 0))) (D.ac (a*b) u)
theorem found(k:∀s L T,(ch s L T).2*iv (ch s L T).2=1)(t:Nat)(q:Ps S (Fin N) M):
 D.KV u ((D.pst ch iv u t q t).a 0) ((D.pst ch iv u t q t).b 0) (D.vst ch iv t (D.pLi ch iv u t q) (D.pTi ch iv u t q) ⟨q.s,D.hdP u (2^t) q,q.g,q.h⟩ t):=by
 rw[D.beside ch iv u k t q t (Uv _),Nat.sub_self];exact D.Jk _ _ _ _ u
end
end Md
end SPA
section
open SPA
variable {N:Nat}[NeZero N]
theorem RN(h:IsP N)(x:Fin N)(hx:x.val≠0)(k:(x*x).val≠0):ivF (x*x)=ivF x*ivF x:=by
 refine Md.Jc (sM h _ k) ?_;have e:=sM h x hx
 grobner
end
section
open SPA
variable {P:Nat}[NeZero P]{N:Nat}[NeZero N]
def Ms(a:Fin N):Fin N:=if a=0 then 1 else a
theorem Mr(h:1<N)(a:Fin N):(Ms a).val≠0:=by
 unfold Ms;split
 ·show 1%N≠0;rw[UR h];decide
 ·rename_i h0
  exact λe=>h0 (X8 (e.trans (YM N).symm))
def jW(b k:List UInt8)(L X Y:Bs):Bs:=uN (uN L b X.toList) k Y.toList
def kM(N:Nat)[NeZero N](L:Bs):Fin N:=Ms (ofF N (cha N L))
def bB(L:Bs):Bs:=tI L [99,104,97,108,108,101,110,103,101]
def chF(N:Nat)[NeZero N](L:Bs)(X Y:OnP P):Bs × Fin N:=
 let k:=jW [108,101,102,116] [114,105,103,104,116] L (wr X.1) (wr Y.1)
 (bB k,kM N k)
theorem FT(h:1<N)(L:Bs):(kM N L).val≠0:=by
 unfold kM;exact Mr h _
theorem MV(L:Bs)(X Y:OnP P):∃k,(chF N L X Y).2=kM N k:=by
 unfold chF;dsimp only;exact⟨_,rfl⟩
theorem JR(h:IsP N)(L:Bs)(X Y:OnP P):(chF N L X Y).2*ivF (chF N L X Y).2=1:=by
 obtain⟨k,e⟩:=MV (N:=N) L X Y;rw[e];have:=FT h.1 k;generalize kM N k=a at *;exact sM h a this
theorem P4(h:IsP N)(L:Bs)(X Y:OnP P):((chF N L X Y).2*(chF N L X Y).2).val≠0:=λe=>by
 have d:=JR h L X Y;have c:(chF N L X Y).2*(chF N L X Y).2=0:=X8 (e.trans (YM N).symm);generalize (chF N L X Y).2=x at *;generalize ivF x=y at *;have b:(1:Fin N)=0:=by grobner
 have k:1%N=0%N:=congrArg Fin.val b;have:=h.1;rw[UR oM,YM]at k;exact absurd k dC
theorem PN(C:Fld P)(k:∀r:EC.Pt P,On r->mul N r=none)(h:IsP N)(u:OnP P)(t:Nat)(q:Md.Ps Bs (Fin N) (OnP P)):
 (aD C k).KV u (((aD C k).pst (chF N) ivF u t q t).a 0) (((aD C k).pst (chF N) ivF u t q t).b 0)
  ((aD C k).vst (chF N) ivF t ((aD C k).pLi (chF N) ivF u t q) ((aD C k).pTi (chF N) ivF u t q) ⟨q.s,(aD C k).hdP u (2^t) q,q.g,q.h⟩ t):=
 (aD C k).found (chF N) ivF u (JR h) t q
end
namespace SPA
variable {N:Nat}[NeZero N]{M:Type}
namespace Md
variable (D:Md N M)
theorem Ib(a b p:M):D.ad (D.ad p a) b=D.ad (D.ad a p) b:=by ac_rfl
end Md
end SPA
section
open SPA
variable {P:Nat}[NeZero P]{N:Nat}[NeZero N]
theorem Tl.pt(C:Fld P)(k:∀r:EC.Pt P,On r->mul N r=none)(n:Fin N)(X:OnP P):Tl N [(n.val,wr X.1)] ((aD C k).ac n X):=
 ⟨λx hx=>⟨X.1,X.2,by rw[WL.1 hx]⟩,λx hx=>by rw[WL.1 hx];exact n.isLt,by
  show EC.add (mul n.val (fR P (wr X.1))) none=_;rw[lM C X.2,bK];rfl⟩
structure Gd(N n c:Nat)(T:Nat->List (Nat × Bs))(g:Nat->OnP P):Prop where
 tl:∀i,i<n->Tl N (T i) (g i)
 len:∀i,i<n->(T i).length=c
section
variable (C:Fld P) (hord:∀r:EC.Pt P,EC.On r->EC.mul N r=none)
theorem Gd.fold{n c:Nat}{T:Nat->List (Nat × Bs)}{g:Nat->OnP P}(h:Gd N (n+n) c T g)(x y:Fin N):Gd N n (c+c) (kY N x.val y.val n T) ((aD C hord).fP x y n g):=
 ⟨λi k=>MM C hord x y n h.tl i k,λi k=>Jw N x.val y.val n h.len i k⟩
theorem Gd.cmb{n c:Nat}{T:Nat->List (Nat × Bs)}{g:Nat->OnP P}(h:Gd N n c T g)(a:Nat->Fin N):Tl N (dH N (λi=>(a i).val) T n) ((aD C hord).dt a g n)/\(dH N (λi=>(a i).val) T n).length=c*n:=
 ⟨Fz C hord n h.tl,eR N _ n h.len⟩
omit [NeZero N] in
theorem Gd.low{n m c:Nat}{T:Nat->List (Nat × Bs)}{g:Nat->OnP P}(h:Gd N (n+m) c T g):Gd N n c T g:=⟨λi k=>h.tl i oM,λi k=>h.len i oM⟩
omit [NeZero N] in
theorem Gd.high{n m c:Nat}{T:Nat->List (Nat × Bs)}{g:Nat->OnP P}(h:Gd N (n+m) c T g):Gd N m c (λi=>T (n+i)) (λi=>g (n+i)):=⟨λi k=>h.tl (n+i) oM,λi k=>h.len (n+i) oM⟩
def Jj(N:Nat)(a b:Nat->Nat)(p:Nat)(G H:Nat->List (Nat × Bs))(U:List (Nat × Bs))(n:Nat):List (Nat × Bs):=dH N a G n++dH N b H n++U.map (tmT N p)
theorem Ji{n c d:Nat}{G H:Nat->List (Nat × Bs)}{U:List (Nat × Bs)}{g h:Nat->OnP P}{u:OnP P}(hG:Gd N n c G g)(k:Gd N n c H h)(e:Tl N U u)(hd:U.length=d)(a b:Nat->Fin N):
 Tl N (Jj N (λi=>(a i).val) (λi=>(b i).val) (Md.pr a b n).val G H U n) ((aD C hord).hd a b g h u n)/\(Jj N (λi=>(a i).val) (λi=>(b i).val) (Md.pr a b n).val G H U n).length=c*n+c*n+d:=by
 refine⟨((hG.cmb C hord a).1.app C hord (k.cmb C hord b).1).app C hord (e.tm C hord _),?_⟩;unfold Jj;rw[Uz,Uz,UP,eR N _ n hG.len,eR N _ n k.len,hd]
end
end
section
variable {P:Nat}[NeZero P]{N:Nat}
def BL(W:Uq)(q:Option Wt)(n:Nat)(X:Nat->List UInt8):Prop:=0<n->∃g,q=some (aZ g)/\g<W.heap.size/\∀i,i<n->∃a l c,W.cell? ⟨g,i,none⟩=some (.slice a l c)/\PartOk W (.slice a l c) (X i)
structure Ar(w W:Uq)(K e n i:Nat)(R:Nat->List Us):Prop where
 bl:kZ w W
 lt:K<W.heap.size
 th:W.there K 0 (e*n)
 rw:∀j,j<i->W.rangeAt K (e*j) (R j)
theorem Ar.grow{w W W':Uq}{K e n i:Nat}{R:Nat->List Us}(h:Ar w W K e n i R)(k:kZ W W'):Ar w W' K e n i R:=
 ⟨h.bl.trans (k.mono h.bl.size),Uw h.lt k.size,dJ h.th k h.lt,λj b=>RG.range_below (h.rw j b) k h.lt⟩
theorem Ar.put{w W:Uq}{K e n i:Nat}{R:Nat->List Us}(h:Ar w W K e n i R)(c:w.heap.size<=K)(d:i<n)(b:∀j,j<=i->(R j).length=e):Ar w (W.setCells K (e*i) (R i)) K e n (i+1) R:=by
 refine⟨RG.below_setCells c _ _ _ h.bl,by rw[setCells_size];exact h.lt,VV h.th _ _ _,λj l=>?_⟩;by_cases k:j=i
 ·subst k;refine VN W K _ _ λt f=>?_
  rw[b j (Uv _)]at f;have g:e*j+e<=e*n:=by
   have:=Yh e (yAV d);rwa[Yi]at this
  have:=h.th (e*j+t) oM;rwa[UC]at this
 ·have g:e*j+e<=e*i:=by
   have:=Yh e (show j+1<=i by omega);rwa[Yi]at this
  exact Vg (h.rw j oM) K _ _ (UW (U3 (by rw[b j oM];omega)))
theorem Cg{T E:U7}{e:Nat}(j:prog.underlying T=some (.slice E))(l:(prog.info? E).map (λi=>(i.size,decide (i.bytes<=4000),i.zero.isSome))=some (e,true,true))(n:Nat)(m:n<=512):∃C0:List Us,C0.length=e*n/\∀w:Uq,(XB T (iZ n) (iZ n)).run prog w=.ok (sZ w.heap.size n n) (w.alloc (.cells C0.toArray E)):=by
 obtain⟨i,b,k⟩:=Ux.1 l;simp only[V5.injEq,decide_eq_true_eq]at k;obtain⟨p,d,f⟩:=k;obtain⟨z,g⟩:=Vq.1 f;refine⟨(madeCells z.cells (n*e)).toList,by rw[UJ,YI,Vu],λw=>?_⟩;have c:(i.bytes:Int)*(n:Int)<=281474976710656:=by
  have:i.bytes*n<=4000*512:=WP d m;have o:((i.bytes*n:Nat):Int)<=281474976710656:=oM;rwa[Xv]at o
 have:=run_make (P:=prog) w T E i z j b g .i64 .i64 (n:Int) (n:Int) oM oM c oM;rw[XZ,p]at this;rw[XC];exact this
theorem Ar.new{w k:Uq}{K e n:Nat}{C0:List Us}{E:U7}(R:Nat->List Us)(f:C0.length=e*n)(b:w.alloc (.cells C0.toArray E)=k)(c:w.heap.size=K):Ar w k K e n 0 R:=by
 subst c;have hR:Row k w.heap.size C0:=by rw[<-b];exact aE w _ _
 exact⟨by rw[<-b];exact aC _ _,hR.1,by rw[<-f];exact hR.2.2,λj d=>absurd d (Ym _)⟩
theorem Di(O:Ord N)(r:Nat)(L:Bs)(k:ByteArray)(w:Uq)(n:k.size<=1048576)(u:Holds encB w r 0 L)(I:L.size=32):
 UG prog 232 #[.agg #[jZ r],.string k] w (Ret λe w'=>SP.Only r 0 32 w w'/\Holds encB w' r 0 (tI L k.data.toList)/\e=nv (oS N (CN L k.data.toList 64))):=by
 obtain⟨A,C⟩:=hE (CN L k.data.toList 64);obtain⟨q,d⟩:∃q,Hid (tI L k.data.toList=q):=⟨_,rfl⟩
 rw[d.out];have H:q.size=32:=by rw[<-d.out];exact bE _ _
 have D:A.size=64:=by rw[<-C.out];exact Ha _ _ _
 rw[C.out];have t:=Holds.lt u oM;obtain⟨g,f⟩:∃g,Hid ((w.alloc (.cells #[jZ r] 143)).alloc (.cells #[uZ 0,uZ 0,uZ 0,uZ 0] 49)=g):=⟨_,rfl⟩
 have x:Hid (Row g (w.heap.size+1) [uZ 0,uZ 0,uZ 0,uZ 0]/\kZ w g/\Holds encB g r 0 L):=by
  rw[<-f.out];have b:kZ w ((w.alloc (.cells #[jZ r] 143)).alloc (.cells #[uZ 0,uZ 0,uZ 0,uZ 0] 49)):=(aC w _).alloc (by rw[UA];omega) _;have hR:=aE (w.alloc (.cells #[jZ r] 143)) [uZ 0,uZ 0,uZ 0,uZ 0] 49;rw[UA]at hR;exact⟨hR,b,Holds.below u b t⟩
 clear u;go_enter func232,ntmps232;go_wp2_with fail
 rw[f.out];clear f;refine(Nn r L k 64 g n dC x.2.2 I).mono ?_;rintro e J ⟨K,rfl,P,G,b,l⟩;rw[C.out]at l;rw[d.out]at b;have y:=Holds.lt b oM;have i:=mk4 (x.1.only G oM) ((SP.Only.of_below x.2.1 rfl t).trans G) l b;go_wp2_with fail
 refine(zL O K A D J (Holds.lt i.2.2.1 oM) i.2.2.1).mono ?_;rintro e E ⟨v,rfl,c,rfl⟩;have s:=mk3 (i.1.below c) (i.2.1.trans (SP.Only.of_below c rfl (Uw t i.2.1.size))) (Holds.below i.2.2.2 c y);obtain⟨m,F⟩:=hE (oS N A);rw[F.out];obtain⟨z,p⟩:=hE (E.setCells (w.heap.size+1) 0 (wn m));have B:Hid (Row z (w.heap.size+1) (wn m)/\SP.Only r 0 32 w z/\Holds encB z r 0 q):=by
  rw[<-p.out];refine⟨s.1.put rfl,dW s.2.1 t oM _,λj o=>?_⟩;have e:=aH (w.heap.size+1) (wn m) 0 E r oM;rw[UV (a:=⟨r,0+j,none⟩) e,VT (a:=⟨r,0+j,none⟩) e];exact s.2.2 j o
 obtain⟨M,o⟩:=hE (nv m);rw[o.out];go_wp2_with (refine U1 rfl 49 _ _ rfl (w.heap.size+1) 0 (wn m).toArray ?_ ?_ ?_ ?_ ?_ ?_;rfl;exact o.symm;exact s.1.2.2;exact i40;exact aM m;rw[show(wn m).toArray.toList=wn m from rfl,p.out])
 refine UD (aG 4 49 rfl B.1 rfl u40 i40) rfl ?_;exact⟨_,rfl,B.2.1,B.2.2,by rw[F.out];rfl⟩
theorem aV{W W':Uq}{k:Nat}{vs:List Us}(h:Row W k vs)(c:W.heap.size<=W'.heap.size)(e:W'.heap[k]? = W.heap[k]?):Row W' k vs:=
 ⟨Uw h.1 c,λj v b=>by rw[UV (a:=⟨k,0+j,none⟩) e];exact h.2.1 j v b,λj b=>by rw[UV (a:=⟨k,0+j,none⟩) e,VT (a:=⟨k,0+j,none⟩) e];exact h.2.2 j b⟩
structure Wk(w W:Uq)(k7 r:Nat)(L:Bs):Prop where
 bl:kZ w W
 r7:Row W k7 [jZ r]
 lg:Holds encB W r 0 L
 lr:w.heap.size<=r
 n7:k7≠r
theorem uS4:prog.underlying 124=some (.slice 49):=kR
theorem iS4:(prog.info? 49).map (λi=>(i.size,decide (i.bytes<=4000),i.zero.isSome))=some (4,true,true):=kR
end
section
variable {Q Q':Nat->Prop}{W W':Uq}{v:Us}{l:List (Nat × Bs)}{n:Nat}
structure Kq(Q:Nat->Prop)(W W':Uq):Prop where
 size:W.heap.size<=W'.heap.size
 block:∀g,Q g->g<W.heap.size->W'.heap[g]? = W.heap[g]?
theorem Kq.of_below(k:kZ W W'):Kq Q W W':=⟨k.size,λg _ h=>k.block g h⟩
theorem Kq.of_only{r o m:Nat}(k:SP.Only r o m W W')(c:∀g,Q g->g≠r):Kq Q W W':=⟨k.size,λg d b=>k.block g b (c g d)⟩
theorem Kq.range{g o:Nat}{vs:List Us}(h:Kq Q W W')(d:Q g)(k:g<W.heap.size)(b:W.rangeAt g o vs):W'.rangeAt g o vs:=λj v c=>by
 rw[UV (a:=⟨g,o+j,none⟩) (h.block g d k)];exact b j v c
theorem Kq.cell{g o:Nat}{x:Us}(h:Kq Q W W')(c:Q g)(k:g<W.heap.size)(b:W.cell? ⟨g,o,none⟩=some x):W'.cell? ⟨g,o,none⟩=some x:=by
 rw[UV (a:=⟨g,o,none⟩) (h.block g c k)];exact b
def SmQ(Q:Nat->Prop)(W:Uq)(v:Us)(l:List (Nat × Bs)):Prop:=∃g c,v=sZ g l.length c/\l.length<=c/\Q g/\g<W.heap.size/\W.rangeAt g 0 (aU l)
theorem SmQ.sm(h:SmQ Q W v l):Sm 0 W v l:=by
 obtain⟨g,c,d,k,-,b⟩:=h;exact⟨g,c,d,k,Wx _,b⟩
theorem Sm.q{B:Nat}(h:Sm B W v l):SmQ (B<=·) W v l:=h
theorem SmQ.mono(h:SmQ Q W v l)(b:∀g,Q g->Q' g):SmQ Q' W v l:=by
 obtain⟨g,c,f,k,e,d⟩:=h;exact⟨g,c,f,k,b g e,d⟩
theorem SmQ.keep(h:SmQ Q W v l)(k:Kq Q W W'):SmQ Q W' v l:=by
 obtain⟨g,c,i,e,d,b,f⟩:=h;exact⟨g,c,i,e,d,Uw b k.size,k.range d b f⟩
def SLq(Q:Nat->Prop)(W:Uq)(v:Us)(n:Nat)(a:Nat->Nat):Prop:=∃g o c,v=.slice (some ⟨g,o,none⟩) n c/\n<=c/\Q g/\g<W.heap.size/\∀j,j<n->W.rangeAt g (o+4*j) (wn (a j))
theorem SLq.mono{a:Nat->Nat}(h:SLq Q W v n a)(b:∀g,Q g->Q' g):SLq Q' W v n a:=by
 obtain⟨g,o,c,d,k,f,e⟩:=h;exact⟨g,o,c,d,k,b g f,e⟩
theorem SLq.keep{a:Nat->Nat}(h:SLq Q W v n a)(k:Kq Q W W'):SLq Q W' v n a:=by
 obtain⟨g,o,c,i,e,d,b,l⟩:=h;exact⟨g,o,c,i,e,d,Uw b k.size,λj f=>k.range d b (l j f)⟩
theorem SLq.congr{a b:Nat->Nat}(h:SLq Q W v n a)(e:∀j,j<n->a j=b j):SLq Q W v n b:=by
 obtain⟨g,o,c,f,d,m,i,l⟩:=h;exact⟨g,o,c,f,d,m,i,λj k=>by rw[<-e j k];exact l j k⟩
def GLq(Q:Nat->Prop)(W:Uq)(v:Us)(n:Nat)(T:Nat->List (Nat × Bs)):Prop:=∃g o c,v=.slice (some ⟨g,o,none⟩) n c/\n<=c/\Q g/\g<W.heap.size/\∀j,j<n->∃x,W.cell? ⟨g,o+j,none⟩=some x/\SmQ Q W x (T j)
theorem GLq.mono{T:Nat->List (Nat × Bs)}(h:GLq Q W v n T)(k:∀g,Q g->Q' g):GLq Q' W v n T:=by
 obtain⟨g,o,c,e,b,l,f,i⟩:=h;refine⟨g,o,c,e,b,k g l,f,λj d=>?_⟩;obtain⟨x,p,m⟩:=i j d;exact⟨x,p,m.mono k⟩
theorem GLq.keep{T:Nat->List (Nat × Bs)}(h:GLq Q W v n T)(k:Kq Q W W'):GLq Q W' v n T:=by
 obtain⟨g,o,c,i,e,d,b,l⟩:=h;refine⟨g,o,c,i,e,d,Uw b k.size,λj f=>?_⟩;obtain⟨x,p,m⟩:=l j f;exact⟨x,k.cell d b p,m.keep k⟩
structure GRq(Q:Nat->Prop)(W:Uq)(v:Us)(n:Nat)(G H:Nat->List (Nat × Bs))(U:List (Nat × Bs)):Prop where
 ex:∃vg vh vu,v=.agg #[vg,vh,vu]/\GLq Q W vg n G/\GLq Q W vh n H/\SmQ Q W vu U
theorem GRq.mono{G H:Nat->List (Nat × Bs)}{U:List (Nat × Bs)}(h:GRq Q W v n G H U)(k:∀g,Q g->Q' g):GRq Q' W v n G H U:=by
 obtain⟨d,e,b,j,c,i,f⟩:=h.ex;exact⟨d,e,b,j,c.mono k,i.mono k,f.mono k⟩
theorem GRq.keep{G H:Nat->List (Nat × Bs)}{U:List (Nat × Bs)}(h:GRq Q W v n G H U)(k:Kq Q W W'):GRq Q W' v n G H U:=by
 obtain⟨d,e,b,i,c,g,f⟩:=h.ex;exact⟨d,e,b,i,c.keep k,g.keep k,f.keep k⟩
structure TOk(N:Nat)(l:List (Nat × Bs)):Prop where
 sz:∀x∈l,x.2.size=33
 lt:∀x∈l,x.1<N
theorem TOk.szm{N:Nat}(h:TOk N l):∀x∈l.map (·.2),x.size=33:=λx hx=>by
 obtain⟨y,k,rfl⟩:=Vm.1 hx;exact h.sz y k
theorem TOk.app{N:Nat}{m:List (Nat × Bs)}(h:TOk N l)(k:TOk N m):TOk N (l++m):=⟨λx hx=>(Wy.1 hx).elim (h.sz x) (k.sz x),λx hx=>(Wy.1 hx).elim (h.lt x) (k.lt x)⟩
theorem TOk.tm{N:Nat}(c:0<N)(h:TOk N l)(k:Nat):TOk N (l.map (tmT N k)):=⟨λx hx=>by
 obtain⟨y,b,rfl⟩:=Vm.1 hx;exact h.sz y b,λx hx=>by
 obtain⟨y,b,rfl⟩:=Vm.1 hx;exact V4 _ c⟩
theorem TOk.nil{N:Nat}:TOk N []:=⟨λ_ h=>(UX h).elim,λ_ h=>(UX h).elim⟩
theorem Tl.ok{P:Nat}[NeZero P]{N:Nat}{X:OnP P}(h:Tl N l X):TOk N l:=⟨λx hx=>by
 obtain⟨X,-,e⟩:=h.pts x hx;rw[e];exact aT _,h.lt⟩
theorem oH{N:Nat}(k:0<N){a:Nat->Nat}{T:Nat->List (Nat × Bs)}:∀n,(∀i,i<n->TOk N (T i))->TOk N (dH N a T n)
 | 0,_=>TOk.nil
 | n+1,h=>(oH k n λi b=>h i oM).app ((h n oM).tm k _)
end
namespace RG
variable {P:VC}{ops:Array Vj}{Q:Yo->Act->Uq->Prop}{w:Uq}{a0:Act}{F:Flow}
theorem gC{L:Array Bool}{i j:Nat}{o:Vj}(ho:ops[i]? = some o)(k:∀e∈o.after,VO .any e=true->on L e.on=true)(b:depOn ops i j=true):on L j=true:=by
 unfold depOn at b;rw[ho]at b;obtain⟨e,d,c⟩:=Array.any_eq_true'.1 b;simp only[UK,beq_iff_eq]at c;have:=k e d c.1;rw[c.2]at this;exact this
end RG
namespace RG
structure S1 where
 p:Us->Uq->Prop
 st:∀v w w',kZ w w'->p v w->p v w'
def pE(v:Us):S1:=⟨λx _=>x=v,λ_ _ _ _ h=>h⟩
def pA:S1:=⟨λ_ _=>True,λ_ _ _ _ h=>h⟩
def pM(Q:Nat->Prop)(l:List (Nat × Bs)):S1:=⟨λv w=>SmQ Q w v l,λ_ _ _ k h=>h.keep (Kq.of_below k)⟩
def pS(Q:Nat->Prop)(n:Nat)(a:Nat->Nat):S1:=⟨λv w=>SLq Q w v n a,λ_ _ _ k h=>h.keep (Kq.of_below k)⟩
def pG(Q:Nat->Prop)(n:Nat)(T:Nat->List (Nat × Bs)):S1:=⟨λv w=>GLq Q w v n T,λ_ _ _ k h=>h.keep (Kq.of_below k)⟩
def pR(Q:Nat->Prop)(n:Nat)(G H:Nat->List (Nat × Bs))(U:List (Nat × Bs)):S1:=⟨λv w=>GRq Q w v n G H U,λ_ _ _ k h=>h.keep (Kq.of_below k)⟩
def pI(T:U7)(p:S1):S1:=⟨λv w=>∃x,v=.iface T x/\p.p x w,λ_ w w' b ⟨x,c,k⟩=>⟨x,c,p.st x w w' b k⟩⟩
def pN(B:Nat)(cs:List Us):S1:=⟨λv w=>∃k,v=jZ k/\B<=k/\Row w k cs,λ_ _ _ c ⟨k,e,b,d⟩=>⟨k,e,b,d.below c⟩⟩
def nth:List S1->Nat->S1
 | [],_=>pA
 | x :: _,0=>x
 | _ :: r,k+1=>nth r k
def gwL(L:List S1)(B:Uq->Prop)(k:∀w w',kZ w w'->B w->B w'):Gw:=⟨λi=>(nth L i).p,B,λi=>(nth L i).st,k⟩
variable {P:VC}{ops:Array Vj}{Q:Yo->Act->Uq->Prop}{w:Uq}{a0:Act}{G:Gw}{k:Nat}{o:Vj}
theorem Jm(b:List (WB × Us))(v:Us)(c:∀a W,PreG G ops a0 k o a W->AllE a b)(hR:∀W,G.R k v W)(e:∀W,(dA (b.map (·.1)) o,(U4 (evo (evl b)) o).run P W)=(true,.ok (.value v) W):=by intro _;kernel_rfl):bF P Q G.flow ops a0 k o:=
 bN λa W d=>⟨b,v,W,c a W d,e W,UQ _ _,hR W⟩
theorem RU(t:WB)(v b:Us)(e:a0.eval (.tmp t)=v)(hR:∀W,G.R k b W)(hf:oY ops k t=true:=by kernel_rfl)(c:∀W,(dA [t] o,(U4 (evo (evl [(t,v)])) o).run P W)=(true,.ok (.value b) W):=by intro _;kernel_rfl):bF P Q G.flow ops a0 k o:=
 Jm [(t,v)] b (λa W d=>⟨(d.o t hf).trans e,yCl⟩) hR c
theorem rF(j:Nat)(t:WB)(v b:Us)(d:∀x W,G.R j x W->x=v)(hR:∀W,G.R k b W)(hd:(dB o j,aX ops j)=(true,some t):=by kernel_rfl)(e:∀W,(dA [t] o,(U4 (evo (evl [(t,v)])) o).run P W)=(true,.ok (.value b) W):=by intro _;kernel_rfl):bF P Q G.flow ops a0 k o:=
 Jm [(t,v)] b (λa W c=>⟨d _ W (c.n j t (congrArg Zw hd) (congrArg Zv hd)),yCl⟩) hR e
theorem DR(j:Nat)(t:WB)(f:Us->Us)(hR:∀x W,G.R j x W->G.R k (f x) W)(hd:(dB o j,aX ops j)=(true,some t):=by kernel_rfl)(c:∀v W,(dA [t] o,(U4 (evo (evl [(t,v)])) o).run P W)=(true,.ok (.value (f v)) W):=by intro _ _;kernel_rfl):bF P Q G.flow ops a0 k o:=
 bN λa W b=>⟨[(t,a.eval (.tmp t))],_,W,⟨rfl,yCl⟩,c _ W,UQ _ _,hR _ W (b.n j t (congrArg Zw hd) (congrArg Zv hd))⟩
theorem A0(j:Nat)(t:WB)(c:Nat)(b:WB)(v u e:Us)(I:Sem Us)(i:∀W,I.run P W=.ok e W)(l:∀x W,G.R j x W->x=v)(d:∀x W,G.R c x W->x=u)(hR:∀W,G.R k e W)(hd:((dB o j,aX ops j),(dB o c,aX ops c))=((true,some t),(true,some b)):=by kernel_rfl)(f:(dA [t,b] o,U4 (evo (evl [(t,v),(b,u)])) o)=(true,I >>= λv=>pure (Xo v)):=by kernel_rfl):bF P Q G.flow ops a0 k o:=
 bN λa W g=>⟨[(t,v),(b,u)],e,W,⟨l _ W (g.n j t (congrArg (·.1.1) hd) (congrArg (·.1.2) hd)),d _ W (g.n c b (congrArg (·.2.1) hd) (congrArg (·.2.2) hd)),yCl⟩,by
  rw[V5.injEq]at f⊢;refine⟨f.1,?_⟩;rw[f.2,UU,i W];rfl,UQ _ _,hR W⟩
theorem DO(j:Nat)(t:WB)(v b:Us)(I:Sem Us)(d:∀W,I.run P W=.ok b W)(f:∀x W,G.R j x W->x=v)(hR:∀W,G.R k b W)(hd:(dB o j,aX ops j)=(true,some t):=by kernel_rfl)(c:(dA [t] o,U4 (evo (evl [(t,v)])) o)=(true,I >>= λv=>pure (Xo v)):=by kernel_rfl):bF P Q G.flow ops a0 k o:=
 bN λa W e=>⟨[(t,v)],b,W,⟨f _ W (e.n j t (congrArg Zw hd) (congrArg Zv hd)),yCl⟩,by
  rw[V5.injEq]at c⊢;refine⟨c.1,?_⟩;rw[c.2,UU,d W];rfl,UQ _ _,hR W⟩
theorem fF(T:U7)(j:Nat)(t:WB)(g off:Nat)(x:Us)(d:(P.underlying T).map (·.isRow)=some false)(f:∀x W,G.R j x W->x=oZ g off)(e:∀W,G.B W->W.cell? ⟨g,off,none⟩=some x)(hR:∀W,G.R k x W)(hd:(dB o j,aX ops j)=(true,some t):=by kernel_rfl)(ho:o.op=.load T (.tmp t):=by rfl):bF P Q G.flow ops a0 k o:=
 mH λa W b=>by
  have c:=rY b;refine⟨x,W,?_,UQ _ _,hR W⟩;unfold U4;rw[ho];dsimp only;rw[f _ W (c.n j t (congrArg Zw hd) (congrArg Zv hd)),UU,fD (e W c.b) d];rfl
theorem RV(T:U7)(j:Nat)(t:WB)(g off:Nat)(cs:List Us)(c:(P.underlying T).map (·.isRow)=some true)(d:(P.info? T).map (·.size)=some cs.length)(f:∀x W,G.R j x W->x=oZ g off)(e:∀W,G.B W->W.rangeAt g off cs)(hR:∀W,G.R k (.agg cs.toArray) W)(hd:(dB o j,aX ops j)=(true,some t):=by kernel_rfl)(ho:o.op=.load T (.tmp t):=by rfl):bF P Q G.flow ops a0 k o:=
 iQ T t ho c λa W b=>⟨g,off,cs,f _ W (b.n j t (congrArg Zw hd) (congrArg Zv hd)),e W b.b,d,hR W⟩
theorem iD(T:U7)(t:WB)(g off:Nat)(cs:List Us)(c:(P.underlying T).map (·.isRow)=some true)(d:(P.info? T).map (·.size)=some cs.length)(f:a0.eval (.tmp t)=oZ g off)(e:∀W,G.B W->W.rangeAt g off cs)(hR:∀W,G.R k (.agg cs.toArray) W)(hf:oY ops k t=true:=by kernel_rfl)(ho:o.op=.load T (.tmp t):=by rfl):bF P Q G.flow ops a0 k o:=
 iQ T t ho c λa W b=>⟨g,off,cs,(b.o t hf).trans f,e W b.b,d,hR W⟩
theorem PD(T:U7)(t:WB)(g off:Nat)(x:Us)(d:(P.underlying T).map (·.isRow)=some false)(f:a0.eval (.tmp t)=oZ g off)(e:∀W,G.B W->W.cell? ⟨g,off,none⟩=some x)(hR:∀W,G.R k x W)(hf:oY ops k t=true:=by kernel_rfl)(ho:o.op=.load T (.tmp t):=by rfl):bF P Q G.flow ops a0 k o:=
 mH λa W b=>by
  have c:=rY b;refine⟨x,W,?_,UQ _ _,hR W⟩;unfold U4;rw[ho];dsimp only;rw[c.o t hf,f,UU,fD (e W c.b) d];rfl
theorem xP(cs:List Us)(T:U7)(hR:∀W W':Uq,Row W' W.heap.size cs->G.B W->G.R k (jZ W.heap.size) W')(c:∀W,(dA [] o,(U4 (evo (evl [])) o).run P W)=(true,.ok (.value (jZ W.heap.size)) (W.alloc (.cells cs.toArray T))):=by intro _;kernel_rfl):bF P Q G.flow ops a0 k o:=
 bN λa W b=>⟨[],_,_,trivial,c W,aC W _,hR W _ (aE W cs T) b.b⟩
theorem NN(f:Xp)(args:Array Us)(b:∀W,G.B W->UG P f args W (rZ W λe W'=>G.R k e W'))(d:∀W,(dA [] o,(U4 (evo (evl [])) o).run P W)=(true,.ok (.enter f args) W):=by intro _;kernel_rfl):bF P Q G.flow ops a0 k o:=
 gK λa W c=>⟨[],f,args,trivial,d W,b W c.b⟩
theorem oW(j:Nat)(t:WB)(f:Xp)(args:Us->Array Us)(c:∀x W,G.R j x W->G.B W->UG P f (args x) W (rZ W λe W'=>G.R k e W'))(hd:(dB o j,aX ops j)=(true,some t):=by kernel_rfl)(d:∀x W,(dA [t] o,(U4 (evo (evl [(t,x)])) o).run P W)=(true,.ok (.enter f (args x)) W):=by intro _ _;kernel_rfl):bF P Q G.flow ops a0 k o:=
 gK λa W b=>⟨[(t,a.eval (.tmp t))],f,_,⟨rfl,yCl⟩,d _ W,c _ W (b.n j t (congrArg Zw hd) (congrArg Zv hd)) b.b⟩
theorem eD(j:Nat)(t:WB)(c:Nat)(b:WB)(f:Xp)(args:Us->Us->Array Us)(g:∀x y W,G.R j x W->G.R c y W->G.B W->UG P f (args x y) W (rZ W λe W'=>G.R k e W'))(hd:((dB o j,aX ops j),(dB o c,aX ops c))=((true,some t),(true,some b)):=by kernel_rfl)(i:∀x y W,(dA [t,b] o,(U4 (evo (evl [(t,x),(b,y)])) o).run P W)=(true,.ok (.enter f (args x y)) W):=by intro _ _ _;kernel_rfl):bF P Q G.flow ops a0 k o:=
 gK λa W d=>⟨[(t,a.eval (.tmp t)),(b,a.eval (.tmp b))],f,_,⟨rfl,rfl,yCl⟩,i _ _ W,g _ _ W (d.n j t (congrArg (·.1.1) hd) (congrArg (·.1.2) hd)) (d.n c b (congrArg (·.2.1) hd) (congrArg (·.2.2) hd)) d.b⟩
theorem rG(j:Nat)(t:WB)(i:Nat)(d:WB)(c:Nat)(b:WB)(f:Xp)(args:Us->Us->Us->Array Us)(m:∀x y z W,G.R j x W->G.R i y W->G.R c z W->G.B W->UG P f (args x y z) W (rZ W λe W'=>G.R k e W'))(hd:((dB o j,aX ops j),(dB o i,aX ops i),(dB o c,aX ops c))=((true,some t),(true,some d),(true,some b)):=by kernel_rfl)(l:∀x y z W,(dA [t,d,b] o,(U4 (evo (evl [(t,x),(d,y),(b,z)])) o).run P W)=(true,.ok (.enter f (args x y z)) W):=by intro _ _ _ _;kernel_rfl):bF P Q G.flow ops a0 k o:=
 gK λa W g=>⟨[(t,a.eval (.tmp t)),(d,a.eval (.tmp d)),(b,a.eval (.tmp b))],f,_,⟨rfl,rfl,rfl,yCl⟩,l _ _ _ W,m _ _ _ W (g.n j t (congrArg (·.1.1) hd) (congrArg (·.1.2) hd)) (g.n i d (congrArg (·.2.1.1) hd) (congrArg (·.2.1.2) hd)) (g.n c b (congrArg (·.2.2.1) hd) (congrArg (·.2.2.2) hd)) g.b⟩
theorem oV(T:U7)(j:Nat)(t:WB)(c:Nat)(b:WB)(p:S1)(f:Xp)(l:∀x W,G.R j x W->(pI T p).p x W)(i:∀x y W,p.p x W->G.R c y W->G.B W->UG P f #[x,y] W (rZ W λe W'=>G.R k e W'))(hd:((dB o j,aX ops j),(dB o c,aX ops c))=((true,some t),(true,some b)):=by kernel_rfl)(g:∀x y W,(dA [t,b] o,(U4 (evo (evl [(t,.iface T x),(b,y)])) o).run P W)=(true,.ok (.enter f #[x,y]) W):=by intro _ _ _;kernel_rfl):bF P Q G.flow ops a0 k o:=
 gK λa W d=>by
  obtain⟨x,e,hx⟩:=l _ W (d.n j t (congrArg (·.1.1) hd) (congrArg (·.1.2) hd));exact⟨[(t,.iface T x),(b,a.eval (.tmp b))],f,_,⟨e,rfl,yCl⟩,g _ _ W,i _ _ W hx (d.n c b (congrArg (·.2.1) hd) (congrArg (·.2.2) hd)) d.b⟩
end RG
namespace RG
variable {P:VC}{ops:Array Vj}{Q:Yo->Act->Uq->Prop}{w:Uq}{a0:Act}{G:Gw}{k:Nat}{o:Vj}{T:U7}{g off:Nat}{cs:List Us}{v u v' z:Us}{I:Sem Us}{f:Xp}{t:WB}
theorem gO(t:WB)(v:Us)(c:a0.eval (.tmp t)=v:=by kernel_rfl)(hR:∀W,G.R k v W:=by exact λ_=>rfl)(hf:oY ops k t=true:=by kernel_rfl)(b:∀W,(dA [t] o,(U4 (evo (evl [(t,v)])) o).run P W)=(true,.ok (.value v) W):=by intro _;kernel_rfl):bF P Q G.flow ops a0 k o:=RU t v v c hR hf b
theorem gP(t:WB)(v b:Us)(d:a0.eval (.tmp t)=v:=by kernel_rfl)(hR:∀W,G.R k b W:=by exact λ_=>rfl)(hf:oY ops k t=true:=by kernel_rfl)(c:∀W,(dA [t] o,(U4 (evo (evl [(t,v)])) o).run P W)=(true,.ok (.value b) W):=by intro _;kernel_rfl):bF P Q G.flow ops a0 k o:=RU t v b d hR hf c
theorem gLo(t:WB)(c:∀W,G.B W->W.rangeAt g off cs)(b:(P.underlying T).map (·.isRow)=some true)(d:(P.info? T).map (·.size)=some cs.length)(e:a0.eval (.tmp t)=oZ g off:=by kernel_rfl)(hR:∀W,G.R k (.agg cs.toArray) W:=by exact λ_=>rfl)(hf:oY ops k t=true:=by kernel_rfl)(ho:o.op=.load T (.tmp t):=by rfl):bF P Q G.flow ops a0 k o:=iD T t g off cs b d e c hR hf ho
theorem gLr(j:Nat)(t:WB)(c:∀W,G.B W->W.rangeAt g off cs)(b:(P.underlying T).map (·.isRow)=some true)(d:(P.info? T).map (·.size)=some cs.length)(e:∀x W,G.R j x W->x=oZ g off:=by exact λ_ _ h=>h)(hR:∀W,G.R k (.agg cs.toArray) W:=by exact λ_=>rfl)(hd:(dB o j,aX ops j)=(true,some t):=by kernel_rfl)(ho:o.op=.load T (.tmp t):=by rfl):bF P Q G.flow ops a0 k o:=RV T j t g off cs b d e c hR hd ho
theorem gX(j:Nat)(t:WB)(c:Nat)(b:WB)(e:∀W,I.run P W=.ok v' W)(f:∀x W,G.R j x W->x=v:=by exact λ_ _ h=>h)(d:∀x W,G.R c x W->x=u:=by exact λ_ _ h=>h)(hR:∀W,G.R k v' W:=by exact λ_=>rfl)(hd:((dB o j,aX ops j),(dB o c,aX ops c))=((true,some t),(true,some b)):=by kernel_rfl)(g:(dA [t,b] o,U4 (evo (evl [(t,v),(b,u)])) o)=(true,I >>= λv=>pure (Xo v)):=by kernel_rfl):bF P Q G.flow ops a0 k o:=A0 j t c b v u v' I e f d hR hd g
theorem gC2(j:Nat)(t:WB)(c:Nat)(b:WB)(n:∀W,UG P f #[v,u] W (rZ W λe W'=>e=v'))(l:∀x W,G.R j x W->x=v:=by exact λ_ _ h=>h)(d:∀x W,G.R c x W->x=u:=by exact λ_ _ h=>h)(hR:∀W,G.R k v' W:=by exact λ_=>rfl)(hd:((dB o j,aX ops j),(dB o c,aX ops c))=((true,some t),(true,some b)):=by kernel_rfl)(i:∀x y W,(dA [t,b] o,(U4 (evo (evl [(t,x),(b,y)])) o).run P W)=(true,.ok (.enter f #[x,y]) W):=by intro _ _ _;kernel_rfl):bF P Q G.flow ops a0 k o:=
 eD j t c b f (λx y=>#[x,y]) (λx y W p m _=>by
  rw[l x W p,d y W m];refine(n W).mono ?_;rintro e W' ⟨a,rfl,g,rfl⟩;exact⟨_,rfl,g,hR W'⟩) hd i
end RG
section
def hf(n:Nat):Nat:=2^Nat.log2 (n-1)
end
section
variable {P:Nat}[NeZero P]{N:Nat}
def hZ(n:Nat):Bs:=#[bV n 16777216,bV n 65536,bV n 256,bV n 1]
theorem IK{w:Uq}{r n:Nat}(h:Holds encB w r 0 (hZ n)):PartOk w (sZ r 4 4) (hZ n).toList:=
 ⟨_,r,0,4,hZ n,rfl,rfl,Uv _,VQ rfl,UW ⟨rfl,h⟩⟩
theorem Mv:Gives 70 #[uZ 1] (nv 1):=by
 intro w;go_enter func70,ntmps70;refine RG.M.enter [(0,.v (uZ 1))] 6 kR ?_;intro a0 d;repeat refine Uy ?_
 refine d.T [.m 0] [(0,RG.z 4)] [] [RG.z 4] [0,2] ⟨mk 0 49,yCl⟩ ?_;intro k f g c;repeat refine Uy ?_
 refine c.T [.x (uZ 1),.x (nv 1),.x (nv 1),.u 0] [] [(0,3,wn 1)] [wn 1] [2] ⟨st,st,st,RG.pt i40,yCl⟩ ?_;intro a2 e b;refine We ?_;refine UD (v:=nv 1) (aI b.st 2 49 rfl 0 _ rfl (b.at (s:=(.p 0 0))) u40 i40) b.sl.defers ?_;exact⟨_,rfl,b.st.bel.below,rfl⟩
def tZ(a:Nat):Nat:=if a=0 then 1 else a
theorem Mo(O:Ord N){a:Nat}(n:a<N):Gives 210 #[nv a] (nv (tZ a)):=by
 intro w;have f:=Uw n O.le;have g:∀w:Uq,(binOp .eql 49 (nv a) (nv 0)).run prog w=.ok (.bool (decide (a=0))) w:=λw=>eqS f (show 0<top by unfold top;omega) w
 obtain⟨d,hd⟩:=hE (decide (a=0));rw[hd.out]at g;go_enter func210,ntmps210;refine RG.M.enter [(0,.v (nv a))] 8 kR ?_;intro a0 l;repeat refine Uy ?_
 refine l.T [.m 0,.m 1] [(0,wn a),(1,RG.z 4)] [] [wn a,RG.z 4] [1,2] ⟨mk 0 49,mk 1 49,yCl⟩ ?_;intro o t r p i;repeat refine Uy ?_
 refine i.U [.x (nv a),.x (nv 0),.x (.bool d)] [1,2,5] ⟨ld u40 i40,st,aQ rfl .eql 49 49 3 4 (nv a) (nv 0) (.bool d) rfl rfl sx sx (λw=>kR) g,yCl⟩ ?_;intro a2 q b;cases d with
 | true =>
  refine VD b.ev ?_;have c:=of_decide_eq_true hd.out;have e:tZ a=1:=by unfold tZ;rw[yCj c]
  rw[e];repeat refine Uy ?_
  refine b.T [.c (nv 1),.u 1] [] [(1,1,wn 1)] [wn a,wn 1] [2] ⟨cl Mv,RG.pt i40,yCl⟩ ?_;intro j m k;refine We ?_;refine UD (v:=nv 1) (aI k.st 2 49 rfl 1 _ rfl (k.at (s:=(.p 1 0))) u40 i40) k.sl.defers ?_;exact⟨_,rfl,k.st.bel.below,rfl⟩
 | false =>
  refine VH b.ev ?_;have c:=of_decide_eq_false hd.out;have e:tZ a=a:=by unfold tZ;rw[yCk c]
  rw[e];refine WR ?_;repeat refine Uy ?_
  refine b.T [.x (nv a),.u 1] [] [(1,1,wn a)] [wn a,wn a] [2] ⟨ld u40 i40,RG.pt i40,yCl⟩ ?_;intro j m k;refine We ?_;refine UD (v:=nv a) (aI k.st 2 49 rfl 1 _ rfl (k.at (s:=(.p 1 0))) u40 i40) k.sl.defers ?_;exact⟨_,rfl,k.st.bel.below,rfl⟩
end
section
section
variable {P:VC}{ops:Array Vj}{rest:List Vj}{op:Vj}{a:Act}{w w':Uq}{v:Us}{Q:Yo->Act->Uq->Prop}
theorem fV(c:op.guard=none)(k:U7)(x y:Operand)(ho:op.op=.store k x y)(b o:Nat)(v:Us)(hx:a.eval x=oZ b o)(d:a.eval y=v)(hv:v.cells=#[v])(l:v.oneCell'=true)(j:w.there b o 1)(i:(P.info? k).map (·.size)=some 1)
 (h:wpList P ops Q rest (a.put op.dst WO) (w.setCells b o [v])):wpList P ops Q (op :: rest) a w:=
 Xf c λ_ g=>by
  have f:=ZA (P:=P) w b o k #[v] j i (by simp[l]);have e:storeVar k ⟨b,o,none⟩ v=storeVar k ⟨b,o,none⟩ (.agg #[v]):=by
   unfold storeVar;rw[hv];rfl
  unfold VS U4;simp only[ho,hx,d,Yw,X4,UU,Wq,Vl,e,f];exact g _ _ h
theorem rR(k:op.guard=none)(s t:WB)(d:Array U7)(ho:op.op=.call ⟨.value (.tmp s),#[.tmp t],d⟩)(f:Xp)(cap:Array Us)(x:Us)(b:a.eval (.tmp s)=.func (.func f) #[] cap)(hx:a.eval (.tmp t)=x)(hf:∀args W,(callFunc f args).run P W=.ok (.enter f args) W)
 {R:Us->Uq->Prop}(i:UG P f (#[x]++cap) w (Ret R)) (h:∀v w',R v w'->wpList P ops Q rest (a.put op.dst v) w'):wpList P ops Q (op :: rest) a w:=
 Xf k λK g=>by
  have c:(U4 a.eval op).run P w=.ok (.enter f (#[x]++cap)) w:=by
   unfold U4;rw[ho];have e:(#[Operand.tmp t].map a.eval)=#[x]:=by simp[hx]
   simp only[resolve,b,Deferred.ofValue,UU,Wq,Vl,invoke,e];exact hf _ w
  unfold VS;rw[c,Oper.upon_enter];refine i.mono ?_;rintro e w' ⟨v,rfl,hR⟩;exact g _ _ (h v w' hR)
end
end
section
variable {P:Nat}[NeZero P]{N:Nat}
theorem xC(n:Nat)(m:n<4294967296)(w:Uq):UG prog 200 #[iZ n] w (rZ w λe w'=>∃r,e=sZ r 4 4/\r<w'.heap.size/\Holds encB w' r 0 (hZ n)):=by
 have k:(n:Int)/16777216%256=SP.ub (bV n 16777216):=jL n 16777216;have b0:(n:Int)/16777216=SP.ub (bV n 16777216):=oM;clear k;have b1:(n:Int)/65536%256=SP.ub (bV n 65536):=jL n 65536;have l:(n:Int)/256%256=SP.ub (bV n 256):=jL n 256;have o:(n:Int)%256=SP.ub (bV n 1):=xK n;have g:=xO w (bV n 16777216) (bV n 65536) (bV n 256) (bV n 1);have d:Hid (hZ n=#[bV n 16777216,bV n 65536,bV n 256,bV n 1]):=rfl;generalize bV n 16777216=j at *;generalize bV n 65536=f at *;generalize bV n 256=c at *;generalize bV n 1=i at *;have b:kZ w (w.alloc (.cells #[.int .u8 (SP.ub j),.int .u8 (SP.ub f),.int .u8 (SP.ub c),.int .u8 (SP.ub i)] 5)):=(UQ _ _).alloc (Uv _) _;go_enter func200,ntmps200;go_wp2;go_ret;refine⟨_,rfl,b,_,rfl,by rw[UA];omega,?_⟩;rw[d.out];exact g
theorem AS(a:Bs)(i:a.size=33)(w:Uq):UG prog 135 #[pvl a] w (rZ w λe w'=>Sm w.heap.size w' e [(1,a)]):=by
 have l:=Hid.mk' (rM i w);obtain⟨g,f⟩:=hE (w.alloc (.cells (aA a).toArray 103));rw[f.out]at l;have K:Hid (Row g w.heap.size (aA a)/\kZ w g):=by rw[<-f.out];exact⟨aE w _ _,aC w _⟩
 obtain⟨va,d⟩:=hE (pvl a);have j:Hid ((Vd 103 va).run prog w=.ok (jZ w.heap.size) g):=by rw[<-d.out];exact l
 rw[d.out];go_enter func135,ntmps135;go_wp2_with (first|(refine aF (u:=va) (v:=jZ w.heap.size) (w':=g) rfl 103 (.tmp 0) rfl ?_ ?_ ?_;rfl;exact j.out)|fail)
 refine(gwL [pE (pvl a),pE (nv 1),pM (w.heap.size<=·) [(1,a)],pM (w.heap.size<=·) [(1,a)]] (λW=>Row W w.heap.size (aA a)/\kZ w W) (λW W' b h=>⟨h.1.below b,h.2.trans (b.mono h.2.size)⟩)).draws kR kR ⟨
  iD 103 1 w.heap.size 0 (aA a) uCP (by rw[aB i];exact cV) rfl (λW c=>c.1.2.1) (λ_=>rfl),
  NN 70 #[uZ 1] λW c=>(IX W).mono (by
   rintro e W' ⟨u,rfl,b,rfl⟩;exact⟨_,rfl,b,rfl⟩),
  eD 0 3 1 4 64 (λx y=>#[x,y]) λx y W hx m c=>by
   obtain rfl:x=pvl a:=hx;obtain rfl:y=nv 1:=m;refine(kU a i 1 W).mono ?_;rintro e W' ⟨u,rfl,b,k,rfl,n,hR⟩;exact⟨_,rfl,b,Sm.one hR (UB c.2.size n) rfl⟩,
  DR 2 5 id λx W h=>h,yCl⟩ ⟨K.1,K.2.drew⟩ ?_
 intro V o hR c;have n:=mk1 (hR 3 (Xi (VQ kR)));have m:=mk1 (c.2);dsimp only[bU,VJ];go_wp2;go_ret;exact⟨_,rfl,m.out,n.out⟩
theorem u9s:(prog.underlying 9).map (·.isRow)=some false:=kR
def pH(n:Nat)(b:Bs):S1:=⟨λv W=>∃r,v=sZ r n n/\r<W.heap.size/\Holds encB W r 0 b,λ_ _ _ c ⟨r,e,k,d⟩=>⟨r,e,Uw k c.size,Holds.below d c k⟩⟩
noncomputable def hpN (P:Nat) [NeZero P] (lb:ByteArray) (i:Nat):Bs:=wr (.some (hpt P lb (hZ i).toList):EC.Pt P)
theorem Jg(lb:ByteArray)(i:Nat):(hpN P lb i).size=33:=aT _
theorem OW(C:Fld P)(lb:ByteArray)(f:lb.size<=1000000)(i:Nat)(E:i<4294967296)(k:Nat)(w:Uq)(z:k<w.heap.size)(F:w.cell? ⟨k,0,none⟩=some (.string lb)):
 UG prog 201 #[iZ i,jZ k] w (rZ w λe w'=>Sm w.heap.size w' e [(1,hpN P lb i)]):=by
 obtain⟨T,l⟩:=hE (hpN P lb i);have d:T.size=33:=by rw[<-l.out];exact Jg _ _
 rw[l.out];have s:=λ(W:Uq) (n:Option Wt) (o q:Nat) (a:PartOk W (.slice n o q) (hZ i).toList)=>FK C lb f n o q (hZ i).toList W a
 have A:wr (.some (hpt P lb (hZ i).toList):EC.Pt P)=T:=l.out;rw[A]at s;have B:=Hid.mk' s;have D:=mk1 (F);have m:=Hid.mk' (λW=>xC i E W);go_enter func201,ntmps201;go_wp2_with fail
 refine(gwL [pE (.string lb),pE (iZ i),pH 4 (hZ i),pE (pvl T),pM (w.heap.size<=·) [(1,T)],pM (w.heap.size<=·) [(1,T)]] (λW=>W.cell? ⟨k,0,none⟩=some (.string lb)/\kZ w W) (λW W' b h=>⟨by rw[b.cell (p:=⟨k,0,none⟩) (Uw z h.2.size)];exact h.1,h.2.trans (b.mono h.2.size)⟩)).draws kR kR ⟨
  PD 9 1 k 0 (.string lb) u9s rfl (λW c=>c.1) (λ_=>rfl),
  gO 0 (iZ i),
  oW 1 5 200 (λx=>#[x]) (λx W hx c=>by
   obtain rfl:x=iZ i:=hx;refine(m W).mono ?_;rintro e W' ⟨u,rfl,b,r,rfl,t,j⟩;exact⟨_,rfl,b,r,rfl,t,j⟩),
  eD 0 4 2 6 136 (λx y=>#[x,y]) (λx y W hx v c=>by
   obtain rfl:x=.string lb:=hx;obtain⟨r,rfl,t,j⟩:=v;refine(B W _ _ _ (IK j)).mono ?_;rintro e W' ⟨u,rfl,b,rfl⟩;exact⟨_,rfl,b,rfl⟩),
  oW 3 7 135 (λx=>#[x]) (λx W hx c=>by
   obtain rfl:x=pvl T:=hx;refine(AS T d W).mono ?_;rintro e W' ⟨u,rfl,b,j⟩;exact⟨_,rfl,b,j.q.mono λg t=>UB c.2.size t⟩),
  DR 4 8 id (λx W h=>h),yCl⟩ ⟨D.out,(UQ _ w).drew⟩ ?_
 intro V v hR c;have t:=mk1 (hR 5 (Xi (VQ kR)));have j:=mk1 (c.2);dsimp only[bU,VJ];simp only[UM,Ur,Ut,Uu];go_wp2;go_ret;exact⟨_,rfl,j.out,t.out⟩
theorem uSu:prog.underlying 129=some (.slice 131):=kR
theorem iSu:(prog.info? 131).map (λi=>(i.size,decide (i.bytes<=4000),i.zero.isSome))=some (1,true,true):=kR
theorem RQ:(prog.info? 131).map (·.size)=some 1:=kR
structure LsI(w W:Uq)(K n i:Nat)(T:Nat->List (Nat × Bs)):Prop where
 bl:kZ w W
 lt:K<W.heap.size
 th:W.there K 0 n
 ge:w.heap.size<=K
 el:∀j,j<i->∃x,W.cell? ⟨K,j,none⟩=some x/\SmQ (λg=>w.heap.size<=g/\g≠K) W x (T j)
theorem LsI.grow{w W W':Uq}{K n i:Nat}{T:Nat->List (Nat × Bs)}(h:LsI w W K n i T)(k:kZ W W'):LsI w W' K n i T:=
 ⟨h.bl.trans (k.mono h.bl.size),Uw h.lt k.size,dJ h.th k h.lt,h.ge,λj c=>by
  obtain⟨x,d,b⟩:=h.el j c;exact⟨x,by rw[k.cell (p:=⟨K,j,none⟩) h.lt];exact d,b.keep (Kq.of_below k)⟩⟩
theorem Kq.set{Q:Nat->Prop}{W:Uq}{K o:Nat}{vs:List Us}(k:∀g,Q g->g≠K):Kq Q W (W.setCells K o vs):=⟨by rw[setCells_size];exact Uv _,λg b _=>aH K vs o W g (k g b)⟩
theorem LsI.put{w W:Uq}{K n i:Nat}{T:Nat->List (Nat × Bs)}{x:Us}(h:LsI w W K n i T)(m:i<n)(hx:SmQ (λg=>w.heap.size<=g/\g≠K) W x (T i)):LsI w (W.setCells K i [x]) K n (i+1) T:=by
 have b:Kq (λg=>w.heap.size<=g/\g≠K) W (W.setCells K i [x]):=Kq.set λg f=>f.2
 refine⟨RG.below_setCells h.ge _ _ _ h.bl,by rw[setCells_size];exact h.lt,VV h.th _ _ _,h.ge,λj p=>?_⟩;by_cases e:j=i
 ·subst e;refine⟨x,?_,hx.keep b⟩;have:=VN W K j [x] (λt c=>by
   have k:t=0:=by simp at c;omega
   subst k;have:=h.th j m;rwa[UC]at this) 0 x rfl
  exact this
 ·obtain⟨y,o,l⟩:=h.el j oM;refine⟨y,?_,l.keep b⟩;have d:W.rangeAt K j [y]:=λt u c=>by
   have k:t=0:=by have:=(UE.1 c).1;simp at this;omega
   subst k;obtain rfl:y=u:=by simpa using c
   exact o
  exact Vg d K i [x] (UW (by simp;omega)) 0 y rfl
theorem LsI.gl{w W:Uq}{K n:Nat}{T:Nat->List (Nat × Bs)}(h:LsI w W K n n T):GLq (w.heap.size<=·) W (sZ K n n) n T:=
 ⟨K,0,n,rfl,Uv _,h.ge,h.lt,λj b=>by
  obtain⟨x,d,k⟩:=h.el j b;exact⟨x,by rw[UC];exact d,k.mono λg c=>c.1⟩⟩
theorem SmQ.one{Q:Nat->Prop}{W:Uq}{v:Us}{l:List (Nat × Bs)}(h:SmQ Q W v l):v.cells=#[v]/\v.oneCell'=true:=by
 obtain⟨g,c,rfl,-⟩:=h;exact⟨rfl,rfl⟩
theorem Aa(n:Nat)(H:n<=512)(f:Xp)(cap:Array Us)(hf:∀args W,(callFunc f args).run prog W=.ok (.enter f args) W)(T:Nat->List (Nat × Bs))(w:Uq)
 (B:∀i W,i<n->kZ w W->UG prog f (#[iZ i]++cap) W (rZ W λe W'=>Sm W.heap.size W' e (T i))) :
 UG prog 162 #[iZ n,.func (.func f) #[] cap] w (rZ w λe w'=>GLq (w.heap.size<=·) w' e n T):=by
 obtain⟨C0,o,p⟩:=Cg uSu iSu n H;have k:=p w;obtain⟨K,u⟩:∃K,Hid (w.heap.size=K):=⟨_,rfl⟩
 obtain⟨r,b⟩:∃r,Hid (w.alloc (.cells C0.toArray 131)=r):=⟨_,rfl⟩
 have s:Ar w r K 1 n 0 (λ_=>[]):=Ar.new _ o b.out u.out;rw[b.out,u.out]at k;have F:Hid (LsI w r K n 0 T):=⟨s.bl,s.lt,by have:=s.th;rwa[Xh]at this,by rw[u.out];exact Uv _,λj I=>absurd I (Ym _)⟩
 have N:=Hid.mk' B;have G:=Hid.mk' hf;obtain⟨fv,l⟩:=hE (Z0 (.func f) #[] cap);rw[l.out];clear s o p B hf b u;go_enter func162,ntmps162;go_wp2;clear k;go_loopg [11] n (λm s11 W=>∃i:Nat,i+m=n/\s11=iZ i/\Hid (LsI w W K n i T))
 case atStart=>exact⟨0,oM,rfl,F⟩
 case round =>
  obtain⟨i,C,rfl,c⟩:=hrel;by_cases v:i<n
  ·have x:(i:Int)<(n:Int):=oM;have y:=atS K 0 n n i v;rw[show 0+1*i=i by omega]at y;have L:=Hid.mk' v;go_wp2_with (first|(refine rR rfl 16 17 _ rfl f cap (iZ i) ?_ ?_ G.out (N i wr L.out c.bl) ?_;exact l.symm;rfl;intro e W' hR;refine Zf ?_)|fail)
   obtain⟨D,M⟩:=hR;have z:=c.grow D;have q:SmQ (λg=>w.heap.size<=g/\g≠K) W' e (T i):=M.q.mono λg J=>⟨UB (UB c.bl.size (Uv _)) J,by have:=c.lt;omega⟩
   have a:=mk1 (z.put v q);have E:Hid (W'.there K i 1):=λt P=>by
    have d:t=0:=oM;subst d;have:=z.th i v;rwa[UC]at this
   have A:=Hid.mk' q.one;obtain⟨O,d⟩:=hE (W'.setCells K i [e]);rw[d.out]at a;show wpList _ _ _ _ _ _;go_wp2_with (first|(refine fV rfl 131 _ _ rfl K i e ?_ ?_ A.1 A.2 E.out RQ ?_;rfl;rfl;rw[d.out])|fail)
   go_roundg (gk-1)
   case measure=>omega
   case rel=>exact⟨i+1,oM,rfl,a⟩
  ·have x:¬(i:Int)<(n:Int):=oM;obtain rfl:i=n:=oM;have d:=mk2 c.bl c.gl;go_wp2;go_ret;exact⟨_,rfl,d.1,d.2⟩
theorem tQ(C:Fld P)(lb:ByteArray)(c:lb.size<=1000000)(n:Nat)(q:n<=512)(w:Uq):
 UG prog 134 #[.string lb,iZ n] w (rZ w λe w'=>GLq (w.heap.size<=·) w' e n (λi=>[(1,hpN P lb i)])):=by
 obtain⟨d,b⟩:=hE (w.alloc (.cells #[.string lb] 9));obtain⟨k,l⟩:=hE (w.heap.size);have o:kZ w d:=by rw[<-b.out];exact aC _ _
 have hR:Row d k [.string lb]:=by rw[<-b.out,<-l.out];exact aE w _ _
 have s:=Hid.mk' (Aa n q 201 #[jZ k] (λ_ _=>kR) (λi=>[(1,hpN P lb i)]) d (λi W x m=>OW C lb c i oM k W (Uw hR.1 m.size) (by rw[m.cell (p:=⟨k,0,none⟩) hR.1];exact hR.2.1 0 _ rfl)));have j:=Hid.mk' o;go_enter func134,ntmps134;go_wp2_with fail
 rw[b.out,l.out];refine s.mono ?_;rintro e u ⟨v,rfl,f,hG⟩;have t:=mk2 (j.trans (f.mono j.size)) (hG.mono λg r=>UB j.size r);go_wp2;go_ret;exact⟨_,rfl,t.out⟩
noncomputable def hpU (P:Nat) [NeZero P]:Bs:=wr (.some (hpt P ⟨#[105,110,110,101,114]⟩ []):EC.Pt P)
theorem iGr:(prog.info? 133).map (·.size)=some 3:=kR
theorem uGr:(prog.underlying 133).map (·.isRow)=some true:=kR
noncomputable def gGT (P:Nat) [NeZero P] (i:Nat):List (Nat × Bs):=[(1,hpN P ⟨#[108,101,102,116]⟩ i)]
noncomputable def hGT (P:Nat) [NeZero P] (i:Nat):List (Nat × Bs):=[(1,hpN P ⟨#[114,105,103,104,116]⟩ i)]
noncomputable def uGT (P:Nat) [NeZero P]:List (Nat × Bs):=[(1,hpU P)]
theorem xQ(C:Fld P)(n:Nat)(S:n<=512)(w:Uq):
 UG prog 62 #[iZ n] w (rZ w λe w'=>GRq (w.heap.size<=·) w' e n (gGT P) (hGT P) (uGT P)):=by
 have E:=λW=>tQ C ⟨#[108,101,102,116]⟩ dC n S W
 have J:=λW=>tQ C ⟨#[114,105,103,104,116]⟩ dC n S W
 have M:=λW:Uq=>FK C ⟨#[105,110,110,101,114]⟩ dC none 0 0 [] W ⟨none,0,0,0,#[],rfl,rfl,Uv _,Wx _,U3 rfl⟩
 have X:wr (.some (hpt P ⟨#[105,110,110,101,114]⟩ []):EC.Pt P)=hpU P:=rfl;rw[X]at M;have V:=λW=>AS (hpU P) (aT _) W
 obtain⟨U,A⟩:∃U,Hid (hpU P=U):=⟨_,rfl⟩
 have e1:uGT P=[(1,U)]:=by unfold uGT;rw[A.out]
 rw[e1];rw[A.out]at M V;have s:=Hid.mk' (V0 E (V0 J (V0 M V)));have Y:(λi=>[(1,hpN P ⟨#[108,101,102,116]⟩ i)])=gGT P:=rfl;have e3:(λi=>[(1,hpN P ⟨#[114,105,103,104,116]⟩ i)])=hGT P:=rfl;rw[Y,e3]at s;generalize gGT P=G at s⊢;generalize hGT P=H at s⊢;clear E J M V X e1 Y e3 C S;obtain⟨z,K⟩:∃z,Hid (w.alloc (.cells #[.slice none 0 0,.slice none 0 0,.slice none 0 0] 133)=z):=⟨_,rfl⟩
 obtain⟨k,O⟩:∃k,Hid (w.heap.size=k):=⟨_,rfl⟩
 have N:Hid (kZ w z/\Row z k [.slice none 0 0,.slice none 0 0,.slice none 0 0]):=by rw[<-K.out,<-O.out];exact⟨aC _ _,aE w _ _⟩
 go_enter func62,ntmps62;go_wp2_with fail
 rw[K.out,O.out];refine(s.1 z).mono ?_;rintro e Q ⟨v1,rfl,I,hG⟩;have L:Hid (kZ w Q/\Row Q k [.slice none 0 0,.slice none 0 0,.slice none 0 0]/\GLq (k < ·) Q v1 n G):=⟨N.1.trans (I.mono N.1.size),N.2.below I,hG.mono λg o=>Uw N.2.1 o⟩
 go_wp2_with fail
 refine(s.2.1 Q).mono ?_;rintro e B ⟨v2,rfl,u,hG⟩;have a:Hid (kZ w B/\Row B k [.slice none 0 0,.slice none 0 0,.slice none 0 0]/\GLq (k < ·) B v1 n G/\GLq (k < ·) B v2 n H):=⟨L.1.trans (u.mono L.1.size),L.2.1.below u,L.2.2.keep (Kq.of_below u),hG.mono λg o=>Uw L.2.1.1 o⟩
 go_wp2_with fail
 refine(s.2.2.1 B).mono ?_;rintro e D ⟨v,rfl,f,rfl⟩;have t:Hid (kZ w D/\Row D k [.slice none 0 0,.slice none 0 0,.slice none 0 0]/\GLq (k < ·) D v1 n G/\GLq (k < ·) D v2 n H):=⟨a.1.trans (f.mono a.1.size),a.2.1.below f,a.2.2.1.keep (Kq.of_below f),a.2.2.2.keep (Kq.of_below f)⟩
 obtain⟨vu,x⟩:=hE (pvl U);have HO:Hid (∀W:Uq,UG prog 135 #[vu] W (rZ W λe w'=>Sm W.heap.size w' e [(1,U)])):=by rw[<-x.out];exact s.2.2.2
 rw[x.out];go_wp2_with fail
 refine(HO D).mono ?_;rintro e c ⟨v3,rfl,b,Z⟩;have d:Hid (kZ w c/\Row c k [.slice none 0 0,.slice none 0 0,.slice none 0 0]/\GLq (k < ·) c v1 n G/\GLq (k < ·) c v2 n H/\SmQ (k < ·) c v3 [(1,U)]):=⟨t.1.trans (b.mono t.1.size),t.2.1.below b,t.2.2.1.keep (Kq.of_below b),t.2.2.2.keep (Kq.of_below b),Z.q.mono λg o=>Uw t.2.1.1 o⟩
 clear b Z t HO;obtain⟨m,l,c1,rfl,-⟩:=d.2.2.1;obtain⟨p,q,c2,rfl,-⟩:=d.2.2.2.1;obtain⟨r,j,rfl,-⟩:=d.2.2.2.2;obtain⟨y,F⟩:∃y,Hid (c.setCells k 0 [.slice (some ⟨m,l,none⟩) n c1,.slice (some ⟨p,q,none⟩) n c2,sZ r [(1,U)].length j]=y):=⟨_,Hid.mk' rfl⟩
 have T:Hid (kZ w y/\Row y k [.slice (some ⟨m,l,none⟩) n c1,.slice (some ⟨p,q,none⟩) n c2,sZ r [(1,U)].length j]/\GRq (w.heap.size<=·) y (.agg #[.slice (some ⟨m,l,none⟩) n c1,.slice (some ⟨p,q,none⟩) n c2,sZ r [(1,U)].length j]) n G H [(1,U)]):=by
  rw[<-F.out];have R:∀g,k<g->w.heap.size<=g:=λg o=>by rw[O.out];omega
  have kq:Kq (k < ·) c (c.setCells k 0 [.slice (some ⟨m,l,none⟩) n c1,.slice (some ⟨p,q,none⟩) n c2,sZ r [(1,U)].length j]):=Kq.set λg o=>Nat.ne_of_gt o
  exact⟨RG.below_setCells (by rw[O.out];exact Uv _) _ _ _ d.1,d.2.1.put rfl,_,_,_,rfl,(d.2.2.1.keep kq).mono R,(d.2.2.2.1.keep kq).mono R,(d.2.2.2.2.keep kq).mono R⟩
 have R:=mk1 (d.2.1.2.2);go_wp2_with (refine bG (v:=.agg #[.slice (some ⟨m,l,none⟩) n c1,.slice (some ⟨p,q,none⟩) n c2,sZ r [(1,U)].length j]) (w':=c) rfl (.build 133 _) rfl ?_ ?_;kernel_rfl;refine Zf ?_)
 show wpList _ _ _ _ _ _;refine U1 rfl 133 _ _ rfl k 0 #[.slice (some ⟨m,l,none⟩) n c1,.slice (some ⟨p,q,none⟩) n c2,sZ r [(1,U)].length j] ?_ ?_ R.out iGr ?_ ?_
 ·kernel_rfl
 ·kernel_rfl
 ·kernel_rfl
 rw[show(#[.slice (some ⟨m,l,none⟩) n c1,.slice (some ⟨p,q,none⟩) n c2,sZ r [(1,U)].length j]:Array Us).toList=[.slice (some ⟨m,l,none⟩) n c1,.slice (some ⟨p,q,none⟩) n c2,sZ r [(1,U)].length j] from rfl,F.out];go_wp2;refine UD (aG 2 133 rfl T.2.1 rfl uGr iGr) rfl ?_;exact⟨_,rfl,T.1,T.2.2⟩
theorem u22:(prog.underlying 23).map (·.isRow)=some false:=kR
theorem SS(k o n c i:Nat)(b:i<n)(w:Uq):(Vk 24 (.slice (some ⟨k,o,none⟩) n c) (iZ i)).run prog w=.ok (.pointer (some ⟨k,o+i,none⟩)) w:=by
 go_simp
theorem lF(k o n c i:Nat)(b:i<n)(w:Uq):(Vk 124 (.slice (some ⟨k,o,none⟩) n c) (iZ i)).run prog w=.ok (.pointer (some ⟨k,o+4*i,none⟩)) w:=by
 go_simp
theorem TK(N:Nat)(g:N<=512):∃C0:List Us,C0.length=4*N/\∀w:Uq,(XB 124 (iZ N) (iZ N)).run prog w=.ok (sZ w.heap.size N N) (w.alloc (.cells C0.toArray 49)):=by
 have c:prog.underlying 124=some (.slice 49):=kR;have f:(prog.info? 49).map (λi=>(i.size,decide (i.bytes<=4000),i.zero.isSome))=some (4,true,true):=kR;obtain⟨i,b,k⟩:=Ux.1 f;simp only[V5.injEq,decide_eq_true_eq]at k;obtain⟨n,d,m⟩:=k;obtain⟨z,e⟩:=Vq.1 m;refine⟨(madeCells z.cells (N*4)).toList,by rw[UJ,YI,Vu],λw=>?_⟩;have j:(i.bytes:Int)*(N:Int)<=281474976710656:=by
  have:i.bytes*N<=4000*512:=WP d g;have l:((i.bytes*N:Nat):Int)<=281474976710656:=oM;rwa[Xv]at l
 have:=run_make (P:=prog) w 124 49 i z c b e .i64 .i64 (N:Int) (N:Int) oM oM j oM;rw[XZ,n]at this;rw[XC];exact this
def Uo(N:Nat)(w:Uq)(n:Nat)(L:Nat->Bs)(e:Us)(w':Uq):Prop:=
 ((∃j,j<n/\rq N (L j)=none)/\kZ w w'/\e=.tuple #[.slice none 0 0,.bool false]) \/
 ((∀j,j<n->(rq N (L j)).isSome=true)/\∃k C,Made w k C w'/\Rows 4 n (λj=>wn ((rq N (L j)).getD 0)) n C/\e=.tuple #[sZ k n n,.bool true])
theorem Nl(O:Ord N)(n cap:Nat)(hn:n<=512)(q:Option Wt)(L:Nat->Bs)(w:Uq)(hA:Args w q n L):UG prog 121 #[(.func (.func 16) #[] #[]),.slice q n cap] w (Ret λe w'=>Uo N w n L e w'):=by
 obtain⟨C,h5,P⟩:=TK n hn;go_enter func121,ntmps121;refine RG.M.enter [(0,.v (.func (.func 16) #[] #[])),(1,.v (.slice q n cap))] 35 kR ?_;intro a0 M0;repeat refine Uy ?_
 refine M0.U [.x (.slice none 0 0),.x (.bool false)] [0,1] ⟨st,st,yCl⟩ ?_;intro a1 w1 M1;repeat refine Uy ?_
 refine M1.t [.x 11 [] (.slice q n cap),.x 12 [(11,0)] (iZ n),⟨some 13,[(12,1)],.s 0 n n,.make 0⟩,.s 6 [(13,2)] (.s 0 n n)] [(2,C)] [] [C] [(0,.v (.func (.func 16) #[] #[])),(1,.v (.slice q n cap)),(6,.s 0 n n)] ⟨st,st,mJ 0 rfl _ rfl 124 49 12 12 n rfl rfl sx sx P,st,yCl⟩ ?_;intro j2 a2 w2 M2;repeat refine Uy ?_
 refine M2.U [.x (.slice q n cap),.x (iZ n),.x (iZ 0)] [0,6,14,15,16] ⟨st,st,st,yCl⟩ ?_;intro a3 w3 M3;repeat refine Uy ?_
 refine XG ?_;refine wp_loop_ghost (λm a wr=>∃(i:Nat) (C:List Us) (S:Nat),i+m=n/\(∀j,j<i->(rq N (L j)).isSome=true)/\Rows 4 n (λj=>wn ((rq N (L j)).getD 0)) i C/\RG.M w w.heap.size [] 35 [C] [S] [(0,.v (.func (.func 16) #[] #[])),(6,.s 0 n n),(14,.v (.slice q n cap)),(15,.v (iZ n)),(16,.v (iZ i))] a wr) n ⟨0,C,_,oM,λj hj=>oM,⟨h5,λj r hj=>oM⟩,M3⟩ ?_;clear P;intro m' a wr;rintro⟨i,C,S,h8,t,hR,B⟩;by_cases x:i<n
 ·obtain⟨z,U,H,hc⟩:=hA oM;subst U;obtain⟨v,hv,Q⟩:=hc i x;have p:w.cell? ⟨z,0+i,none⟩=some v:=by rw[UC];exact hv
  have y:=λw' (G:BelX w.heap.size [] w w')=>Ey O v (L i) w' (Q.below G.below)
  obtain⟨m,W⟩:∃m,m=(rq N (L i)).getD 0:=⟨_,rfl⟩
  cases u:(rq N (L i)).isSome with
  | true =>
   have A:∀w',BelX w.heap.size [] w w'->UG prog 16 #[v] w' (Ret λe E=>kZ w' E/\e=.tuple #[nv m,.bool true]):=λw' G=>by
    have h:=y w' G;rw[u,<-W]at h;exact h
   have K:=hR.len;have l:0+4*i+(wn m).length<=C.length:=by rw[K];show 0+4*i+4<=4*n;omega
   obtain⟨F,g⟩:∃c,rep C (0+4*i) (wn m)=c:=⟨_,rfl⟩
   have X:=g ▸ RG.rep_at l;have h0:F.length=C.length:=g ▸ cU l;have h7:Rows 4 n (λj=>wn ((rq N (L j)).getD 0)) (i+1) F:=by
    have:=hR.next x rfl;rw[<-g,W];exact this
   repeat refine Uy ?_
   refine B.U [.x (.bool true)] [0,6,14,15,16,17] ⟨aQ rfl .lss 3 3 16 15 (iZ i) (iZ n) (.bool true) rfl rfl sx sx (λw=>kR) (gA x),yCl⟩ ?_;intro J I d;repeat refine Uy ?_
   refine VD d.ev ?_;refine WR ?_;refine Uy ?_;refine XG ?_;repeat refine Uy ?_
   refine d.U [.x (iZ i),.x (.pointer (some ⟨z,0+i,none⟩)),.x v,.x (iZ i),.x v] [0,6,7,8,14,15,16] ⟨st,bD rfl 24 14 16 rfl (.v (sZ z n cap)) (iZ i) sx sx (λμ w=>SS _ 0 _ _ i x w),bM rfl z (0+i) H UX 23 19 rfl v rfl sx p u22,st,st,yCl⟩ ?_;intro M R k;repeat refine Uy ?_
   refine k.T [.x (.func (.func 16) #[] #[]),.x v,.c (.tuple #[nv m,.bool true]),.x (.tuple #[nv m,.bool true]),.x (nv m),.x (.bool true),.m 1,.u 1,.x (.bool true)] [(6,RG.z 4)] [(1,7,wn m)] [C,wn m] [0,6,7,9,10,14,15,16] ⟨st,st,clB (λ_ _=>kR) A,st,st,st,mk 1 49,RG.pt i40,st,yCl⟩ ?_;intro Z h6 h4 D;repeat refine Uy ?_
   refine D.U [.x (.bool true),.x (.bool false)] [0,6,7,9,14,15,16,28] ⟨st,st,yCl⟩ ?_;intro h3 h2 o;repeat refine Uy ?_
   refine VH o.ev ?_;refine WR ?_;repeat refine Uy ?_
   refine o.tx [.s 29 [] (.s 0 n n),.x 30 [] (iZ i),.x 31 [] (nv m),.s 32 [(29,0),(30,1)] (.p 0 (0+4*i)),.u [(32,3),(31,2)] 0] [] [(0,4,F)] [F,wn m] [(0,.v (.func (.func 16) #[] #[])),(6,.s 0 n n),(14,.v (sZ z n cap)),(15,.v (iZ n)),(16,.v (iZ i))] kR (congrArg (λn=>[n]) h0) ⟨st,st,ld u40 i40,bD rfl 124 29 30 rfl (.s 0 n n) (iZ i) sx sx (λμ w=>lF _ 0 _ _ i x w),eZ 0 (0+4*i) rfl _ rfl 49 (.tmp 32) (.tmp 31) (wn m) rfl rfl sx sx l X i40 rfl,yCl⟩ ?_;intro h1 Y f;repeat refine Uy ?_
   refine f.U [.x (iZ ((i+1:Nat):Int)),.x (iZ ((i+1:Nat):Int))] [0,6,14,15,16] ⟨aP rfl .add 3 3 16 (iZ i) (iZ 1) (iZ ((i+1:Nat):Int)) rfl rfl sx (λw=>kR) (uQ i 1 oM oM),st,yCl⟩ ?_;intro ha h9 V;show ∃n',_;exact⟨m'-1,oM,i+1,F,S,oM,λj hj=>(by
    by_cases T:j=i
    ·rw[T];exact u
    ·exact t j oM),h7,RG.M.drop (cs:=[F]) (cs2:=[_]) (ks:=[S]) (ks2:=[_]) V rfl rfl⟩
  | false =>
   have A:∀w',BelX w.heap.size [] w w'->UG prog 16 #[v] w' (Ret λe E=>kZ w' E/\e=.tuple #[nv m,.bool false]):=λw' G=>by
    have h:=y w' G;rw[u,<-W]at h;exact h
   repeat refine Uy ?_
   refine B.U [.x (.bool true)] [0,14,16,17] ⟨aQ rfl .lss 3 3 16 15 (iZ i) (iZ n) (.bool true) rfl rfl sx sx (λw=>kR) (gA x),yCl⟩ ?_;intro J I d;repeat refine Uy ?_
   refine VD d.ev ?_;refine WR ?_;refine Uy ?_;refine XG ?_;repeat refine Uy ?_
   refine d.U [.x (iZ i),.x (.pointer (some ⟨z,0+i,none⟩)),.x v,.x (iZ i),.x v] [0,8] ⟨st,bD rfl 24 14 16 rfl (.v (sZ z n cap)) (iZ i) sx sx (λμ w=>SS _ 0 _ _ i x w),bM rfl z (0+i) H UX 23 19 rfl v rfl sx p u22,st,st,yCl⟩ ?_;intro M R k;repeat refine Uy ?_
   refine k.T [.x (.func (.func 16) #[] #[]),.x v,.c (.tuple #[nv m,.bool false]),.x (.tuple #[nv m,.bool false]),.x (nv m),.x (.bool false),.m 1,.u 1,.x (.bool false)] [(6,RG.z 4)] [(1,7,wn m)] [C,wn m] [10] ⟨st,st,clB (λ_ _=>kR) A,st,st,st,mk 1 49,RG.pt i40,st,yCl⟩ ?_;intro Z h6 h4 D;repeat refine Uy ?_
   refine D.U [.x (.bool false),.x (.bool true)] [28] ⟨st,st,yCl⟩ ?_;intro h3 h2 o;repeat refine Uy ?_
   refine VD o.ev ?_;repeat refine Uy ?_
   refine o.U [.x (.slice none 0 0),.x (.bool false)] [4,5] ⟨st,st,yCl⟩ ?_;intro h1 Y f;refine We ?_;refine UD (v:=.tuple #[.slice none 0 0,.bool false]) (fX 4 5 rfl (.slice none 0 0) (.bool false) f.av f.av) f.sl.defers ?_;exact⟨_,rfl,U3 ⟨⟨i,x,by simpa using u⟩,f.st.bel.below,rfl⟩⟩
 ·have f:i=n:=oM;rw[f]at t hR;repeat refine Uy ?_
  refine B.U [.x (.bool false)] [6,17] ⟨aQ rfl .lss 3 3 16 15 (iZ i) (iZ n) (.bool false) rfl rfl sx sx (λw=>kR) (nH x),yCl⟩ ?_;intro J I d;repeat refine Uy ?_
  refine VH d.ev ?_;refine wp_exit ?_;dsimp only[Exit.then,Exit.inBlock];rw[yCj rfl];repeat refine Uy ?_
  refine d.U [.s (.s 0 n n),.s (.s 0 n n),.x (.bool true)] [4,5] ⟨st,st,st,yCl⟩ ?_;intro M R k;refine We ?_;refine UD (v:=_) (fX 4 5 rfl _ (.bool true) (k.at (s:=.s 0 n n)) k.av) k.sl.defers ?_;exact⟨_,rfl,UW ⟨t,_,C,k.st.made (b:=0) rfl,hR,rfl⟩⟩
def prS(N:Nat)(a b:Nat->Nat):Nat->Nat
 | 0=>0
 | i+1=>sPl N (prS N a b i) (sTi N (b i) (a i))
theorem AN(k:0<N)(a b:Nat->Nat):∀i,prS N a b i<N
 | 0=>k
 | _+1=>V4 _ k
structure CbS(w W:Uq)(N k4 k5 i:Nat)(a b:Nat->Nat):Prop where
 bl:kZ w W
 r4:Row W k4 [uZ 0,uZ 0,uZ 0,uZ 0]
 r5:Row W k5 (wn (prS N a b i))
theorem CbS.grow{w W W':Uq}{d c i:Nat}{a b:Nat->Nat}(h:CbS w W N d c i a b)(k:kZ W W'):CbS w W' N d c i a b:=
 ⟨h.bl.trans (k.mono h.bl.size),h.r4.below k,h.r5.below k⟩
theorem CbS.drew{w W:Uq}{c k i:Nat}{a b:Nat->Nat}(h:CbS w W N c k i a b):CbS w W.drew N c k i a b:=⟨h.bl.drew,h.r4,h.r5⟩
theorem wn0:wn 0=[uZ 0,uZ 0,uZ 0,uZ 0]:=kR
theorem aR{W:Uq}{k K o:Nat}{vs us:List Us}(h:Row W k vs)(b:k≠K):Row (W.setCells K o us) k vs:=aV h (by rw[setCells_size];exact Uv _) (aH K us o W k b)
theorem CbS.put{w W:Uq}{d k i:Nat}{a b:Nat->Nat}(h:CbS w W N d k i a b)(e:w.heap.size<=k)(c:d≠k):CbS w (W.setCells k 0 (wn (prS N a b (i+1)))) N d k (i+1) a b:=
 ⟨RG.below_setCells e _ _ _ h.bl,aR h.r4 c,h.r5.put rfl⟩
theorem Bc(O:Ord N){Q:Nat->Prop}(n:Nat)(hn:n<=512)(a b:Nat->Nat)(ha:∀i,i<n->a i<N)(z:∀i,i<n->b i<N)(va vb:Us)(w:Uq)(h1:SLq Q w va n a)(h2:SLq Q w vb n b):
 UG prog 78 #[va,vb] w (rZ w λe w'=>e=nv (prS N a b n)):=by
 obtain⟨X,o1,c1,rfl,-,-,T,Z⟩:=h1;obtain⟨r,t,c2,rfl,-,-,S,U⟩:=h2;obtain⟨c,C⟩:∃k,Hid (w.heap.size=k):=⟨_,rfl⟩
 obtain⟨w1,G⟩:∃w1,Hid ((w.alloc (.cells #[uZ 0,uZ 0,uZ 0,uZ 0] 49)).alloc (.cells #[uZ 0,uZ 0,uZ 0,uZ 0] 49)=w1):=⟨_,rfl⟩
 have K1:Hid (CbS w w1 N c (c+1) 0 a b):=by
  rw[<-G.out,<-C.out];have hR:=aE (w.alloc (.cells #[uZ 0,uZ 0,uZ 0,uZ 0] 49)) [uZ 0,uZ 0,uZ 0,uZ 0] 49;rw[UA]at hR;exact⟨(aC w _).alloc (by rw[UA];omega) _,(aE w _ _).alloc _,by show Row _ _ (wn 0);rw[wn0];exact hR⟩
 have f:Hid (Ord N/\(∀i,i<n->a i<N)/\(∀i,i<n->b i<N)/\(∀j,j<n->w.rangeAt X (o1+4*j) (wn (a j)))/\(∀j,j<n->w.rangeAt r (t+4*j) (wn (b j)))/\X<w.heap.size/\r<w.heap.size/\w.heap.size<=c):=⟨O,ha,z,Z,U,T,S,by rw[C.out];exact Uv _⟩
 obtain⟨d,h4,h0⟩:=Ux.1 u40;have HD:Hid (prog.underlying 49=some d/\d.isRow=true):=⟨h4,h0⟩
 clear O ha z Z U T S h4 h0;go_enter func78,ntmps78;go_wp2;rw[G.out,C.out];clear G C;go_loopg [10] n (λm s10 W=>∃i:Nat,i+m=n/\s10=iZ i/\Hid (CbS w W N c (c+1) i a b))
 case atStart=>exact⟨0,oM,rfl,K1⟩
 case round =>
  clear K1;obtain⟨i,hc,rfl,D⟩:=hrel;by_cases P:i<n
  ·have h8:(i:Int)<(n:Int):=oM;have h9:(i:Int)<=600:=oM;have HL:=Hid.mk' P;have he:=lF X o1 n c1 i P;have B0:Hid (wr.rangeAt X (o1+4*i) (wn (a i))):=RG.range_below (f.2.2.2.1 i P) D.bl f.2.2.2.2.2.1;obtain⟨J,A⟩:∃k,Hid (wr.heap.size=k):=⟨_,rfl⟩
   obtain⟨R,H⟩:∃R,Hid (wr.alloc (.cells #[uZ 0,uZ 0,uZ 0,uZ 0] 49)=R):=⟨_,rfl⟩
   obtain⟨W2,L⟩:∃W2,Hid (R.setCells J 0 (wn (a i))=W2):=⟨_,rfl⟩
   have F1:Hid (Row R J [uZ 0,uZ 0,uZ 0,uZ 0]/\kZ wr R):=by rw[<-H.out,<-A.out];exact⟨aE wr _ _,aC wr _⟩
   have F2:Hid (Row W2 J (wn (a i))/\CbS w W2 N c (c+1) i a b):=by
    rw[<-L.out];exact⟨F1.1.put rfl,D.grow (RG.below_setCells (by rw[A.out];exact Uv _) _ _ _ F1.2)⟩
   obtain⟨va,h5⟩:∃v,Hid (U2 (wn (a i)).toArray=v):=⟨_,rfl⟩
   have HO:Hid ((wn (a i)).toArray.all (·.oneCell')=true):=aM _;clear D;go_wp2_with (first|(refine U5 rfl 49 _ rfl X (o1+4*i) ?_ (wn (a i)) d ?_ ?_ ?_ ?_ ?_;rfl;exact B0.out;exact HD.1;exact HD.2;exact i40;rw[h5.out])|(refine bG (v:=jZ J) (w':=R) rfl (.alloc 49) rfl ?_ ?_;(rw[<-H.out,<-A.out];kernel_rfl))|(refine U1 rfl 49 _ _ rfl J 0 (wn (a i)).toArray ?_ ?_ ?_ ?_ ?_ ?_;rfl;exact h5.symm;exact F1.1.2.2;exact i40;exact HO.out;rw[show(wn (a i)).toArray.toList=wn (a i) from rfl,L.out])|fail)
   clear H L A F1 HO;obtain⟨s,I⟩:∃s,Hid (prS N a b i=s):=⟨_,rfl⟩
   have HN:Hid (s<N/\a i<N/\b i<N):=⟨by rw[<-I.out];exact AN f.1.pos a b i,f.2.1 i P,f.2.2.1 i P⟩
   obtain⟨p,F⟩:∃p,Hid (sTi N (b i) (a i)=p):=⟨_,rfl⟩
   obtain⟨q,g⟩:∃q,Hid (sPl N s p=q):=⟨_,rfl⟩
   have HP:Hid (p<N):=by show p<N;rw[<-F.out];exact V4 _ f.1.pos
   have HQ:Hid (prS N a b (i+1)=q):=by show _=_;rw[<-g.out,<-F.out,<-I.out];rfl
   have hT:=λW=>iI f.1 (b i) (a i) HN.2.2 HN.2.1 W
   have M:=λW=>mY f.1 s p HN.1 HP.out W
   rw[F.out]at hT;rw[g.out]at M;have h6:∀W,kZ w W->W.rangeAt r (t+4*i) (wn (b i)):=λW B=>RG.range_below (f.2.2.2.2.1 i P) B f.2.2.2.2.2.2.1
   have h3:∀W,CbS w W N c (c+1) i a b->W.rangeAt (c+1) 0 (wn s):=λW h=>by rw[<-I.out];exact h.r5.2.1
   refine(gwL [pE (nv s),pE (.iface 49 (nv s)),pE (.slice (some ⟨r,t,none⟩) n c2),pE (iZ i),pE (.pointer (some ⟨r,t+4*i,none⟩)),pE (nv (b i)),pE (.iface 49 (nv (b i))),pE (nv (a i)),pE (nv p),pE (nv q)] (λW=>CbS w W N c (c+1) i a b/\Row W J (wn (a i))) (λW W' z h=>⟨h.1.grow z,h.2.below z⟩)).last 10 kR kR kR ⟨
    iD 49 5 (c+1) 0 (wn s) u40 i40 rfl (λW B=>h3 W B.1) (λ_=>rfl),
    rF 0 15 (nv s) (.iface 49 (nv s)) (λx W h=>h) (λ_=>rfl),
    gO 1 (.slice (some ⟨r,t,none⟩) n c2),
    gO 6 (iZ i),
    A0 2 17 3 18 (.slice (some ⟨r,t,none⟩) n c2) (iZ i) (.pointer (some ⟨r,t+4*i,none⟩)) (Vk 124 (.slice (some ⟨r,t,none⟩) n c2) (iZ i)) (lF r t n c2 i HL.out) (λx W h=>h) (λx W h=>h) (λ_=>rfl),
    gLr 4 19 (λW B=>h6 W B.1.bl) u40 i40,
    rF 5 20 (nv (b i)) (.iface 49 (nv (b i))) (λx W h=>h) (λ_=>rfl),
    iD 49 7 J 0 (wn (a i)) u40 i40 rfl (λW B=>B.2.2.1) (λ_=>rfl),
    oV 49 6 21 7 22 (pE (nv (b i))) 79 (λx W h=>⟨_,h,rfl⟩) (λx y W hx l B=>by
     obtain rfl:x=nv (b i):=hx;obtain rfl:y=nv (a i):=l;refine(hT W).mono ?_;rintro e W' ⟨u,rfl,z,rfl⟩;exact⟨_,rfl,z,rfl⟩),
    oV 49 1 16 8 23 (pE (nv s)) 80 (λx W h=>⟨_,h,rfl⟩) (λx y W hx l B=>by
     obtain rfl:x=nv s:=hx;obtain rfl:y=nv p:=l;refine(M W).mono ?_;rintro e W' ⟨u,rfl,z,rfl⟩;exact⟨_,rfl,z,rfl⟩),yCl⟩ ⟨F2.2.drew,F2.1⟩ ?_
   intro V W3 h7 K;have Y:V 9=nv q:=h7 9 dC;obtain⟨E,o⟩:∃E,Hid (W3.setCells (c+1) 0 (wn q)=E):=⟨_,rfl⟩
   have K4:Hid (CbS w E N c (c+1) (i+1) a b):=by
    have h:=K.1.put (by have:=f.2.2.2.2.2.2.2;omega) oM;rw[HQ.out,o.out]at h;exact h
   have HT:Hid (W3.there (c+1) 0 4):=K.1.r5.2.2;dsimp only[bU,VJ,Xk,Xl];simp only[UM,Ur,Ut,Uu];obtain⟨vq,l⟩:∃v,Hid (nv q=v):=⟨_,rfl⟩
   rw[Y,l.out];clear h7 K Y F2 hT M h6 h3;generalize V 0=s0;generalize V 1=s1;generalize V 2=s2;generalize V 3=s3;generalize V 4=s4;generalize V 5=s5;generalize V 6=s6;generalize V 7=s7;generalize V 8=s8;go_wp2_with (first|(refine U1 rfl 49 _ _ rfl (c+1) 0 (wn q).toArray ?_ ?_ ?_ ?_ ?_ ?_;rfl;exact l.symm;exact HT.out;exact i40;exact aM q;rw[show(wn q).toArray.toList=wn q from rfl,o.out])|fail)
   go_roundg (gk-1)
   case measure=>omega
   case rel=>exact⟨i+1,oM,rfl,K4⟩
  ·have h8:¬(i:Int)<(n:Int):=oM;obtain rfl:i=n:=oM;obtain⟨q,g⟩:∃q,Hid (prS N a b i=q):=⟨_,rfl⟩
   obtain⟨E,o⟩:∃E,Hid (wr.setCells c 0 (wn q)=E):=⟨_,rfl⟩
   have R5:Hid (wr.rangeAt (c+1) 0 (wn q)/\wr.there c 0 4):=⟨by rw[<-g.out];exact D.r5.2.1,D.r4.2.2⟩
   have K4:Hid (kZ w E/\Row E c (wn q)):=by
    rw[<-o.out];exact⟨RG.below_setCells f.2.2.2.2.2.2.2 _ _ _ D.bl,D.r4.put rfl⟩
   obtain⟨vq,l⟩:∃v,Hid (nv q=v):=⟨_,rfl⟩
   clear D;go_wp2_with (first|(refine U5 rfl 49 _ rfl (c+1) 0 ?_ (wn q) d ?_ ?_ ?_ ?_ ?_;rfl;exact R5.1;exact HD.1;exact HD.2;exact i40;rw[show U2 (wn q).toArray=vq from l.out])|(refine U1 rfl 49 _ _ rfl c 0 (wn q).toArray ?_ ?_ ?_ ?_ ?_ ?_;rfl;exact l.symm;exact R5.2;exact i40;exact aM q;rw[show(wn q).toArray.toList=wn q from rfl,o.out])|fail)
   refine UD (aG 4 49 rfl K4.2 rfl u40 i40) rfl ?_;exact⟨_,rfl,K4.1,by rw[g.out];rfl⟩
theorem AB:(prog.underlying 131).map (·.isRow)=some false:=kR
structure CbM(w W:Uq)(v:Us)(l:List (Nat × Bs)):Prop where
 bl:kZ w W
 sm:SmZ w.heap.size W v l
theorem CbM.grow{w W W':Uq}{v:Us}{l:List (Nat × Bs)}(h:CbM w W v l)(k:kZ W W'):CbM w W' v l:=⟨h.bl.trans (k.mono h.bl.size),h.sm.grow k⟩
theorem CbM.drew{w W:Uq}{v:Us}{l:List (Nat × Bs)}(h:CbM w W v l):CbM w W.drew v l:=⟨h.bl.drew,h.sm.grow ⟨rfl,rfl,rfl,Uv _,λ_ _=>rfl⟩⟩
theorem Ij{B:Nat}{W:Uq}{v:Us}{l:List (Nat × Bs)}(h:SmZ B W v l):SmZ 0 W v l:=by
 rcases h with h|⟨g,c,b,k,-,d⟩
 ·exact U3 h
 ·exact UW ⟨g,c,b,k,Wx _,d⟩
theorem JO(O:Ord N){Q:Nat->Prop}(n c:Nat)(h5:0<n)(h0:0<c)(hn:n<=512)(h7:c*n<=400)(a:Nat->Nat)(T:Nat->List (Nat × Bs))(ha:∀i,i<n->a i<N)(hT:∀i,i<n->TOk N (T i))(hl:∀i,i<n->(T i).length=c)(va vb:Us)(w:Uq)(h1:SLq Q w va n a)(K:GLq Q w vb n T):
 UG prog 139 #[va,vb] w (rZ w λe w'=>Sm w.heap.size w' e (dH N a T n)):=by
 obtain⟨I,o1,c1,rfl,-,-,R,Y⟩:=h1;obtain⟨b,f,c2,rfl,-,-,P,X⟩:=K;have K1:Hid (CbM w w (.slice none 0 0) (dH N a T 0)):=⟨UQ _ _,U3 ⟨rfl,rfl⟩⟩
 have k:Hid (Ord N/\(∀i,i<n->a i<N)/\(∀i,i<n->TOk N (T i))/\(∀i,i<n->(T i).length=c)/\(∀j,j<n->w.rangeAt I (o1+4*j) (wn (a j)))/\(∀j,j<n->∃x,w.cell? ⟨b,f+j,none⟩=some x/\SmQ Q w x (T j))/\I<w.heap.size/\b<w.heap.size/\0<c/\c*n<=400/\0<n):=⟨O,ha,hT,hl,Y,X,R,P,h0,h7,h5⟩
 obtain⟨d,h4,Z⟩:=Ux.1 u40;have HD:Hid (prog.underlying 49=some d/\d.isRow=true):=⟨h4,Z⟩
 go_enter func139,ntmps139;go_wp2;go_loopg [5,10] n (λm s5 s10 W=>∃i:Nat,i+m=n/\s10=iZ i/\Hid (CbM w W s5 (dH N a T i)))
 case atStart=>exact⟨0,oM,rfl,K1⟩
 case round =>
  obtain⟨i,hc,rfl,J⟩:=hrel;by_cases r:i<n
  ·have h3:(i:Int)<(n:Int):=oM;have F:=Hid.mk' r;have he:=lF I o1 n c1 i r;have B0:=mk1 (RG.range_below (k.2.2.2.2.1 i r) J.bl k.2.2.2.2.2.2.1);obtain⟨s,t⟩:=hE (wr.heap.size);obtain⟨L,B⟩:=hE (wr.alloc (.cells #[uZ 0,uZ 0,uZ 0,uZ 0] 49));obtain⟨W2,C⟩:=hE (L.setCells s 0 (wn (a i)));have F1:Hid (Row L s [uZ 0,uZ 0,uZ 0,uZ 0]/\kZ wr L):=by rw[<-B.out,<-t.out];exact⟨aE wr _ _,aC wr _⟩
   have S:Hid (Row W2 s (wn (a i))/\CbM w W2 u5 (dH N a T i)):=by
    rw[<-C.out];exact⟨F1.1.put rfl,J.grow (RG.below_setCells (by rw[t.out];exact Uv _) _ _ _ F1.2)⟩
   obtain⟨va,H⟩:=hE (U2 (wn (a i)).toArray);have HO:Hid ((wn (a i)).toArray.all (·.oneCell')=true):=aM _;go_wp2_with (first|(refine U5 rfl 49 _ rfl I (o1+4*i) ?_ (wn (a i)) d ?_ ?_ ?_ ?_ ?_;rfl;exact B0.out;exact HD.1;exact HD.2;exact i40;rw[H.out])|(refine bG (v:=jZ s) (w':=L) rfl (.alloc 49) rfl ?_ ?_;(rw[<-B.out,<-t.out];kernel_rfl))|(refine U1 rfl 49 _ _ rfl s 0 (wn (a i)).toArray ?_ ?_ ?_ ?_ ?_ ?_;rfl;exact H.symm;exact F1.1.2.2;exact i40;exact HO.out;rw[show(wn (a i)).toArray.toList=wn (a i) from rfl,C.out])|fail)
   obtain⟨x,U,h6⟩:=k.2.2.2.2.2.1 i r;have HX:=mk2 U h6;obtain⟨l,o⟩:=hE (dH N a T i);have D:dH N a T (i+1)=l++(T i).map (tmT N (a i)):=by rw[<-o.out];rfl
   have h8:l.length=c*i:=by rw[<-o.out];exact eR N a i λj hj=>k.2.2.2.1 j oM
   have h9:c*i+c<=c*n:=by have:=Yh c (yAV r);rwa[Yi]at this
   have E:Hid (l.length<=500/\(T i).length<=500/\0<(T i).length/\TOk N l):=⟨by have:=k.2.2.2.2.2.2.2.2.2.1;omega,by rw[k.2.2.2.1 i r];have:=k.2.2.2.2.2.2.2.2.2.1;omega,by rw[k.2.2.2.1 i r];exact k.2.2.2.2.2.2.2.2.1,by rw[<-o.out];exact oH k.1.pos i λj hj=>k.2.2.1 j oM⟩
   have HE:Hid (dH N a T (i+1)=l++(T i).map (tmT N (a i))):=D;rw[o.out]at S;refine(gwL [pE u5,pE (.iface 131 u5),pE (.slice (some ⟨b,f,none⟩) n c2),pE (iZ i),pE (.pointer (some ⟨b,f+1*i,none⟩)),pE x,pE (.iface 131 x),pE (nv (a i)),pM (w.heap.size<=·) ((T i).map (tmT N (a i))),pM (w.heap.size<=·) (l++(T i).map (tmT N (a i))),pM (w.heap.size<=·) (l++(T i).map (tmT N (a i)))] (λW=>CbM w W u5 l/\Row W s (wn (a i))) (λW W' A h=>⟨h.1.grow A,h.2.below A⟩)).draws kR kR ⟨
    gO 5 u5,
    rF 0 15 u5 (.iface 131 u5) (λx W h=>h) (λ_=>rfl),
    gO 1 (.slice (some ⟨b,f,none⟩) n c2),
    gO 6 (iZ i),
    A0 2 17 3 18 (.slice (some ⟨b,f,none⟩) n c2) (iZ i) (.pointer (some ⟨b,f+1*i,none⟩)) (Vk 129 (.slice (some ⟨b,f,none⟩) n c2) (iZ i)) (atS b f n c2 i F.out) (λx W h=>h) (λx W h=>h) (λ_=>rfl),
    fF 131 4 19 b (f+1*i) x AB (λx W h=>h) (λW q=>by rw[Xh,q.1.bl.cell (p:=⟨b,f+i,none⟩) k.2.2.2.2.2.2.2.1];exact HX.1) (λ_=>rfl),
    rF 5 20 x (.iface 131 x) (λx W h=>h) (λ_=>rfl),
    iD 49 7 s 0 (wn (a i)) u40 i40 rfl (λW q=>q.2.2.1) (λ_=>rfl),
    oV 131 6 21 7 22 (pE x) 164 (λx W h=>⟨_,h,rfl⟩) (λz y W hx G q=>by
     obtain rfl:z=x:=hx;obtain rfl:y=nv (a i):=G;refine(eG k.1 (k.2.1 i F.out) 0 z (T i) (by have:=E.2.1;omega) (k.2.2.1 i F.out).szm (k.2.2.1 i F.out).lt W (HX.2.sm.grow q.1.bl)).mono ?_;rintro e W' ⟨u,rfl,A,M⟩;exact⟨_,rfl,A,M.q.mono λg V=>UB q.1.bl.size V⟩),
    oV 131 1 16 8 23 (pE u5) 65 (λx W h=>⟨_,h,rfl⟩) (λz y W hx G q=>by
     obtain rfl:z=u5:=hx;have G:=G;refine(cO 0 z y l ((T i).map (tmT N (a i))) (by rw[Uz,UP];have:=E.2.2.1;omega) E.1 (by rw[UP];exact E.2.1) E.2.2.2.sz ((k.2.2.1 i F.out).tm k.1.pos (a i)).sz W (Ij q.1.sm) (UW G.sm)).mono ?_;rintro e W' ⟨u,rfl,A,M⟩;exact⟨_,rfl,A,M.q.mono λg V=>UB q.1.bl.size V⟩),
    DR 9 24 id (λx W h=>h),yCl⟩ ⟨S.2.drew,S.1⟩ ?_
   intro V W3 M G;have q:Hid (CbM w W3 (V 10) (dH N a T (i+1))):=⟨G.1.bl,UW (by rw[HE.out];exact M 10 (Xi (VQ kR)))⟩
   dsimp only[bU,VJ];go_wp2;go_roundg (gk-1)
   case measure=>omega
   case rel=>exact⟨i+1,oM,rfl,q⟩
  ·have h3:¬(i:Int)<(n:Int):=oM;obtain rfl:i=n:=oM;have q:Hid (kZ w wr/\Sm w.heap.size wr u5 (dH N a T i)):=⟨J.bl,by
    rcases J.sm with⟨-,h⟩|h
    ·exfalso;have:=eR N a i k.2.2.2.1;rw[h]at this;have K:=yAx k.2.2.2.2.2.2.2.2.1 k.2.2.2.2.2.2.2.2.2.2;rw[<-this]at K;exact absurd K (Nat.lt_irrefl _)
    ·exact h⟩
   go_wp2;go_ret;exact⟨_,rfl,q.1,q.2⟩
theorem rSc:(prog.underlying 49).map (·.isRow)=some true:=u40
theorem nSc:(prog.info? 49).map (·.size)=some 4:=i40
def nM(N x y n:Nat)(a:Nat->Nat)(i:Nat):Nat:=sPl N (sTi N (a i) x) (sTi N (a (n+i)) y)
structure FdS(w W:Uq)(K k4 k5 n i x y:Nat)(f:Nat->Nat):Prop where
 ar:Ar w W K 4 n i (λj=>wn (f j))
 r4:Row W k4 (wn x)
 r5:Row W k5 (wn y)
theorem FdS.grow{w W W':Uq}{K c b n i x y:Nat}{f:Nat->Nat}(h:FdS w W K c b n i x y f)(k:kZ W W'):FdS w W' K c b n i x y f:=⟨h.ar.grow k,h.r4.below k,h.r5.below k⟩
theorem FdS.drew{w W:Uq}{K b k n i x y:Nat}{f:Nat->Nat}(h:FdS w W K b k n i x y f):FdS w W.drew K b k n i x y f:=h.grow ⟨rfl,rfl,rfl,Uv _,λ_ _=>rfl⟩
theorem FdS.put{w W:Uq}{K b k n i x y:Nat}{f:Nat->Nat}(h:FdS w W K b k n i x y f)(c:w.heap.size<=K)(d:i<n)(g:b≠K)(e:k≠K):FdS w (W.setCells K (4*i) (wn (f i))) K b k n (i+1) x y f:=
 ⟨h.ar.put c d (λ_ _=>rfl),aR h.r4 g,aR h.r5 e⟩
theorem Oa(a b:Nat)(h:a+b<4611686018427387904)(w:Uq):(binOp .add 3 (iZ a) (iZ b)).run prog w=.ok (iZ ((a+b:Nat):Int)) w:=by
 have d:(a:Int)+(b:Int)<4611686018427387904:=oM;have k:-4611686018427387904<(a:Int)+(b:Int):=oM;have c:VR.wrap ((a:Int)+(b:Int))=((a+b:Nat):Int):=by rw[Yj];omega
 go_simp
theorem SO(w:Uq)(x y:Nat):∃k,Hid ((w.alloc (.cells (wn x).toArray 49)).alloc (.cells (wn y).toArray 49)=k)/\kZ w k/\Row k w.heap.size (wn x)/\Row k (w.heap.size+1) (wn y)/\k.heap.size=w.heap.size+2:=by
 have hR:=aE (w.alloc (.cells (wn x).toArray 49)) (wn y) 49;rw[UA]at hR;exact⟨_,Hid.mk' rfl,(aC w _).alloc (by rw[UA];omega) _,(aE w _ _).alloc _,hR,by rw[UA,UA]⟩
theorem Jy(O:Ord N){Q:Nat->Prop}(n:Nat)(hn:n<=500)(a:Nat->Nat)(x y:Nat)(hx:x<N)(A:y<N)(ha:∀i,i<n+n->a i<N)(va:Us)(w:Uq)(h1:SLq Q w va (n+n) a):
 UG prog 160 #[va,nv x,nv y] w (rZ w λe w'=>SLq (w.heap.size<=·) w' e n (nM N x y n a)):=by
 obtain⟨b,d,c1,rfl,-,-,h0,h4⟩:=h1;obtain⟨m,hm⟩:∃m,Hid (n+n=m):=⟨_,rfl⟩
 have hq:(m:Int).tdiv 2=(n:Int):=by rw[<-hm.out,X7 oM];omega
 obtain⟨D,h5,C,M,R,J⟩:=SO w x y;obtain⟨C0,hc,h7⟩:=Cg uS4 iS4 n oM;have o:=h7 D;obtain⟨K,hK⟩:∃K,Hid (D.heap.size=K):=⟨_,rfl⟩
 obtain⟨w3,L⟩:∃w3,Hid (D.alloc (.cells C0.toArray 49)=w3):=⟨_,rfl⟩
 have X:Ar D w3 K 4 n 0 (λj=>wn (nM N x y n a j)):=Ar.new _ hc L.out hK.out;rw[L.out,hK.out]at o;obtain⟨c,l⟩:∃k,Hid (w.heap.size=k):=⟨_,rfl⟩
 rw[l.out]at M R J;have HK:Hid (K=c+2/\w.heap.size<=c):=⟨by rw[<-hK.out,J],by rw[l.out];exact Uv _⟩
 have K1:Hid (FdS w w3 K c (c+1) n 0 x y (nM N x y n a)):=⟨⟨C.trans (X.bl.mono C.size),X.lt,X.th,λj hj=>absurd hj (Ym _)⟩,M.below X.bl,R.below X.bl⟩
 have g:Hid (Ord N/\x<N/\y<N/\(∀i,i<n+n->a i<N)/\(∀j,j<n+n->w.rangeAt b (d+4*j) (wn (a j)))/\b<w.heap.size):=⟨O,hx,A,ha,h4,h0⟩
 obtain⟨vx,h6⟩:∃v,Hid (nv x=v):=⟨_,rfl⟩
 obtain⟨vy,h9⟩:∃v,Hid (nv y=v):=⟨_,rfl⟩
 obtain⟨s,F⟩:∃s,Hid (w.alloc (.cells (wn x).toArray 49)=s):=⟨_,rfl⟩
 have B1:Hid ((Vd 49 vx).run prog w=.ok (jZ c) s):=by rw[<-h6.out,<-F.out,<-l.out];exact boxS x w
 have B2:Hid ((Vd 49 vy).run prog s=.ok (.pointer (some ⟨c+1,0,none⟩)) D):=by
  have h:=boxS y s;rw[show s.heap.size=c+1 by rw[<-F.out,UA,l.out]]at h;have e:s.alloc (.cells (wn y).toArray 49)=D:=by rw[<-F.out];exact h5.out
  rw[e]at h;rw[<-h9.out];exact h
 rw[h6.out,h9.out,hm.out];clear O hx A ha h4 h0 C M R J X hc h7 hK L l h5;go_enter func160,ntmps160;go_wp2_with (first|(refine aF (u:=vx) (v:=jZ c) (w':=s) rfl 49 (.tmp 1) rfl ?_ ?_ ?_;rfl;exact B1.out)|(refine aF (u:=vy) (v:=.pointer (some ⟨c+1,0,none⟩)) (w':=D) rfl 49 (.tmp 2) rfl ?_ ?_ ?_;rfl;exact B2.out)|fail)
 clear o B1 B2 hq;go_loopg [15] n (λm s15 W=>∃i:Nat,i+m=n/\s15=iZ i/\Hid (FdS w W K c (c+1) n i x y (nM N x y n a)))
 case atStart=>exact⟨0,oM,rfl,K1⟩
 case round =>
  clear K1;obtain⟨i,hs,rfl,Y⟩:=hrel;by_cases hi:i<n
  ·have hl:(i:Int)<(n:Int):=oM;have hr:(i:Int)<=600:=oM;have HL:=Hid.mk' hi;have KP:=Y;clear Y;go_wp2_with fail
   obtain⟨p1,E⟩:∃p,Hid (sTi N (a i) x=p):=⟨_,rfl⟩
   obtain⟨p2,H⟩:∃p,Hid (sTi N (a (n+i)) y=p):=⟨_,rfl⟩
   obtain⟨q,h2⟩:∃q,Hid (sPl N p1 p2=q):=⟨_,rfl⟩
   have HP:Hid (p1<N/\p2<N):=⟨by rw[<-E.out];exact V4 _ g.1.pos,by rw[<-H.out];exact V4 _ g.1.pos⟩
   have HQ:Hid (nM N x y n a i=q):=by show _=_;rw[<-h2.out,<-E.out,<-H.out];rfl
   have P:=λW=>iI g.1 (a i) x (g.2.2.2.1 i oM) g.2.1 W
   have S:=λW=>iI g.1 (a (n+i)) y (g.2.2.2.1 (n+i) oM) g.2.2.1 W
   have T:=λW=>mY g.1 p1 p2 HP.1 HP.2 W
   rw[E.out]at P;rw[H.out]at S;rw[h2.out]at T;have hg:∀W,kZ w W->W.rangeAt b (d+4*i) (wn (a i)):=λW f=>RG.range_below (g.2.2.2.2.1 i oM) f g.2.2.2.2.2
   have he:∀W,kZ w W->W.rangeAt b (d+4*(n+i)) (wn (a (n+i))):=λW f=>RG.range_below (g.2.2.2.2.1 (n+i) oM) f g.2.2.2.2.2
   have hk:i<m:=by rw[<-hm.out];omega
   have Z:n+i<m:=by rw[<-hm.out];omega
   refine(gwL [pE (sZ K n n),pE (iZ i),pE (.slice (some ⟨b,d,none⟩) m c1),pE (iZ i),pE (.pointer (some ⟨b,d+4*i,none⟩)),pE (nv (a i)),pE (.iface 49 (nv (a i))),pE (nv x),pE (nv p1),pE (.iface 49 (nv p1)),pE (.slice (some ⟨b,d,none⟩) m c1),pE (sZ K n n),pE (iZ n),pE (iZ i),pE (iZ ((n+i:Nat):Int)),pE (.pointer (some ⟨b,d+4*(n+i),none⟩)),pE (nv (a (n+i))),pE (.iface 49 (nv (a (n+i)))),pE (nv y),pE (nv p2),pE (nv q),pE (.pointer (some ⟨K,0+4*i,none⟩))] (λW=>FdS w W K c (c+1) n i x y (nM N x y n a)) (λW W' G h=>h.grow G)).last 22 kR kR kR ⟨
    gO 7 (sZ K n n),
    gO 8 (iZ i),
    gO 0 (.slice (some ⟨b,d,none⟩) m c1),
    gO 8 (iZ i),
    A0 2 20 3 21 (.slice (some ⟨b,d,none⟩) m c1) (iZ i) (.pointer (some ⟨b,d+4*i,none⟩)) (Vk 124 (.slice (some ⟨b,d,none⟩) m c1) (iZ i)) (lF b d m c1 i hk) (λx W h=>h) (λx W h=>h) (λ_=>rfl),
    gLr 4 22 (λW f=>hg W f.ar.bl) rSc nSc,
    rF 5 23 (nv (a i)) (.iface 49 (nv (a i))) (λx W h=>h) (λ_=>rfl),
    iD 49 4 c 0 (wn x) rSc nSc rfl (λW f=>f.r4.2.1) (λ_=>rfl),
    oV 49 6 24 7 25 (pE (nv (a i))) 79 (λx W h=>⟨_,h,rfl⟩) (λz u W hx A f=>by
     obtain rfl:z=nv (a i):=hx;obtain rfl:u=nv x:=A;refine(P W).mono ?_;rintro e W' ⟨u,rfl,G,rfl⟩;exact⟨_,rfl,G,rfl⟩),
    rF 8 26 (nv p1) (.iface 49 (nv p1)) (λx W h=>h) (λ_=>rfl),
    gO 0 (.slice (some ⟨b,d,none⟩) m c1),
    gO 7 (sZ K n n),
    rF 11 29 (sZ K n n) (iZ n) (λx W h=>h) (λ_=>rfl),
    gO 8 (iZ i),
    Jn .add 3 3 30 31 rfl (λa W r=>⟨_,_,iZ ((n+i:Nat):Int),r.n 12 30 kR kR,r.n 13 31 kR kR,kR,Oa n i oM W,rfl⟩),
    A0 10 28 14 32 (.slice (some ⟨b,d,none⟩) m c1) (iZ ((n+i:Nat):Int)) (.pointer (some ⟨b,d+4*(n+i),none⟩)) (Vk 124 (.slice (some ⟨b,d,none⟩) m c1) (iZ ((n+i:Nat):Int))) (lF b d m c1 (n+i) Z) (λx W h=>h) (λx W h=>h) (λ_=>rfl),
    gLr 15 33 (λW f=>he W f.ar.bl) rSc nSc,
    rF 16 34 (nv (a (n+i))) (.iface 49 (nv (a (n+i)))) (λx W h=>h) (λ_=>rfl),
    iD 49 5 (c+1) 0 (wn y) rSc nSc rfl (λW f=>f.r5.2.1) (λ_=>rfl),
    oV 49 17 35 18 36 (pE (nv (a (n+i)))) 79 (λx W h=>⟨_,h,rfl⟩) (λz u W hx A f=>by
     obtain rfl:z=nv (a (n+i)):=hx;obtain rfl:u=nv y:=A;refine(S W).mono ?_;rintro e W' ⟨u,rfl,G,rfl⟩;exact⟨_,rfl,G,rfl⟩),
    oV 49 9 27 19 37 (pE (nv p1)) 80 (λx W h=>⟨_,h,rfl⟩) (λz u W hx A f=>by
     obtain rfl:z=nv p1:=hx;obtain rfl:u=nv p2:=A;refine(T W).mono ?_;rintro e W' ⟨u,rfl,G,rfl⟩;exact⟨_,rfl,G,rfl⟩),
    A0 0 18 1 19 (sZ K n n) (iZ i) (.pointer (some ⟨K,0+4*i,none⟩)) (Vk 124 (sZ K n n) (iZ i)) (lF K 0 n n i HL.out) (λx W h=>h) (λx W h=>h) (λ_=>rfl),yCl⟩ KP.drew ?_
   intro V W3 U I;have r:V 20=nv q:=U 20 dC;have B:V 21=.pointer (some ⟨K,0+4*i,none⟩):=U 21 dC;obtain⟨W4,h8⟩:∃W4,Hid (W3.setCells K (4*i) (wn q)=W4):=⟨_,rfl⟩
   have K4:Hid (FdS w W4 K c (c+1) n (i+1) x y (nM N x y n a)):=by
    have h:=I.put (by have:=HK.out;omega) hi (by have:=HK.out;omega) (by have:=HK.out;omega);rw[HQ.out,h8.out]at h;exact h
   have HT:Hid (W3.there K (4*i) 4):=λt ht=>by
    have:=I.ar.th (4*i+t) oM;rwa[UC]at this
   dsimp only[bU,VJ,Xk,Xl];simp only[UM,Ur,Ut,Uu];obtain⟨vq,h3⟩:∃v,Hid (nv q=v):=⟨_,rfl⟩
   rw[r,B,h3.out,UC];clear U I r B KP P S T he hg;generalize V 0=s0;generalize V 1=s1;generalize V 2=s2;generalize V 3=s3;generalize V 4=s4;generalize V 5=s5;generalize V 6=s6;generalize V 7=s7;generalize V 8=s8;generalize V 9=s9;generalize V 10=s10;generalize V 11=s11;generalize V 12=s12;generalize V 13=s13;generalize V 14=s14;generalize V 15=s15;generalize V 16=s16;generalize V 17=s17;generalize V 18=s18;generalize V 19=s19;go_wp2_with (first|(refine U1 rfl 49 _ _ rfl K (4*i) (wn q).toArray ?_ ?_ ?_ ?_ ?_ ?_;rfl;exact h3.symm;exact HT.out;exact i40;exact aM q;rw[show(wn q).toArray.toList=wn q from rfl,h8.out])|fail)
   go_roundg (gk-1)
   case measure=>omega
   case rel=>exact⟨i+1,oM,rfl,K4⟩
  ·have hl:¬(i:Int)<(n:Int):=oM;obtain rfl:i=n:=oM;have K4:Hid (kZ w wr/\SLq (w.heap.size<=·) wr (sZ K i i) i (nM N x y i a)):=⟨Y.ar.bl,K,0,i,rfl,Uv _,by have:=HK.out;omega,Y.ar.lt,λj hj=>by rw[UC];exact Y.ar.rw j hj⟩
   clear Y;go_wp2;go_ret;exact⟨_,rfl,K4.1,K4.2⟩
end
section
theorem aN{w k:Uq}{g:Nat}{z:List Us}{T:U7}(b:Hid (w.heap.size=g))(c:Hid (w.alloc (.cells z.toArray T)=k)):Hid (kZ w k/\Row k g z):=by
 rw[<-c.out,<-b.out];exact⟨aC _ _,aE w _ _⟩
theorem ES{w b k:Uq}{g:Nat}{z vs:List Us}{T:U7}(d:Hid (w.heap.size=g))(f:Hid (w.alloc (.cells z.toArray T)=b))(e:Hid (b.setCells g 0 vs=k))(c:vs.length=z.length):Hid (b.there g 0 vs.toArray.size/\kZ w k/\Row k g vs):=by
 have h:=(aN d f).out;rw[<-e.out];exact⟨by rw[VB,c];exact h.2.2.2,RG.below_setCells (by rw[d.out];exact Uv _) _ _ _ h.1,h.2.put c⟩
structure Kz(Z:Nat->Prop)(w w':Uq):Prop where
 os:w'.os=w.os
 tape:w'.tape=w.tape
 output:w'.output=w.output
 size:w.heap.size<=w'.heap.size
 block:∀g,g<w.heap.size->Z g->w'.heap[g]? = w.heap[g]?
section
variable {Z:Nat->Prop}{w w' W:Uq}{k o:Nat}{vs:List Us}
theorem Kz.of(h:kZ w w'):Kz Z w w':=⟨h.os,h.tape,h.output,h.size,λg k _=>h.block g k⟩
theorem Kz.trans(h:Kz Z w w')(k:Kz Z w' W):Kz Z w W:=⟨k.os.trans h.os,k.tape.trans h.tape,k.output.trans h.output,UB h.size k.size,λg b c=>(k.block g (Uw b h.size) c).trans (h.block g b c)⟩
theorem Kz.bel(h:Kz Z w w')(k:∀g,Z g):kZ w w':=⟨h.os,h.tape,h.output,h.size,λg b=>h.block g b (k g)⟩
theorem Kz.kq{Q:Nat->Prop}(h:Kz Z w w')(b:∀g,Q g->Z g):Kq Q w w':=⟨h.size,λg c k=>h.block g k (b g c)⟩
theorem Kz.set(h:Kz Z w W)(b:w.heap.size<=k\/¬Z k):Kz Z w (W.setCells k o vs):=by
 obtain⟨i,e,d⟩:=mX k vs o W;refine⟨i.trans h.os,e.trans h.tape,d.trans h.output,by rw[setCells_size];exact h.size,λg f c=>?_⟩;rw[aH k vs o W g (by rintro rfl;rcases b with b|b;omega;exact b c)];exact h.block g f c
theorem Kz.range(h:Kz Z w w')(d:Z k)(b:k<w.heap.size)(c:w.rangeAt k o vs):w'.rangeAt k o vs:=(h.kq λ_ h=>h).range d b c
end
structure LsS(Z:Nat->Prop)(w W:Uq)(K n i:Nat)(a:Nat->Nat):Prop where
 kz:Kz Z w W
 lt:K<W.heap.size
 th:W.there K 0 (4*n)
 rw:∀j,j<i->W.rangeAt K (4*j) (wn (a j))
theorem C9{w w':Uq}{k o n:Nat}(h:w.there k o n)(e:w'.heap[k]? = w.heap[k]?):w'.there k o n:=λj b=>by
 have:=h j b;rw[UV (a:=⟨k,o+j,none⟩) e,VT (a:=⟨k,o+j,none⟩) e];exact this
theorem LsS.grow{Z:Nat->Prop}{w W W':Uq}{K n i:Nat}{a:Nat->Nat}(h:LsS Z w W K n i a)(b:Z K)(k:Kz Z W W'):LsS Z w W' K n i a:=
 ⟨h.kz.trans k,Uw h.lt k.size,C9 h.th (k.block K h.lt b),λj c=>k.range b h.lt (h.rw j c)⟩
theorem LsS.put{Z:Nat->Prop}{w W:Uq}{K n i:Nat}{a:Nat->Nat}(h:LsS Z w W K n i a)(b:w.heap.size<=K)(c:i<n):LsS Z w (W.setCells K (4*i) (wn (a i))) K n (i+1) a:=by
 refine⟨h.kz.set (U3 b),by rw[setCells_size];exact h.lt,VV h.th _ _ _,λj d=>?_⟩;by_cases e:j=i
 ·subst e;exact VN W K _ _ λt k=>by
   have k:t<4:=k;have:=h.th (4*j+t) oM;rwa[UC]at this
 ·exact Vg (h.rw j oM) K _ _ (UW (by
   show 4*j+4<=4*i\/4*i+4<=4*j;omega))
theorem zZ(n:Nat)(S:n<=512)(f:Xp)(cap:Array Us)(hf:∀args W,(callFunc f args).run prog W=.ok (.enter f args) W)(a:Nat->Nat)(Z:Nat->Prop)(I:Nat->Uq->Prop)(w:Uq)(L:∀g,w.heap.size<=g->Z g)(p:∀W,kZ w W->I 0 W)(y:∀i W K o vs,w.heap.size<=K->I i W->I i (YJ W K o vs))
 (M:∀i W,i<n->Kz Z w W->I i W->UG prog f (#[iZ i]++cap) W (Ret λe W'=>Kz Z W W'/\I (i+1) W'/\e=nv (a i))) :
 UG prog 132 #[iZ n,.func (.func f) #[] cap] w (Ret λe w'=>Kz Z w w'/\I n w'/\SLq (w.heap.size<=·) w' e n a/\∃g c,e=sZ g n c):=by
 obtain⟨C0,s,x⟩:=Cg uS4 iS4 n S;have k:=x w;obtain⟨K,l⟩:=hE (w.heap.size);obtain⟨z,d⟩:=hE (w.alloc (.cells C0.toArray 49));have u:Ar w z K 4 n 0 (λ_=>[]):=Ar.new _ s d.out l.out;rw[d.out,l.out]at k;have Q:Hid (LsS Z w z K n 0 a/\I 0 z):=⟨⟨Kz.of u.bl,u.lt,u.th,λj E=>absurd E (Ym _)⟩,p z u.bl⟩
 have U:=mk1 M;have R:=mk1 hf;have A:Hid (Z K/\w.heap.size<=K/\∀i W o vs,I i W->I i (YJ W K o vs)):=⟨L K (YO l.out),YO l.out,λi W o vs=>y i W K o vs (YO l.out)⟩
 obtain⟨fv,r⟩:=hE (Z0 (.func f) #[] cap);rw[r.out];clear u s x M hf d l p y L;go_enter func132,ntmps132;go_wp2;clear k;go_loopg [11] n (λm s11 W=>∃i:Nat,i+m=n/\s11=iZ i/\Hid (LsS Z w W K n i a/\I i W))
 case atStart=>exact⟨0,oM,rfl,Q⟩
 case round =>
  obtain⟨i,N,rfl,b⟩:=hrel;by_cases F:i<n
  ·have B:(i:Int)<(n:Int):=oM;have D:=lF K 0 n n i F;rw[UC]at D;have T:=mk1 F;go_wp2_with (first|(refine rR rfl 16 17 _ rfl f cap (iZ i) ?_ ?_ R.out (U i wr T.out b.1.kz b.2) ?_;exact r.symm;rfl;intro e W' hR;refine Zf ?_)|fail)
   obtain⟨G,H,rfl⟩:=hR;have C:=b.1.grow A.1 G;obtain⟨J,q⟩:=hE (W'.setCells K (4*i) (wn (a i)));have O:Hid (LsS Z w J K n (i+1) a/\I (i+1) J):=by rw[<-q.out];exact⟨C.put A.2.1 F,A.2.2 _ _ _ _ H⟩
   have P:Hid (W'.there K (4*i) 4):=λt X=>by
    have:=C.th (4*i+t) oM;rwa[UC]at this
   obtain⟨V,v⟩:=hE (nv (a i));rw[v.out];clear G H C b;show wpList _ _ _ _ _ _;go_wp2_with (first|(refine U1 rfl 49 _ _ rfl K (4*i) (wn (a i)).toArray ?_ ?_ ?_ ?_ ?_ ?_;rfl;exact v.symm;exact P.out;exact i40;exact aM _;rw[show(wn (a i)).toArray.toList=wn (a i) from rfl,q.out])|fail)
   go_roundg (gk-1)
   case measure=>omega
   case rel=>exact⟨i+1,oM,rfl,O⟩
  ·have B:¬(i:Int)<(n:Int):=oM;obtain rfl:i=n:=oM;have q:Hid (Kz Z w wr/\I i wr/\SLq (w.heap.size<=·) wr (sZ K i i) i a):=⟨b.1.kz,b.2,K,0,i,rfl,Uv _,A.2.1,b.1.lt,λj E=>by rw[UC];exact b.1.rw j E⟩
   go_wp2;go_ret;exact⟨_,rfl,q.1,q.2.1,q.2.2,_,_,rfl⟩
theorem GH(n:Nat)(c:n<=512)(f:Xp)(cap:Array Us)(hf:∀args W,(callFunc f args).run prog W=.ok (.enter f args) W)(a:Nat->Nat)(Z:Nat->Prop)(I:Nat->Uq->Prop)(w:Uq)(l:∀g,w.heap.size<=g->Z g)(k:∀W,kZ w W->I 0 W)(b:∀i W K o vs,w.heap.size<=K->I i W->I i (YJ W K o vs))
 (m:∀i W,i<n->Kz Z w W->I i W->UG prog f (#[iZ i]++cap) W (Ret λe W'=>Kz Z W W'/\I (i+1) W'/\e=nv (a i))) :
 UG prog 132 #[iZ n,.func (.func f) #[] cap] w (Ret λe w'=>Kz Z w w'/\I n w'/\SLq (w.heap.size<=·) w' e n a):=
 (zZ n c f cap hf a Z I w l k b m).mono λ_ _ ⟨v,h,p,d,j,_⟩=>⟨v,h,p,d,j⟩
theorem jB(n:Nat)(d:n<=512)(f:Xp)(cap:Array Us)(hf:∀args W,(callFunc f args).run prog W=.ok (.enter f args) W)(a:Nat->Nat)(w:Uq)
 (g:∀i W,i<n->kZ w W->UG prog f (#[iZ i]++cap) W (rZ W λe W'=>e=nv (a i))) :
 UG prog 132 #[iZ n,.func (.func f) #[] cap] w (rZ w λe w'=>SLq (w.heap.size<=·) w' e n a):=by
 refine(GH n d f cap hf a (λ_=>True) (λ_ _=>True) w (λ_ _=>trivial) (λ_ _=>trivial) (λ_ _ _ _ _ _ _=>trivial) λi W j c _=>?_).mono ?_
 ·refine(g i W j (c.bel λ_=>trivial)).mono ?_;rintro e w' ⟨v,rfl,b,k⟩;exact⟨v,rfl,Kz.of b,trivial,k⟩
 ·rintro e w' ⟨v,rfl,b,-,k⟩;exact⟨v,rfl,b.bel λ_=>trivial,k⟩
end
section
variable {P:Nat}[NeZero P]{N:Nat}
abbrev w1c(x:Nat):List Us:=[uZ x,uZ 0,uZ 0,uZ 0]
theorem Oo{x:Nat}(hx:x<18446744073709551616):wn x=w1c x:=by
 unfold wn;rw[UR hx,Xd hx,Xd (by omega:x<340282366920938463463374607431768211456),Xd (by omega:x<6277101735386680763835789423207666416102355444464034512896)];rfl
theorem zW(x:Nat)(hx:x<18446744073709551616):Gives 70 #[uZ x] (nv x):=by
 unfold nv;rw[Oo hx];intro w;go_enter func70,ntmps70;refine RG.M.enter [(0,.v (uZ x))] 6 kR ?_;intro a0 d;repeat refine Uy ?_
 refine d.T [.m 0] [(0,RG.z 4)] [] [RG.z 4] [0,2] ⟨mk 0 49,yCl⟩ ?_;intro k f g c;repeat refine Uy ?_
 refine c.T [.x (uZ x),.x (.agg (w1c x).toArray),.x (.agg (w1c x).toArray),.u 0] [] [(0,3,w1c x)] [w1c x] [2] ⟨st,st,st,RG.pt i40,yCl⟩ ?_;intro a2 e b;refine We ?_;refine UD (v:=.agg (w1c x).toArray) (aI b.st 2 49 rfl 0 _ rfl (b.at (s:=(.p 0 0))) u40 i40) b.sl.defers ?_;exact⟨_,rfl,b.st.bel.below,rfl⟩
theorem MI(v i:Nat)(hv:v<18446744073709551616):v/2^i<18446744073709551616:=Nat.lt_of_le_of_lt (Nat.div_le_self _ _) hv
theorem rU{w b W W':Uq}{k x:Nat}(c:Hid (w.heap.size=k))(g:Hid (w.alloc (.cells (RG.z 4).toArray 49)=b))(e:kZ b W)(f:Hid (W.setCells k 0 (wn x)=W')):Hid (W.there k 0 4/\kZ w W'/\Row W' k (wn x)):=by
 have h:=(aN c g).out;have d:=h.2.below e;rw[<-f.out];exact⟨d.2.2,RG.below_setCells (YO c.out) _ _ _ (h.1.trans (e.mono h.1.size)),d.put rfl⟩
theorem Jb(v i k:Nat)(hv:v<18446744073709551616)(B:i<64)(w:Uq)(m:k<w.heap.size)(o:w.cell? ⟨k,0,none⟩=some (uZ v)):UG prog 129 #[iZ i,jZ k] w (rZ w λe w'=>e=nv (v/2^i%2)):=by
 obtain⟨q,f⟩:=hE (w.heap.size);obtain⟨l,b⟩:=hE (w.alloc (.cells (RG.z 4).toArray 49));have u:=aN f b;have s:l.cell? ⟨k,0,none⟩=some (uZ v):=by rw[u.1.cell (p:=⟨k,0,none⟩) m];exact o
 have g:bits .and .u64 ((v:Int)/2^i) 1=((v/2^i%2:Nat):Int):=by
  rw[<-and_one _ (MI v i hv),Int.natCast_ediv,Int.natCast_pow];rfl
 have n:=mk1 (zW (v/2^i%2) oM);generalize v/2^i%2=x at g n⊢;have r:=mk1 g;clear o m g;go_enter func129,ntmps129;go_wp2_with (first|(refine alR 3 f b ?_)|fail)
 rw[r.out];refine(n l).mono ?_;rintro e t ⟨a,rfl,j,rfl⟩;obtain⟨z,c⟩:=hE (t.setCells q 0 (wn x));have R:=rU f b j c;obtain⟨y,d⟩:=hE (nv x);rw[d.out];go_wp2_with (first|(refine stR 3 c d R.1 i40 (aM x) ?_)|fail)
 refine UD (aG 3 49 rfl R.2.2 rfl u40 i40) rfl ?_;exact⟨_,rfl,R.2.1,rfl⟩
theorem Pm(O:Ord N)(v i k f:Nat)(hv:v<18446744073709551616)(G:i<64)(w:Uq)(r:k<w.heap.size)(m:f<w.heap.size)(B:w.cell? ⟨k,0,none⟩=some (uZ v))(d:w.cell? ⟨f,0,none⟩=some (.func (.func 129) #[] #[jZ k])):UG prog 130 #[iZ i,jZ f] w (rZ w λe w'=>e=nv (sMi N (v/2^i%2) 1)):=by
 obtain⟨q,o⟩:=hE (w.heap.size);obtain⟨z,b⟩:=hE (w.alloc (.cells (RG.z 4).toArray 49));have u:=aN o b;have s:z.cell? ⟨f,0,none⟩=some (.func (.func 129) #[] #[jZ k]):=by rw[u.1.cell (p:=⟨f,0,none⟩) m];exact d
 have a:=mk1 (Jb v i k hv G z (Uw r u.1.size) (by rw[u.1.cell (p:=⟨k,0,none⟩) r];exact B));have y:=mk1 (Dk O (v/2^i%2) 1 (by have:=O.n2;omega) (by have:=O.n2;omega));have F:=mk1 (zW 1 dC);generalize v/2^i%2=x at a y⊢;obtain⟨vf,c⟩:=hE (Z0 (.func 129) #[] #[jZ k]);rw[c.out]at s;clear B r d m;go_enter func130,ntmps130;go_wp2_with (first|(refine alR 3 o b ?_)|(refine rR rfl 4 5 _ rfl 129 #[jZ k] (iZ i) ?_ ?_ (λ_ _=>kR) a.out ?_;exact c.symm;rfl;intro e W' hR;refine Zf ?_)|fail)
 obtain⟨g,rfl⟩:=hR;show wpList _ _ _ _ _ _;go_wp2_with fail
 refine(F W').mono ?_;rintro e C ⟨E,rfl,j,rfl⟩;go_wp2_with fail
 refine(y C).mono ?_;rintro e D ⟨E,rfl,t,rfl⟩;obtain⟨I,n⟩:=hE (D.setCells q 0 (wn (sMi N x 1)));have R:=rU o b (g.trans ((j.trans (t.mono j.size)).mono g.size)) n;obtain⟨H,l⟩:=hE (nv (sMi N x 1));rw[l.out];go_wp2_with (first|(refine stR 3 n l R.1 i40 (aM _) ?_)|fail)
 refine UD (aG 3 49 rfl R.2.2 rfl u40 i40) rfl ?_;exact⟨_,rfl,R.2.1,rfl⟩
end
namespace RG
variable {P:VC}{ops:Array Vj}{Q:Yo->Act->Uq->Prop}{w:Uq}{a0:Act}{F:Flow}
def nC(k:Array Vj):Nat->Nat->Nat->Bool
 | 0,i,j=>depOn k i j
 | f+1,i,j=>depOn k i j || (VF i).any (λx=>depOn k i x && nC k f x j)
def mG(k:Array Vj)(n:Nat):Bool:=(VF n).all (λj=>nC k 5 n j) && (VF k.size).all (λi=>decide (i<=n) || depOn k i (i-1))
theorem yI{n i:Nat}(h:mG ops n=true)(c:n<i)(b:i<ops.size):depOn ops i (i-1)=true:=by
 unfold mG at h;rw[UK]at h;have k:=U9.1 h.2 i (VZ.2 b);rw[Xu,decide_eq_true_eq]at k;rcases k with k|k
 ·omega
 ·exact k
theorem wQ{L:Array Bool}{a:Act}(b:InvF F ops a0 L a w):∀(f i j:Nat),i<ops.size->on L i=true->nC ops f i j=true->on L j=true
 | 0,i,j,his,hi,h=>by
  have k:=UZ his;unfold nC depOn at h;rw[k]at h;exact Ba (ho:=k) b h hi
 | f+1,i,j,his,hi,h=>by
  have k:=UZ his;unfold nC at h;rw[Xu]at h;have hd:∀x,depOn ops i x=true->on L x=true:=λx hx=>by
   unfold depOn at hx;rw[k]at hx;exact Ba (ho:=k) b hx hi
  rcases h with h|h
  ·exact hd j h
  ·obtain⟨x,hx,c⟩:=yA4.1 h;rw[UK]at c;exact wQ b f x j (by have:=VZ.1 hx;omega) (hd x c.1) c.2
theorem zC{n:Nat}(D:∀i,n<i->i<ops.size->depOn ops i (i-1)=true)(z:∀(i:Nat) (o:Vj),ops[i]? = some o->∀e∈o.after,VO .any e=true->e.on<i):∀(c:Nat) (L:Array Bool) (a:Act) (w:Uq) (m:Nat),n<=m->m<=ops.size->L.size=ops.size->(∀j,on L j=true↔j<m)->unl L=c->wpList P ops Q (ops.toList.drop m) a w->wpAny P .any ops Q c L a w:=by
 intro c;induction c with
 | zero =>
  intro L a w m u y t k A h;have q:m=ops.size:=by
   rcases Wp m ops.size with d|d
   ·have:=kN A m oM;rw[k]at this;omega
   ·omega
  rw[q,<-UJ,yA2]at h;refine⟨?_,h⟩;apply List.eq_nil_iff_forall_not_mem.2;intro i r;obtain⟨d,o,ho,-⟩:=mem_ready.1 r;have f:=(k i).2 (by rw[q];exact(UY.1 ho).1);unfold on at f;rw[UH]at d f;cases hh:L[i]? with
  | none=>rw[hh]at d;cases d
  | some b=>rw[hh]at d f;rw[show b=false from d]at f;cases f
 | succ c ih =>
  intro L a w m u y t k A h;have s:∀i,i∈U6 .any ops L->i=m:=λi r=>by
   obtain⟨d,o,ho,p⟩:=mem_ready.1 r;have g:on L i=false:=by
    unfold on;rw[UH]at d⊢;cases hh:L[i]? with
    | none=>rfl
    | some b=>rw[hh]at d;exact d
   have l:=(UY.1 ho).1;rcases Nat.lt_trichotomy i m with f|f|f
   ·rw[(k i).2 f]at g;cases g
   ·exact f
   ·have:=(k (i-1)).1 (gC ho p (D i oM l));omega
  refine⟨λC=>?_,λi r=>?_⟩
  ·rcases Wp m ops.size with d|d
   ·exfalso;have ho:ops[m]? = some ops[m]:=UZ _;have g:on L m=false:=by
     cases v:on L m with
     | false=>rfl
     | true=>have:=(k m).1 v;omega
    have:m∈U6 .any ops L:=mem_ready.2 ⟨?_,_,ho,λe x v=>(k e.on).2 (z m _ ho e x v)⟩
    ·rw[C]at this;cases this
    ·unfold on at g;rw[UH,UZ (by rw[t];exact d)]at g⊢;exact g
   ·have q:m=ops.size:=oM;rw[q,<-UJ,yA2]at h;exact h
  ·obtain rfl:=s i r;obtain⟨d,o,ho,p⟩:=mem_ready.1 r;have l:=(UY.1 ho).1;have q:ops.toList.drop i=o :: ops.toList.drop (i+1):=by
    rw[List.drop_eq_getElem_cons (by rw[UJ];exact l)];have:ops.toList[i]? = some o:=by rw[Vo];exact ho
    rw[UF (by rw[UJ];exact l)]at this;rw[UN.inj this]
   rw[q]at h;have v:wpOp P ops Q i (λx w'=>wpList P ops Q (ops.toList.drop (i+1)) x w') a w:=by
    unfold wpOp;rw[ho];exact h
   refine Zz (λx w' B=>ih _ x w' (i+1) oM oM (by rw[Array.size_setIfInBounds];exact t) (λj=>?_) (by have:=lN d;omega) B) v;rw[eC (by rw[t];omega)];constructor
   ·intro g;rw[Xu]at g;rcases g with g|g
    ·have:=(k j).1 g;omega
    ·have:i=j:=by simpa using g
     omega
   ·intro g;by_cases f:j<i
    ·rw[(k j).2 f,Bool.true_or]
    ·rw[show j=i by omega];simp
theorem xW{id:Nat}(F:Flow)(n:Nat)(Z:Array Bool->Act->Prop)(T:n<ops.size)(v:mG ops n=true)(O:P.follows .mixedOrders=true)(R:RegF P Q F ops a0 n)(M:∀b,F.B b w.drew)(S:∀L,(∀i,on L i=false)->Z L a0)
 (B:∀(k:Nat) (o:Vj) (L:Array Bool) (a:Act) (w:Uq),k<n->(∀i,on L i=true->i<n)->ops[k]? = some o->on L k=false->(∀e∈o.after,VO .any e=true->on L e.on=true)->InvF F ops a0 L a w->Z L a->wpOp P ops Q k (λy w'=>InvF F ops a0 (L.setIfInBounds k true) y w'/\Z (L.setIfInBounds k true) y) a w)
 (J:∀(V:Nat->Us) (w':Uq),(∀i,i<n->F.kill i=[]->F.R i (V i) w')->(∀b,F.killB b=[]->F.B b w')->(∃L a,Z L a/\∀i,i<n->on L i=true/\∀d,aX ops i=some d->a.tmps[d]? = some (V i))->wpList P ops Q (ops.toList.drop n) (bU V (ops.toList.take n) 0 a0) w'):(V3 id ops true).wp P Q a0 w:=by
 have H:∀(i:Nat) (o:Vj),ops[i]? = some o->∀e∈o.after,VO .any e=true->e.on<i:=λi o ho=>(R.of ho).1
 have key:∀(g:Nat) (L:Array Bool) (a:Act) (w:Uq),unl L=g->(∀j,n<=j->on L j=false)->InvF F ops a0 L a w->Z L a->wpAny P .any ops Q g L a w:=by
  intro g;induction g with
  | zero =>
   intro L a w E c q D;have:=kN E n (by rw[q.size];omega);rw[c n (Uv _)]at this;cases this
  | succ g ih =>
   intro L a w E c q D;by_cases f:∀j,j<n->on L j=true
   ·have m:∀j,on L j=true↔j<n:=λj=>⟨λp=>(by
     rcases Wp j n with h|h
     ·exact h
     ·rw[c j h]at p;cases p),f j⟩
    obtain⟨V,u,C⟩:=q.all;have N:=q.act R oM m u;have t:∀l:List Nat,l=[]->∀x∈l,on L x=false:=λl K x hx=>by rw[K]at hx;cases hx
    have r:=J V w (λj p I=>C j (f j p) (t _ I)) (λb G=>q.base b (t _ G)) ⟨L,a,D,λi A=>⟨f i A,λd hd=>u i d (f i A) hd⟩⟩;rw[<-N]at r;exact zC (λi s z=>yI v s z) H _ L a w n (Uv _) oM q.size m E r
   ·refine⟨λI=>?_,λi A=>?_⟩
    ·exact absurd (λj p=>q.full R I j oM) f
    ·obtain⟨s,o,ho,m⟩:=mem_ready.1 A;have t:=(UY.1 ho).1;have G:on L i=false:=by
      unfold on;rw[UH]at s⊢;cases hh:L[i]? with
      | none=>rfl
      | some b=>rw[hh]at s;exact s
     have u:i<n:=by
      rcases Wp i n with h|h
      ·exact h
      ·exfalso;rcases Wp n i with z|z
       ·have:=gC ho m (yI v z t);rw[c (i-1) oM]at this;cases this
       ·obtain rfl:i=n:=oM;refine f λj p=>?_
        unfold mG at v;rw[UK]at v;have r:=U9.1 v.1 j (VZ.2 p);unfold nC at r;rw[Xu]at r;rcases r with r|r
        ·exact gC ho m r
        ·obtain⟨x,hx,C⟩:=yA4.1 r;rw[UK]at C;exact wQ q 4 x j (by have:=VZ.1 hx;omega) (gC ho m C.1) C.2
     refine Zz (λy w' r=>ih _ y w' (by have:=lN s;omega) (λj p=>?_) r.1 r.2) (B i o L a w u (λj p=>?_) ho G m q D)
     ·rw[eC (by rw[q.size];exact t),c j p];simp only[Bool.false_or,beq_eq_false_iff_ne];omega
     ·rcases Wp j n with h|h
      ·exact h
      ·rw[c j h]at p;cases p
 have c:∀i,on (Array.replicate ops.size false) i=false:=λi=>by
  unfold on;rw[UH,Array.getElem?_replicate];by_cases h:i<ops.size
  ·rw[yCj h];rfl
  ·rw[yCk h];rfl
 refine wp_region_any O (key _ _ a0 _ ?_ (λj _=>c j) ⟨Array.size_replicate,(λi o _ h=>by rw[c]at h;cases h),rfl,rfl,λ_ _=>rfl,⟨λ_=>WO,λi d h=>(by rw[c]at h;cases h),λi h=>(by rw[c]at h;cases h)⟩,λb _=>M b⟩ (S _ c));unfold unl;rw[Array.toList_replicate,List.countP_replicate];simp
theorem qF{id:Nat}(F:Flow)(n:Nat)(e:n<ops.size)(q:mG ops n=true)(p:P.follows .mixedOrders=true)(R:RegF P Q F ops a0 n)(j:∀b,F.B b w.drew)
 (f:∀(V:Nat->Us) (w':Uq),(∀i,i<n->F.kill i=[]->F.R i (V i) w')->(∀b,F.killB b=[]->F.B b w')->wpList P ops Q (ops.toList.drop n) (bU V (ops.toList.take n) 0 a0) w'):(V3 id ops true).wp P Q a0 w:=
 xW F n (λ_ _=>True) e q p R j (λ_ _=>trivial) (λk o L a w d c m l r g _=>Zz (λ_ _ h=>⟨h,yCl⟩) (Ex R d c m l r g)) λV w' d c _=>f V w' d c
theorem Gw.tail2{id:Nat}(G:Gw)(n:Nat)(k:(decide (n<ops.size) && mG ops n)=true)(g:P.follows .mixedOrders=true)(c:Be ops a0.tmps.size=true)(h:iK P Q G.flow ops a0 0 (ops.toList.take n))(b:G.B w.drew)
 (d:∀(V:Nat->Us) (w':Uq),(∀i,i<n->G.R i (V i) w')->G.B w'->wpList P ops Q (ops.toList.drop n) (bU V (ops.toList.take n) 0 a0) w'):(V3 id ops true).wp P Q a0 w:=by
 rw[UK,decide_eq_true_eq]at k;exact qF G.flow n k.1 k.2 g (Gw.reg c h) (λ_=>b) λV w' j e=>d V w' (λi f=>j i f rfl) (e 0 rfl)
end RG
section
variable {P:Nat}[NeZero P]{N:Nat}
structure FdM(w W:Uq)(K k4 k5 n i x y:Nat)(f:Nat->List (Nat × Bs)):Prop where
 ls:LsI w W K n i f
 r4:Row W k4 (wn x)
 r5:Row W k5 (wn y)
theorem FdM.grow{w W W':Uq}{K c b n i x y:Nat}{f:Nat->List (Nat × Bs)}(h:FdM w W K c b n i x y f)(k:kZ W W'):FdM w W' K c b n i x y f:=⟨h.ls.grow k,h.r4.below k,h.r5.below k⟩
theorem FdM.drew{w W:Uq}{K b k n i x y:Nat}{f:Nat->List (Nat × Bs)}(h:FdM w W K b k n i x y f):FdM w W.drew K b k n i x y f:=h.grow ⟨rfl,rfl,rfl,Uv _,λ_ _=>rfl⟩
theorem FdM.put{w W:Uq}{K b k n i x y:Nat}{f:Nat->List (Nat × Bs)}{v:Us}(h:FdM w W K b k n i x y f)(c:i<n)(e:b≠K)(d:k≠K)(hv:SmQ (λg=>w.heap.size<=g/\g≠K) W v (f i)):FdM w (W.setCells K i [v]) K b k n (i+1) x y f:=
 ⟨h.ls.put c hv,aR h.r4 e,aR h.r5 d⟩
theorem Jz(O:Ord N){Q:Nat->Prop}(n:Nat)(hn:n<=500)(c:Nat)(hc:c<=200)(h2:0<c)(a:Nat->List (Nat × Bs))(x y:Nat)(hx:x<N)(r:y<N)(ha:∀i,i<n+n->TOk N (a i)/\(a i).length=c)(va:Us)(w:Uq)(h1:GLq Q w va (n+n) a):
 UG prog 217 #[va,nv x,nv y] w (rZ w λe w'=>GLq (w.heap.size<=·) w' e n (kY N x y n a)):=by
 obtain⟨b,d,c1,rfl,-,-,X,h0⟩:=h1;obtain⟨m,hm⟩:=hE (n+n);have hq:(m:Int).tdiv 2=(n:Int):=by rw[<-hm.out,X7 oM];omega
 obtain⟨G,h3,F,M,P,o⟩:=SO w x y;obtain⟨C0,he,h5⟩:=Cg uSu iSu n oM;have T:=h5 G;obtain⟨K,hK⟩:=hE (G.heap.size);obtain⟨w3,L⟩:=hE (G.alloc (.cells C0.toArray 131));have R:Ar G w3 K 1 n 0 (λ_=>[]):=Ar.new _ he L.out hK.out;rw[L.out,hK.out]at T;obtain⟨f,q⟩:=hE (w.heap.size);rw[q.out]at M P o;have HK:Hid (K=f+2/\w.heap.size<=f):=⟨by rw[<-hK.out,o],by rw[q.out];exact Uv _⟩
 have K1:Hid (FdM w w3 K f (f+1) n 0 x y (kY N x y n a)):=⟨⟨F.trans (R.bl.mono F.size),R.lt,by have:=R.th;rwa[Xh]at this,by have:=HK.out;omega,λj hj=>absurd hj (Ym _)⟩,M.below R.bl,P.below R.bl⟩
 have l:=mk8 O hx r ha h0 X hc h2;obtain⟨vx,h4⟩:=hE (nv x);obtain⟨vy,h7⟩:=hE (nv y);obtain⟨S,H⟩:=hE (w.alloc (.cells (wn x).toArray 49));have B1:Hid ((Vd 49 vx).run prog w=.ok (jZ f) S):=by rw[<-h4.out,<-H.out,<-q.out];exact boxS x w
 have B2:Hid ((Vd 49 vy).run prog S=.ok (.pointer (some ⟨f+1,0,none⟩)) G):=by
  have h:=boxS y S;rw[show S.heap.size=f+1 by rw[<-H.out,UA,q.out]]at h;have e:S.alloc (.cells (wn y).toArray 49)=G:=by rw[<-H.out];exact h3.out
  rw[e]at h;rw[<-h7.out];exact h
 rw[h4.out,h7.out,hm.out];clear O hx r ha h0 X hc h2 F M P o R he h5 hK L q h3;go_enter func217,ntmps217;go_wp2_with (first|(refine aF (u:=vx) (v:=jZ f) (w':=S) rfl 49 (.tmp 1) rfl ?_ ?_ ?_;rfl;exact B1.out)|(refine aF (u:=vy) (v:=.pointer (some ⟨f+1,0,none⟩)) (w':=G) rfl 49 (.tmp 2) rfl ?_ ?_ ?_;rfl;exact B2.out)|fail)
 go_loopg [15] n (λm s15 W=>∃i:Nat,i+m=n/\s15=iZ i/\Hid (FdM w W K f (f+1) n i x y (kY N x y n a)))
 case atStart=>exact⟨0,oM,rfl,K1⟩
 case round =>
  obtain⟨i,k6,rfl,KM⟩:=hrel;by_cases hi:i<n
  ·have hz:(i:Int)<(n:Int):=oM;have HL:=Hid.mk' hi;have KP:=KM;go_wp2_with fail
   obtain⟨C,hr,k1⟩:=l.2.2.2.2.1 i oM;obtain⟨D,hl,o⟩:=l.2.2.2.2.1 (n+i) oM;have HX:=mk4 hr k1 hl o;have s:=mk2 (l.2.2.2.1 i oM) (l.2.2.2.1 (n+i) oM);have HZ:=mk1 (l.2.2.2.2.2.2);obtain⟨B,E⟩:=hE ((a i).map (tmT N x));obtain⟨J,A⟩:=hE ((a (n+i)).map (tmT N y));have HQ:Hid (kY N x y n a i=B++J):=by show _=_;rw[<-E.out,<-A.out];rfl
   have HY:Hid (B.length=c/\J.length=c/\TOk N B/\TOk N J):=⟨by rw[<-E.out,UP];exact s.1.2,by rw[<-A.out,UP];exact s.2.2,by rw[<-E.out];exact s.1.1.tm l.1.pos x,by rw[<-A.out];exact s.2.1.tm l.1.pos y⟩
   have Z:=λ(W:Uq) (k:kZ w W)=>eG l.1 l.2.1 0 C (a i) (by rw[s.1.2];have:=HZ.out;omega) s.1.1.szm s.1.1.lt W (HX.2.1.sm.grow k)
   have h8:=λ(W:Uq) (k:kZ w W)=>eG l.1 l.2.2.1 0 D (a (n+i)) (by rw[s.2.2];have:=HZ.out;omega) s.2.1.szm s.2.1.lt W (HX.2.2.2.sm.grow k)
   have k2:=λ(W:Uq) (u v:Us) (hu:Sm 0 W u B) (hv:Sm 0 W v J)=>cO 0 u v B J (by rw[Uz];have:=HY.1;have:=HZ.out;omega) (by have:=HY.1;have:=HZ.out;omega) (by have:=HY.2.1;have:=HZ.out;omega) HY.2.2.1.sz HY.2.2.2.sz W (UW hu) (UW hv)
   rw[E.out]at Z;rw[A.out]at h8;have k5:∀W,kZ w W->W.cell? ⟨b,d+1*i,none⟩=some C:=λW k=>by rw[Xh,k.cell (p:=⟨b,d+i,none⟩) l.2.2.2.2.2.1];exact HX.1
   have k3:∀W,kZ w W->W.cell? ⟨b,d+1*(n+i),none⟩=some D:=λW k=>by rw[Xh,k.cell (p:=⟨b,d+(n+i),none⟩) l.2.2.2.2.2.1];exact HX.2.2.1
   have hw:i<m:=by rw[<-hm.out];omega
   have U:n+i<m:=by rw[<-hm.out];omega
   refine(gwL [pE (sZ K n n),pE (iZ i),pE (.slice (some ⟨b,d,none⟩) m c1),pE (iZ i),pE (.pointer (some ⟨b,d+1*i,none⟩)),pE C,pE (.iface 131 C),pE (nv x),pM (λg=>w.heap.size<=g/\g≠K) B,pI 131 (pM (λg=>w.heap.size<=g/\g≠K) B),pE (.slice (some ⟨b,d,none⟩) m c1),pE (sZ K n n),pE (iZ n),pE (iZ i),pE (iZ ((n+i:Nat):Int)),pE (.pointer (some ⟨b,d+1*(n+i),none⟩)),pE D,pE (.iface 131 D),pE (nv y),pM (λg=>w.heap.size<=g/\g≠K) J,pM (λg=>w.heap.size<=g/\g≠K) (B++J),pE (.pointer (some ⟨K,0+1*i,none⟩))] (λW=>FdM w W K f (f+1) n i x y (kY N x y n a)) (λW W' I h=>h.grow I)).last 22 kR kR kR ⟨
    gO 7 (sZ K n n),
    gO 8 (iZ i),
    gO 0 (.slice (some ⟨b,d,none⟩) m c1),
    gO 8 (iZ i),
    A0 2 20 3 21 (.slice (some ⟨b,d,none⟩) m c1) (iZ i) (.pointer (some ⟨b,d+1*i,none⟩)) (Vk 129 (.slice (some ⟨b,d,none⟩) m c1) (iZ i)) (atS b d m c1 i hw) (λx W h=>h) (λx W h=>h) (λ_=>rfl),
    fF 131 4 22 b (d+1*i) C AB (λx W h=>h) (λW k=>k5 W k.ls.bl) (λ_=>rfl),
    rF 5 23 C (.iface 131 C) (λx W h=>h) (λ_=>rfl),
    iD 49 4 f 0 (wn x) rSc nSc rfl (λW k=>k.r4.2.1) (λ_=>rfl),
    oV 131 6 24 7 25 (pE C) 164 (λx W h=>⟨_,h,rfl⟩) (λz u W hx r k=>by
     obtain rfl:z=C:=hx;obtain rfl:u=nv x:=r;refine(Z W k.ls.bl).mono ?_;rintro e W' ⟨u,rfl,I,V⟩;exact⟨_,rfl,I,V.q.mono λg Y=>⟨UB k.ls.bl.size Y,by have:=k.ls.lt;omega⟩⟩),
    DR 8 26 (λv=>.iface 131 v) (λx W h=>⟨x,rfl,h⟩),
    gO 0 (.slice (some ⟨b,d,none⟩) m c1),
    gO 7 (sZ K n n),
    rF 11 29 (sZ K n n) (iZ n) (λx W h=>h) (λ_=>rfl),
    gO 8 (iZ i),
    Jn .add 3 3 30 31 rfl (λa W hp=>⟨_,_,iZ ((n+i:Nat):Int),hp.n 12 30 kR kR,hp.n 13 31 kR kR,kR,Oa n i oM W,rfl⟩),
    A0 10 28 14 32 (.slice (some ⟨b,d,none⟩) m c1) (iZ ((n+i:Nat):Int)) (.pointer (some ⟨b,d+1*(n+i),none⟩)) (Vk 129 (.slice (some ⟨b,d,none⟩) m c1) (iZ ((n+i:Nat):Int))) (atS b d m c1 (n+i) U) (λx W h=>h) (λx W h=>h) (λ_=>rfl),
    fF 131 15 33 b (d+1*(n+i)) D AB (λx W h=>h) (λW k=>k3 W k.ls.bl) (λ_=>rfl),
    rF 16 34 D (.iface 131 D) (λx W h=>h) (λ_=>rfl),
    iD 49 5 (f+1) 0 (wn y) rSc nSc rfl (λW k=>k.r5.2.1) (λ_=>rfl),
    oV 131 17 35 18 36 (pE D) 164 (λx W h=>⟨_,h,rfl⟩) (λz u W hx r k=>by
     obtain rfl:z=D:=hx;obtain rfl:u=nv y:=r;refine(h8 W k.ls.bl).mono ?_;rintro e W' ⟨u,rfl,I,V⟩;exact⟨_,rfl,I,V.q.mono λg Y=>⟨UB k.ls.bl.size Y,by have:=k.ls.lt;omega⟩⟩),
    oV 131 9 27 19 37 (pM (λg=>w.heap.size<=g/\g≠K) B) 65 (λx W h=>h) (λz u W hx r k=>by
     have hx:=hx;have r:=r;refine(k2 W z u hx.sm r.sm).mono ?_;rintro e W' ⟨u,rfl,I,V⟩;exact⟨_,rfl,I,V.q.mono λg Y=>⟨UB k.ls.bl.size Y,by have:=k.ls.lt;omega⟩⟩),
    A0 0 18 1 19 (sZ K n n) (iZ i) (.pointer (some ⟨K,0+1*i,none⟩)) (Vk 129 (sZ K n n) (iZ i)) (atS K 0 n n i HL.out) (λx W h=>h) (λx W h=>h) (λ_=>rfl),yCl⟩ KP.drew ?_
   intro V W3 hk Y;have hS:=hk 20 dC;have h9:=hk 21 dC;dsimp only[bU,VJ,Xk,Xl];simp only[UM,Ur,Ut,Uu];generalize V 20=vq at hS⊢;obtain⟨W4,h6⟩:=hE (W3.setCells K i [vq]);have K4:Hid (FdM w W4 K f (f+1) n (i+1) x y (kY N x y n a)):=by
    have h:=Y.put (v:=vq) hi (by have:=HK.out;omega) (by have:=HK.out;omega) (by rw[HQ.out];exact hS);rw[h6.out]at h;exact h
   have HT:Hid (W3.there K i 1):=λt ht=>by
    have k0:t=0:=oM;subst k0;have:=Y.ls.th i hi;rwa[UC]at this
   have HE:=Hid.mk' hS.one;rw[h9,UC,Xh];go_wp2_with (first|(refine fV rfl 131 _ _ rfl K i vq ?_ ?_ HE.1 HE.2 HT.out RQ ?_;rfl;rfl;rw[h6.out])|fail)
   go_roundg (gk-1)
   case measure=>omega
   case rel=>exact⟨i+1,oM,rfl,K4⟩
  ·have hz:¬(i:Int)<(n:Int):=oM;obtain rfl:i=n:=oM;have K4:=mk2 KM.ls.bl KM.ls.gl;go_wp2;go_ret;exact⟨_,rfl,K4.1,K4.2⟩
structure GOk(N n c:Nat)(G H:Nat->List (Nat × Bs))(U:List (Nat × Bs)):Prop where
 n0:0<n
 c0:0<c
 cn:c*n<=64
 g:∀i,i<n->TOk N (G i)/\(G i).length=c
 h:∀i,i<n->TOk N (H i)/\(H i).length=c
 u:TOk N U
 u0:0<U.length
 u9:U.length<=16
theorem GOk.nle{n c:Nat}{G H:Nat->List (Nat × Bs)}{U:List (Nat × Bs)}(h:GOk N n c G H U):n<=64:=by
 have k:=h.cn;have:=Nat.mul_le_mul_right n h.c0;omega
theorem GOk.cle{n c:Nat}{G H:Nat->List (Nat × Bs)}{U:List (Nat × Bs)}(h:GOk N n c G H U):c<=64:=by
 have k:=h.cn;have:=Yh c h.n0;omega
theorem CJ(c k b:Us)(w:Uq):(Vd 133 (.agg #[c,k,b])).run prog w=.ok (jZ w.heap.size) (w.alloc (.cells #[c,k,b] 133)):=kR
theorem uGL:(prog.underlying 129).map (·.isRow)=some false:=kR
theorem xJ(O:Ord N){Q:Nat->Prop}(n c:Nat)(G H:Nat->List (Nat × Bs))(U:List (Nat × Bs))(hG:GOk N n c G H U)(a b:Nat->Nat)(T:∀i,i<n->a i<N)(j:∀i,i<n->b i<N)(v va p:Us)(w:Uq)(M:GRq Q w v n G H U)(h1:SLq Q w va n a)(S:SLq Q w p n b):
 UG prog 66 #[v,va,p] w (rZ w λe w'=>Sm w.heap.size w' e (dH N a G n++dH N b H n)):=by
 obtain⟨l,m,E,rfl,Y,X,-⟩:=M.ex;have r:=λ(W:Uq) (d:kZ w W)=>JO O n c hG.n0 hG.c0 (by have:=hG.nle;omega) (by have:=hG.cn;omega) a G T (λi f=>(hG.g i f).1) (λi f=>(hG.g i f).2) va l W (h1.keep (Kq.of_below d)) (Y.keep (Kq.of_below d))
 have B:=λ(W:Uq) (d:kZ w W)=>JO O n c hG.n0 hG.c0 (by have:=hG.nle;omega) (by have:=hG.cn;omega) b H j (λi f=>(hG.h i f).1) (λi f=>(hG.h i f).2) p m W (S.keep (Kq.of_below d)) (X.keep (Kq.of_below d))
 have P:(dH N a G n).length=c*n:=eR N a n λi f=>(hG.g i f).2
 have L:(dH N b H n).length=c*n:=eR N b n λi f=>(hG.h i f).2
 have t1:TOk N (dH N a G n):=oH O.pos n λi f=>(hG.g i f).1
 have t2:TOk N (dH N b H n):=oH O.pos n λi f=>(hG.h i f).1
 have Z:=yAx hG.c0 hG.n0;have h5:=hG.cn;generalize dH N a G n=A at r P t1⊢;generalize dH N b H n=lb at B L t2⊢;have I:=λ(W:Uq) (u z:Us) (hu:Sm 0 W u A) (hz:Sm 0 W z lb)=>cO 0 u z A lb (by rw[Uz];omega) oM oM t1.sz t2.sz W (UW hu) (UW hz)
 have F:=Hid.mk' (V0 r (V0 B I));obtain⟨D,C⟩:=hE (w.alloc (.cells #[l,m,E] 133));obtain⟨k,K⟩:=hE (w.heap.size);have J:Hid (Row D k [l,m,E]/\kZ w D):=by rw[<-C.out,<-K.out];exact⟨aE w _ _,aC w _⟩
 obtain⟨v0,s⟩:=hE (U2 #[l,m,E]);have R:Hid ((Vd 133 v0).run prog w=.ok (jZ k) D):=by rw[<-s.out,<-C.out,<-K.out];exact CJ _ _ _ _
 rw[s.out];go_enter func66,ntmps66;go_wp2_with (first|(refine aF (u:=v0) (v:=jZ k) (w':=D) rfl 133 (.tmp 0) rfl ?_ ?_ ?_;rfl;exact R.out)|fail)
 refine(gwL [pE va,pE (jZ k),pE l,pM (w.heap.size<=·) A,pE p,pE (oZ k 1),pE m,pM (w.heap.size<=·) lb,pM (w.heap.size<=·) (A++lb),pM (w.heap.size<=·) (A++lb)] (λW=>Row W k [l,m,E]/\kZ w W) (λW W' j h=>⟨h.1.below j,h.2.trans (j.mono h.2.size)⟩)).draws kR kR ⟨
  gO 1 va,
  gO 3 (jZ k),
  fF 129 1 8 k 0 l uGL (λx W h=>h) (λW d=>d.1.2.1 0 _ rfl) (λ_=>rfl),
  eD 0 7 2 9 139 (λx y=>#[x,y]) (λx y W hx o d=>by
   obtain rfl:x=va:=hx;obtain rfl:y=l:=o;refine(F.1 W d.2).mono ?_;rintro e W' ⟨u,rfl,j,q⟩;exact⟨_,rfl,j,q.q.mono λg t=>UB d.2.size t⟩),
  gO 2 p,
  gP 3 (jZ k) (oZ k 1),
  fF 129 5 12 k 1 m uGL (λx W h=>h) (λW d=>d.1.2.1 1 _ rfl) (λ_=>rfl),
  eD 4 11 6 13 139 (λx y=>#[x,y]) (λx y W hx o d=>by
   obtain rfl:x=p:=hx;obtain rfl:y=m:=o;refine(F.2.1 W d.2).mono ?_;rintro e W' ⟨u,rfl,j,q⟩;exact⟨_,rfl,j,q.q.mono λg t=>UB d.2.size t⟩),
  eD 3 10 7 14 65 (λx y=>#[x,y]) (λx y W hx o d=>by
   have hx:=hx;have o:=o;refine(F.2.2 W x y hx.sm o.sm).mono ?_;rintro e W' ⟨u,rfl,j,q⟩;exact⟨_,rfl,j,q.q.mono λg t=>UB d.2.size t⟩),
  DR 8 15 id (λx W h=>h),yCl⟩ ⟨J.1,J.2.drew⟩ ?_
 intro V t hR d;have q:=mk1 (hR 9 (Xi (VQ kR)));have o:=mk1 (d.2);dsimp only[bU,VJ];simp only[UM,Ur,Ut,Uu];go_wp2;go_ret;exact⟨_,rfl,o.out,q.out⟩
theorem Ff(O:Ord N){Q:Nat->Prop}(n c:Nat)(G H:Nat->List (Nat × Bs))(U:List (Nat × Bs))(hG:GOk N n c G H U)(a b:Nat->Nat)(ha:∀i,i<n->a i<N)(f:∀i,i<n->b i<N)(v va m:Us)(w:Uq)(S:GRq Q w v n G H U)(h1:SLq Q w va n a)(Y:SLq Q w m n b):
 UG prog 158 #[v,va,m] w (rZ w λe w'=>Sm w.heap.size w' e (Jj N a b (prS N a b n) G H U n)):=by
 have E:=λ(W:Uq) (d:kZ w W)=>xJ O n c G H U hG a b ha f v va m W (S.keep (Kq.of_below d)) (h1.keep (Kq.of_below d)) (Y.keep (Kq.of_below d))
 have F:=λ(W:Uq) (d:kZ w W)=>Bc O n (by have:=hG.nle;omega) a b ha f va m W (h1.keep (Kq.of_below d)) (Y.keep (Kq.of_below d))
 obtain⟨q,s,l,rfl,-,-,h5⟩:=S.ex;have l1:(dH N a G n).length=c*n:=eR N a n λi r=>(hG.g i r).2
 have l2:(dH N b H n).length=c*n:=eR N b n λi r=>(hG.h i r).2
 have t1:TOk N (dH N a G n):=oH O.pos n λi r=>(hG.g i r).1
 have t2:TOk N (dH N b H n):=oH O.pos n λi r=>(hG.h i r).1
 have h3:=yAx hG.c0 hG.n0;have h4:=hG.cn;unfold Jj;have pl:=AN O.pos a b n;have L:=hG.u.tm O.pos (prS N a b n);have R:(U.map (tmT N (prS N a b n))).length<=16:=by rw[UP];exact hG.u9
 generalize prS N a b n=p at F pl L R⊢;have B:=λ(W:Uq) (d:kZ w W)=>eG O pl 0 l U (by have:=hG.u9;omega) hG.u.szm hG.u.lt W (h5.sm.grow d)
 generalize U.map (tmT N p)=A at B L R⊢;have Z:=t1.app t2;have l4:(dH N a G n++dH N b H n).length=c*n+c*n:=by rw[Uz,l1,l2]
 generalize dH N a G n++dH N b H n=j at E Z l4⊢;have M:=λ(W:Uq) (u z:Us) (hu:Sm 0 W u j) (P:Sm 0 W z A)=>cO 0 u z j A (by rw[Uz];omega) oM oM Z.sz L.sz W (UW hu) (UW P)
 have J:=Hid.mk' (V0 E (V0 F (V0 B M)));obtain⟨K,I⟩:=hE (w.alloc (.cells #[q,s,l] 133));obtain⟨k,X⟩:=hE (w.heap.size);have T:Hid (Row K k [q,s,l]/\kZ w K):=by rw[<-I.out,<-X.out];exact⟨aE w _ _,aC w _⟩
 obtain⟨v0,C⟩:=hE (U2 #[q,s,l]);have B1:Hid ((Vd 133 v0).run prog w=.ok (jZ k) K):=by rw[<-C.out,<-I.out,<-X.out];exact CJ _ _ _ _
 rw[C.out];go_enter func158,ntmps158;go_wp2_with (first|(refine aF (u:=v0) (v:=jZ k) (w':=K) rfl 133 (.tmp 0) rfl ?_ ?_ ?_;rfl;exact B1.out)|fail)
 refine(gwL [pE (.agg #[q,s,l]),pE va,pE m,pM (w.heap.size<=·) j,pE (oZ k 2),pE l,pE va,pE m,pE (nv p),pM (w.heap.size<=·) A,pM (w.heap.size<=·) (j++A),pM (w.heap.size<=·) (j++A)] (λW=>Row W k [q,s,l]/\kZ w W) (λW W' f h=>⟨h.1.below f,h.2.trans (f.mono h.2.size)⟩)).draws kR kR ⟨
  iD 133 3 k 0 [q,s,l] uGr iGr rfl (λW d=>d.1.2.1) (λ_=>rfl),
  gO 1 va,
  gO 2 m,
  rG 0 7 1 8 2 9 66 (λx y z=>#[x,y,z]) (λx y z W hx o P d=>by
   obtain rfl:x=.agg #[q,s,l]:=hx;obtain rfl:y=va:=o;obtain rfl:z=m:=P;refine(J.1 W d.2).mono ?_;rintro e W' ⟨u,rfl,f,t⟩;exact⟨_,rfl,f,t.q.mono λg D=>UB d.2.size D⟩),
  gP 3 (jZ k) (oZ k 2),
  fF 131 4 11 k 2 l AB (λx W h=>h) (λW d=>d.1.2.1 2 _ rfl) (λ_=>rfl),
  gO 1 va,
  gO 2 m,
  eD 6 13 7 14 78 (λx y=>#[x,y]) (λx y W hx o d=>by
   obtain rfl:x=va:=hx;obtain rfl:y=m:=o;refine(J.2.1 W d.2).mono ?_;rintro e W' ⟨u,rfl,f,rfl⟩;exact⟨_,rfl,f,rfl⟩),
  eD 5 12 8 15 164 (λx y=>#[x,y]) (λx y W hx o d=>by
   obtain rfl:x=l:=hx;obtain rfl:y=nv p:=o;refine(J.2.2.1 W d.2).mono ?_;rintro e W' ⟨u,rfl,f,t⟩;exact⟨_,rfl,f,t.q.mono λg D=>UB d.2.size D⟩),
  eD 3 10 9 16 65 (λx y=>#[x,y]) (λx y W hx o d=>by
   have hx:=hx;have o:=o;refine(J.2.2.2 W x y hx.sm o.sm).mono ?_;rintro e W' ⟨u,rfl,f,t⟩;exact⟨_,rfl,f,t.q.mono λg D=>UB d.2.size D⟩),
  DR 10 17 id (λx W h=>h),yCl⟩ ⟨T.1,T.2.drew⟩ ?_
 intro V D hR d;have t:=mk1 (hR 11 (Xi (VQ kR)));have o:=mk1 (d.2);dsimp only[bU,VJ];simp only[UM,Ur,Ut,Uu];go_wp2;go_ret;exact⟨_,rfl,o.out,t.out⟩
end
namespace RG
variable {P:VC}{ops:Array Vj}{Q:Yo->Act->Uq->Prop}{w:Uq}{a0:Act}{G:Gw}{S:Uq->Uq->Prop}{m k:Nat}{o:Vj}
def Gw.st(G:Gw)(m:Nat)(S:Uq->Uq->Prop):Flow:=⟨G.R,λ_=>G.B,λi w w'=>(i=m/\S w w')\/kZ w w',λ_=>[],λ_=>[]⟩
theorem jQ(h:bF P Q G.flow ops a0 k o):bF P Q (G.st m S) ops a0 k o:=λa w K e b d c=>h a w K e b d λv w' hE hR=>c v w' (UW hE) hR
theorem Tj(h:∀(a:Act) (w:Uq),PreG G ops a0 m o a w->∃w',(U4 a.eval o).run P w=.ok .skip w'/\S w w'/\G.R m WO w'):bF P Q (G.st m S) ops a0 m o:=by
 intro a w K i b f k;obtain⟨w',c,g,hR⟩:=h a w ⟨λj d e hd=>i j d e rfl hd,b,f 0 rfl⟩;unfold VS;rw[c];exact k _ _ (U3 ⟨rfl,g⟩) hR
theorem Gw.tailS{id:Nat}(G:Gw)(m:Nat)(S:Uq->Uq->Prop)(n:Nat)(l:∀j v w w',j≠m->S w w'->G.R j v w->G.R j v w')(d:∀w w',S w w'->G.B w->G.B w')(c:(decide (n<ops.size) && mG ops n)=true)(r:P.follows .mixedOrders=true)(s:Be ops a0.tmps.size=true)(h:iK P Q (G.st m S) ops a0 0 (ops.toList.take n))(k:G.B w.drew)
 (p:∀(V:Nat->Us) (w':Uq),(∀i,i<n->G.R i (V i) w')->G.B w'->wpList P ops Q (ops.toList.drop n) (bU V (ops.toList.take n) 0 a0) w'):(V3 id ops true).wp P Q a0 w:=by
 rw[UK,decide_eq_true_eq]at c;refine qF (G.st m S) n c.1 c.2 r ⟨s,tB h,λi j _ _ g _ _ v w w' hE hR=>?_,λi b _ _ w w' hE k=>?_⟩ (λ_=>k) λV w' t q=>p V w' (λi o=>t i o rfl) (q 0 rfl)
 ·rcases hE with⟨o,f⟩|hE
  ·exact l j v w w' (λe=>g (o.trans e.symm)) f hR
  ·exact G.sR j v w w' hE hR
 ·rcases hE with⟨-,f⟩|hE
  ·exact d w w' f k
  ·exact G.sB w w' hE k
end RG
section
variable {P:Nat}[NeZero P]{N:Nat}
theorem qE{P:VC}{m:Func}{tmps:Array Us}{W:Uq}{k c:Nat}{vs us:List Us}(t g:WB)(T e:U7)(o:m.results=#[.cell t T,.cell g e])(h:Row W k vs)(p:Row W c us)(v:tmps[t]? = some (jZ k))(j:tmps[g]? = some (jZ c))
 (l:(P.underlying T).map (·.isRow)=some true) (u:(P.info? T).map (·.size)=some vs.length) (b:(P.underlying e).map (·.isRow)=some true) (f:(P.info? e).map (·.size)=some us.length):(results m tmps).run P W=.ok (.tuple #[.agg vs.toArray,.agg us.toArray]) W:=by
 obtain⟨d,l,hd⟩:=Ux.1 l;obtain⟨n,b,i⟩:=Ux.1 b;have w:=Ye (P:=P) W k 0 T vs d h.2.1 l hd u;have s:=Ye (P:=P) W c 0 e us n p.2.1 b i f;have q:tmps.getD t WO=jZ k:=by rw[UH,v];rfl
 have r:tmps.getD g WO=jZ c:=by rw[UH,j];rfl
 unfold results;rw[o];simp only[Xz,YP,YZ,q,r,asAddr];simp[UU,w,s]
section
variable {P:VC}{ops:Array Vj}{rest:List Vj}{op:Vj}{a:Act}{w w':Uq}{v:Us}{Q:Yo->Act->Uq->Prop}
theorem fB(k:op.guard=none)(T:U7)(t:WB)(_:op.op=.alloc T)(_:op.dst=some t)(c:(U4 a.eval op).run P w=.ok (.value v) w')(h:wpList P ops Q rest (a.put op.dst v) w'):wpList P ops Q (op :: rest) a w:=
 Xf k λK b=>by
  unfold VS;rw[c];exact b _ _ h
end
theorem N9(g o j:Nat):(⟨g,o,none⟩:Wt).add j=⟨g,o+j,none⟩:=by
 unfold Zi;by_cases k:j=0
 ·subst k;rw[yCj rfl];rfl
 ·rw[yCk k]
theorem Io(b o n c k:Nat)(d:k<=c)(w:Uq):(Xm 129 (.slice (some ⟨b,o,none⟩) n c) none (some (iZ k)) none).run prog w=.ok (.slice (some ⟨b,o,none⟩) k c) w:=by
 have f:¬(k:Int)<0:=oM;have e:(k:Int)<=(c:Int):=oM;go_simp
theorem Im(b o n c k:Nat)(d:k<n)(f:n<=c)(w:Uq):(Xm 129 (.slice (some ⟨b,o,none⟩) n c) (some (iZ k)) none none).run prog w=.ok (.slice (some ⟨b,o+k,none⟩) (n-k) (c-k)) w:=by
 have i:¬(k:Int)<0:=oM;have g:(k:Int)<=(n:Int):=oM;have j:¬c=k:=oM;have e:=N9 b o (1*k);rw[Xh]at e;go_simp
theorem Dh(b o n c k:Nat)(d:k<=c)(w:Uq):(Xm 124 (.slice (some ⟨b,o,none⟩) n c) none (some (iZ k)) none).run prog w=.ok (.slice (some ⟨b,o,none⟩) k c) w:=by
 have f:¬(k:Int)<0:=oM;have e:(k:Int)<=(c:Int):=oM;go_simp
theorem Dg(b o n c k:Nat)(d:k<n)(f:n<=c)(w:Uq):(Xm 124 (.slice (some ⟨b,o,none⟩) n c) (some (iZ k)) none none).run prog w=.ok (.slice (some ⟨b,o+k*4,none⟩) (n-k) (c-k)) w:=by
 have i:¬(k:Int)<0:=oM;have g:(k:Int)<=(n:Int):=oM;have j:¬c=k:=oM;have e:=N9 b o (k*4);rw[Vu]at e;rw[Vu k 4];go_simp
theorem GLq.high{Q:Nat->Prop}{W:Uq}{g o n c:Nat}{T:Nat->List (Nat × Bs)}(h:GLq Q W (.slice (some ⟨g,o,none⟩) (n+n) c) (n+n) T):GLq Q W (.slice (some ⟨g,o+n,none⟩) n (c-n)) n (λi=>T (n+i)):=by
 obtain⟨q,r,m,e,s,b,f,d⟩:=h;injection e with e1 e2 e3
 injection e1 with e1
 injection e1 with e1 e4
 subst e1 e3 e4;refine⟨g,o+n,c-n,rfl,oM,b,f,λj p=>?_⟩;obtain⟨x,l,k⟩:=d (n+j) oM;exact⟨x,by rw[Nat.add_assoc];exact l,k⟩
theorem GLq.low{Q:Nat->Prop}{W:Uq}{g o n c:Nat}{T:Nat->List (Nat × Bs)}(h:GLq Q W (.slice (some ⟨g,o,none⟩) (n+n) c) (n+n) T):GLq Q W (.slice (some ⟨g,o,none⟩) n c) n T:=by
 obtain⟨p,f,i,e,m,k,d,b⟩:=h;injection e with e1 e2 e3
 injection e1 with e1
 injection e1 with e1 e4
 subst e1 e3 e4;exact⟨g,o,c,rfl,oM,k,d,λj l=>b j oM⟩
theorem SLq.high{Q:Nat->Prop}{W:Uq}{g o n c:Nat}{T:Nat->Nat}(h:SLq Q W (.slice (some ⟨g,o,none⟩) (n+n) c) (n+n) T):SLq Q W (.slice (some ⟨g,o+n*4,none⟩) n (c-n)) n (λi=>T (n+i)):=by
 obtain⟨m,p,f,e,q,k,d,b⟩:=h;injection e with e1 e2 e3
 injection e1 with e1
 injection e1 with e1 e4
 subst e1 e3 e4;refine⟨g,o+n*4,c-n,rfl,oM,k,d,λj l=>?_⟩;have:=b (n+j) oM;rw[show o+4*(n+j)=o+n*4+4*j by omega]at this;exact this
theorem SLq.low{Q:Nat->Prop}{W:Uq}{g o n c:Nat}{T:Nat->Nat}(h:SLq Q W (.slice (some ⟨g,o,none⟩) (n+n) c) (n+n) T):SLq Q W (.slice (some ⟨g,o,none⟩) n c) n T:=by
 obtain⟨p,f,i,e,m,k,d,b⟩:=h;injection e with e1 e2 e3
 injection e1 with e1
 injection e1 with e1 e4
 subst e1 e3 e4;exact⟨g,o,c,rfl,oM,k,d,λj l=>b j oM⟩
def CrR(Q:Nat->Prop)(w:Uq)(n:Nat)(G H:Nat->List (Nat × Bs))(U:List (Nat × Bs))(e:Us)(w':Uq):Prop:=kZ w w'/\∃b k,e=.tuple #[.agg b,.agg k]/\b.size=3/\k.size=3/\b.all (·.oneCell')=true/\k.all (·.oneCell')=true/\GRq Q w' (.agg b) n (λi=>G (n+i)) H U/\GRq Q w' (.agg k) n G (λi=>H (n+i)) U
theorem GO{Q:Nat->Prop}(n:Nat)(he:0<n)(hn:n<=500)(G H:Nat->List (Nat × Bs))(U:List (Nat × Bs))(v:Us)(w:Uq)(h0:GRq Q w v (n+n) G H U):
 UG prog 157 #[v] w (Ret (CrR Q w n G H U)):=by
 obtain⟨vg,vh,c,rfl,h3,h4,h5⟩:=h0.ex;obtain⟨b,d,c1,rfl,h7,-⟩:=id h3;obtain⟨g,f,c2,rfl,h6,-⟩:=id h4;obtain⟨g3,c3,rfl,-⟩:=id h5;have O:Hid (GLq Q w (.slice (some ⟨b,d+n,none⟩) n (c1-n)) n (λi=>G (n+i))/\GLq Q w (.slice (some ⟨g,f,none⟩) n c2) n H/\GLq Q w (.slice (some ⟨b,d,none⟩) n c1) n G/\GLq Q w (.slice (some ⟨g,f+n,none⟩) n (c2-n)) n (λi=>H (n+i))/\SmQ Q w (.slice (some (aZ g3)) U.length c3) U):=⟨h3.high,h4.low,h3.low,h4.high,h5⟩
 have B:=Im b d (n+n) c1 n oM h7;have C:=Io g f (n+n) c2 n oM;have D:=Io b d (n+n) c1 n oM;have t:=Im g f (n+n) c2 n oM h6;rw[Nat.add_sub_cancel]at B t;obtain⟨m,hm⟩:∃m,Hid (n+n=m):=⟨_,rfl⟩
 have hq:(m:Int).tdiv 2=(n:Int):=by rw[<-hm.out,X7 oM];omega
 rw[hm.out]at B C D t;rw[hm.out];obtain⟨c,q⟩:∃v,Hid (Vv (some (aZ g3)) U.length c3=v):=⟨_,rfl⟩
 have Z:c.oneCell'=true:=by rw[<-q.out];rfl
 rw[q.out]at O;rw[q.out];obtain⟨k,R⟩:∃k,Hid (w.heap.size=k):=⟨_,rfl⟩
 obtain⟨z,y⟩:∃z,Hid (w.alloc (.cells #[.slice (some ⟨b,d,none⟩) m c1,.slice (some ⟨g,f,none⟩) m c2,c] 133)=z):=⟨_,rfl⟩
 obtain⟨P,M⟩:∃P,Hid (z.alloc (.cells #[.slice none 0 0,.slice none 0 0,.slice none 0 0] 133)=P):=⟨_,rfl⟩
 obtain⟨I,X⟩:∃I,Hid (P.alloc (.cells #[.slice none 0 0,.slice none 0 0,.slice none 0 0] 133)=I):=⟨_,rfl⟩
 have S:P.heap.size=k+2:=by rw[<-M.out,UA,<-y.out,UA,R.out]
 have E:z.heap.size=k+1:=by rw[<-y.out,UA,R.out]
 have J:Hid (Below w.heap.size w I/\Row I k [.slice (some ⟨b,d,none⟩) m c1,.slice (some ⟨g,f,none⟩) m c2,c]/\Row I (k+1) [.slice none 0 0,.slice none 0 0,.slice none 0 0]/\Row I (k+2) [.slice none 0 0,.slice none 0 0,.slice none 0 0]):=by
  have b1:Below w.heap.size w z:=by rw[<-y.out];exact aC _ _
  have p:Row z k [.slice (some ⟨b,d,none⟩) m c1,.slice (some ⟨g,f,none⟩) m c2,c]:=by rw[<-y.out,<-R.out];exact aE w _ _
  have o:=aE z [.slice none 0 0,.slice none 0 0,.slice none 0 0] 133;have l:=aE (z.alloc (.cells #[.slice none 0 0,.slice none 0 0,.slice none 0 0] 133)) [.slice none 0 0,.slice none 0 0,.slice none 0 0] 133;rw[UA,E]at l;rw[E]at o;rw[<-X.out,<-M.out];exact⟨(b1.alloc b1.size _).alloc (by rw[UA];have:=b1.size;omega) _,(p.alloc _).alloc _,o.alloc _,l⟩
 obtain⟨v0,h8⟩:∃v,Hid (U2 #[.slice (some ⟨b,d,none⟩) m c1,.slice (some ⟨g,f,none⟩) m c2,c]=v):=⟨_,rfl⟩
 have B1:Hid ((Vd 133 v0).run prog w=.ok (jZ k) z):=by rw[<-h8.out,<-y.out,<-R.out];exact CJ _ _ _ _
 rw[h8.out];have HK:Hid (w.heap.size=k):=R;have HV:Hid (c.oneCell'=true):=Z;have HZ:Hid (z.heap.size=k+1/\P.heap.size=k+2):=⟨E,S⟩
 have cK:I.cell? ⟨k,0,none⟩=some (.slice (some ⟨b,d,none⟩) m c1):=J.2.1.2.1 0 _ rfl;clear h0 h3 h4 h5 h7 h6 Z R E S;go_enter func157,ntmps157;go_wp2_with (first|(refine aF (u:=v0) (v:=jZ k) (w':=z) rfl 133 (.tmp 0) rfl ?_ ?_ ?_;rfl;exact B1.out)|(refine fB (v:=.pointer (some ⟨k+1,0,none⟩)) (w':=P) rfl 133 2 rfl rfl ?_ ?_;(rw[<-M.out,<-HZ.1];kernel_rfl))|(refine fB (v:=.pointer (some ⟨k+2,0,none⟩)) (w':=I) rfl 133 3 rfl rfl ?_ ?_;(rw[<-X.out,<-HZ.2];kernel_rfl))|fail)
 clear cK hq;obtain⟨Y,ha⟩:∃s,Hid (Vv (some ⟨b,d,none⟩) m c1=s):=⟨_,rfl⟩
 obtain⟨sh,hc⟩:∃s,Hid (Vv (some ⟨g,f,none⟩) m c2=s):=⟨_,rfl⟩
 rw[ha.out]at B D J;rw[hc.out]at C t J;obtain⟨p,N⟩:∃e,Hid ((#[.slice (some ⟨b,d+n,none⟩) n (c1-n),.slice (some ⟨g,f,none⟩) n c2,c]:Array Us)=e):=⟨_,rfl⟩
 obtain⟨A,K⟩:∃e,Hid ((#[.slice (some ⟨b,d,none⟩) n c1,.slice (some ⟨g,f+n,none⟩) n (c2-n),c]:Array Us)=e):=⟨_,rfl⟩
 have r:Hid (p.size=3/\A.size=3/\p.all (·.oneCell')=true/\A.all (·.oneCell')=true):=by
  rw[<-N.out,<-K.out,<-q.out];exact⟨rfl,rfl,kR,kR⟩
 have HI:Hid ((prog.info? 133).map (·.size)=some p.size/\(prog.info? 133).map (·.size)=some A.size/\(prog.info? 133).map (·.size)=some p.toList.length/\(prog.info? 133).map (·.size)=some A.toList.length):=by
  rw[UJ,UJ,r.1,r.2.1];exact⟨iGr,iGr,iGr,iGr⟩
 refine(gwL [pE (jZ k),pE Y,pE (iZ n),pE (.slice (some ⟨b,d+n,none⟩) n (c1-n)),pE (.pointer (some ⟨k,1,none⟩)),pE sh,pE (iZ n),pE (.slice (some ⟨g,f,none⟩) n c2),pE (.pointer (some ⟨k,2,none⟩)),pE c,pE (.agg #[.slice (some ⟨b,d+n,none⟩) n (c1-n),.slice (some ⟨g,f,none⟩) n c2,c]),
  pE (jZ k),pE Y,pE (iZ n),pE (.slice (some ⟨b,d,none⟩) n c1),pE (.pointer (some ⟨k,1,none⟩)),pE sh,pE (iZ n),pE (.slice (some ⟨g,f+n,none⟩) n (c2-n)),pE (.pointer (some ⟨k,2,none⟩)),pE c,pE (.agg #[.slice (some ⟨b,d,none⟩) n c1,.slice (some ⟨g,f+n,none⟩) n (c2-n),c]),⟨λ_ W=>Row W (k+1) p.toList,λ_ _ _ F h=>h.below F⟩] (λW=>Below w.heap.size w W/\Row W k [Y,sh,c]/\(k+1<W.heap.size/\W.there (k+1) 0 3)/\Row W (k+2) [.slice none 0 0,.slice none 0 0,.slice none 0 0]) (λW W' F h=>⟨h.1.trans (F.mono h.1.size),h.2.1.below F,⟨Uw h.2.2.1.1 F.size,dJ h.2.2.1.2 F h.2.2.1.1⟩,h.2.2.2.below F⟩)).tailS 22 (λW W'=>W'=W.setCells (k+1) 0 p.toList) 23 (λj v W W' L T hR=>by
  subst T;match j,hR,L with
  | 0,hR,_=>exact hR
  | 1,hR,_=>exact hR
  | 2,hR,_=>exact hR
  | 3,hR,_=>exact hR
  | 4,hR,_=>exact hR
  | 5,hR,_=>exact hR
  | 6,hR,_=>exact hR
  | 7,hR,_=>exact hR
  | 8,hR,_=>exact hR
  | 9,hR,_=>exact hR
  | 10,hR,_=>exact hR
  | 11,hR,_=>exact hR
  | 12,hR,_=>exact hR
  | 13,hR,_=>exact hR
  | 14,hR,_=>exact hR
  | 15,hR,_=>exact hR
  | 16,hR,_=>exact hR
  | 17,hR,_=>exact hR
  | 18,hR,_=>exact hR
  | 19,hR,_=>exact hR
  | 20,hR,_=>exact hR
  | 21,hR,_=>exact hR
  | 22,_,L=>exact absurd rfl L
  | _+23,_,_=>trivial) (λW W' T h=>by subst T;exact⟨RG.below_setCells (by rw[HK.out];omega) _ _ _ h.1,aR h.2.1 oM,⟨by rw[setCells_size];exact h.2.2.1.1,VV h.2.2.1.2 _ _ _⟩,aR h.2.2.2 oM⟩) kR kR kR ⟨
  jQ (gO 1 (jZ k)),
  jQ (fF 129 0 9 k 0 Y uGL (λx W h=>h) (λW l=>l.2.1.2.1 0 _ rfl) (λ_=>rfl)),
  jQ (gO 4 (iZ n)),
  jQ (RG.gX 1 10 2 11 B),
  jQ (gP 1 (jZ k) (.pointer (some ⟨k,1,none⟩))),
  jQ (fF 129 4 13 k 1 sh uGL (λx W h=>h) (λW l=>l.2.1.2.1 1 _ rfl) (λ_=>rfl)),
  jQ (gO 4 (iZ n)),
  jQ (RG.gX 5 14 6 15 C),
  jQ (gP 1 (jZ k) (.pointer (some ⟨k,2,none⟩))),
  jQ (fF 131 8 17 k 2 c AB (λx W h=>h) (λW l=>l.2.1.2.1 2 _ rfl) (λ_=>rfl)),
  jQ (Jm [(12,.slice (some ⟨b,d+n,none⟩) n (c1-n)),(16,.slice (some ⟨g,f,none⟩) n c2),(18,c)] (.agg #[.slice (some ⟨b,d+n,none⟩) n (c1-n),.slice (some ⟨g,f,none⟩) n c2,c]) (λa W o=>⟨o.n 3 12 kR kR,o.n 7 16 kR kR,o.n 9 18 kR kR,yCl⟩) (λ_=>rfl) (λW=>by
   rw[<-q.out];kernel_rfl)),
  jQ (gO 1 (jZ k)),
  jQ (fF 129 11 20 k 0 Y uGL (λx W h=>h) (λW l=>l.2.1.2.1 0 _ rfl) (λ_=>rfl)),
  jQ (gO 4 (iZ n)),
  jQ (RG.gX 12 21 13 22 D),
  jQ (gP 1 (jZ k) (.pointer (some ⟨k,1,none⟩))),
  jQ (fF 129 15 24 k 1 sh uGL (λx W h=>h) (λW l=>l.2.1.2.1 1 _ rfl) (λ_=>rfl)),
  jQ (gO 4 (iZ n)),
  jQ (RG.gX 16 25 17 26 t),
  jQ (gP 1 (jZ k) (.pointer (some ⟨k,2,none⟩))),
  jQ (fF 131 19 28 k 2 c AB (λx W h=>h) (λW l=>l.2.1.2.1 2 _ rfl) (λ_=>rfl)),
  jQ (Jm [(23,.slice (some ⟨b,d,none⟩) n c1),(27,.slice (some ⟨g,f+n,none⟩) n (c2-n)),(29,c)] (.agg #[.slice (some ⟨b,d,none⟩) n c1,.slice (some ⟨g,f+n,none⟩) n (c2-n),c]) (λa W o=>⟨o.n 14 23 kR kR,o.n 18 27 kR kR,o.n 20 29 kR kR,yCl⟩) (λ_=>rfl) (λW=>by
   rw[<-q.out];kernel_rfl)),
  Tj λa W o=>⟨_,by
   have h1:a.eval (.tmp 19)=.agg p:=by
    have:=o.n 10 19 kR kR;rw[<-N.out];exact this
   have h2:a.eval (.tmp 2)=.pointer (some ⟨k+1,0,none⟩):=(o.o 2 kR).trans rfl;have V:W.there (k+1) 0 p.size:=by rw[r.1];exact o.b.2.2.1.2
   unfold U4;simp only[h1,h2,Yw,X4,UU,Wq,Vl,ZA W (k+1) 0 133 p V HI.1 r.2.2.1],rfl,⟨by rw[setCells_size];exact o.b.2.2.1.1,VN W (k+1) 0 p.toList (by rw[UJ,r.1];exact o.b.2.2.1.2),VV (by rw[UJ,r.1];exact o.b.2.2.1.2) _ _ _⟩⟩,yCl⟩ ⟨J.1.drew,J.2.1,⟨J.2.2.1.1,J.2.2.1.2.2⟩,J.2.2.2⟩ ?_
 intro V w3 hR l;have o:V 21=.agg #[.slice (some ⟨b,d,none⟩) n c1,.slice (some ⟨g,f+n,none⟩) n (c2-n),c]:=hR 21 dC;have F:Row w3 (k+1) p.toList:=hR 22 dC;rw[K.out]at o;obtain⟨L,h9⟩:∃L,Hid (w3.setCells (k+2) 0 A.toList=L):=⟨_,rfl⟩
 have K5:Hid (Row L (k+1) p.toList/\Row L (k+2) A.toList/\Below w.heap.size w L):=by
  rw[<-h9.out];exact⟨aR F oM,l.2.2.2.put (by rw[UJ,r.2.1];rfl),RG.below_setCells (by rw[HK.out];omega) _ _ _ l.1⟩
 have HT:Hid (w3.there (k+2) 0 A.size):=by
  rw[r.2.1];exact l.2.2.2.2.2
 have HP:Hid (CrR Q w n G H U (.tuple #[.agg p.toList.toArray,.agg A.toList.toArray]) L):=by
  have kq:∀ {Q:Nat->Prop},Kq Q w L:=Kq.of_below K5.2.2;refine⟨K5.2.2,p,A,rfl,r.1,r.2.1,r.2.2.1,r.2.2.2,?_,?_⟩
  ·rw[<-N.out];exact⟨_,_,_,rfl,O.1.keep kq,O.2.1.keep kq,O.2.2.2.2.keep kq⟩
  ·rw[<-K.out];exact⟨_,_,_,rfl,O.2.2.1.keep kq,O.2.2.2.1.keep kq,O.2.2.2.2.keep kq⟩
 dsimp only[bU,VJ,Xk,Xl];simp only[UM,Ur,Ut,Uu];obtain⟨x2,T⟩:∃x,Hid (U2 A=x):=⟨_,rfl⟩
 rw[o,T.out];clear hR l o F B C D t;generalize V 0=s0;generalize V 1=s1;generalize V 2=s2;generalize V 3=s3;generalize V 4=s4;generalize V 5=s5;generalize V 6=s6;generalize V 7=s7;generalize V 8=s8;generalize V 9=s9;generalize V 10=s10;generalize V 11=s11;generalize V 12=s12;generalize V 13=s13;generalize V 14=s14;generalize V 15=s15;generalize V 16=s16;generalize V 17=s17;generalize V 18=s18;generalize V 19=s19;generalize V 20=s20;go_wp2_with (first|(refine U1 rfl 133 (.tmp 3) _ rfl (k+2) 0 A ?_ ?_ ?_ ?_ ?_ ?_;rfl;exact T.symm;exact HT.out;exact HI.2.1;exact r.2.2.2;rw[h9.out])|fail)
 refine UD (qE 2 3 133 133 rfl K5.1 K5.2.1 rfl rfl uGr HI.2.2.1 uGr HI.2.2.2) rfl ?_;exact⟨_,rfl,HP.out⟩
theorem GRq.ar{Q:Nat->Prop}{W:Uq}{v:Us}{n:Nat}{G H:Nat->List (Nat × Bs)}{U:List (Nat × Bs)}(h:GRq Q W v n G H U):∃e:Array Us,v=.agg e/\e.size=3/\e.all (·.oneCell')=true:=by
 obtain⟨d,i,f,rfl,⟨c,b,c1,rfl,-⟩,⟨g,j,c2,rfl,-⟩,⟨l,k,rfl,-⟩⟩:=h.ex;exact⟨_,rfl,rfl,kR⟩
structure FgI(w W:Uq)(k x xi:Nat)(vg vh vu:Us):Prop where
 bl:kZ w W
 r2:Row W k [vg,vh,vu]
 r3:Row W (k+1) (wn x)
 r4:Row W (k+2) [.slice none 0 0,.slice none 0 0,.slice none 0 0]
theorem FgI.grow{w W W':Uq}{k x d:Nat}{e f c:Us}(h:FgI w W k x d e f c)(b:kZ W W'):FgI w W' k x d e f c:=⟨h.bl.trans (b.mono h.bl.size),h.r2.below b,h.r3.below b,h.r4.below b⟩
theorem FgI.drew{w W:Uq}{k x c:Nat}{d e b:Us}(h:FgI w W k x c d e b):FgI w W.drew k x c d e b:=h.grow ⟨rfl,rfl,rfl,Uv _,λ_ _=>rfl⟩
theorem Fp(O:Ord N){Q:Nat->Prop}(n c:Nat)(ht:0<n)(G H:Nat->List (Nat × Bs))(U:List (Nat × Bs))(hG:GOk N (n+n) c G H U)(x:Nat)(hx:x<N)(v:Us)(w:Uq)(hQ:∀g,w.heap.size<=g->Q g)(h0:GRq Q w v (n+n) G H U):
 UG prog 161 #[v,nv x] w (rZ w λe w'=>GRq Q w' e n (kY N (sIn N x) x n G) (kY N x (sIn N x) n H) U):=by
 obtain⟨q,r,i,rfl,h3,h4,h5⟩:=h0.ex;have S:sIn N x<N:=V4 _ O.pos;have R:=λW=>uS O x hx W
 have K:=λ(W:Uq) (f:kZ w W)=>Jz O n (by have:=hG.nle;omega) c (by have:=hG.cle;omega) hG.c0 G (sIn N x) x S hx hG.g q W (h3.keep (Kq.of_below f))
 have J:=λ(W:Uq) (f:kZ w W)=>Jz O n (by have:=hG.nle;omega) c (by have:=hG.cle;omega) hG.c0 H x (sIn N x) hx S hG.h r W (h4.keep (Kq.of_below f))
 generalize kY N (sIn N x) x n G=Z at K⊢;generalize kY N x (sIn N x) n H=H' at J⊢;generalize sIn N x=j at R K J;have HX:=mk3 R K J;have HU:=mk2 h5 hQ;obtain⟨k,hk⟩:=hE (w.heap.size);obtain⟨p,t⟩:=hE (w.alloc (.cells #[q,r,i] 133));obtain⟨s,A⟩:=hE (p.alloc (.cells (wn x).toArray 49));obtain⟨w3,I⟩:=hE (s.alloc (.cells #[.slice none 0 0,.slice none 0 0,.slice none 0 0] 133));have L:p.heap.size=k+1:=by rw[<-t.out,UA,hk.out]
 have h8:s.heap.size=k+2:=by rw[<-A.out,UA,L]
 have K3:Hid (FgI w w3 k x j q r i):=by
  have b1:kZ w p:=by rw[<-t.out];exact aC _ _
  have l:kZ p s:=by rw[<-A.out];exact aC _ _
  have m:kZ s w3:=by rw[<-I.out];exact aC _ _
  have C:Row p k [q,r,i]:=by rw[<-t.out,<-hk.out];exact aE w _ _
  have B:Row s (k+1) (wn x):=by rw[<-A.out,<-L];exact aE p _ _
  have o:Row w3 (k+2) [.slice none 0 0,.slice none 0 0,.slice none 0 0]:=by rw[<-I.out,<-h8];exact aE s _ _
  exact⟨(b1.trans (l.mono b1.size)).trans (m.mono (UB b1.size l.size)),(C.below l).below m,B.below m,o⟩
 obtain⟨v0,h9⟩:=hE (U2 #[q,r,i]);obtain⟨vx,C⟩:=hE (nv x);have B1:Hid ((Vd 133 v0).run prog w=.ok (jZ k) p):=by rw[<-h9.out,<-t.out,<-hk.out];exact CJ _ _ _ _
 have B2:Hid ((Vd 49 vx).run prog p=.ok (.pointer (some ⟨k+1,0,none⟩)) s):=by rw[<-C.out,<-A.out,<-L];exact boxS x p
 have HZ:=mk1 (h8);obtain⟨d,hn,hl⟩:=Ux.1 u40;have HD:=mk2 hn hl;rw[h9.out,C.out];go_enter func161,ntmps161;go_wp2_with (first|(refine aF (u:=v0) (v:=jZ k) (w':=p) rfl 133 (.tmp 0) rfl ?_ ?_ ?_;rfl;exact B1.out)|(refine aF (u:=vx) (v:=.pointer (some ⟨k+1,0,none⟩)) (w':=s) rfl 49 (.tmp 1) rfl ?_ ?_ ?_;rfl;exact B2.out)|(refine fB (v:=.pointer (some ⟨k+2,0,none⟩)) (w':=w3) rfl 133 4 rfl rfl ?_ ?_;(rw[<-I.out,<-HZ.out];kernel_rfl))|(refine ldR 3 K3.r3.2.1 C u40 nSc ?_)|fail)
 rw[<-C.out];refine(HX.1 w3).mono ?_;rintro e w4 ⟨u,rfl,hj,rfl⟩;obtain⟨M,D⟩:=hE (w4.heap.size);obtain⟨w5,hi⟩:=hE (w4.alloc (.cells #[uZ 0,uZ 0,uZ 0,uZ 0] 49));obtain⟨w6,X⟩:=hE (w5.setCells M 0 (wn j));have F5:Hid (Row w5 M [uZ 0,uZ 0,uZ 0,uZ 0]/\kZ w4 w5):=by rw[<-hi.out,<-D.out];exact⟨aE w4 _ _,aC _ _⟩
 have K6:Hid (FgI w w6 k x j q r i/\Row w6 M (wn j)):=by
  rw[<-X.out];exact⟨(K3.grow hj).grow (RG.below_setCells (by rw[D.out];exact Uv _) _ _ _ F5.2),F5.1.put rfl⟩
 obtain⟨vi,h7⟩:=hE (nv j);rw[h7.out];go_wp2_with (first|(refine alR 5 D hi ?_)|(refine stR 5 X h7 F5.1.2.2 nSc (aM j) ?_)|fail)
 refine(gwL [pE (jZ k),pE q,pE (nv j),pE (nv x),pG (λg=>w.heap.size<=g/\g≠k+2) n Z,pE (oZ k 1),pE r,pE (nv x),pE (nv j),pG (λg=>w.heap.size<=g/\g≠k+2) n H',pE (oZ k 2),pE i,⟨λv W=>∃x y,v=.agg #[x,y,i]/\GLq (λg=>w.heap.size<=g/\g≠k+2) W x n Z/\GLq (λg=>w.heap.size<=g/\g≠k+2) W y n H',λ_ _ _ l ⟨x,y,h1,h2,h3⟩=>⟨x,y,h1,h2.keep (Kq.of_below l),h3.keep (Kq.of_below l)⟩⟩] (λW=>FgI w W k x j q r i/\Row W M (wn j)) (λW W' l h=>⟨h.1.grow l,h.2.below l⟩)).last 13 kR kR kR ⟨
  gO 2 (jZ k),
  fF 129 0 8 k 0 q uGL (λx W h=>h) (λW f=>f.1.r2.2.1 0 _ rfl) (λ_=>rfl),
  iD 49 5 M 0 (wn j) rSc nSc rfl (λW f=>f.2.2.1) (λ_=>rfl),
  iD 49 3 (k+1) 0 (wn x) rSc nSc rfl (λW f=>f.1.r3.2.1) (λ_=>rfl),
  rG 1 9 2 10 3 11 217 (λx y z=>#[x,y,z]) (λa b c W o l B f=>by
   obtain rfl:a=q:=o;obtain rfl:b=nv j:=l;obtain rfl:c=nv x:=B;refine(HX.2.1 W f.1.bl).mono ?_;rintro e W' ⟨u,rfl,l,m⟩;exact⟨_,rfl,l,m.mono λg F=>⟨UB f.1.bl.size F,by have:=f.1.r4.1;omega⟩⟩),
  gP 2 (jZ k) (oZ k 1),
  fF 129 5 13 k 1 r uGL (λx W h=>h) (λW f=>f.1.r2.2.1 1 _ rfl) (λ_=>rfl),
  iD 49 3 (k+1) 0 (wn x) rSc nSc rfl (λW f=>f.1.r3.2.1) (λ_=>rfl),
  iD 49 5 M 0 (wn j) rSc nSc rfl (λW f=>f.2.2.1) (λ_=>rfl),
  rG 6 14 7 15 8 16 217 (λx y z=>#[x,y,z]) (λa b c W o l B f=>by
   obtain rfl:a=r:=o;obtain rfl:b=nv x:=l;obtain rfl:c=nv j:=B;refine(HX.2.2 W f.1.bl).mono ?_;rintro e W' ⟨u,rfl,l,m⟩;exact⟨_,rfl,l,m.mono λg F=>⟨UB f.1.bl.size F,by have:=f.1.r4.1;omega⟩⟩),
  gP 2 (jZ k) (oZ k 2),
  fF 131 10 18 k 2 i AB (λx W h=>h) (λW f=>f.1.r2.2.1 2 _ rfl) (λ_=>rfl),
  bN (λa W m=>by
   have h1:=m.n 4 12 kR kR;have h2:=m.n 9 17 kR kR;have h3:=m.n 11 19 kR kR;obtain⟨P,Y,c1,T,-⟩:=id h1;obtain⟨g2,E,c2,V,-⟩:=id h2;obtain⟨g3,c3,e3,-⟩:=HU.1;rw[T]at h1;rw[V]at h2;refine⟨[(12,.slice (some ⟨P,Y,none⟩) n c1),(17,.slice (some ⟨g2,E,none⟩) n c2),(19,i)],.agg #[.slice (some ⟨P,Y,none⟩) n c1,.slice (some ⟨g2,E,none⟩) n c2,i],W,⟨T,V,h3,yCl⟩,?_,UQ _ _,⟨_,_,rfl,h1,h2⟩⟩;rw[e3];kernel_rfl),yCl⟩ ⟨K6.1.drew,K6.2⟩ ?_
 intro V E hR f;obtain⟨o,m,hV,T,Y⟩:∃x y,V 12=.agg #[x,y,i]/\GLq (λg=>w.heap.size<=g/\g≠k+2) E x n Z/\GLq (λg=>w.heap.size<=g/\g≠k+2) E y n H':=hR 12 dC;have hm:=HU.1.keep (Kq.of_below f.1.bl);have B:∀g,w.heap.size<=g/\g≠k+2->Q g:=λg F=>HU.2 g F.1
 have gr:GRq Q E (.agg #[o,m,i]) n Z H' U:=⟨_,_,_,rfl,T.mono B,Y.mono B,hm⟩
 obtain⟨e,he,hr,hq⟩:=gr.ar;obtain rfl:#[o,m,i]=e:=by injection he
 obtain⟨w8,h6⟩:=hE (E.setCells (k+2) 0 [o,m,i]);have K8:Hid (kZ w w8/\Row w8 (k+2) [o,m,i]/\GRq Q w8 (.agg #[o,m,i]) n Z H' U):=by
  rw[<-h6.out];have kq:Kq (λg=>w.heap.size<=g/\g≠k+2) E (E.setCells (k+2) 0 [o,m,i]):=Kq.set λg F=>F.2
  have P:kZ w (E.setCells (k+2) 0 [o,m,i]):=RG.below_setCells (by rw[hk.out];omega) _ _ _ f.1.bl;exact⟨P,f.1.r4.put rfl,_,_,_,rfl,(T.keep kq).mono B,(Y.keep kq).mono B,HU.1.keep (Kq.of_below P)⟩
 have HT:=mk2 f.1.r4.2.2 hq;dsimp only[bU,VJ,Xk,Xl];simp only[UM,Ur,Ut,Uu];obtain⟨ve,P⟩:=hE (U2 #[o,m,i]);rw[hV,P.out];go_wp2_with (first|(refine U1 rfl 133 (.tmp 4) _ rfl (k+2) 0 #[o,m,i] ?_ ?_ ?_ ?_ ?_ ?_;rfl;exact P.symm;exact HT.1;exact iGr;exact HT.2;rw[show(#[o,m,i]:Array Us).toList=[o,m,i] from rfl,h6.out])|fail)
 refine UD (aG 4 133 rfl K8.2.1 rfl uGr iGr) rfl ?_;exact⟨_,rfl,K8.1,K8.2.2⟩
def lgV(r:Nat):Us:=.agg #[jZ r]
theorem uLg:(prog.underlying 145).map (·.isRow)=some true:=kR
theorem iLg:(prog.info? 145).map (·.size)=some 1:=kR
theorem uLp:(prog.underlying 141).map (·.isRow)=some false:=kR
theorem Na(r:Nat)(w:Uq):(Vd 145 (lgV r)).run prog w=.ok (jZ w.heap.size) (w.alloc (.cells #[jZ r] 145)):=kR
theorem fE{W:Uq}{r K o:Nat}{vs:List Us}{L:Bs}(h:Holds encB W r 0 L)(k:r≠K):Holds encB (W.setCells K o vs) r 0 L:=λj b=>by
 have e:=aH K vs o W r k;rw[UV (a:=⟨r,0+j,none⟩) e,VT (a:=⟨r,0+j,none⟩) e];exact h j b
theorem GF(k:ByteArray)(w:Uq)(c:k.size<=1048576):UG prog 144 #[.string k] w (rZ w λe w'=>∃r,e=lgV r/\w.heap.size<=r/\r<w'.heap.size/\Holds encB w' r 0 (newL k.data.toList)):=by
 obtain⟨L,q⟩:=hE (newL k.data.toList);rw[q.out];obtain⟨n,f⟩:=hE (w.alloc (.cells #[.pointer none] 145));have j:Hid (Row n w.heap.size [.pointer none]/\kZ w n):=by rw[<-f.out];exact⟨aE w _ _,aC w _⟩
 go_enter func144,ntmps144;go_wp2_with fail
 rw[f.out];refine(Gp k n c).mono ?_;rintro e s ⟨u,rfl,d,r,rfl,p,o,b⟩;rw[q.out]at b;have t:=Uw j.1.1 p;have i:=mk4 (j.1.below d) (j.2.trans (d.mono j.2.size)) b o;obtain⟨l,g⟩:=hE (s.setCells w.heap.size 0 [jZ r]);have m:Hid (Row l w.heap.size [jZ r]/\kZ w l/\Holds encB l r 0 L/\r<l.heap.size):=by
  rw[<-g.out];exact⟨i.1.put rfl,RG.below_setCells (Uv _) _ _ _ i.2.1,fE i.2.2.1 oM,by rw[setCells_size];exact i.2.2.2⟩
 go_wp2_with (refine bG (v:=.agg #[jZ r]) (w':=s) rfl (.build 145 _) rfl ?_ ?_;kernel_rfl;refine Zf ?_)
 show wpList _ _ _ _ _ _;refine U1 rfl 145 _ _ rfl w.heap.size 0 #[jZ r] ?_ ?_ ?_ ?_ ?_ ?_
 ·kernel_rfl
 ·kernel_rfl
 ·exact i.1.2.2
 ·exact iLg
 ·kernel_rfl
 rw[show(#[jZ r]).toList=[jZ r] from rfl,g.out];go_wp2;refine UD (aG 2 145 rfl m.1 rfl uLg iLg) rfl ?_;exact⟨_,rfl,m.2.1,r,rfl,oM,m.2.2.2,m.2.2.1⟩
theorem yX(O:Ord N)(r:Nat)(L:Bs)(w:Uq)(q:Holds encB w r 0 L)(G:L.size=32):
 UG prog 209 #[.agg #[jZ r]] w (Ret λe w'=>SP.Only r 0 32 w w'/\Holds encB w' r 0 (bB L)/\e=nv (cha N L)):=by
 have x:=Holds.lt q oM;obtain⟨k,c⟩:∃k,Hid ((w.alloc (.cells #[jZ r] 143)).alloc (.cells #[uZ 0,uZ 0,uZ 0,uZ 0] 49)=k):=⟨_,rfl⟩
 have p:Hid (Row k (w.heap.size+1) [uZ 0,uZ 0,uZ 0,uZ 0]/\kZ w k/\Holds encB k r 0 L/\k.rangeAt w.heap.size 0 [jZ r]):=by
  rw[<-c.out];have b:kZ w ((w.alloc (.cells #[jZ r] 143)).alloc (.cells #[uZ 0,uZ 0,uZ 0,uZ 0] 49)):=(aC w _).alloc (by rw[UA];omega) _;have hR:=aE (w.alloc (.cells #[jZ r] 143)) [uZ 0,uZ 0,uZ 0,uZ 0] 49;rw[UA]at hR;exact⟨hR,b,Holds.below q b x,((aE w [jZ r] 143).alloc _).2.1⟩
 clear q;obtain⟨d,g,i⟩:=Ux.1 u124;have y:Hid (prog.underlying 143=some d/\d.isRow=true):=⟨g,i⟩
 clear g i;have A:=Di O r L ⟨#[99,104,97,108,108,101,110,103,101]⟩ k dC p.2.2.1 G;have l:oS N (CN L (⟨#[99,104,97,108,108,101,110,103,101]⟩:ByteArray).data.toList 64)=cha N L:=rfl;have f:tI L (⟨#[99,104,97,108,108,101,110,103,101]⟩:ByteArray).data.toList=bB L:=rfl;rw[l,f]at A;have u:(bB L).size=32:=bE _ _;have z:=Hid.mk' A;obtain⟨m,B⟩:=hE (cha N L);obtain⟨E,b⟩:=hE (bB L);rw[B.out,b.out]at z;rw[b.out]at u;rw[B.out,b.out];go_enter func209,ntmps209;go_wp2_with (refine U5 rfl 143 _ rfl w.heap.size 0 ?_ [jZ r] d ?_ ?_ ?_ ?_ ?_;kernel_rfl;(rw[c.out];exact p.2.2.2);exact y.1;exact y.2;exact i124;rw[c.out])
 refine z.mono ?_;rintro e F ⟨v,rfl,C,a,rfl⟩;have D:=Holds.lt a oM;have o:=mk3 (p.1.only C oM) ((SP.Only.of_below p.2.1 rfl x).trans C) a;obtain⟨s,n⟩:=hE (F.setCells (w.heap.size+1) 0 (wn m));have t:Hid (Row s (w.heap.size+1) (wn m)/\SP.Only r 0 32 w s/\Holds encB s r 0 E):=by rw[<-n.out];exact⟨o.1.put rfl,dW o.2.1 x oM _,fE o.2.2 oM⟩
 obtain⟨H,j⟩:=hE (nv m);rw[j.out];go_wp2_with (refine U1 rfl 49 _ _ rfl (w.heap.size+1) 0 (wn m).toArray ?_ ?_ ?_ ?_ ?_ ?_;rfl;exact j.symm;exact o.1.2.2;exact i40;exact aM m;rw[show(wn m).toArray.toList=wn m from rfl,n.out])
 refine UD (aG 2 49 rfl t.1 rfl u40 i40) rfl ?_;exact⟨_,rfl,t.2.1,t.2.2,rfl⟩
def chS(N:Nat)(L:Bs):Nat:=tZ (cha N L)
theorem FD[NeZero N](d:1<N)(L:Bs)(b:cha N L<N):chS N L=(kM N L).val:=by
 unfold chS kM Ms tZ;generalize cha N L=c at b;have hv:(ofF N c).val=c:=UR b;by_cases k:c=0
 ·subst k;rw[yCj rfl,yCj rB];exact(UR d).symm
 ·rw[yCk k,yCk (λe=>k (by rw[<-hv,e];exact YM N)),hv]
theorem yF(O:Ord N)(r:Nat)(L:Bs)(w:Uq)(u:Holds encB w r 0 L)(P:L.size=32):
 UG prog 147 #[lgV r] w (Ret λe w'=>SP.Only r 0 32 w w'/\Holds encB w' r 0 (bB L)/\e=nv (chS N L)):=by
 have a:=Holds.lt u oM;obtain⟨k,c⟩:∃k,Hid ((w.alloc (.cells #[jZ r] 145)).alloc (.cells #[uZ 0,uZ 0,uZ 0,uZ 0] 49)=k):=⟨_,rfl⟩
 have p:Hid (Row k (w.heap.size+1) [uZ 0,uZ 0,uZ 0,uZ 0]/\kZ w k/\Holds encB k r 0 L/\k.rangeAt w.heap.size 0 [jZ r]):=by
  rw[<-c.out];have b:kZ w ((w.alloc (.cells #[jZ r] 145)).alloc (.cells #[uZ 0,uZ 0,uZ 0,uZ 0] 49)):=(aC w _).alloc (by rw[UA];omega) _;have hR:=aE (w.alloc (.cells #[jZ r] 145)) [uZ 0,uZ 0,uZ 0,uZ 0] 49;rw[UA]at hR;exact⟨hR,b,Holds.below u b a,((aE w [jZ r] 145).alloc _).2.1⟩
 clear u;obtain⟨d,i,j⟩:=Ux.1 u124;have D:Hid (prog.underlying 143=some d/\d.isRow=true):=⟨i,j⟩
 clear i j;have Q:=yX O r L k p.2.2.1 P;have A:cha N L<N:=uU O _;have n:=λW=>Mo O A W
 have B:tZ (cha N L)=chS N L:=rfl;rw[B]at n;have z:(bB L).size=32:=bE _ _;obtain⟨m,G⟩:=hE (cha N L);obtain⟨q,C⟩:=hE (chS N L);obtain⟨K,b⟩:=hE (bB L);have E:=Hid.mk' Q;have H:=Hid.mk' n;rw[G.out,b.out]at E;rw[G.out,C.out]at H;rw[b.out]at z;rw[C.out,b.out];unfold lgV;go_enter func147,ntmps147;go_wp2_with (refine U5 rfl 143 _ rfl w.heap.size 0 ?_ [jZ r] d ?_ ?_ ?_ ?_ ?_;kernel_rfl;(rw[c.out];exact p.2.2.2);exact D.1;exact D.2;exact i124;rw[c.out])
 refine E.mono ?_;rintro e M ⟨v,rfl,I,F,rfl⟩;have g:=Holds.lt F oM;have t:=mk3 (p.1.only I oM) ((SP.Only.of_below p.2.1 rfl a).trans I) F;go_wp2_with fail
 refine(H M).mono ?_;rintro e J ⟨S,rfl,f,rfl⟩;have s:=mk3 (t.1.below f) (t.2.1.trans (SP.Only.of_below f rfl g)) (Holds.below t.2.2 f g);obtain⟨x,o⟩:=hE (J.setCells (w.heap.size+1) 0 (wn q));have y:Hid (Row x (w.heap.size+1) (wn q)/\SP.Only r 0 32 w x/\Holds encB x r 0 K):=by rw[<-o.out];exact⟨s.1.put rfl,dW s.2.1 a oM _,fE s.2.2 oM⟩
 obtain⟨R,l⟩:=hE (nv q);rw[l.out];go_wp2_with (refine U1 rfl 49 _ _ rfl (w.heap.size+1) 0 (wn q).toArray ?_ ?_ ?_ ?_ ?_ ?_;rfl;exact l.symm;exact s.1.2.2;exact i40;exact aM q;rw[show(wn q).toArray.toList=wn q from rfl,o.out])
 refine UD (aG 2 49 rfl y.1 rfl u40 i40) rfl ?_;exact⟨_,rfl,y.2.1,y.2.2,rfl⟩
structure CaI(w W:Uq)(k r:Nat)(X Y L:Bs):Prop where
 on:SP.Only r 0 32 w W
 r0:Row W k [jZ r]
 r1:Row W (k+1) (aA X)
 r2:Row W (k+2) (aA Y)
 r3:Row W (k+3) [uZ 0,uZ 0,uZ 0,uZ 0]
 lg:Holds encB W r 0 L
theorem CaI.grow{w W W':Uq}{k r:Nat}{X Y L:Bs}(h:CaI w W k r X Y L)(d:L.size=32)(b:kZ W W'):CaI w W' k r X Y L:=
 have c:=Holds.lt h.lg oM
 ⟨h.on.trans (SP.Only.of_below b rfl c),h.r0.below b,h.r1.below b,h.r2.below b,h.r3.below b,Holds.below h.lg b c⟩
theorem CaI.say{w W W':Uq}{k r:Nat}{X Y L c:Bs}(h:CaI w W k r X Y L)(e:r<k)(b:SP.Only r 0 32 W W')(d:Holds encB W' r 0 c):CaI w W' k r X Y c:=
 ⟨h.on.trans b,h.r0.only b oM,h.r1.only b oM,h.r2.only b oM,h.r3.only b oM,d⟩
theorem sW(O:Ord N)(r:Nat)(L X Y:Bs)(j i:ByteArray)(h1:j.size<=1048576)(h2:i.size<=1048576)(hX:X.size=33)(hY:Y.size=33)(w:Uq)(hL:Holds encB w r 0 L)(hl:L.size=32):
 UG prog 146 #[lgV r,.string j,pvl X,.string i,pvl Y] w (Ret λe w'=>SP.Only r 0 32 w w'/\Holds encB w' r 0 (bB (jW j.data.toList i.data.toList L X Y))/\e=nv (chS N (jW j.data.toList i.data.toList L X Y))):=by
 have Z:=Holds.lt hL oM;obtain⟨G,E⟩:∃G,Hid (uN L j.data.toList X.toList=G):=⟨_,rfl⟩
 have s1:G.size=32:=by rw[<-E.out];exact kP _ _ _
 obtain⟨z,C⟩:∃z,Hid (uN G i.data.toList Y.toList=z):=⟨_,rfl⟩
 have s2:z.size=32:=by rw[<-C.out];exact kP _ _ _
 have e2:jW j.data.toList i.data.toList L X Y=z:=by unfold jW;rw[E.out,C.out]
 rw[e2];obtain⟨k,I⟩:∃k,Hid (w.heap.size=k):=⟨_,rfl⟩
 obtain⟨c,g⟩:∃c,Hid (w.alloc (.cells #[jZ r] 145)=c):=⟨_,rfl⟩
 obtain⟨b,o⟩:∃b,Hid (c.alloc (.cells (aA X).toArray 103)=b):=⟨_,rfl⟩
 obtain⟨f,l⟩:∃f,Hid (b.alloc (.cells (aA Y).toArray 103)=f):=⟨_,rfl⟩
 obtain⟨D,H⟩:∃D,Hid (f.alloc (.cells #[uZ 0,uZ 0,uZ 0,uZ 0] 49)=D):=⟨_,rfl⟩
 have z1:c.heap.size=k+1:=by rw[<-g.out,UA,I.out]
 have z2:b.heap.size=k+2:=by rw[<-o.out,UA,z1]
 have z3:f.heap.size=k+3:=by rw[<-l.out,UA,z2]
 have B:r<k:=by rw[<-I.out];exact Z
 have HK:Hid (w.heap.size<=k):=by show _<=_;rw[I.out];exact Uv _
 have K4:Hid (CaI w D k r X Y L):=by
  have b1:kZ w c:=by rw[<-g.out];exact aC _ _
  have n:kZ c b:=by rw[<-o.out];exact aC _ _
  have p:kZ b f:=by rw[<-l.out];exact aC _ _
  have s:kZ f D:=by rw[<-H.out];exact aC _ _
  have A:Row c k [jZ r]:=by rw[<-g.out,<-I.out];exact aE w _ _
  have a:Row b (k+1) (aA X):=by rw[<-o.out,<-z1];exact aE c _ _
  have y:Row f (k+2) (aA Y):=by rw[<-l.out,<-z2];exact aE b _ _
  have F:Row D (k+3) [uZ 0,uZ 0,uZ 0,uZ 0]:=by rw[<-H.out,<-z3];exact aE f _ _
  have t:kZ w D:=((b1.trans (n.mono b1.size)).trans (p.mono (UB b1.size n.size))).trans (s.mono (UB b1.size (UB n.size p.size)));exact⟨SP.Only.of_below t rfl Z,((A.below n).below p).below s,(a.below p).below s,y.below s,F,Holds.below hL t Z⟩
 obtain⟨vl,J⟩:∃v,Hid (lgV r=v):=⟨_,rfl⟩
 obtain⟨vX,U⟩:∃v,Hid (pvl X=v):=⟨_,rfl⟩
 obtain⟨vY,S⟩:∃v,Hid (pvl Y=v):=⟨_,rfl⟩
 have B1:Hid ((Vd 145 vl).run prog w=.ok (jZ k) c):=by rw[<-J.out,<-g.out,<-I.out];exact Na r w
 have B2:Hid ((Vd 103 vX).run prog c=.ok (.pointer (some ⟨k+1,0,none⟩)) b):=by rw[<-U.out,<-o.out,<-z1];exact rM hX c
 have B3:Hid ((Vd 103 vY).run prog b=.ok (.pointer (some ⟨k+2,0,none⟩)) f):=by rw[<-S.out,<-l.out,<-z2];exact rM hY b
 have HZ:Hid (f.heap.size=k+3):=z3;rw[J.out,U.out,S.out];have Q:Hid (Ord N/\j.size<=1048576/\i.size<=1048576/\X.size=33/\Y.size=33):=⟨O,h1,h2,hX,hY⟩
 clear hL z1 z2 z3 g o l I e2 O h1 h2 hX hY;go_enter func146,ntmps146;go_wp2_with (first|(refine aF (u:=vl) (v:=jZ k) (w':=c) rfl 145 (.tmp 0) rfl ?_ ?_ ?_;rfl;exact B1.out)|(refine aF (u:=vX) (v:=.pointer (some ⟨k+1,0,none⟩)) (w':=b) rfl 103 (.tmp 2) rfl ?_ ?_ ?_;rfl;exact B2.out)|(refine aF (u:=vY) (v:=.pointer (some ⟨k+2,0,none⟩)) (w':=f) rfl 103 (.tmp 4) rfl ?_ ?_ ?_;rfl;exact B3.out)|(refine fB (v:=.pointer (some ⟨k+3,0,none⟩)) (w':=D) rfl 49 10 rfl rfl ?_ ?_;(rw[<-H.out,<-HZ.out];kernel_rfl))|fail)
 refine(gwL [pE (jZ k),pE (jZ k),pE (jZ r),pE (.string j),pE (.slice (some ⟨k+1,0,none⟩) 33 33)] (λW=>CaI w W k r X Y L) (λW W' hb h=>h.grow hl hb)).tail2 5 kR kR kR ⟨
  gO 5 (jZ k),
  rF 0 11 (jZ k) (jZ k) (λx W h=>h) (λ_=>rfl),
  fF 141 1 12 k 0 (jZ r) uLp (λx W h=>h) (λW a=>a.r0.2.1 0 _ rfl) (λ_=>rfl),
  gO 1 (.string j),
  gP 7 (.pointer (some ⟨k+1,0,none⟩)) (.slice (some ⟨k+1,0,none⟩) 33 33),yCl⟩ (K4.grow hl ⟨rfl,rfl,rfl,Uv _,λ_ _=>rfl⟩) ?_
 intro V w5 hR a;have s:V 2=jZ r:=hR 2 dC;have n:V 3=.string j:=hR 3 dC;have p:V 4=.slice (some ⟨k+1,0,none⟩) 33 33:=hR 4 dC;dsimp only[bU,VJ,Xk,Xl];simp only[UM,Ur,Ut,Uu];rw[s,n,p];have y:=Hid.mk' a;clear hR a s n p K4;generalize V 0=s0;generalize V 1=h3;go_wp2_with fail
 refine(Bq r L j (some ⟨k+1,0,none⟩) 33 33 X.toList w5 Q.2.1 (OG y.lg) hl (wO Q.2.2.2.1 y.r1)).mono ?_;rintro e w6 ⟨rfl,A,t⟩;rw[E.out]at t;have K6:Hid (CaI w w6 k r X Y G):=y.say B A (OE t);clear A t y;go_wp2_with fail
 refine(gwL [pE (jZ k),pE (jZ k),pE (jZ r),pE (.string i),pE (.slice (some ⟨k+2,0,none⟩) 33 33)] (λW=>CaI w W k r X Y G) (λW W' hb h=>h.grow s1 hb)).tail2 5 kR kR kR ⟨
  gO 5 (jZ k),
  rF 0 17 (jZ k) (jZ k) (λx W h=>h) (λ_=>rfl),
  fF 141 1 18 k 0 (jZ r) uLp (λx W h=>h) (λW a=>a.r0.2.1 0 _ rfl) (λ_=>rfl),
  gO 3 (.string i),
  gP 9 (.pointer (some ⟨k+2,0,none⟩)) (.slice (some ⟨k+2,0,none⟩) 33 33),yCl⟩ (K6.grow s1 ⟨rfl,rfl,rfl,Uv _,λ_ _=>rfl⟩) ?_
 intro V w7 hR a;have s:V 2=jZ r:=hR 2 dC;have n:V 3=.string i:=hR 3 dC;have p:V 4=.slice (some ⟨k+2,0,none⟩) 33 33:=hR 4 dC;dsimp only[bU,VJ,Xk,Xl];simp only[UM,Ur,Ut,Uu];rw[s,n,p];have y:=Hid.mk' a;clear hR a s n p K6;generalize V 0=h4;generalize V 1=s3;go_wp2_with fail
 refine(Bq r G i (some ⟨k+2,0,none⟩) 33 33 Y.toList w7 Q.2.2.1 (OG y.lg) s1 (wO Q.2.2.2.2 y.r2)).mono ?_;rintro e w8 ⟨rfl,A,t⟩;rw[C.out]at t;have K8:Hid (CaI w w8 k r X Y z):=y.say B A (OE t);clear A t y;have HS:=Hid.mk' (yF Q.1 r z w8 K8.lg s2);have h0:(bB z).size=32:=bE _ _;obtain⟨q,hq⟩:∃m,Hid (chS N z=m):=⟨_,rfl⟩
 obtain⟨L3,F⟩:∃m,Hid (bB z=m):=⟨_,rfl⟩
 rw[hq.out,F.out]at HS;rw[F.out]at h0;obtain⟨d,T,M⟩:=Ux.1 uLg;have HD:Hid (prog.underlying 145=some d/\d.isRow=true):=⟨T,M⟩
 clear T M;go_wp2_with (first|(refine U5 rfl 145 (.tmp 5) rfl k 0 ?_ [jZ r] d ?_ ?_ ?_ ?_ ?_;rfl;exact K8.r0.2.1;exact HD.1;exact HD.2;exact iLg;skip)|fail)
 refine HS.mono ?_;rintro e w9 ⟨v,rfl,A,t,rfl⟩;have K9:Hid (CaI w w9 k r X Y L3):=K8.say B A t;clear A t K8 HS;obtain⟨P,K⟩:∃P,Hid (w9.setCells (k+3) 0 (wn q)=P):=⟨_,rfl⟩
 have KA:Hid (Row P (k+3) (wn q)/\SP.Only r 0 32 w P/\Holds encB P r 0 L3):=by
  have R:=HZ.out;rw[<-K.out];exact⟨K9.r3.put rfl,dW K9.on Z (by have:=HK.out;omega) _,fE K9.lg oM⟩
 obtain⟨vm,R⟩:∃vm,Hid (nv q=vm):=⟨_,rfl⟩
 rw[R.out];go_wp2_with (refine U1 rfl 49 _ _ rfl (k+3) 0 (wn q).toArray ?_ ?_ ?_ ?_ ?_ ?_;rfl;exact R.symm;exact K9.r3.2.2;exact nSc;exact aM q;rw[show(wn q).toArray.toList=wn q from rfl,K.out])
 refine UD (aG 10 49 rfl KA.1 rfl rSc nSc) rfl ?_;exact⟨_,rfl,KA.2.1,by rw[F.out];exact KA.2.2,by rw[hq.out];rfl⟩
theorem v7:prog.underlying 24=some (.slice 23):=kR
theorem Je:(prog.info? 23).map (λi=>(i.size,i.bytes,i.zero.map λz=>z.cells.size))=some (1,24,some 1):=kR
theorem lH(g o j:Nat):(⟨g,o,none⟩:Wt).add j=⟨g,o+j,none⟩:=by
 unfold Zi;by_cases k:j=0
 ·subst k;rw[yCj rfl];rfl
 ·rw[yCk k]
structure VL(w:Uq)(q:Option Wt)(m:Nat)(ys:List Us):Prop where
 len:ys.length=m
 nil:q=none->m=0
 cells:ys=[]\/∃b o,q=some ⟨b,o,none⟩/\b<w.heap.size/\∀(j:Nat) u,ys[j]? = some u->w.cell? ⟨b,o+j,none⟩=some u
 one:∀u∈ys,u.oneCell'=true
theorem VL.below{w w':Uq}{q:Option Wt}{m:Nat}{ys:List Us}(h:VL w q m ys)(c:kZ w w'):VL w' q m ys:=
 ⟨h.len,h.nil,by
  rcases h.cells with g|⟨b,o,f,k,e⟩
  ·exact U3 g
  ·exact UW ⟨b,o,f,Uw k c.size,λj u d=>by rw[c.cell (p:=⟨b,o+j,none⟩) k];exact e j u d⟩,h.one⟩
structure GLs(w W:Uq)(v:Us)(xs:List Us):Prop where
 bl:kZ w W
 ow:W.ownsRow w.heap.size 23 1 v xs.length xs
 nn:v.ownBlock≠none
theorem GLs.lt{w W:Uq}{v:Us}{xs:List Us}(h:GLs w W v xs):∃g cap,v=sZ g xs.length cap/\w.heap.size<=g/\g<W.heap.size:=by
 rcases id h.ow with⟨-,⟨rfl,d⟩|⟨g,cap,cur,rfl,c,k,-⟩⟩
 ·exact absurd rfl h.nn
 ·refine⟨g,cap,rfl,c,?_⟩;by_cases b:g<W.heap.size
  ·exact b
  ·rw[WM oM]at k;cases k
theorem GLs.below{w W W':Uq}{v:Us}{xs:List Us}(h:GLs w W v xs)(c:kZ W W'):GLs w W' v xs:=by
 refine⟨h.bl.trans (c.mono h.bl.size),?_,h.nn⟩;rcases h.ow with⟨d,b|⟨g,cap,cur,b,f,k,i⟩⟩
 ·exact⟨d,U3 b⟩
 ·refine⟨d,UW ⟨g,cap,cur,b,f,?_,i⟩⟩;rw[c.block g (by
   by_cases e:g<W.heap.size
   ·exact e
   ·rw[WM oM]at k;cases k)]
  exact k
theorem GLs.app2{w W:Uq}{v:Us}{xs ys:List Us}{q:Option Wt}{m c:Nat}(h:GLs w W v xs)(hx:VL W q m ys)(J:xs.length+m<=1000000):
 ∃n W',(Vr #[24,24] 24 #[v,.slice q m c]).run prog W=.ok n W'/\GLs w W' n (xs++ys)/\W.heap.size<=W'.heap.size:=by
 obtain⟨i,t,s⟩:=Ux.1 Je;simp only[V5.injEq]at s;obtain⟨I,D,F⟩:=s;obtain⟨z,G,r⟩:=Ux.1 F;obtain⟨g,cap,rfl,C,A⟩:=h.lt;cases q with
 | none =>
  have y:=hx.nil rfl;subst y;obtain rfl:ys=[]:=List.length_eq_zero_iff.1 hx.len;rcases id h.ow with⟨-,⟨d,-⟩|⟨B,f,cur,d,E,K,x,H⟩⟩
  ·cases d
  ·injection d with d _ h0'
   injection d with d
   injection d with d
   subst d h0';have p:=Y6 (P:=prog) W 24 24 24 23 i v7 t g 0 xs.length cap (.slice none 0 c) 0 [] (yB8 (e':=23) _ v7 c) x (λj e=>by cases e) (λj e=>by cases e);refine⟨_,_,p,?_,Uv _⟩;rw[Xt];exact h
 | some a =>
  obtain⟨n,W',x,p,d,E⟩:=Y1 (P:=prog) W w.heap.size 24 24 23 i z 1 24 v7 t G I D r dC _ xs.length xs h.ow a m c ys (by rw[hx.len];omega)
   (λj u e=>by
    rcases hx.cells with rfl|⟨b,o,y,-,H⟩
    ·cases e
    ·obtain rfl:=UN.inj y;rw[lH];exact H j u e) hx.one (by unfold maxLen;omega) oM h.bl.size
  refine⟨n,W',x,⟨⟨by rw[d.os,h.bl.os],by rw[d.tape,h.bl.tape],by rw[d.output,h.bl.output],UB h.bl.size d.size,λk e=>?_⟩,?_,?_⟩,d.size⟩
  ·rw[d.block k (Uw e h.bl.size) (by simp[V8];omega)];exact h.bl.block k e
  ·rw[Uz,hx.len];exact p
  ·rcases p.2 with⟨y,-⟩|⟨B,f,cur,rfl,-⟩
   ·have:=(E.1 y).1;exact absurd this (by simp)
   ·simp[V8]
theorem GLs.app{w W:Uq}{v:Us}{xs ys:List Us}{q:Option Wt}{m c:Nat}(h:GLs w W v xs)(hx:VL W q m ys)(b:xs.length+m<=1000000):
 ∃k W',(Vr #[24,24] 24 #[v,.slice q m c]).run prog W=.ok k W'/\GLs w W' k (xs++ys):=by
 obtain⟨k,W',e,d,-⟩:=h.app2 (c:=c) hx b;exact⟨k,W',e,d⟩
end
end Go.Proofs.YtdoammpgchejcaaGreat
