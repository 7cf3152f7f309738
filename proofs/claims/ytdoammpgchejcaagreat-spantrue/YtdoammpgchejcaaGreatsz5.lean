import Derived.Deep.AppendSrc
import Derived.Lib.ConvBytes
import Derived.Laws.MathBits
import Derived.Deep.LoopGhost
import Derived.Laws.AppendOwn
import Derived.Test.YtdoammpgchejcaaGreatsz4
set_option linter.unusedVariables false
set_option linter.constructorNameAsVariable false
set_option linter.unusedSimpArgs false
set_option maxRecDepth 1000000
set_option maxHeartbeats 4000000
namespace Go.Proofs.YtdoammpgchejcaaGreat
open EC NT RG SP
open _root_.And renaming intro->V1
open _root_.Array renaming all_eq_true'->WX,getD_eq_getD_getElem?->UI,getElem?_eq_getElem->U0,getElem?_eq_none->WN,getElem?_eq_some_iff->UZ,getElem?_toList->Vq,length_toList->UK,mapM_eq_mapM_toList->XA,toArray_toList->XD
open _root_.Bool renaming and_eq_true->UL,or_eq_true->Xv
open _root_.Fin renaming ext->X8,val_add->yAD,val_mul->XJ
open _root_.Go renaming Addr->Wu,Calls->UH,Exit->Yo,FuncId->Xq,Oper->Vk,Program->VD,Tmp->WC,TypeId->U8,Value->Ut,World->Ur,bodyPost_ret->UE,execOp->U5,run_append_own->Y1,run_append_room_src->Y6,run_loadVar_mid->Ye,run_storeVar_mid->ZA,size_madeCells->YI,undef->WP,wpList_load_mid->U6,wpList_plain->Xg,wpList_store_mid->U2,wpOp_mono->Zz,wp_block->XH,wp_cond_false->VI,wp_cond_true->VE,wp_ret->Wp,wp_seq->Uz,wp_skip->WS
open _root_.Go.Act renaming put->UN
open _root_.Go.Addr renaming add->Zi
open _root_.Go.Builtin renaming append_->Vt,zeroCells->WE
open _root_.Go.Code renaming region->V4
open _root_.Go.Instr renaming box->Ve,build->Zg,indexAt->Vl,makeSlice->XC,sliceAt->Xn,storeAt->Yw,sureAddr->X4
open _root_.Go.IntKind renaming i64->VS,wrap_i64->Yj
open _root_.Go.Next renaming value->Xp
open _root_.Go.Oper renaming wp->VT
open _root_.Go.Region renaming binds->VP,ready->U7
open _root_.Go.Result renaming andThen_ok->Vm
open _root_.Go.RowKit.Below renaming refl->UR
open _root_.Go.RowKit.Hid renaming out->Zf
open _root_.Go.Sem renaming run_bind->UV,run_pure->Wr
open _root_.Go.Src renaming ofNil->yB8
open _root_.Go.Value renaming agg->U3,func->Z0,ownBlock->V9,slice->Vw
open _root_.Go.World renaming cell?_of_block->UW,frozen?_of_block->VU,rangeAt_setCells_apart->Vh,rangeAt_setCells_same->VO,setCells->YJ,size_alloc->UB,there_setCells->VW
open _root_.Int renaming natCast_add->yBs,natCast_mul->Xw,tdiv_eq_ediv_of_nonneg->X7,toNat_natCast->X0
open _root_.List renaming all_eq_true->Va,any_eq_true->yA4,append_nil->Xu,drop->Xm,drop_length->yA2,flatMap_append->Zq,getElem?_eq_getElem->UG,getElem?_eq_some_iff->UF,getElem_mem->VH,length_append->UA,length_map->UQ,mapM_cons->YP,mapM_nil->YZ,mem_append->Wz,mem_cons_of_mem->Vb,mem_cons_self->Vu,mem_map->Vn,mem_range->V0,mem_singleton->WM,mem_toArray->X6,not_mem_nil->UY,range->VG,setIfInBounds_toArray->Us,set_cons_succ->Uu,set_cons_zero->Uv,size_toArray->VC,take->Xl
open _root_.Nat renaming div_eq_of_lt->Xe,le_of_ble_eq_true->VR,le_of_eq->YO,le_refl->Uw,le_trans->UC,lt_of_lt_of_le->Ux,lt_of_succ_le->Xj,lt_or_ge->Wq,mod_eq_of_lt->US,mod_lt->V5,mul_comm->Vv,mul_le_mul->WQ,mul_le_mul_left->Yh,mul_pos->yAx,mul_succ->Yi,not_lt_zero->Ym,one_mul->Xi,pos_of_neZero->Yy,pow_succ->V7,reduceAdd->VK,succ_le_of_lt->yAV,zero_add->UD,zero_le->Wy,zero_mod->YM
open _root_.Option renaming isSome_iff_exists->Vr,map_eq_some_iff->Uy,some->UO
open _root_.Or renaming inl->U4,inr->UX
open _root_.Prod renaming fst->Zw,mk->V6,snd->Zv
open _root_.Subtype renaming ext->Yr
open Go.Proofs.Tryz
open Go.RowKit Go.Sort Go.Deep
section
open Go.Shelf
variable {P:Nat}[NeZero P]{N:Nat}
theorem wV(k:ByteArray)(a:Option Wu)(m c:Nat)(w:Ur):
 UH prog 50 #[.string k,.slice a m c] w (Ret λe w'=>e=.func (.func 112) #[] #[jZ w.heap.size,.pointer (some ⟨w.heap.size+1,0,none⟩)]/\w'=(w.alloc (.cells #[.string k] 9)).alloc (.cells #[.slice a m c] 23)):=by
 go_enter func50,ntmps50;go_wp2;go_ret;exact⟨_,rfl,rfl,rfl⟩
noncomputable def hpt (P:Nat) [NeZero P] (k:ByteArray) (b:List UInt8):Fin P × Fin P:=(cands P k b 256).headD (gX P,gY P)
theorem MZ{k:ByteArray}{b:List UInt8}{i:Nat}{x:Fin P × Fin P}(h:cand P k b i=some x):x.2*x.2=x.1*x.1*x.1+7:=by
 unfold cand at h;split at h
 ·obtain⟨y,c,rfl⟩:=Uy.1 h;exact Nv c
 ·cases h
theorem JX{k:ByteArray}{b:List UInt8}{n:Nat}{x:Fin P × Fin P}(h:x∈cands P k b n):x.2*x.2=x.1*x.1*x.1+7:=by
 unfold cands at h;obtain⟨i,-,c⟩:=List.mem_filterMap.1 h;exact MZ c
theorem AY(C:Fld P)(k:ByteArray)(b:List UInt8):On (.some (hpt P k b):EC.Pt P):=by
 unfold hpt;cases h:cands P k b 256 with
 | nil=>exact Cr C
 | cons x r=>exact IV (x:=x.1) (y:=x.2) (JX (by rw[h];exact Vu))
theorem Lv(C:Fld P)(q:Fin P × Fin P)(h:On (.some q:EC.Pt P)):tD q.1 q.2=wr (.some q:EC.Pt P):=vM C ⟨rfl,rfl⟩ h
theorem Pv(C:Fld P)(k:ByteArray)(b:List UInt8):tD (hpt P k b).1 (hpt P k b).2=wr (.some (hpt P k b):EC.Pt P):=Lv C _ (AY C k b)
theorem Ae(C:Fld P)(k:ByteArray)(a:Option Wu)(m c:Nat)(b:List UInt8)(w:Ur)(f:k.size<=1000000)(p:PartOk w (.slice a m c) b):
 UH prog 49 #[.func (.func 112) #[] #[jZ w.heap.size,.pointer (some ⟨w.heap.size+1,0,none⟩)]] ((w.alloc (.cells #[.string k] 9)).alloc (.cells #[.slice a m c] 23)) (rZ w λe w'=>e=pv (hpt P k b).1 (hpt P k b).2):=by
 have j:=Made.alloc w [.string k] 9;have i:=Made.alloc (w.alloc (.cells #[.string k] 9)) [.slice a m c] 23;have d:kZ w ((w.alloc (.cells #[.string k] 9)).alloc (.cells #[.slice a m c] 23)):=((UR _ w).alloc (Uw _) _).alloc (by rw[UB];omega) _;have q:((w.alloc (.cells #[.string k] 9)).alloc (.cells #[.slice a m c] 23)).heap.size=w.heap.size+2:=by rw[UB,UB]
 have o:((w.alloc (.cells #[.string k] 9)).alloc (.cells #[.slice a m c] 23)).cell? ⟨w.heap.size,0,none⟩=some (.string k):=by
  rw[UW (a:=⟨w.heap.size,0,none⟩) (Below.heap_alloc _ _ _ (by rw[UB];exact Nat.lt_succ_self _))];exact j.range 0 _ rfl
 have l:((w.alloc (.cells #[.string k] 9)).alloc (.cells #[.slice a m c] 23)).cell? ⟨w.heap.size+1,0,none⟩=some (.slice a m c):=by
  have:=i.range 0 _ rfl;rwa[UB]at this
 refine(MN C _ (cands P k b 256) 256 _ (λn=>Pp C k (.slice a m c) b w.heap.size (w.heap.size+1) _ f o l oM oM (p.below d) n)).mono ?_;rintro e w' ⟨v,rfl,g,rfl⟩;exact⟨_,rfl,d.trans (g.mono d.size),rfl⟩
theorem Kw(C:Fld P)(k:ByteArray)(a:Option Wu)(m c:Nat)(b:List UInt8)(w:Ur)(j:k.size<=1000000)(y:PartOk w (.slice a m c) b):
 UH prog 202 #[.string k,.slice a m c] w (rZ w λe w'=>Hb w (wr (.some (hpt P k b):EC.Pt P)) e w'):=by
 have u:=Ae C k a m c b w j y;have i:∀w,UH prog 52 #[pv (hpt P k b).1 (hpt P k b).2] w (rZ w λe w'=>mL w (tD (hpt P k b).1 (hpt P k b).2) e w'):=vK C _ _;rw[Pv C]at i;go_enter func202,ntmps202;go_wp2_with fail
 refine(wV k a m c w).mono ?_;rintro e A ⟨v,rfl,rfl,rfl⟩;go_wp2_with fail
 refine u.mono ?_;rintro e z ⟨v,rfl,o,rfl⟩;have f:=mk1 (o);go_wp2_with fail
 refine(i _).mono ?_;rintro e t ⟨v,rfl,r,g,d,rfl,n,s,l,q⟩;have p:=mk1 (f.trans (r.mono f.size));have x:Hid (Hb w (wr (.some (hpt P k b):EC.Pt P)) (.tuple #[sZ g 33 d,iZ 0]) t):=⟨g,d,rfl,n,UC f.size s,l,q⟩
 go_wp2
 go_ret2
 exact⟨_,rfl,p.out,x.out⟩
end
section
variable {P:Nat}[NeZero P]{N:Nat}
theorem FK(C:Fld P)(lb:ByteArray)(x:lb.size<=1000000)(o:Option Wu)(s p:Nat)(tx:List UInt8)(w:Ur)(I:PartOk w (.slice o s p) tx):
 UH prog 136 #[.string lb,.slice o s p] w (rZ w λe w'=>e=pvl (wr (.some (hpt P lb tx):EC.Pt P))):=by
 obtain⟨T,q⟩:=hE (wr (.some (hpt P lb tx):EC.Pt P));have r:T.size=33:=by rw[<-q.out];exact aT _
 rw[q.out];have J:=mk1 (C);have G:=Hid.mk' I;have E:=Hid.mk' x;obtain⟨n,c⟩:=hE (w.alloc (.cells z33.toArray 103));have m:Hid (Row n w.heap.size z33/\kZ w n):=by rw[<-c.out];exact⟨aE w _ _,aC w _⟩
 obtain⟨d,u,t⟩:=Uy.1 uCP;have z:=mk2 u t;go_enter func136,ntmps136;go_wp2_with (refine bG (v:=jZ w.heap.size) (w':=n) rfl (.alloc 103) rfl ?_ ?_;(rw[<-c.out];kernel_rfl))
 refine(Kw J.out lb o s p tx n E.out (G.below m.2)).mono ?_;rintro e A ⟨L,rfl,b,g,F,rfl,-,-,H,y⟩;rw[q.out]at y;have l:=mk3 (m.1.below b) (m.2.trans (b.mono m.2.size)) (pW y H);have B:=FU g F;obtain⟨a,f⟩:=hE (A.setCells w.heap.size 0 (aA T));have k:=aB r;have D:Hid (Row a w.heap.size (aA T)/\kZ w a):=by rw[<-f.out];exact⟨l.1.put (by rw[k];rfl),RG.below_setCells (Uw _) _ _ _ l.2.1⟩
 obtain⟨K,i⟩:=hE (U3 (aA T).toArray);have j:Hid ((prog.info? 103).map (·.size)=some (aA T).length/\A.there w.heap.size 0 (aA T).toArray.size/\(prog.info? 103).map (·.size)=some (aA T).toArray.size):=by
  have e:(aA T).toArray.size=33:=by rw[VC];exact k
  refine⟨by rw[k];exact cV,by rw[e];exact l.1.2.2,by rw[e];exact cV⟩
 go_wp2_with (first|(refine U6 rfl 103 _ rfl g 0 ?_ (aA T) d ?_ ?_ ?_ ?_ ?_;rfl;exact l.2.2.2.1;exact z.1;exact z.2;exact j.1;rw[i.out])|(refine U2 rfl 103 _ _ rfl w.heap.size 0 (aA T).toArray ?_ ?_ ?_ ?_ ?_ ?_;rfl;exact i.symm;exact j.2.1;exact j.2.2;exact bW T;rw[show(aA T).toArray.toList=aA T from rfl,f.out]))
 refine UE (aG 4 103 rfl D.1 rfl uCP j.1) rfl ?_;exact⟨_,rfl,D.2,rfl⟩
theorem IX:Gives 70 #[uZ 1] (nv 1):=by
 intro w;go_enter func70,ntmps70;refine RG.M.enter [(0,.v (uZ 1))] 6 kR ?_;intro a0 c;repeat refine Uz ?_
 refine c.T [.m 0] [(0,RG.z 4)] [] [RG.z 4] [0,2] ⟨mk 0 49,yCl⟩ ?_;intro k e f d;repeat refine Uz ?_
 refine d.T [.x (uZ 1),.x (nv 1),.x (nv 1),.u 0] [] [(0,3,wn 1)] [wn 1] [2] ⟨st,st,st,RG.pt i40,yCl⟩ ?_;intro a2 g b;refine Wp ?_;refine UE (v:=nv 1) (aI b.st 2 49 rfl 0 _ rfl (b.at (s:=(.p 0 0))) u40 i40) b.sl.defers ?_;exact⟨_,rfl,b.st.bel.below,rfl⟩
def Sm(B:Nat)(W:Ur)(v:Ut)(l:List (Nat × Bs)):Prop:=∃g c,v=sZ g l.length c/\l.length<=c/\B<=g/\g<W.heap.size/\W.rangeAt g 0 (aU l)
theorem Sm.grow{B:Nat}{W W':Ur}{v:Ut}{l:List (Nat × Bs)}(h:Sm B W v l)(b:kZ W W'):Sm B W' v l:=by
 obtain⟨g,c,f,e,d,k,i⟩:=h;exact⟨g,c,f,e,d,Ux k b.size,RG.range_below i b k⟩
theorem cellsT_one'(n:Nat)(a:Bs):aU [(n,a)]=wn n++aA a:=by rw[fG];exact Xu _
theorem Sm.one{B W k n}{w:Ur}{a:Bs}(h:Row w k (wn n++aA a))(b:B<=k)(c:w=W):Sm B W (sZ k 1 1) [(n,a)]:=by
 subst c;exact⟨k,1,rfl,Uw _,b,h.1,by rw[cellsT_one'];exact h.2.1⟩
theorem infoT':(prog.info? 226).map (λi=>(i.size,i.bytes,i.zero.map λz=>z.cells.size))=some (37,72,some 37):=kR
theorem Fg(n:Nat)(u:n<=10000000)(w:Ur):UH prog 203 #[.slice none 0 0,iZ n] w (rZ w λe w'=>w'.ownsRow w.heap.size 226 37 e 0 []):=by
 by_cases s:n=0
 ·subst s;go_enter func203,ntmps203;go_wp2;go_ret;exact⟨_,rfl,UR _ _,World.ownsRow_nil _ _ _ _⟩
 ·obtain⟨i,r,m⟩:=Uy.1 infoT';simp only[V6.injEq]at m;obtain⟨v,t,p⟩:=m;obtain⟨z,o,j⟩:=Uy.1 p;have g:=Lib.run_append_nil_zeros (P:=prog) w 131 3 131 226 i z .i64 .i64 C4 Qz r o n oM oM oM (by rw[t];omega);have c:=grownCap_ge w n 0 226;have k:=grownCap_le_maxLen w n 0 226 (by unfold maxLen;omega);have b:(WE z.cells n++WE z.cells (grownCap w n 0 226-n)).size=grownCap w n 0 226*37:=by rw[Array.size_append,size_zeroCells,size_zeroCells,j];omega
  generalize grownCap w n 0 226=l at g c k b;generalize WE z.cells n++WE z.cells (l-n)=cur at g b;obtain⟨f,d⟩:∃f,Hid (w.drew.alloc (.cells cur 226)=f):=⟨_,rfl⟩
  rw[d.out]at g;have q:=Hid.mk' g;have K:Hid (kZ w f/\f.ownsRow w.heap.size 226 37 (sZ w.heap.size 0 l) 0 []):=by
   rw[<-d.out];exact⟨(UR _ _).drew.alloc (Uw _) _,World.ownsRow_made w.drew cur l (Uw _) k b⟩
  go_enter func203,ntmps203;go_wp2_with (at_builtin;refine Lib.wpList_append_run _ rfl _ _ _ _ rfl _ _ rfl rfl _ _ q.out ?_)
  go_ret;exact⟨_,rfl,K.1,K.2⟩
theorem D7(l m:List (Nat × Bs)):aU (l++m)=aU l++aU m:=by unfold aU;rw[Zq]
theorem GX(l:List (Nat × Bs)):∀u∈aU l,u.oneCell'=true:=λu k=>by
 unfold aU at k;obtain⟨x,-,hx⟩:=List.mem_flatMap.1 k;exact cells_one x.1 x.2 u hx
theorem qI:∀ {l:List (Nat × Bs)},(∀x∈l,x.2.size=33)->(aU l).length=l.length*37
 | [],_=>rfl
 | x :: r,h=>by
  rw[fG,UA,gJ (h x Vu),qI λy k=>h y (Vb _ k),List.length_cons];omega
theorem Ca{b B:Nat}{W:Ur}{v x:Ut}{l m:List (Nat × Bs)}(d:W.ownsRow b 226 37 v l.length (aU l))(a:∀y∈m,y.2.size=33)(hx:Sm B W x m)(G:l.length+m.length<=1000000)(D:b<=W.heap.size):
 ∃e W',(Vt #[131,131] 131 #[v,x]).run prog W=.ok e W'/\W'.ownsRow b 226 37 e (l++m).length (aU (l++m))/\W.grownBy W' v.ownBlock:=by
 obtain⟨i,t,g⟩:=Uy.1 infoT';simp only[V6.injEq]at g;obtain⟨C,A,o⟩:=g;obtain⟨z,n,f⟩:=Uy.1 o;obtain⟨k,c,rfl,F,E,e3,w⟩:=hx;obtain⟨e,W',s,p,r,-⟩:=Y1 (P:=prog) W b 131 131 226 i z 37 72 C4 t n C A f dC v l.length (aU l) d (aZ k) m.length c (aU m) (qI a)
  (λj u q=>by
   have:=w j u q;rw[UD]at this;rw[add0];exact this) (GX m) (by unfold maxLen;omega) oM D
 exact⟨e,W',s,by rw[UA,D7];exact p,r⟩
theorem atS(k o n c i:Nat)(b:i<n)(w:Ur):(Vl 129 (.slice (some ⟨k,o,none⟩) n c) (iZ i)).run prog w=.ok (.pointer (some ⟨k,o+1*i,none⟩)) w:=by
 go_simp
def eO(L:Nat->List (Nat × Bs))(k:Nat):List (Nat × Bs):=(VG k).flatMap L
theorem dE(L:Nat->List (Nat × Bs))(i:Nat):eO L (i+1)=eO L i++L i:=by
 unfold eO;rw[List.range_succ,Zq];simp
theorem Bi(L:Nat->List (Nat × Bs)){k m:Nat}(b:∀j,j<k->(L j).length<=m):∀i,i<=k->(eO L i).length<=m*i
 | 0,_=>Uw _
 | i+1,hi=>by
  have d:=Bi L b i oM;have c:=b i oM;rw[dE,UA,Yi];omega
theorem GQ(g k c:Nat)(L:Nat->List (Nat × Bs))(H:k<=1000)(O:∀j,j<k->(L j).length<=600)(A:∀j,j<k->∀x∈L j,x.2.size=33)(w:Ur)(S:g<w.heap.size)(P:∀j,j<k->∃x,w.cell? ⟨g,j,none⟩=some x/\Sm 0 w x (L j)):
 UH prog 138 #[sZ g k c] w (rZ w λe w'=>w'.ownsRow w.heap.size 226 37 e (eO L k).length (aU (eO L k))):=by
 have J:=Hid.mk' P;have s:=mk1 (Bi L O);have Q:=Hid.mk' S;have V:=Hid.mk' A;go_enter func138,ntmps138;go_wp2_with fail
 go_loopg [3,11] k (λm s3 s11 W=>∃i:Nat,i+m=k/\s11=iZ i/\s3=iZ ((eO L i).length:Int)/\w=W)
 case atStart=>exact⟨0,oM,rfl,rfl,rfl⟩
 case round =>
  obtain⟨i,R,rfl,rfl,rfl⟩:=hrel;by_cases M:i<k
  ·have C:(i:Int)<(k:Int):=oM;obtain⟨x,E,hE⟩:=J.out i M;obtain⟨F,K,rfl,r,-⟩:=hE;have l:=atS g 0 k c i M;rw[show 0+1*i=i by omega]at l;have d:(eO L (i+1)).length=(eO L i).length+(L i).length:=by rw[dE,UA]
   have n:=s.out i oM;have o:=s.out (i+1) oM;obtain⟨a,f⟩:=hE ((eO L i).length);obtain⟨b,q⟩:=hE ((L i).length);rw[f.out]at d n;rw[q.out]at d r;rw[f.out];rw[q.out]at E;go_wp2;go_roundg (gk-1)
   case measure=>omega
   case rel=>exact⟨i+1,oM,rfl,by rw[d,yBs],rfl⟩
  ·have C:¬(i:Int)<(k:Int):=oM;obtain rfl:i=k:=oM;go_wp2_with fail
   refine(Fg (eO L i).length (by have:=s.out i (Uw _);omega) w).mono ?_;rintro e Y ⟨v,rfl,n,B⟩;have T:=mk2 n B;go_wp2_with fail
   go_loopg [6,27] i (λm s6 s27 W=>∃j:Nat,j+m=i/\s27=iZ j/\Hid (kZ w W/\W.ownsRow w.heap.size 226 37 s6 (eO L j).length (aU (eO L j))))
   case atStart=>exact⟨0,oM,rfl,T⟩
   case round =>
    obtain⟨j,U,rfl,f⟩:=hrel;by_cases u:j<i
    ·have z:(j:Int)<(i:Int):=oM;obtain⟨x,r,q⟩:=J.out j u;have E:wr.cell? ⟨g,j,none⟩=some x:=by rw[f.1.cell (p:=⟨g,j,none⟩) Q.out];exact r
     have hE:=q.grow f.1;have o:=s.out (j+1) oM;have d:(eO L (j+1)).length=(eO L j).length+(L j).length:=by rw[dE,UA]
     obtain⟨N,W',I,t,G⟩:=Ca f.2 (V j u) hE (by rw[<-d];omega) f.1.size;rw[<-dE]at t;have X:Hid (kZ w W'/\W'.ownsRow w.heap.size 226 37 N (eO L (j+1)).length (aU (eO L (j+1)))):=⟨f.1.grown G f.1.size (λk H=>(f.2.lt k H).1),t⟩
     have D:=Hid.mk' I;obtain⟨F,K,rfl,-⟩:=hE;have l:=atS g 0 i c j u;rw[show 0+1*j=j by omega]at l;clear I t G d o f q r;go_wp2_with (first|(refine lK (x:=u6) (y:=sZ F (L j).length K) (v:=N) (w':=W') rfl _ _ 131 rfl ?_ ?_ ?_ ?_;rfl;rfl;exact D.out)|fail)
     go_roundg (gk-1)
     case measure=>omega
     case rel=>exact⟨j+1,oM,rfl,X⟩
    ·have z:¬(j:Int)<(i:Int):=oM;obtain rfl:j=i:=oM;go_wp2;go_ret;exact⟨_,rfl,f.1,f.2⟩
theorem EN{W:Ur}{k:Nat}{v:Ut}{l:List (Nat × Bs)}(h:W.ownsRow k 226 37 v l.length (aU l))(m:0<l.length):Sm k W v l:=by
 have e:=λ{g:Nat}=>h.cells (g:=g)
 rcases h.2 with⟨-,i⟩|⟨g,cap,cur,rfl,f,c,d,-⟩
 ·omega
 ·refine⟨g,cap,rfl,d,f,(UZ.1 c).1,λj u b=>?_⟩;have:=e (g:=g) rfl j u b;rw[add0]at this;rw[UD];exact this
theorem rT(B:Nat)(s t:Ut)(l m:List (Nat × Bs))(n:0<l.length)(Q:l.length<=500)(P:m.length<=500)(A:∀x∈l,x.2.size=33)(r:∀x∈m,x.2.size=33)(w:Ur)(H:Sm B w s l)(G:Sm B w t m):
 UH prog 65 #[s,t] w (rZ w λe w'=>Sm w.heap.size w' e (l++m)):=by
 have J:=n;obtain⟨z,c1,M,-⟩:=id H;obtain⟨i,c2,L,-⟩:=id G;subst M;subst L;obtain⟨d,k⟩:=hE (w.alloc (.cells #[sZ z l.length c1,sZ i m.length c2] 131));have I:kZ w d:=by rw[<-k.out];exact aC _ _
 have p:w.heap.size<d.heap.size:=by rw[<-k.out,UB];omega
 have C:d.rangeAt w.heap.size 0 [sZ z l.length c1,sZ i m.length c2]:=by rw[<-k.out];exact(Made.alloc w [sZ z l.length c1,sZ i m.length c2] 131).range
 have O:=Hid.mk' (GQ w.heap.size 2 2 (λj=>if j=0 then l else m) dC (λj _=>by show(if j=0 then l else m).length<=600;split<;>omega) (λj _=>by
  show ∀x∈(if j=0 then l else m),x.2.size=33;split
  ·exact A
  ·exact r) d p (λj b=>by
  have f:∀ {v:Ut}{l:List (Nat × Bs)},Sm B w v l->Sm 0 d v l:=λh=>by
   obtain⟨g,c,u,q,-,o,y⟩:=h.grow I;exact⟨g,c,u,q,Wy _,o,y⟩
  have b:j=0\/j=1:=oM;rcases b with rfl|rfl
  ·exact⟨_,C 0 _ rfl,f H⟩
  ·exact⟨_,C 1 _ rfl,f G⟩))
 have b:eO (λj=>if j=0 then l else m) 2=l++m:=by rw[dE,dE];rfl
 have a:=Hid.mk' I;have E:Hid (eO (λj=>if j=0 then l else m) 2=l++m/\0<(l++m).length):=⟨b,by rw[UA];omega⟩
 go_enter func65,ntmps65;go_wp2_with fail
 rw[k.out];refine O.mono ?_;rintro e F ⟨N,rfl,f,ho⟩;rw[E.1]at ho;have D:Hid (kZ w F/\Sm w.heap.size F N (l++m)):=by
  obtain⟨g,c,u,q,K,o,y⟩:=EN ho E.2;exact⟨a.trans (f.mono a.size),g,c,u,q,UC a.size K,o,y⟩
 go_wp2;go_ret;exact⟨_,rfl,D.1,D.2⟩
theorem Sm.point(C:Fld P)(O:Ord N)(b:∀r:EC.Pt P,On r->mul N r=none){B:Nat}{w:Ur}{v:Ut}{l:List (Nat × Bs)}(h:Sm B w v l)(i:0<l.length)(a:l.length<=512)(z:∀x∈l,x.1<N)(f:PtsL P l):
 UH prog 67 #[v] w (rZ w λe w'=>e=pvl (wr (fJ P l))):=by
 obtain⟨g,c,rfl,-,-,D,E⟩:=h;have d:∀x∈l.map (·.2),x.size=33:=λx hx=>by
  obtain⟨y,k,rfl⟩:=Vn.1 hx;obtain⟨X,-,e⟩:=f y k;rw[e];exact aT _
 have m:∀j (k:j<l.length),((l[j]?).getD (0,#[]))=l[j]:=λj k=>by rw[UG k];rfl
 have p:∀j,j<l.length->On (fR P ((l[j]?).getD (0,#[])).2):=λj k=>by rw[m j k];exact f.on C (VH k)
 refine(De C O b g l.length c i a (λj=>((l[j]?).getD (0,#[])).1) (λj=>fR P ((l[j]?).getD (0,#[])).2) (λj k=>by rw[m j k];exact z _ (VH k)) p w D (λj k=>?_)).mono ?_
 ·rw[m j k];obtain⟨X,s,o⟩:=f _ (VH k);rw[o,lM C s,<-o];intro t u n;have q:t<37:=by
   have:=(UF.1 n).1;rw[gJ (d _ (Vn.2 ⟨_,VH k,rfl⟩))]at this;exact this
  have:=E (37*j+t) u (by rw[lD l d j k t q];exact n);rw[UD]at this;exact this
 ·rintro e w' ⟨u,rfl,n,rfl⟩;refine⟨_,rfl,n,?_⟩;rw[wE C l f _ (Uw _),List.take_length]
theorem xE(C:Fld P){a b:EC.Pt P}(k:On a)(c:On b):∀n,mul n (EC.add a b)=EC.add (mul n a) (mul n b)
 | 0=>rfl
 | n+1=>by
  show EC.add (mul n (EC.add a b)) (EC.add a b)=EC.add (EC.add (mul n a) a) (EC.add (mul n b) b);rw[xE C k c n];exact C.cur.swap (cG C.cur k n) (cG C.cur c n) k c
def SmZ(B:Nat)(W:Ur)(v:Ut)(l:List (Nat × Bs)):Prop:=(v=.slice none 0 0/\l=[])\/Sm B W v l
theorem SmZ.grow{B:Nat}{W W':Ur}{v:Ut}{l:List (Nat × Bs)}(h:SmZ B W v l)(k:kZ W W'):SmZ B W' v l:=by
 rcases h with h|h
 ·exact U4 h
 ·exact UX (h.grow k)
theorem SmZ.form{B:Nat}{W:Ur}{v:Ut}{l:List (Nat × Bs)}(h:SmZ B W v l):∃q c,v=.slice q l.length c/\l.length<=c:=by
 rcases h with⟨rfl,rfl⟩|⟨g,c,b,k,-⟩
 ·exact⟨none,0,rfl,Uw _⟩
 ·exact⟨_,_,b,k⟩
theorem Qh:∀W:Ur,(Vt #[131,131] 131 #[.slice none 0 0,.slice none 0 0]).run prog W=.ok (.slice none 0 0) W:=λW=>kR
theorem IQ{b B:Nat}{W:Ur}{v x:Ut}{l m:List (Nat × Bs)}(k:W.ownsRow b 226 37 v l.length (aU l))(f:∀y∈m,y.2.size=33)(hx:SmZ B W x m)(e:l.length+m.length<=1000000)(n:b<=W.heap.size):
 ∃c W',(Vt #[131,131] 131 #[v,x]).run prog W=.ok c W'/\W'.ownsRow b 226 37 c (l++m).length (aU (l++m))/\W.grownBy W' v.ownBlock:=by
 rcases hx with⟨rfl,rfl⟩|hx
 ·rw[Xu];rcases id k.2 with⟨rfl,q⟩|⟨g,cap,cur,rfl,s,r,o,-⟩
  ·exact⟨_,_,Qh W,k,⟨rfl,rfl,rfl,Uw _,λ_ _ _=>rfl⟩⟩
  ·obtain⟨i,d,p⟩:=Uy.1 infoT';have:=Y6 (P:=prog) W 131 131 131 226 i C4 d g 0 l.length cap (.slice none 0 0) 0 [] (yB8 (e':=226) _ C4 0) oM (λj c=>by cases c) (λj c=>by cases c);exact⟨_,_,this,k,⟨rfl,rfl,rfl,Uw _,λ_ _ _=>rfl⟩⟩
 ·exact Ca k f hx e n
theorem GP(g k c:Nat)(L:Nat->List (Nat × Bs))(H:k<=1000)(O:∀j,j<k->(L j).length<=600)(A:∀j,j<k->∀x∈L j,x.2.size=33)(w:Ur)(S:g<w.heap.size)(P:∀j,j<k->∃x,w.cell? ⟨g,j,none⟩=some x/\SmZ 0 w x (L j)):
 UH prog 138 #[sZ g k c] w (rZ w λe w'=>w'.ownsRow w.heap.size 226 37 e (eO L k).length (aU (eO L k))):=by
 have J:=Hid.mk' P;have s:=mk1 (Bi L O);have Q:=Hid.mk' S;have V:=Hid.mk' A;go_enter func138,ntmps138;go_wp2_with fail
 go_loopg [3,11] k (λm s3 s11 W=>∃i:Nat,i+m=k/\s11=iZ i/\s3=iZ ((eO L i).length:Int)/\w=W)
 case atStart=>exact⟨0,oM,rfl,rfl,rfl⟩
 case round =>
  obtain⟨i,R,rfl,rfl,rfl⟩:=hrel;by_cases M:i<k
  ·have C:(i:Int)<(k:Int):=oM;obtain⟨x,E,hE⟩:=J.out i M;obtain⟨F,K,rfl,r⟩:=hE.form;have l:=atS g 0 k c i M;rw[show 0+1*i=i by omega]at l;have d:(eO L (i+1)).length=(eO L i).length+(L i).length:=by rw[dE,UA]
   have n:=s.out i oM;have o:=s.out (i+1) oM;obtain⟨a,f⟩:∃a,Hid ((eO L i).length=a):=⟨_,rfl⟩
   obtain⟨b,q⟩:∃b,Hid ((L i).length=b):=⟨_,rfl⟩
   rw[f.out]at d n;rw[q.out]at d r;rw[f.out];rw[q.out]at E;go_wp2;go_roundg (gk-1)
   case measure=>omega
   case rel=>exact⟨i+1,oM,rfl,by rw[d,yBs],rfl⟩
  ·have C:¬(i:Int)<(k:Int):=oM;obtain rfl:i=k:=oM;go_wp2_with fail
   refine(Fg (eO L i).length (by have:=s.out i (Uw _);omega) w).mono ?_;rintro e Y ⟨v,rfl,n,B⟩;have T:=mk2 n B;go_wp2_with fail
   go_loopg [6,27] i (λm s6 s27 W=>∃j:Nat,j+m=i/\s27=iZ j/\Hid (kZ w W/\W.ownsRow w.heap.size 226 37 s6 (eO L j).length (aU (eO L j))))
   case atStart=>exact⟨0,oM,rfl,T⟩
   case round =>
    obtain⟨j,U,rfl,f⟩:=hrel;by_cases u:j<i
    ·have z:(j:Int)<(i:Int):=oM;obtain⟨x,r,q⟩:=J.out j u;have E:wr.cell? ⟨g,j,none⟩=some x:=by rw[f.1.cell (p:=⟨g,j,none⟩) Q.out];exact r
     have hE:=q.grow f.1;have o:=s.out (j+1) oM;have d:(eO L (j+1)).length=(eO L j).length+(L j).length:=by rw[dE,UA]
     obtain⟨N,W',I,t,G⟩:=IQ f.2 (V j u) hE (by rw[<-d];omega) f.1.size;rw[<-dE]at t;have X:Hid (kZ w W'/\W'.ownsRow w.heap.size 226 37 N (eO L (j+1)).length (aU (eO L (j+1)))):=⟨f.1.grown G f.1.size (λk H=>(f.2.lt k H).1),t⟩
     have D:=Hid.mk' I;obtain⟨F,K,rfl,-⟩:=hE.form;have l:=atS g 0 i c j u;rw[show 0+1*j=j by omega]at l;clear I t G d o f q r;go_wp2_with (first|(refine lK (x:=u6) (y:=.slice F (L j).length K) (v:=N) (w':=W') rfl _ _ 131 rfl ?_ ?_ ?_ ?_;rfl;rfl;exact D.out)|fail)
     go_roundg (gk-1)
     case measure=>omega
     case rel=>exact⟨j+1,oM,rfl,X⟩
    ·have z:¬(j:Int)<(i:Int):=oM;obtain rfl:j=i:=oM;go_wp2;go_ret;exact⟨_,rfl,f.1,f.2⟩
theorem cO(B:Nat)(s t:Ut)(l m:List (Nat × Bs))(n:0<(l++m).length)(P:l.length<=500)(O:m.length<=500)(A:∀x∈l,x.2.size=33)(r:∀x∈m,x.2.size=33)(w:Ur)(H:SmZ B w s l)(G:SmZ B w t m):
 UH prog 65 #[s,t] w (rZ w λe w'=>Sm w.heap.size w' e (l++m)):=by
 obtain⟨z,c1,L,-⟩:=H.form;obtain⟨i,c2,K,-⟩:=G.form;subst L;subst K;obtain⟨d,k⟩:=hE (w.alloc (.cells #[.slice z l.length c1,.slice i m.length c2] 131));have I:kZ w d:=by rw[<-k.out];exact aC _ _
 have p:w.heap.size<d.heap.size:=by rw[<-k.out,UB];omega
 have C:d.rangeAt w.heap.size 0 [.slice z l.length c1,.slice i m.length c2]:=by rw[<-k.out];exact(Made.alloc w [.slice z l.length c1,.slice i m.length c2] 131).range
 have N:=Hid.mk' (GP w.heap.size 2 2 (λj=>if j=0 then l else m) dC (λj _=>by show(if j=0 then l else m).length<=600;split<;>omega) (λj _=>by
  show ∀x∈(if j=0 then l else m),x.2.size=33;split
  ·exact A
  ·exact r) d p (λj b=>by
  have f:∀ {v:Ut}{l:List (Nat × Bs)},SmZ B w v l->SmZ 0 d v l:=λh=>by
   rcases h.grow I with h|⟨g,c,u,q,-,o,y⟩
   ·exact U4 h
   ·exact UX ⟨g,c,u,q,Wy _,o,y⟩
  have b:j=0\/j=1:=oM;rcases b with rfl|rfl
  ·exact⟨_,C 0 _ rfl,f H⟩
  ·exact⟨_,C 1 _ rfl,f G⟩))
 have b:eO (λj=>if j=0 then l else m) 2=l++m:=by rw[dE,dE];rfl
 have a:=Hid.mk' I;have E:=mk2 b n;go_enter func65,ntmps65;go_wp2_with fail
 rw[k.out];refine N.mono ?_;rintro e F ⟨M,rfl,f,ho⟩;rw[E.1]at ho;have D:Hid (kZ w F/\Sm w.heap.size F M (l++m)):=by
  obtain⟨g,c,u,q,J,o,y⟩:=EN ho E.2;exact⟨a.trans (f.mono a.size),g,c,u,q,UC a.size J,o,y⟩
 go_wp2;go_ret;exact⟨_,rfl,D.1,D.2⟩
structure Kp(w:Ur)(W:Ur)(rs:List (Nat × List Ut)):Prop where
 bl:kZ w W
 rw:∀x∈rs,Row W x.1 x.2
theorem Kp.grow{w W W':Ur}{k:List (Nat × List Ut)}(h:Kp w W k)(b:kZ W W'):Kp w W' k:=⟨h.bl.trans (b.mono h.bl.size),λx hx=>(h.rw x hx).below b⟩
theorem Kp.drew{w W:Ur}{k:List (Nat × List Ut)}(h:Kp w W k):Kp w W.drew k:=⟨h.bl.drew,h.rw⟩
theorem Kp.at{w W:Ur}{b:List (Nat × List Ut)}(h:Kp w W b){k:Nat}{c:List Ut}(i:Nat)(d:b[i]? = some (k,c)):Row W k c:=h.rw _ (List.mem_of_getElem? d)
def Nw(B:Nat)(c:List Ut)(v:Ut)(W:Ur):Prop:=∃k,v=jZ k/\B<=k/\Row W k c
section
variable (w:Ur) (k6 k8 k9 k10 x kk c z B0:Nat) (A F:Bs) (v1:Ut)
def R5:Nat->Ut->Ur->Prop
 | 0,v,_=>v=nv kk
 | 1,v,_=>v=pvl A
 | 2,v,_=>v=pvl F
 | 3,v,W=>Nw B0 z33 v W
 | _,_,_=>True
def Two(v:Ut)(W:Ur):Prop:=∃k y,v=sZ k 2 2/\k<W.heap.size/\W.cell? ⟨k,0,none⟩=some (sZ k9 33 33)/\W.cell? ⟨k,1,none⟩=some y/\El 32 W y (bx z)
def Ans(v:Ut)(W:Ur):Prop:=W.ownsRow B0 5 1 v 65 ((F.toList++(bx z).toList).map encB)
def R7:Nat->Ut->Ur->Prop
 | 0,v,_=>v=sZ k9 33 33
 | 1,v,_=>v=nv c
 | 2,v,_=>v=nv kk
 | 3,v,_=>v=nv x
 | 4,v,_=>v=nv z
 | 5,v,W=>El 32 W v (bx z)
 | 6,v,W=>Two k9 z v W
 | 7,v,W=>Ans z B0 F v W
 | 8,v,W=>Ans z B0 F v W
 | 9,v,_=>v=iZ 0
 | _,_,_=>True
end
theorem qD{P:VD}{c:Func}{tmps:Array Ut}{W:Ur}{k:Nat}{vs:List Ut}{v:Ut}(t u:WC)(T:U8)(l:c.results=#[.cell t T,.tmp u])(h:Row W k vs)(f:tmps[t]? = some (jZ k))(hv:tmps[u]? = some v)
 (b:(P.underlying T).map (·.isRow)=some true) (g:(P.info? T).map (·.size)=some vs.length):(results c tmps).run P W=.ok (.tuple #[.agg vs.toArray,v]) W:=by
 obtain⟨d,b,hd⟩:=Uy.1 b;have j:=Ye (P:=P) W k 0 T vs d h.2.1 b hd g;have i:tmps.getD t WP=jZ k:=by rw[UI,f];rfl
 have e:tmps.getD u WP=v:=by rw[UI,hv];rfl
 unfold results;rw[l];simp only[XA,YP,YZ,i,e,asAddr];simp[UV,j]
theorem NV(w:Ur):(Zg 103 #[]).run prog w=.ok (.agg z33.toArray) w:=kR
theorem Qg(g o k:Nat)(w:Ur):(Instr.arrayAt 103 (.slice (some ⟨g,o,none⟩) 33 k)).run prog w=.ok (oZ g o) w:=kR
theorem EF{k:Bs}{p:Fin P × Fin P}(h:rd P k=some p):k.size=33:=by
 unfold rd at h;split at h
 ·assumption
 ·cases h
theorem GI{W:Ur}{g o:Nat}{b:Bs}(h:Holds encB W g o b):W.rangeAt g o (aA b):=λj u k=>by
 unfold aA at k;rw[List.getElem?_map]at k;obtain⟨x,hx,rfl⟩:=Uy.1 k;have c:j<b.size:=by have:=(UF.1 hx).1;simpa using this
 rw[(h j c).1,getElem!_pos b j c];rw[Vq,U0 c]at hx;rw[UO.inj hx]
theorem FI(C:Fld P)(v:Ut)(k:Bs)(p:Fin P × Fin P)(w:Ur)(hv:Arg33 w v k)(E:rd P k=some p):UH prog 53 #[v] w (rZ w λe w'=>e=.tuple #[pvl k,.bool true]):=by
 have x:=EF E;have H:Hid (∀W,kZ w W->UH prog 118 #[v] W (rZ W λe w'=>e=.bool true)):=λW K=>by
  have h:=Cq C v k W (hv.below K);rw[E]at h;exact h
 obtain⟨q,n,cap,rfl,z,G⟩:=hv;rw[x]at z;subst z;obtain⟨g,o,rfl,-,I,J⟩:=G rfl;have y:=mk2 (GI J) I;obtain⟨s,i⟩:=hE (w.alloc (.cells z33.toArray 103));have f:Hid (Row s w.heap.size z33/\kZ w s):=by rw[<-i.out];exact⟨aE w _ _,aC w _⟩
 obtain⟨d,u,t⟩:=Uy.1 uCP;have a:=mk2 u t;have L:=Hid.mk' x;have D:=Qg g o cap;go_enter func53,ntmps53;go_wp2_with (first|(refine bG (v:=jZ w.heap.size) (w':=s) rfl (.alloc 103) rfl ?_ ?_;(rw[<-i.out];kernel_rfl))|fail)
 refine(H s f.2).mono ?_;rintro e B ⟨N,rfl,c,rfl⟩;have r:=mk3 (f.1.below c) (f.2.trans (c.mono f.2.size)) (RG.range_below y.1 (f.2.trans (c.mono f.2.size)) y.2);obtain⟨A,j⟩:=hE (B.setCells w.heap.size 0 (aA k));have b:=aB L.out;have F:Hid (Row A w.heap.size (aA k)/\kZ w A):=by rw[<-j.out];exact⟨r.1.put (by rw[b];rfl),RG.below_setCells (Uw _) _ _ _ r.2.1⟩
 obtain⟨M,l⟩:=hE (U3 (aA k).toArray);have m:Hid ((prog.info? 103).map (·.size)=some (aA k).length/\B.there w.heap.size 0 (aA k).toArray.size/\(prog.info? 103).map (·.size)=some (aA k).toArray.size):=by
  have e:(aA k).toArray.size=33:=by rw[VC];exact b
  refine⟨by rw[b];exact cV,by rw[e];exact r.1.2.2,by rw[e];exact cV⟩
 go_wp2_with (first|(refine U6 rfl 103 _ rfl g o ?_ (aA k) d ?_ ?_ ?_ ?_ ?_;rfl;exact r.2.2;exact a.1;exact a.2;exact m.1;rw[l.out])|(refine U2 rfl 103 _ _ rfl w.heap.size 0 (aA k).toArray ?_ ?_ ?_ ?_ ?_ ?_;rfl;exact l.symm;exact m.2.1;exact m.2.2;exact bW k;rw[show(aA k).toArray.toList=aA k from rfl,j.out])|fail)
 refine UE (qD 2 3 103 rfl F.1 rfl rfl uCP m.1) rfl ?_;exact⟨_,rfl,F.2,rfl⟩
theorem M8(C:Fld P)(v:Ut)(i:Bs)(w:Ur)(hv:Arg33 w v i)(s:rd P i=none):UH prog 53 #[v] w (rZ w λe w'=>e=.tuple #[.agg z33.toArray,.bool false]):=by
 have q:Hid (∀W,kZ w W->UH prog 118 #[v] W (rZ W λe w'=>e=.bool false)):=λW t=>by
  have h:=Cq C v i W (hv.below t);rw[s]at h;exact h
 obtain⟨g,b⟩:=hE (w.alloc (.cells z33.toArray 103));have f:Hid (Row g w.heap.size z33/\kZ w g):=by rw[<-b.out];exact⟨aE w _ _,aC w _⟩
 obtain⟨p,d⟩:=hE (U3 z33.toArray);have r:Hid (z33.toArray.all (·.oneCell')=true):=by show _=_;decide +kernel
 go_enter func53,ntmps53;go_wp2_with (first|(refine bG (v:=jZ w.heap.size) (w':=g) rfl (.alloc 103) rfl ?_ ?_;(rw[<-b.out];kernel_rfl))|fail)
 refine(q g f.2).mono ?_;rintro e l ⟨u,rfl,k,rfl⟩;have j:=mk2 (f.1.below k) (f.2.trans (k.mono f.2.size));obtain⟨m,c⟩:=hE (l.setCells w.heap.size 0 z33);have o:Hid (Row m w.heap.size z33/\kZ w m):=by rw[<-c.out];exact⟨j.1.put rfl,RG.below_setCells (Uw _) _ _ _ j.2⟩
 have n:=Hid.mk' (NV l);rw[d.out]at n;go_wp2_with (first|(refine lJ (v:=p) (w':=l) rfl 103 _ rfl #[] ?_ ?_ ?_;kernel_rfl;exact n.out)|(refine U2 rfl 103 _ _ rfl w.heap.size 0 z33.toArray ?_ ?_ ?_ ?_ ?_ ?_;rfl;exact d.symm;exact j.1.2.2;exact cV;exact r.out;rw[show z33.toArray.toList=z33 from rfl,c.out])|fail)
 refine UE (qD 2 3 103 rfl o.1 rfl rfl uCP cV) rfl ?_;exact⟨_,rfl,o.2,rfl⟩
theorem atP(k o n c i:Nat)(b:i<n)(w:Ur):(Vl 200 (.slice (some ⟨k,o,none⟩) n c) (iZ i)).run prog w=.ok (.pointer (some ⟨k,o+33*i,none⟩)) w:=by
 go_simp
theorem Ru(N:Nat)(g:N<=512):∃C0:List Ut,C0.length=33*N/\∀w:Ur,(XC 200 (iZ N) (iZ N)).run prog w=.ok (sZ w.heap.size N N) (w.alloc (.cells C0.toArray 103)):=by
 have e:prog.underlying 200=some (.slice 103):=kR;have n:(prog.info? 103).map (λi=>(i.size,decide (i.bytes<=4000),i.zero.isSome))=some (33,true,true):=kR;obtain⟨i,b,k⟩:=Uy.1 n;simp only[V6.injEq,decide_eq_true_eq]at k;obtain⟨j,f,d⟩:=k;obtain⟨z,c⟩:=Vr.1 d;refine⟨(madeCells z.cells (N*33)).toList,by rw[UK,YI,Vv],λw=>?_⟩;have l:(i.bytes:Int)*(N:Int)<=281474976710656:=by
  have:i.bytes*N<=4000*512:=WQ f g;have m:((i.bytes*N:Nat):Int)<=281474976710656:=oM;rwa[Xw]at m
 have:=run_make (P:=prog) w 200 103 i z e b c .i64 .i64 (N:Int) (N:Int) oM oM l oM;rw[X0,j]at this;rw[XD];exact this
structure Az(w W:Ur)(K k i:Nat)(L:Nat->Bs):Prop where
 bl:kZ w W
 lt:K<W.heap.size
 th:W.there K 0 (33*k)
 rw:∀j,j<i->W.rangeAt K (33*j) (aA (L j))
theorem Az.grow{w W W':Ur}{K k i:Nat}{L:Nat->Bs}(h:Az w W K k i L)(b:kZ W W'):Az w W' K k i L:=
 ⟨h.bl.trans (b.mono h.bl.size),Ux h.lt b.size,dJ h.th b h.lt,λj c=>RG.range_below (h.rw j c) b h.lt⟩
theorem Az.put{w W:Ur}{K k i:Nat}{L:Nat->Bs}(h:Az w W K k i L)(d:w.heap.size<=K)(g:i<k)(c:∀j,j<=i->(L j).size=33):Az w (W.setCells K (33*i) (aA (L i))) K k (i+1) L:=by
 refine⟨RG.below_setCells d _ _ _ h.bl,by rw[setCells_size];exact h.lt,VW h.th _ _ _,λj f=>?_⟩;by_cases b:j=i
 ·subst b;refine VO W K _ _ λt e=>?_
  rw[aB (c j (Uw _))]at e;have:=h.th (33*j+t) oM;rwa[UD]at this
 ·exact Vh (h.rw j oM) K _ _ (UX (U4 (by rw[aB (c j oM)];omega)))
def Uo(P:Nat)[NeZero P](w:Ur)(k:Nat)(L:Nat->Bs)(e:Ut)(w':Ur):Prop:=
 kZ w w'/\(((∀j,j<k->∃p,rd P (L j)=some p)/\∃K,e=.tuple #[sZ K k k,.bool true]/\w.heap.size<=K/\K<w'.heap.size/\∀j,j<k->w'.rangeAt K (33*j) (aA (L j)))\/((∃j,j<k/\rd P (L j)=none)/\e=.tuple #[.slice none 0 0,.bool false]))
def Oi(P:Nat)[NeZero P](w:Ur)(k:Nat)(L:Nat->Bs)(e:Ut)(w':Ur):Prop:=
 kZ w w'/\(((∀j,j<k->∃p,rd P (L j)=some p)/\∃K,e=.tuple #[sZ K k k,.bool true]/\w.heap.size<=K/\K<w'.heap.size/\w'.there K 0 (33*k)/\∀j,j<k->w'.rangeAt K (33*j) (aA (L j)))\/((∃j,j<k/\rd P (L j)=none)/\e=.tuple #[.slice none 0 0,.bool false]))
theorem Qi(C:Fld P)(B o k c:Nat)(hk:k<=512)(L:Nat->Bs)(w:Ur)(hg:B<w.heap.size)(hL:∀j,j<k->∃v,w.cell? ⟨B,o+j,none⟩=some v/\Arg33 w v (L j)):
 UH prog 120 #[.func (.func 53) #[] #[],.slice (some ⟨B,o,none⟩) k c] w (Ret (Oi P w k L)):=by
 obtain⟨C0,M,Q⟩:=Ru k hk;have n:=Q w;obtain⟨w1,z⟩:=hE (w.alloc (.cells C0.toArray 103));rw[z.out]at n;have HM:=Hid.mk' n;have K1:Hid (Az w w1 w.heap.size k 0 L):=by
  have hR:Row w1 w.heap.size C0:=by rw[<-z.out];exact aE w _ _
  refine⟨by rw[<-z.out];exact aC _ _,hR.1,by rw[<-M];exact hR.2.2,λj Y=>oM⟩
 have S:Hid (Fld P/\(∀j,j<k->∃v,w.cell? ⟨B,o+j,none⟩=some v/\Arg33 w v (L j))/\B<w.heap.size):=⟨C,hL,hg⟩
 obtain⟨d,N,K⟩:=Uy.1 uCP;have HD:=mk2 N K;have HO:Hid (z33.toArray.all (·.oneCell')=true):=by show _=_;decide +kernel
 clear N K C hL hg Q M z;go_enter func120,ntmps120;go_wp2;clear n;go_loopg [16] k (λm s16 W=>∃i:Nat,i+m=k/\s16=iZ i/\Hid (Az w W w.heap.size k i L/\∀j,j<i->∃p,rd P (L j)=some p))
 case atStart=>exact⟨0,oM,rfl,K1.out,λj Y=>oM⟩
 case round =>
  obtain⟨i,h1,rfl,x⟩:=hrel;by_cases H:i<k
  ·have h0:(i:Int)<(k:Int):=oM;obtain⟨v,J,I⟩:=S.2.1 i H;have hc:wr.cell? ⟨B,o+i,none⟩=some v:=by rw[x.1.bl.cell (p:=⟨B,o+i,none⟩) S.2.2];exact J
   have T:Hid (Arg33 wr v (L i)):=I.below x.1.bl;have X:=atB B o k c i H;rw[show o+1*i=o+i by omega]at X;clear J I;obtain⟨b,A⟩:∃b,Hid (L i=b):=⟨_,rfl⟩
   rw[A.out]at T;obtain⟨g,f⟩:∃g:Nat,True:=⟨0,yCl⟩
   clear f g;cases R:rd P b with
   | none =>
    go_wp2_with fail
    refine(M8 S.1 v b wr T.out R).mono ?_;rintro e a ⟨vv,rfl,E,rfl⟩;obtain⟨vz,l⟩:=hE (U3 z33.toArray);rw[l.out];obtain⟨g,f⟩:=hE (a.heap.size);obtain⟨y,r⟩:=hE (a.alloc (.cells z33.toArray 103));obtain⟨G,u⟩:=hE (y.setCells g 0 z33);have F:Hid (Row y g z33/\kZ w y/\w.heap.size<=g):=by
     have s:=x.1.bl.trans (E.mono x.1.bl.size);rw[<-r.out,<-f.out];exact⟨aE a _ _,s.alloc s.size _,s.size⟩
    have D:Hid (kZ w G):=by rw[<-u.out];exact RG.below_setCells F.2.2 _ _ _ F.2.1
    have s:Hid (i<k/\rd P (L i)=none):=⟨H,by rw[A.out];exact R⟩
    go_wp2_with (first|(refine bG (v:=jZ g) (w':=y) rfl (.alloc 103) rfl ?_ ?_;(rw[<-r.out,<-f.out];kernel_rfl))|(refine U2 rfl 103 _ _ rfl g 0 z33.toArray ?_ ?_ ?_ ?_ ?_ ?_;rfl;exact l.symm;exact F.1.2.2;exact cV;exact HO.out;rw[show z33.toArray.toList=z33 from rfl,u.out])|fail)
    go_ret2
    exact⟨_,rfl,D.out,UX ⟨⟨i,s.out⟩,rfl⟩⟩
   | some p =>
    have hs:=EF R;go_wp2_with fail
    refine(FI S.1 v b p wr T.out R).mono ?_;rintro e a ⟨vv,rfl,E,rfl⟩;obtain⟨vz,l⟩:=hE (pvl b);rw[l.out];have s:=aB hs;have Z:(aA b).toArray.size=33:=by rw[VC];exact s
    obtain⟨g,f⟩:=hE (a.heap.size);obtain⟨y,r⟩:=hE (a.alloc (.cells z33.toArray 103));obtain⟨G,u⟩:=hE (y.setCells g 0 (aA b));obtain⟨W4,O⟩:=hE (G.setCells w.heap.size (33*i) (aA b));have A1:=x.1.grow E;have F:Hid (Row y g z33/\kZ a y):=by
     rw[<-r.out,<-f.out];exact⟨aE a _ _,aC _ _⟩
    have V:Hid (Row G g (aA b)/\Az w G w.heap.size k i L):=by
     rw[<-u.out];exact⟨F.1.put (by rw[s];rfl),A1.grow (RG.below_setCells (by rw[f.out];exact Uw _) _ _ _ F.2)⟩
    have K4:Hid (Az w W4 w.heap.size k (i+1) L/\∀j,j<i+1->∃p,rd P (L j)=some p):=by
     have D:∀j,j<i+1->∃p,rd P (L j)=some p:=λj Y=>by
      by_cases U:j=i
      ·subst U;exact⟨p,by rw[A.out];exact R⟩
      ·exact x.2 j oM
     have h:=V.2.put (Uw _) H (λj Y=>by obtain⟨q,U⟩:=D j oM;exact EF U);rw[A.out,O.out]at h;exact⟨h,D⟩
    have D:Hid ((prog.info? 103).map (·.size)=some (aA b).length/\(prog.info? 103).map (·.size)=some (aA b).toArray.size/\y.there g 0 (aA b).toArray.size/\G.there w.heap.size (33*i) (aA b).toArray.size):=by
     rw[s,Z];refine⟨cV,cV,F.1.2.2,λt U=>?_⟩;have:=V.2.th (33*i+t) oM;rwa[UD]at this
    have U:=atP w.heap.size 0 k k i H;go_wp2_with (first|(refine bG (v:=jZ g) (w':=y) rfl (.alloc 103) rfl ?_ ?_;(rw[<-r.out,<-f.out];kernel_rfl))|(refine U2 rfl 103 _ _ rfl g 0 (aA b).toArray ?_ ?_ ?_ ?_ ?_ ?_;rfl;exact l.symm;exact D.2.2.1;exact D.2.1;exact bW b;rw[show(aA b).toArray.toList=aA b from rfl,u.out])|(refine U6 rfl 103 _ rfl g 0 ?_ (aA b) d ?_ ?_ ?_ ?_ ?_;rfl;exact V.1.2.1;exact HD.1;exact HD.2;exact D.1;rw[show U3 (aA b).toArray=vz from l.out])|(refine U2 rfl 103 _ _ rfl w.heap.size (33*i) (aA b).toArray ?_ ?_ ?_ ?_ ?_ ?_;rfl;exact l.symm;exact D.2.2.2;exact D.2.1;exact bW b;rw[show(aA b).toArray.toList=aA b from rfl,O.out])|fail)
    go_roundg (gk-1)
    case measure=>omega
    case rel=>exact⟨i+1,oM,rfl,K4⟩
  ·have h0:¬(i:Int)<(k:Int):=oM;obtain rfl:i=k:=oM;go_wp2
   go_ret2
   exact⟨_,rfl,x.1.bl,U4 ⟨x.2,w.heap.size,rfl,Uw _,x.1.lt,x.1.th,x.1.rw⟩⟩
theorem Qj(C:Fld P)(b k c:Nat)(g:k<=512)(L:Nat->Bs)(w:Ur)(d:b<w.heap.size)(e:∀j,j<k->∃v,w.cell? ⟨b,j,none⟩=some v/\Arg33 w v (L j)):
 UH prog 120 #[.func (.func 53) #[] #[],sZ b k c] w (Ret (Oi P w k L)):=Qi C b 0 k c g L w d λj f=>by rw[UD];exact e j f
theorem Kh(C:Fld P)(b k c:Nat)(g:k<=512)(L:Nat->Bs)(w:Ur)(m:b<w.heap.size)(i:∀j,j<k->∃v,w.cell? ⟨b,j,none⟩=some v/\Arg33 w v (L j)):
 UH prog 120 #[.func (.func 53) #[] #[],sZ b k c] w (Ret (Uo P w k L)):=by
 refine(Qj C b k c g L w m i).mono ?_;rintro e w' ⟨v,rfl,p,h⟩;refine⟨_,rfl,p,?_⟩;rcases h with⟨o,K,n,d,f,-,l⟩|h
 ·exact U4 ⟨o,K,n,d,f,l⟩
 ·exact UX h
theorem IU(O:Ord N){a:Nat}(b:a<N):Gives 149 #[nv a] (nv (sMi N 0 a)):=by
 intro w;have h:=Dl O 0 a O.pos b;generalize sMi N 0 a=m at h⊢;go_enter func149,ntmps149;refine RG.M.enter [(0,.v (nv a))] 6 kR ?_;intro a0 c;repeat refine Uz ?_
 refine c.T [.m 0,.m 1] [(0,wn a),(1,RG.z 4)] [] [wn a,RG.z 4] [1,2] ⟨mk 0 49,mk 1 49,yCl⟩ ?_;intro e i f g d;repeat refine Uz ?_
 refine d.T [.x (nv 0),.x (nv a),.c (nv m),.u 1] [] [(1,3,wn m)] [wn a,wn m] [2] ⟨st,ld u40 i40,cl h,RG.pt i40,yCl⟩ ?_;intro a2 j k;refine Wp ?_;refine UE (v:=nv m) (aI k.st 2 49 rfl 1 _ rfl (k.at (s:=(.p 1 0))) u40 i40) k.sl.defers ?_;exact⟨_,rfl,k.st.bel.below,rfl⟩
theorem TK(N:Nat)(f:N<=512):∃C0:List Ut,C0.length=37*N/\∀w:Ur,(XC 131 (iZ N) (iZ N)).run prog w=.ok (sZ w.heap.size N N) (w.alloc (.cells C0.toArray 226)):=by
 have m:(prog.info? 226).map (λi=>(i.size,decide (i.bytes<=4000),i.zero.isSome))=some (37,true,true):=kR;obtain⟨i,b,k⟩:=Uy.1 m;simp only[V6.injEq,decide_eq_true_eq]at k;obtain⟨g,e,d⟩:=k;obtain⟨z,c⟩:=Vr.1 d;refine⟨(madeCells z.cells (N*37)).toList,by rw[UK,YI,Vv],λw=>?_⟩;have j:(i.bytes:Int)*(N:Int)<=281474976710656:=by
  have:i.bytes*N<=4000*512:=WQ e f;have l:((i.bytes*N:Nat):Int)<=281474976710656:=oM;rwa[Xw]at l
 have:=run_make (P:=prog) w 131 226 i z C4 b c .i64 .i64 (N:Int) (N:Int) oM oM j oM;rw[X0,g]at this;rw[XD];exact this
theorem GW{W:Ur}{g:Nat}{l:List (Nat × Bs)}(k:∀x∈l.map (·.2),x.size=33)(e:W.rangeAt g 0 (aU l))(j:Nat)(c:j<l.length):W.rangeAt g (37*j) (wn (l[j]).1++aA (l[j]).2):=λt u b=>by
 have d:t<37:=by
  have:=(UF.1 b).1;rw[gJ (k _ (Vn.2 ⟨_,VH c,rfl⟩))]at this;exact this
 have:=e (37*j+t) u (by rw[lD l k j c t d];exact b);rw[UD]at this;exact this
theorem Dn{W:Ur}{g:Nat}{l:List (Nat × Bs)}(k:∀x∈l.map (·.2),x.size=33)(m:∀j (b:j<l.length),W.rangeAt g (37*j) (wn (l[j]).1++aA (l[j]).2)):W.rangeAt g 0 (aU l):=λt u c=>by
 have f:t<l.length*37:=by
  have:=(UF.1 c).1;rwa[qI λx hx=>k _ (Vn.2 ⟨x,hx,rfl⟩)]at this
 have b:t/37<l.length:=Nat.div_lt_of_lt_mul oM;have i:t%37<37:=V5 _ dC;have e:37*(t/37)+t%37=t:=Nat.div_add_mod _ _;have d:=lD l k (t/37) b (t%37) i;rw[e,c]at d;have:=m (t/37) b (t%37) u d.symm;rw[e]at this;rw[UD];exact this
def tmT(N n:Nat)(x:Nat × Bs):Nat × Bs:=(sTi N n x.1,x.2)
structure Tz(w W:Ur)(N n K k3 i:Nat)(l:List (Nat × Bs)):Prop where
 bl:kZ w W
 lt:K<W.heap.size
 ne:k3≠K
 th:W.there K 0 (37*l.length)
 r3:Row W k3 (wn n)
 rw:∀j (hj:j<l.length),j<i->W.rangeAt K (37*j) (wn (tmT N n (l[j])).1++aA (tmT N n (l[j])).2)
theorem Tz.grow{w W W':Ur}{n K c i:Nat}{l:List (Nat × Bs)}(h:Tz w W N n K c i l)(k:kZ W W'):Tz w W' N n K c i l:=
 ⟨h.bl.trans (k.mono h.bl.size),Ux h.lt k.size,h.ne,dJ h.th k h.lt,h.r3.below k,λj d b=>RG.range_below (h.rw j d b) k h.lt⟩
theorem Tz.drew{w W:Ur}{n K k i:Nat}{l:List (Nat × Bs)}(h:Tz w W N n K k i l):Tz w W.drew N n K k i l:=⟨h.bl.drew,h.lt,h.ne,h.th,h.r3,h.rw⟩
theorem Tz.put{w W:Ur}{n K d i:Nat}{l:List (Nat × Bs)}(h:Tz w W N n K d i l)(f:w.heap.size<=K)(o:i<l.length)(c:∀x∈l.map (·.2),x.size=33):Tz w (W.setCells K (37*i) (wn (tmT N n (l[i])).1++aA (tmT N n (l[i])).2)) N n K d (i+1) l:=by
 have b:∀(j:Nat) (k:j<l.length),(wn (tmT N n (l[j])).1++aA (tmT N n (l[j])).2).length=37:=λj k=>gJ (c _ (Vn.2 ⟨_,VH k,rfl⟩))
 refine⟨RG.below_setCells f _ _ _ h.bl,by rw[setCells_size];exact h.lt,h.ne,VW h.th _ _ _,⟨by rw[setCells_size];exact h.r3.1,Vh h.r3.2.1 K _ _ (U4 h.ne),VW h.r3.2.2 _ _ _⟩,λj k m=>?_⟩;by_cases e:j=i
 ·subst e;refine VO W K _ _ λt g=>?_
  rw[b j k]at g;have:=h.th (37*j+t) oM;rwa[UD]at this
 ·exact Vh (h.rw j k oM) K _ _ (UX (U4 (by rw[b j k];omega)))
section
variable (w:Ur) (n K k3 k7 i s m:Nat) (p:Bs) (l:List (Nat × Bs))
def Rt:Nat->Ut->Ur->Prop
 | 0,v,_=>v=sZ K l.length l.length
 | 1,v,_=>v=iZ i
 | 2,v,_=>v=nv n
 | 3,v,_=>v=jZ k7
 | 4,v,_=>v=nv s
 | 5,v,_=>v=nv m
 | 6,v,_=>v=oZ k7 4
 | 7,v,_=>v=pvl p
 | 8,v,_=>v=tvl m p
 | 9,v,_=>v=.pointer (some ⟨K,0+37*i,none⟩)
 | _,_,_=>True
def Gt(N:Nat):Gw:=⟨Rt n K k7 i s m p l,λW=>Tz w W N n K k3 i l/\Row W k7 (wn s++aA p),λj v W W' k h=>by
 match j,h with
 | 0,h=>exact h
 | 1,h=>exact h
 | 2,h=>exact h
 | 3,h=>exact h
 | 4,h=>exact h
 | 5,h=>exact h
 | 6,h=>exact h
 | 7,h=>exact h
 | 8,h=>exact h
 | 9,h=>exact h
 | _+10,_=>trivial,λW W' k h=>⟨h.1.grow k,h.2.below k⟩⟩
end
theorem eG(O:Ord N){n:Nat}(hn:n<N)(B:Nat)(s:Ut)(l:List (Nat × Bs))(hl:l.length<=512)(h9:∀x∈l.map (·.2),x.size=33)(X:∀x∈l,x.1<N)(w:Ur)(hS:Sm B w s l):
 UH prog 164 #[s,nv n] w (rZ w λe w'=>Sm w.heap.size w' e (l.map (tmT N n))):=by
 obtain⟨g,c,rfl,hc,-,hg,hr⟩:=hS;have HB:=Hid.mk' (boxS n w);obtain⟨C,A⟩:∃C,Hid (w.alloc (.cells (wn n).toArray 49)=C):=⟨_,rfl⟩
 rw[A.out]at HB;obtain⟨H,D⟩:∃k,Hid (w.heap.size=k):=⟨_,rfl⟩
 obtain⟨K,hK⟩:∃k,Hid (C.heap.size=k):=⟨_,rfl⟩
 have e1:K=H+1:=by rw[<-hK.out,<-D.out,<-A.out,UB]
 obtain⟨C0,Y,h7⟩:=TK l.length hl;have I:=h7 C;obtain⟨w2,G⟩:∃w2,Hid (C.alloc (.cells C0.toArray 226)=w2):=⟨_,rfl⟩
 rw[G.out,hK.out]at I;rw[D.out]at HB;have K2:Hid (Tz w w2 N n K H 0 l):=by
  have f:Row C H (wn n):=by rw[<-A.out,<-D.out];exact aE w _ _
  have b1:kZ w C:=by rw[<-A.out];exact aC _ _
  have o:kZ C w2:=by rw[<-G.out];exact aC _ _
  have d:Row w2 K C0:=by rw[<-G.out,<-hK.out];exact aE C _ _
  exact⟨b1.trans (o.mono b1.size),d.1,oM,by rw[<-Y];exact d.2.2,f.below o,λj hj q=>oM⟩
 have r:Hid (Ord N/\n<N/\(∀x∈l.map (·.2),x.size=33)/\(∀x∈l,x.1<N)/\g<w.heap.size/\w.rangeAt g 0 (aU l)/\w.heap.size<=K):=⟨O,hn,h9,X,hg,hr,by rw[D.out];omega⟩
 obtain⟨d',h4,h5⟩:=Uy.1 uT;have HD:Hid (prog.underlying 226=some d'/\d'.isRow=true):=⟨h4,h5⟩
 obtain⟨vn,hk⟩:∃v,Hid (nv n=v):=⟨_,rfl⟩
 rw[hk.out]at HB⊢;clear h4 h5 O hn h9 X hg hr h7 Y A G hK D e1;go_enter func164,ntmps164;go_wp2_with (first|(refine aF (u:=vn) (v:=jZ H) (w':=C) rfl 49 (.tmp 1) rfl ?_ ?_ ?_;rfl;exact HB.out)|fail)
 clear I;go_loopg [13] l.length (λm s13 W=>∃i:Nat,i+m=l.length/\s13=iZ i/\Hid (Tz w W N n K H i l))
 case atStart=>exact⟨0,oM,rfl,K2⟩
 case round =>
  clear K2 HB;obtain⟨i,hw,rfl,R⟩:=hrel;by_cases o:i<l.length
  ·have hq:(i:Int)<(l.length:Int):=oM;obtain⟨s,J⟩:∃s,Hid ((l[i]'o).1=s):=⟨(l[i]'o).1,(rfl:(l[i]'o).1=(l[i]'o).1)⟩
   obtain⟨p,P⟩:∃p,Hid ((l[i]'o).2=p):=⟨(l[i]'o).2,(rfl:(l[i]'o).2=(l[i]'o).2)⟩
   have E:Hid (p.size=33):=by rw[<-P.out];exact r.2.2.1 _ (Vn.2 ⟨_,VH o,rfl⟩)
   have ha:Hid (s<N):=by rw[<-J.out];exact r.2.2.2.1 _ (VH o)
   have B0:Hid (wr.rangeAt g (37*i) (wn s++aA p)):=by
    have h:=RG.range_below (GW r.2.2.1 r.2.2.2.2.2.1 i o) R.bl r.2.2.2.2.1;rw[J.out,P.out]at h;exact h
   obtain⟨q,F⟩:∃k,Hid (wr.heap.size=k):=⟨_,rfl⟩
   obtain⟨T,M⟩:∃T,Hid (wr.alloc (.cells zT.toArray 226)=T):=⟨_,rfl⟩
   obtain⟨W2,L⟩:∃W2,Hid (T.setCells q 0 (wn s++aA p)=W2):=⟨_,rfl⟩
   have f:(wn s++aA p).length=37:=gJ E.out;have F1:Hid (Row T q zT/\kZ wr T):=by rw[<-M.out,<-F.out];exact⟨aE wr _ _,aC wr _⟩
   have F2:Hid (Row W2 q (wn s++aA p)/\Tz w W2 N n K H i l):=by
    rw[<-L.out];exact⟨F1.1.put (by rw[f];rfl),R.grow (RG.below_setCells (by rw[F.out];exact Uw _) _ _ _ F1.2)⟩
   have hm:Hid ((prog.info? 226).map (·.size)=some (wn s++aA p).length):=by show _=_;rw[f];exact iT
   have Z:Hid ((prog.info? 226).map (·.size)=some (wn s++aA p).toArray.size/\T.there q 0 (wn s++aA p).toArray.size):=by
    have e:(wn s++aA p).toArray.size=37:=by rw[VC];exact f
    rw[e];exact⟨iT,F1.1.2.2⟩
   have he:Hid ((wn s++aA p).toArray.all (·.oneCell')=true):=by
    show _=_;rw[WX];intro u U;exact cells_one s p u (X6.1 U)
   have hs:=atT g 0 l.length c i o;obtain⟨vt,h3⟩:∃v,Hid (U3 (wn s++aA p).toArray=v):=⟨_,rfl⟩
   have HL:Hid (i<l.length):=o;clear f R F1;go_wp2_with (first|(refine U6 rfl 226 _ rfl g (37*i) ?_ (wn s++aA p) d' ?_ ?_ ?_ ?_ ?_;rfl;exact B0.out;exact HD.1;exact HD.2;exact hm.out;rw[h3.out])|(refine bG (v:=jZ q) (w':=T) rfl (.alloc 226) rfl ?_ ?_;(rw[<-M.out,<-F.out];kernel_rfl))|(refine U2 rfl 226 _ _ rfl q 0 (wn s++aA p).toArray ?_ ?_ ?_ ?_ ?_ ?_;rfl;exact h3.symm;exact Z.2;exact Z.1;exact he.out;rw[show(wn s++aA p).toArray.toList=wn s++aA p from rfl,L.out])|fail)
   clear M L F;refine(Gt w n K H q i s (sTi N n s) p l N).last 10 kR kR kR ⟨
    bN λa W d=>⟨[(5,sZ K l.length l.length)],sZ K l.length l.length,W,⟨d.o 5 kR,yCl⟩,kR,UR _ _,rfl⟩,
    bN λa W d=>⟨[(6,iZ i)],iZ i,W,⟨d.o 6 kR,yCl⟩,kR,UR _ _,rfl⟩,
    iQ 49 3 rfl Go.Proofs.YtdoammpgchejcaaGreat.u40 λa W d=>⟨H,0,wn n,d.o 3 kR,d.b.1.r3.2.1,i40,rfl⟩,
    bN λa W d=>⟨[(7,jZ q)],jZ q,W,⟨d.o 7 kR,yCl⟩,kR,UR _ _,rfl⟩,
    iQ 49 21 rfl Go.Proofs.YtdoammpgchejcaaGreat.u40 λa W d=>⟨q,0,wn s,d.n 3 21 kR kR,kA d.b.2.2.1,i40,rfl⟩,
    gK λa W d=>⟨[(20,nv n),(22,nv s)],79,#[nv n,nv s],⟨d.n 2 20 kR kR,d.n 4 22 kR kR,yCl⟩,kR,(iI r.1 n s r.2.1 ha.out W).mono (by
     rintro e W' ⟨u,rfl,Q,rfl⟩;exact⟨_,rfl,Q,rfl⟩)⟩,
    bN λa W d=>⟨[(7,jZ q)],oZ q 4,W,⟨d.o 7 kR,yCl⟩,kR,UR _ _,rfl⟩,
    iQ 103 24 rfl uCP λa W d=>⟨q,4,aA p,d.n 6 24 kR kR,lT (xs:=wn s) d.b.2.2.1,by rw[aB E.out];exact cV,rfl⟩,
    bN λa W d=>⟨[(23,nv (sTi N n s)),(25,pvl p)],tvl (sTi N n s) p,W,⟨d.n 5 23 kR kR,d.n 7 25 kR kR,yCl⟩,by
     rw[V6.injEq];refine⟨kR,?_⟩;refine Eq.trans (b:=((Zg 226 #[(0,nv (sTi N n s)),(1,pvl p)]) >>= λv=>pure (Xp v)).run prog W) kR ?_;rw[UV,SR E.out];rfl,UR _ _,rfl⟩,
    bN λa W d=>⟨[(18,sZ K l.length l.length),(19,iZ i)],.pointer (some ⟨K,0+37*i,none⟩),W,⟨d.n 0 18 kR kR,d.n 1 19 kR kR,yCl⟩,by
     rw[V6.injEq];refine⟨kR,?_⟩;show((Vl 131 (sZ K l.length l.length) (iZ i)) >>= λv=>pure (Xp v)).run prog W=_;rw[UV,atT K 0 l.length l.length i HL.out];rfl,UR _ _,rfl⟩,yCl⟩ ⟨F2.2.drew,F2.1⟩ ?_
   intro V W3 S Q;have h8:V 8=tvl (sTi N n s) p:=S 8 dC;have h0:V 9=.pointer (some ⟨K,0+37*i,none⟩):=S 9 dC;have d:(wn (sTi N n s)++aA p).length=37:=gJ E.out;obtain⟨W4,h6⟩:∃W4,Hid (W3.setCells K (37*i) (wn (sTi N n s)++aA p)=W4):=⟨_,rfl⟩
   have K4:Hid (Tz w W4 N n K H (i+1) l):=by
    have h:=Q.1.put r.2.2.2.2.2.2 HL.out r.2.2.1;have e:tmT N n (l[i]'HL.out)=(sTi N n s,p):=by
     have h1:=J.out;have h2:=P.out;unfold tmT;rw[h1,h2]
    rw[e]at h;rw[<-h6.out];exact h
   have HT:Hid (W3.there K (37*i) (wn (sTi N n s)++aA p).toArray.size/\(prog.info? 226).map (·.size)=some (wn (sTi N n s)++aA p).toArray.size/\(wn (sTi N n s)++aA p).toArray.all (·.oneCell')=true):=by
    have e:(wn (sTi N n s)++aA p).toArray.size=37:=by rw[VC];exact d
    refine⟨λt ht=>?_,by rw[e];exact iT,?_⟩
    ·rw[e]at ht;have:=Q.1.th (37*i+t) (by have:=HL.out;omega);rwa[UD]at this
    ·rw[WX];intro u U;exact cells_one _ p u (X6.1 U)
   dsimp only[bU,VK,Xl,Xm];simp only[UN,Us,Uu,Uv];obtain⟨vz,U⟩:∃v,Hid (tvl (sTi N n s) p=v):=⟨_,rfl⟩
   rw[h8,h0,U.out,UD];clear S Q h8 h0 d F2;generalize V 0=s0;generalize V 1=s1;generalize V 2=s2;generalize V 3=s3;generalize V 4=s4;generalize V 5=s5;generalize V 6=s6;generalize V 7=s7;go_wp2_with (first|(refine U2 rfl 226 _ _ rfl K (37*i) (wn (sTi N n s)++aA p).toArray ?_ ?_ ?_ ?_ ?_ ?_;rfl;exact U.symm;exact HT.1;exact HT.2.1;exact HT.2.2;rw[show(wn (sTi N n s)++aA p).toArray.toList=wn (sTi N n s)++aA p from rfl,h6.out])|fail)
   go_roundg (gk-1)
   case measure=>omega
   case rel=>exact⟨i+1,oM,rfl,K4⟩
  ·have hq:¬(i:Int)<(l.length:Int):=oM;obtain rfl:i=l.length:=oM;have d:Hid (kZ w wr/\Sm w.heap.size wr (sZ K l.length l.length) (l.map (tmT N n))):=by
    refine⟨R.bl,K,l.length,by rw[UQ],by rw[UQ];exact Uw _,r.2.2.2.2.2.2,R.lt,Dn (λx hx=>?_) λj hj=>?_⟩
    ·obtain⟨y,f,rfl⟩:=Vn.1 hx;obtain⟨z,q,rfl⟩:=Vn.1 f;exact r.2.2.1 _ (Vn.2 ⟨z,q,rfl⟩)
    ·rw[List.getElem_map];rw[UQ]at hj;exact R.rw j hj hj
   clear R;go_wp2;go_ret;exact⟨_,rfl,d.1,d.2⟩
end
namespace SPA
structure Md(N:Nat)[NeZero N](M:Type) where
 ad:M->M->M
 zo:M
 ac:(Fin N)->M->M
 comm:∀a b,ad a b=ad b a
 assoc:∀a b c,ad (ad a b) c=ad a (ad b c)
 zadd:∀a,ad zo a=a
 acAd:∀r a b,ac r (ad a b)=ad (ac r a) (ac r b)
 adAc:∀r s a,ac (r+s) a=ad (ac r a) (ac s a)
 acAc:∀r s a,ac r (ac s a)=ac (r*s) a
 acOne:∀a,ac 1 a=a
 zac:∀a,ac 0 a=zo
variable {N:Nat}[NeZero N]{M:Type}
namespace Md
variable (D:Md N M)
theorem S3(a:M):D.ad a D.zo=a:=by rw[D.comm,D.zadd]
theorem swap(a b c d:M):D.ad (D.ad a b) (D.ad c d)=D.ad (D.ad a c) (D.ad b d):=by
 rw[D.assoc,<-D.assoc b,D.comm b c,D.assoc c,<-D.assoc]
theorem acz(r:(Fin N)):D.ac r D.zo=D.zo:=by
 have h:=D.zac D.zo;rw[<-h,D.acAc,show r*0=(0:(Fin N)) by grind]
def sm(f:Nat->M):Nat->M
 | 0=>D.zo
 | n+1=>D.ad (sm f n) (f n)
theorem mV{f g:Nat->M}:∀n,(∀i,i<n->f i=g i)->D.sm f n=D.sm g n
 | 0,_=>rfl
 | n+1,h=>by
  show D.ad _ _=D.ad _ _;rw[mV n λi k=>h i oM,h n oM]
theorem BH(f g:Nat->M):∀n,D.sm (λi=>D.ad (f i) (g i)) n=D.ad (D.sm f n) (D.sm g n)
 | 0=>(D.zadd _).symm
 | n+1=>by
  show D.ad _ _=D.ad (D.ad _ _) (D.ad _ _);rw[BH f g n,D.swap]
theorem ED(r:(Fin N))(f:Nat->M):∀n,D.sm (λi=>D.ac r (f i)) n=D.ac r (D.sm f n)
 | 0=>(D.acz r).symm
 | n+1=>by
  show D.ad _ _=D.ac r (D.ad _ _);rw[ED r f n,D.acAd]
theorem Ik(f:Nat->M)(n:Nat):∀m,D.sm f (n+m)=D.ad (D.sm f n) (D.sm (λi=>f (n+i)) m)
 | 0=>(D.S3 _).symm
 | m+1=>by
  show D.ad (D.sm f (n+m)) _=D.ad _ (D.ad _ _);rw[Ik f n m,D.assoc];rfl
instance:Std.Associative D.ad:=⟨D.assoc⟩
instance:Std.Commutative D.ad:=⟨D.comm⟩
def dt(a:Nat->(Fin N))(g:Nat->M)(n:Nat):M:=D.sm (λi=>D.ac (a i) (g i)) n
theorem DY(a:Nat->(Fin N))(g:Nat->M)(n m:Nat):D.dt a g (n+m)=D.ad (D.dt a g n) (D.dt (λi=>a (n+i)) (λi=>g (n+i)) m):=D.Ik _ n m
theorem DZ(x y:(Fin N))(b:x*y=1)(a c:Nat->(Fin N))(g k:Nat->M)(n:Nat):
 D.dt (λi=>x*a i+y*c i) (λi=>D.ad (D.ac y (g i)) (D.ac x (k i))) n
  = D.ad (D.ad (D.ac (x*x) (D.dt a k n)) (D.ad (D.dt a g n) (D.dt c k n))) (D.ac (y*y) (D.dt c g n)):=by
 unfold dt;rw[<-D.ED,<-D.ED,<-D.BH,<-D.BH,<-D.BH];refine D.mV n λi _=>?_
 rw[D.acAd,D.acAc,D.acAc,D.acAc,D.acAc,show(x*a i+y*c i)*y=a i+y*y*c i by grind,show(x*a i+y*c i)*x=x*x*a i+c i by grind,D.adAc,D.adAc]
 ac_rfl
theorem Fx(a c:Nat->(Fin N))(g:Nat->M)(n:Nat):D.dt (λi=>a i+c i) g n=D.ad (D.dt a g n) (D.dt c g n):=by
 unfold dt;rw[<-D.BH];exact D.mV n λi _=>D.adAc _ _ _
theorem NS(r:(Fin N))(a:Nat->(Fin N))(g:Nat->M)(n:Nat):D.dt (λi=>r*a i) g n=D.ac r (D.dt a g n):=by
 unfold dt;rw[<-D.ED];exact D.mV n λi _=>(D.acAc _ _ _).symm
end Md
def own(N:Nat)[NeZero N]:Md N (Fin N) where
 ad:=(·+·)
 zo:=0
 ac:=(·*·)
 comm:=by grind
 assoc:=by grind
 zadd:=by grind
 acAd:=by grind
 adAc:=by grind
 acAc:=by grind
 acOne:=by grind
 zac:=by grind
namespace Md
variable (D:Md N M)
def pr(a b:Nat->(Fin N))(n:Nat):(Fin N):=(own N).dt a b n
def hd(a b:Nat->(Fin N))(g h:Nat->M)(u:M)(n:Nat):M:=D.ad (D.ad (D.dt a g n) (D.dt b h n)) (D.ac (pr a b n) u)
def lf(a b:Nat->(Fin N))(g h:Nat->M)(u:M)(n:Nat):M:=D.hd a (λi=>b (n+i)) (λi=>g (n+i)) h u n
def rt(a b:Nat->(Fin N))(g h:Nat->M)(u:M)(n:Nat):M:=D.hd (λi=>a (n+i)) b g (λi=>h (n+i)) u n
def fS(x y:(Fin N))(n:Nat)(a:Nat->(Fin N))(i:Nat):(Fin N):=x*a i+y*a (n+i)
def fP(x y:(Fin N))(n:Nat)(g:Nat->M)(i:Nat):M:=D.ad (D.ac x (g i)) (D.ac y (g (n+i)))
theorem halved(x y:(Fin N))(k:x*y=1)(a b:Nat->(Fin N))(g h:Nat->M)(u:M)(n:Nat):
 D.hd (fS x y n a) (fS y x n b) (D.fP y x n g) (D.fP x y n h) u n
  = D.ad (D.ad (D.ac (x*x) (D.lf a b g h u n)) (D.hd a b g h u (n+n))) (D.ac (y*y) (D.rt a b g h u n)):=by
 have c:=D.DZ x y k a (λi=>a (n+i)) g (λi=>g (n+i)) n;have d:=D.DZ y x (by rw[<-k];grind) b (λi=>b (n+i)) h (λi=>h (n+i)) n;have e3:=(own N).DZ x y k a (λi=>a (n+i)) b (λi=>b (n+i)) n;unfold lf rt hd pr;rw[show D.dt (fS x y n a) (D.fP y x n g) n=_ from c,show D.dt (fS y x n b) (D.fP x y n h) n=_ from d,show(own N).dt (fS x y n a) (fS y x n b) n=_ from e3,D.DY,D.DY,(own N).DY];simp only[D.acAd,D.acAc];rw[show(own N).ad ((own N).ad ((own N).ac (x*x) ((own N).dt a (λi=>b (n+i)) n)) ((own N).ad ((own N).dt a b n) ((own N).dt (λi=>a (n+i)) (λi=>b (n+i)) n))) ((own N).ac (y*y) ((own N).dt (λi=>a (n+i)) b n))
  = (x*x*(own N).dt a (λi=>b (n+i)) n+(own N).ad ((own N).dt a b n) ((own N).dt (λi=>a (n+i)) (λi=>b (n+i)) n))+y*y*(own N).dt (λi=>a (n+i)) b n from rfl,D.adAc,D.adAc]
 ac_rfl
def pv{S:Type}(ch:S->M->M->S × (Fin N))(iv:(Fin N)->(Fin N))(u:M):Nat->S->(Nat->(Fin N))->(Nat->(Fin N))->(Nat->M)->(Nat->M)->List (M × M) × (Fin N) × (Fin N)
 | 0,_,a,b,_,_=>([],a 0,b 0)
 | t+1,s,a,b,g,h =>
  let L:=D.lf a b g h u (2^t)
  let T:=D.rt a b g h u (2^t)
  let c:=ch s L T
  let r:=pv ch iv u t c.1 (fS c.2 (iv c.2) (2^t) a) (fS (iv c.2) c.2 (2^t) b) (D.fP (iv c.2) c.2 (2^t) g) (D.fP c.2 (iv c.2) (2^t) h)
  ((L,T) :: r.1,r.2)
def vf{S:Type}(ch:S->M->M->S × (Fin N))(iv:(Fin N)->(Fin N))(u:M)(a b:(Fin N)):List (M × M)->S->M->(Nat->M)->(Nat->M)->Prop
 | [],_,p,g,h=>p=D.ad (D.ad (D.ac a (g 0)) (D.ac b (h 0))) (D.ac (a*b) u)
 | (L,T) :: l,s,p,g,h =>
  let c:=ch s L T
  let x:=c.2
  let y:=iv x
  vf ch iv u a b l c.1 (D.ad (D.ad (D.ac (x*x) L) p) (D.ac (y*y) T)) (D.fP y x (2^l.length) g) (D.fP x y (2^l.length) h)
theorem Jk(a b:Nat->(Fin N))(g h:Nat->M)(u:M):D.hd a b g h u 1=D.ad (D.ad (D.ac (a 0) (g 0)) (D.ac (b 0) (h 0))) (D.ac (a 0*b 0) u):=by
 show D.ad (D.ad (D.ad D.zo _) (D.ad D.zo _)) (D.ac ((0:(Fin N))+a 0*b 0) u)=_;rw[D.zadd,D.zadd,show(0:(Fin N))+a 0*b 0=a 0*b 0 by grind]
structure Rg(R:Type) where
 l:Nat->R
 m:Nat->R
 s:Nat->R
 q:Nat->R
 Y:Nat->R
 W:Nat->R
 T:Nat->R
 z:R
 x:R
def Rg.Ok(r:Rg (Fin N))(n:Nat):Prop:=∀i,i<n->r.l i*r.m i=0/\r.m i=r.l i-1/\r.Y i*r.W i=1
def Rg.a0(r:Rg (Fin N))(i:Nat):(Fin N):=r.l i-r.z
def Rg.b0(r:Rg (Fin N))(i:Nat):(Fin N):=r.Y i*(r.m i+r.z)+r.z*r.z*r.T i
def Rg.b1(r:Rg (Fin N))(i:Nat):(Fin N):=r.Y i*r.q i
def Rg.a(r:Rg (Fin N))(i:Nat):(Fin N):=r.a0 i+r.s i*r.x
def Rg.b(r:Rg (Fin N))(i:Nat):(Fin N):=r.b0 i+r.b1 i*r.x
def Rg.sY(r:Rg (Fin N))(n:Nat):(Fin N):=(own N).sm r.Y n
def Rg.sT(r:Rg (Fin N))(n:Nat):(Fin N):=(own N).sm r.T n
def Rg.v(r:Rg (Fin N))(n:Nat):(Fin N):=pr r.l r.T n
def Rg.d(r:Rg (Fin N))(n:Nat):(Fin N):=(r.z-r.z*r.z)*r.sY n-r.z*r.z*r.z*r.sT n
def Rg.t1(r:Rg (Fin N))(n:Nat):(Fin N):=pr r.a0 r.b1 n+pr r.s r.b0 n
def Rg.t2(r:Rg (Fin N))(n:Nat):(Fin N):=pr r.s r.b1 n
theorem uV(a b:Nat->(Fin N))(n:Nat):pr a b (n+1)=pr a b n+a n*b n:=rfl
theorem Rg.t0(r:Rg (Fin N)):∀n,r.Ok n->pr r.a0 r.b0 n=r.z*r.z*r.v n+r.d n
 | 0,_=>by
  show(0:(Fin N))=r.z*r.z*0+((r.z-r.z*r.z)*0-r.z*r.z*r.z*0);grind
 | n+1,h=>by
  have k:=t0 r n λi f=>h i oM
  obtain⟨e,c,_⟩:=h n oM;have b:r.v (n+1)=r.v n+r.l n*r.T n:=rfl;have d:r.d (n+1)=(r.z-r.z*r.z)*(r.sY n+r.Y n)-r.z*r.z*r.z*(r.sT n+r.T n):=rfl;have e3:r.d n=(r.z-r.z*r.z)*r.sY n-r.z*r.z*r.z*r.sT n:=rfl;rw[uV,k,b,d,e3];unfold Rg.a0 Rg.b0;rw[c]at e⊢;generalize r.v n=A,r.sY n=B,r.sT n=C,r.l n=l,r.Y n=y,r.T n=t,r.z=z at *;grind
theorem Rg.tt(r:Rg (Fin N)):∀n,pr r.a r.b n=pr r.a0 r.b0 n+r.t1 n*r.x+r.t2 n*r.x*r.x
 | 0=>by
  show(0:(Fin N))=0+(0+0)*r.x+0*r.x*r.x;grind
 | n+1=>by
  have k:=tt r n;have b:r.t1 (n+1)=(pr r.a0 r.b1 n+r.a0 n*r.b1 n)+(pr r.s r.b0 n+r.s n*r.b0 n):=rfl;have c:r.t2 (n+1)=pr r.s r.b1 n+r.s n*r.b1 n:=rfl;have e3:r.t1 n=pr r.a0 r.b1 n+pr r.s r.b0 n:=rfl;have d:r.t2 n=pr r.s r.b1 n:=rfl;rw[uV,k,b,c,e3,d,uV];show _+(r.a0 n+r.s n*r.x)*(r.b0 n+r.b1 n*r.x)=_;generalize pr r.a0 r.b0 n=A,pr r.a0 r.b1 n=B,pr r.s r.b0 n=C,pr r.s r.b1 n=E,r.a0 n=a0,r.b0 n=b0,r.s n=s,r.b1 n=b1,r.x=x;grind
def cm(H G:M)(c r:(Fin N)):M:=D.ad (D.ac c H) (D.ac r G)
theorem Dc(r:Rg (Fin N))(n:Nat)(h:r.Ok n)(H G:M)(k t1 t2:(Fin N)):
 D.cm H G (pr r.a r.b n) (t1*r.x+t2*(r.x*r.x)+r.z*r.z*k)
  = D.ad (D.ad (D.ac (r.z*r.z) (D.cm H G (r.v n) k)) (D.ac (r.d n) H)) (D.ad (D.ac r.x (D.cm H G (r.t1 n) t1)) (D.ac (r.x*r.x) (D.cm H G (r.t2 n) t2))):=by
 rw[r.tt,r.t0 n h];unfold cm;simp only[D.acAd,D.acAc];rw[show r.z*r.z*r.v n+r.d n+r.t1 n*r.x+r.t2 n*r.x*r.x=r.z*r.z*r.v n+r.d n+r.x*r.t1 n+r.x*r.x*r.t2 n by grind,
  show t1*r.x+t2*(r.x*r.x)+r.z*r.z*k=r.x*t1+r.x*r.x*t2+r.z*r.z*k by grind]
 simp only[D.adAc]
 ac_rfl
theorem xX{a c:Nat->(Fin N)}{g k:Nat->M}(n:Nat)(h:∀i,i<n->D.ac (a i) (g i)=D.ac (c i) (k i)):D.dt a g n=D.dt c k n:=D.mV n h
theorem Uk(r:Rg (Fin N))(g:Nat->M)(n:Nat):D.dt r.a g n=D.ad (D.ad (D.dt r.l g n) (D.ac r.x (D.dt r.s g n))) (D.dt (λ_=>-r.z) g n):=by
 rw[<-D.NS,<-D.Fx,<-D.Fx];refine D.xX n λi _=>?_
 show D.ac (r.l i-r.z+r.s i*r.x) _=_;rw[show r.l i-r.z+r.s i*r.x=r.l i+r.x*r.s i+-r.z by grind]
theorem Uj(r:Rg (Fin N))(k:Nat->M)(n:Nat)(h:r.Ok n):D.dt r.b (λi=>D.ac (r.W i) (k i)) n
 = D.ad (D.ad (D.dt r.m k n) (D.ac r.x (D.dt r.q k n))) (D.dt (λi=>r.z+r.z*r.z*(r.T i*r.W i)) k n):=by
 rw[<-D.NS,<-D.Fx,<-D.Fx];refine D.xX n λi b=>?_
 obtain⟨_,_,c⟩:=h i b;rw[D.acAc];show D.ac ((r.Y i*(r.m i+r.z)+r.z*r.z*r.T i+r.Y i*r.q i*r.x)*r.W i) _=_;rw[show(r.Y i*(r.m i+r.z)+r.z*r.z*r.T i+r.Y i*r.q i*r.x)*r.W i=r.m i+r.x*r.q i+(r.z+r.z*r.z*(r.T i*r.W i)) by
  generalize r.Y i=y,r.W i=w,r.m i=m,r.q i=q,r.T i=t,r.z=z,r.x=x at *;grind]
theorem B8(r:Rg (Fin N))(n:Nat)(h:r.Ok n)(G:M)(g k:Nat->M)(U:M)(al b w:(Fin N)):
 D.ad (D.ad (D.ad (D.ad (D.ad (D.ac al G) (D.ad (D.dt r.l g n) (D.dt r.m k n))) (D.ac r.x (D.ad (D.ac b G) (D.ad (D.dt r.s g n) (D.dt r.q k n))))) (D.ac (-(al+b*r.x)) G))
  (D.ad (D.dt (λ_=>-r.z) g n) (D.dt (λi=>r.z+r.z*r.z*(r.T i*r.W i)) k n))) (D.ac (pr r.a r.b n*w) U)
  = D.hd r.a r.b g (λi=>D.ac (r.W i) (k i)) (D.ac w U) n:=by
 unfold hd;rw[D.Uk,D.Uj r k n h,D.acAc];simp only[D.acAd,D.acAc];have e:D.ad (D.ac al G) (D.ad (D.ac (r.x*b) G) (D.ac (-(al+b*r.x)) G))=D.zo:=by
  rw[<-D.adAc,<-D.adAc,show al+(r.x*b+-(al+b*r.x))=(0:(Fin N)) by grind,D.zac]
 generalize D.ac al G=A at *;generalize D.ac (r.x*b) G=B at *;generalize D.ac (-(al+b*r.x)) G=E at *;refine Eq.trans ?_ (D.zadd _);rw[<-e]
 ac_rfl
end Md
end SPA
section
open SPA
variable {P:Nat}[NeZero P]{N:Nat}[NeZero N]
abbrev OnP(P:Nat)[NeZero P]:={p:EC.Pt P // On p}
def aD(C:Fld P)(k:∀r:EC.Pt P,On r->mul N r=none):Md N (OnP P) where
 ad a b:=⟨EC.add a.1 b.1,C.cur.on a.2 b.2⟩
 zo:=⟨none,iN⟩
 ac r a:=⟨mul r.val a.1,cG C.cur a.2 _⟩
 comm a b:=Yr (C.cur.comm a.2 b.2)
 assoc a b c:=Yr (C.cur.assoc a.2 b.2 c.2)
 zadd _:=rfl
 acAd r a b:=Yr (xE C a.2 b.2 _)
 adAc r s a:=Yr (by
  show mul (r+s).val a.1=_;rw[yAD,mul_mod C k a.2,mul_add C.cur a.2])
 acAc r s a:=Yr (by
  show _=mul (r*s).val a.1;rw[XJ,mul_mod C k a.2,Vv,mB C.cur a.2])
 acOne a:=Yr (by
  show mul (1:Fin N).val a.1=_;rw[show(1:Fin N).val=1%N from rfl,mul_mod C k a.2];rfl)
 zac a:=Yr (by
  show mul (0:Fin N).val a.1=_;rw[show(0:Fin N).val=0%N from rfl,mul_mod C k a.2];rfl)
omit [NeZero N] in
theorem mA(a b:Fin N):(a+b).val=sPl N a.val b.val:=yAD a b
omit [NeZero N] in
theorem fL(a b:Fin N):(a*b).val=sTi N a.val b.val:=XJ a b
omit [NeZero N] in
theorem I7(a b:Fin N):(a-b).val=sMi N a.val b.val:=by
 rw[Fin.sub_def];show(N-b.val+a.val)%N=(a.val+N-b.val)%N;have:=b.isLt;rw[show N-b.val+a.val=a.val+N-b.val by omega]
omit [NeZero N] in
theorem I3(a:Fin N):(-a).val=sMi N 0 a.val:=by
 rw[Fin.neg_def];show(N-a.val)%N=(0+N-a.val)%N;rw[UD]
def ivF(a:Fin N):Fin N:=⟨sIn N a.val,V5 _ (Yy N)⟩
theorem sM(h:IsP N)(a:Fin N)(k:a.val≠0):a*ivF a=1:=by
 apply X8;have b:=h.1;have hd:¬N ∣ a.val:=λhd=>by
  have:=Nat.le_of_dvd oM hd;have:=a.isLt;omega
 rw[XJ,show(ivF a).val=a.val^(N-2)%N from rfl,Nat.mul_mod_mod,<-Nat.pow_succ',show(N-2).succ=N-1 by omega,h.fermat1 a.val hd];show 1=1%N;rw[US oM]
structure Tl(N:Nat)(l:List (Nat × Bs))(X:OnP P):Prop where
 pts:PtsL P l
 lt:∀x∈l,x.1<N
 sum:fJ P l=X.1
omit [NeZero N] in
theorem BD(C:Fld P):∀ {l m:List (Nat × Bs)},PtsL P l->PtsL P m->fJ P (l++m)=EC.add (fJ P l) (fJ P m)
 | [],_,_,_=>rfl
 | x :: r,m,h,hm=>by
  have k:PtsL P r:=λz b=>h z (Vb _ b)
  show EC.add (mul x.1 (fR P x.2)) (fJ P (r++m))=EC.add (EC.add _ _) _;rw[BD C k hm];exact(C.cur.assoc (cG C.cur (h.on C Vu) _) (nT C k) (nT C hm)).symm
omit [NeZero N] in
theorem Ew(C:Fld P)(k:∀r:EC.Pt P,On r->mul N r=none)(n:Nat):∀ {l:List (Nat × Bs)},PtsL P l->fJ P (l.map (tmT N n))=mul n (fJ P l)
 | [],_=>(nG n).symm
 | x :: r,h=>by
  have b:PtsL P r:=λz c=>h z (Vb _ c)
  have hx:=h.on C (x:=x) Vu;show EC.add (mul (sTi N n x.1) (fR P x.2)) (fJ P (r.map (tmT N n)))=mul n (EC.add (mul x.1 (fR P x.2)) (fJ P r));rw[Ew C k n b,xE C (cG C.cur hx _) (nT C b)];unfold sTi;rw[mul_mod C k hx,Vv,mB C.cur hx]
section
variable (C:Fld P) (hord:∀r:EC.Pt P,EC.On r->EC.mul N r=none)
theorem Tl.nil:Tl N [] (aD C hord).zo:=⟨λ_ h=>(UY h).elim,λ_ h=>(UY h).elim,rfl⟩
theorem Tl.app{l m:List (Nat × Bs)}{X Y:OnP P}(h:Tl N l X)(k:Tl N m Y):Tl N (l++m) ((aD C hord).ad X Y):=
 ⟨λx hx=>(Wz.1 hx).elim (h.pts x) (k.pts x),λx hx=>(Wz.1 hx).elim (h.lt x) (k.lt x),by
  rw[BD C h.pts k.pts,h.sum,k.sum];rfl⟩
theorem Tl.tm{l:List (Nat × Bs)}{X:OnP P}(h:Tl N l X)(n:Fin N):Tl N (l.map (tmT N n.val)) ((aD C hord).ac n X):=
 ⟨λx hx=>by
  obtain⟨y,k,rfl⟩:=Vn.1 hx;exact h.pts y k,λx hx=>by
  obtain⟨y,k,rfl⟩:=Vn.1 hx;exact V5 _ (Yy N),by
  rw[Ew C hord n.val h.pts,h.sum];rfl⟩
omit [NeZero N] in
theorem Tl.one(C:Fld P)(k:1<N)(X:OnP P):Tl N [(1,wr X.1)] X:=
 ⟨λx hx=>⟨X.1,X.2,by rw[WM.1 hx]⟩,λx hx=>by rw[WM.1 hx];exact k,by
  show EC.add (mul 1 (fR P (wr X.1))) none=_;rw[lM C X.2,bK];rfl⟩
def dH(N:Nat)(a:Nat->Nat)(T:Nat->List (Nat × Bs)):Nat->List (Nat × Bs)
 | 0=>[]
 | n+1=>dH N a T n++(T n).map (tmT N (a n))
theorem Fz{a:Nat->Fin N}{T:Nat->List (Nat × Bs)}{g:Nat->OnP P}:∀n,(∀i,i<n->Tl N (T i) (g i))->Tl N (dH N (λi=>(a i).val) T n) ((aD C hord).dt a g n)
 | 0,_=>Tl.nil C hord
 | n+1,h=>(Fz n λi k=>h i oM).app C hord ((h n oM).tm C hord (a n))
theorem eR(N:Nat)(a:Nat->Nat){T:Nat->List (Nat × Bs)}{c:Nat}:∀n,(∀i,i<n->(T i).length=c)->(dH N a T n).length=c*n
 | 0,_=>rfl
 | n+1,h=>by
  show(dH N a T n++_).length=_;rw[UA,UQ,eR N a n (λi k=>h i oM),h n oM,Yi]
def kY(N x y n:Nat)(T:Nat->List (Nat × Bs))(i:Nat):List (Nat × Bs):=(T i).map (tmT N x)++(T (n+i)).map (tmT N y)
theorem MM{T:Nat->List (Nat × Bs)}{g:Nat->OnP P}(x y:Fin N)(n:Nat)(h:∀i,i<n+n->Tl N (T i) (g i))(i:Nat)(k:i<n):Tl N (kY N x.val y.val n T i) ((aD C hord).fP x y n g i):=
 ((h i oM).tm C hord x).app C hord ((h (n+i) oM).tm C hord y)
theorem Jw(N x y n:Nat){T:Nat->List (Nat × Bs)}{c:Nat}(h:∀i,i<n+n->(T i).length=c)(i:Nat)(k:i<n):(kY N x y n T i).length=c+c:=by
 unfold kY;rw[UA,UQ,UQ,h i oM,h (n+i) oM]
end
end
section
open SPA
variable {N:Nat}[NeZero N]
def pwF(x:Fin N):Nat->Fin N
 | 0=>1
 | i+1=>pwF x i*x
theorem Dt{x y:Fin N}(h:x*y=1):∀i,pwF x i*pwF y i=1
 | 0=>by
  show(1:Fin N)*1=1
  grobner
 | i+1=>by
  have k:=Dt h i;show pwF x i*x*(pwF y i*y)=1;generalize pwF x i=a at *;generalize pwF y i=b at *
  grobner
def ofF(N:Nat)[NeZero N](n:Nat):Fin N:=⟨n%N,V5 _ (Yy N)⟩
theorem ES(a b:Nat):ofF N (a+b)=ofF N a+ofF N b:=X8 (by
 rw[yAD];show(a+b)%N=(a%N+b%N)%N;rw[Nat.add_mod])
theorem ER(a b:Nat):ofF N (a*b)=ofF N a*ofF N b:=X8 (by
 rw[XJ];show(a*b)%N=(a%N*(b%N))%N;rw[Nat.mul_mod])
theorem rB:ofF N 0=0:=X8 rfl
theorem EQ:ofF N 1=1:=X8 rfl
theorem Ds:∀i,pwF (ofF N 2) i=ofF N (2^i)
 | 0=>EQ.symm
 | i+1=>by
  show pwF (ofF N 2) i*ofF N 2=_;rw[Ds i,<-ER,V7]
def btF(N:Nat)[NeZero N](v i:Nat):Fin N:=ofF N (v/2^i%2)
theorem J1(v:Nat):∀n,Md.pr (btF N v) (pwF (ofF N 2)) n=ofF N (v%2^n)
 | 0=>by
  rw[Nat.pow_zero,Nat.mod_one];exact rB.symm
 | n+1=>by
  rw[Md.uV,J1 v n,Ds];show _+ofF N _*_=_;rw[<-ER,<-ES,V7,Nat.mod_mul,Vv (2^n)]
theorem two_sum:∀n,(SPA.own N).sm (pwF (ofF N 2)) n=ofF N (2^n-1)
 | 0=>rB.symm
 | n+1=>by
  show(SPA.own N).sm _ n+_=_;rw[two_sum n,Ds,<-ES];have:=Nat.pow_pos (n:=n) (show 0<2 by decide);rw[show 2^n-1+2^n=2^(n+1)-1 by rw[V7];omega]
theorem SE(v i:Nat):btF N v i=0\/btF N v i=1:=by
 unfold btF;rcases Nat.mod_two_eq_zero_or_one (v/2^i)with h|h<;>rw[h]
 ·exact U4 rB
 ·exact UX EQ
def rgF(v:Nat)(s q:Nat->Fin N)(y k z x:Fin N):Md.Rg (Fin N):=⟨btF N v,λi=>btF N v i-1,s,q,pwF y,pwF k,pwF (ofF N 2),z,x⟩
theorem IB(v:Nat)(s q:Nat->Fin N){y k:Fin N}(z x:Fin N)(h:y*k=1)(n:Nat):(rgF v s q y k z x).Ok n:=λi _=>⟨by
 show btF N v i*(btF N v i-1)=0;rcases SE (N:=N) v i with e|e<;>rw[e]<;>grobner,rfl,Dt h i⟩
theorem QT(v:Nat)(s q:Nat->Fin N)(y k z x:Fin N)(n:Nat)(hv:v<2^n):(rgF v s q y k z x).v n=ofF N v:=by
 show Md.pr (btF N v) (pwF (ofF N 2)) n=_;rw[J1,US hv]
theorem QU(v:Nat)(s q:Nat->Fin N)(y k z x:Fin N)(n:Nat):(rgF v s q y k z x).d n=(z-z*z)*(SPA.own N).sm (pwF y) n-z*z*z*ofF N (2^n-1):=by
 show _-z*z*z*(SPA.own N).sm (pwF (ofF N 2)) n=_;rw[two_sum];rfl
end
namespace SPA
variable {N:Nat}[NeZero N]{M:Type}
namespace Md
variable (D:Md N M)
theorem AQ(p:M):D.ad p (D.ac (-1) p)=D.zo:=by
 have h:=D.adAc 1 (-1) p;rw[show(1:(Fin N))+-1=0 by grind,D.zac,D.acOne]at h;exact h.symm
theorem Oy(e p:M):D.ad e (D.ac (-1) p)=D.zo↔p=e:=by
 constructor
 ·intro h;have k:D.ad (D.ad e (D.ac (-1) p)) p=D.ad D.zo p:=by rw[h]
  rw[D.assoc,D.comm _ p,D.AQ,D.S3,D.zadd]at k;exact k.symm
 ·rintro rfl;exact D.AQ p
theorem Jc{a b c:(Fin N)}(d:a*b=1)(k:a*c=1):b=c:=by
 have:b=(a*b)*c+b*(1-a*c):=by grind
 rw[d,k]at this;grind
structure Vs(S M:Type) where
 s:S
 p:M
 g:Nat->M
 h:Nat->M
structure Ps(S R M:Type) where
 s:S
 a:Nat->R
 b:Nat->R
 g:Nat->M
 h:Nat->M
section
variable {S:Type}(ch:S->M->M->S × (Fin N)) (iv:(Fin N)->(Fin N)) (u:M)
def Er(n:Nat)(L T:M)(v:Vs S M):Vs S M:=
 let c:=ch v.s L T
 ⟨c.1,D.ad (D.ad (D.ac (c.2*c.2) L) v.p) (D.ac (iv c.2*iv c.2) T),D.fP (iv c.2) c.2 n v.g,D.fP c.2 (iv c.2) n v.h⟩
def vst(t:Nat)(L T:Nat->M)(v:Vs S M):Nat->Vs S M
 | 0=>v
 | i+1=>D.Er ch iv (2^(t-(i+1))) (L i) (T i) (vst t L T v i)
def pL(n:Nat)(q:Ps S (Fin N) M):M:=D.lf q.a q.b q.g q.h u n
def pT(n:Nat)(q:Ps S (Fin N) M):M:=D.rt q.a q.b q.g q.h u n
def qT(n:Nat)(q:Ps S (Fin N) M):Ps S (Fin N) M:=
 let c:=ch q.s (D.pL u n q) (D.pT u n q)
 ⟨c.1,fS c.2 (iv c.2) n q.a,fS (iv c.2) c.2 n q.b,D.fP (iv c.2) c.2 n q.g,D.fP c.2 (iv c.2) n q.h⟩
def pst(t:Nat)(q:Ps S (Fin N) M):Nat->Ps S (Fin N) M
 | 0=>q
 | i+1=>D.qT ch iv u (2^(t-(i+1))) (pst t q i)
def pLi(t:Nat)(q:Ps S (Fin N) M)(i:Nat):M:=D.pL u (2^(t-(i+1))) (D.pst ch iv u t q i)
def pTi(t:Nat)(q:Ps S (Fin N) M)(i:Nat):M:=D.pT u (2^(t-(i+1))) (D.pst ch iv u t q i)
def hdP(n:Nat)(q:Ps S (Fin N) M):M:=D.hd q.a q.b q.g q.h u n
theorem beside(k:∀s L T,(ch s L T).2*iv (ch s L T).2=1)(t:Nat)(q:Ps S (Fin N) M):∀i,i<=t ->
 D.vst ch iv t (D.pLi ch iv u t q) (D.pTi ch iv u t q) ⟨q.s,D.hdP u (2^t) q,q.g,q.h⟩ i
  = ⟨(D.pst ch iv u t q i).s,D.hdP u (2^(t-i)) (D.pst ch iv u t q i),(D.pst ch iv u t q i).g,(D.pst ch iv u t q i).h⟩
 | 0,_=>rfl
 | i+1,hi=>by
  have b:=beside k t q i oM;show D.Er ch iv _ _ _ (D.vst ch iv t _ _ _ i)=_;rw[b];have e:2^(t-i)=2^(t-(i+1))+2^(t-(i+1)):=by
   rw[show t-i=t-(i+1)+1 by omega,V7];omega
  show(⟨_,_,_,_⟩:Vs S M)=⟨(D.qT ch iv u _ (D.pst ch iv u t q i)).s,D.hdP u _ (D.qT ch iv u _ (D.pst ch iv u t q i)),(D.qT ch iv u _ (D.pst ch iv u t q i)).g,(D.qT ch iv u _ (D.pst ch iv u t q i)).h⟩;unfold pLi pTi;generalize D.pst ch iv u t q i=r;rw[e];have h:=D.halved _ _ (k r.s (D.pL u (2^(t-(i+1))) r) (D.pT u (2^(t-(i+1))) r)) r.a r.b r.g r.h u (2^(t-(i+1)))
  congr 1
  exact h.symm
def KV(a b:(Fin N))(v:Vs S M):Prop:=v.p=D.ad (D.ad (D.ac a (v.g 0)) (D.ac b (v.h 0))) (D.ac (a*b) u)
theorem found(k:∀s L T,(ch s L T).2*iv (ch s L T).2=1)(t:Nat)(q:Ps S (Fin N) M):
 D.KV u ((D.pst ch iv u t q t).a 0) ((D.pst ch iv u t q t).b 0) (D.vst ch iv t (D.pLi ch iv u t q) (D.pTi ch iv u t q) ⟨q.s,D.hdP u (2^t) q,q.g,q.h⟩ t):=by
 rw[D.beside ch iv u k t q t (Uw _),Nat.sub_self];exact D.Jk _ _ _ _ u
end
end Md
end SPA
section
open SPA
variable {N:Nat}[NeZero N]
theorem RN(h:IsP N)(x:Fin N)(hx:x.val≠0)(k:(x*x).val≠0):ivF (x*x)=ivF x*ivF x:=by
 refine Md.Jc (sM h _ k) ?_;have e:=sM h x hx
 grobner
end
section
open SPA
variable {P:Nat}[NeZero P]{N:Nat}[NeZero N]
def Ms(a:Fin N):Fin N:=if a=0 then 1 else a
theorem Mr(h:1<N)(a:Fin N):(Ms a).val≠0:=by
 unfold Ms;split
 ·show 1%N≠0;rw[US h];decide
 ·rename_i h0
  exact λe=>h0 (X8 (e.trans (YM N).symm))
def jW(k b:List UInt8)(L X Y:Bs):Bs:=uN (uN L k X.toList) b Y.toList
def kM(N:Nat)[NeZero N](L:Bs):Fin N:=Ms (ofF N (cha N L))
def bB(L:Bs):Bs:=tI L [99,104,97,108,108,101,110,103,101]
def chF(N:Nat)[NeZero N](L:Bs)(X Y:OnP P):Bs × Fin N:=
 let k:=jW [108,101,102,116] [114,105,103,104,116] L (wr X.1) (wr Y.1)
 (bB k,kM N k)
theorem FT(h:1<N)(L:Bs):(kM N L).val≠0:=by
 unfold kM;exact Mr h _
theorem MV(L:Bs)(X Y:OnP P):∃k,(chF N L X Y).2=kM N k:=by
 unfold chF;dsimp only;exact⟨_,rfl⟩
theorem JR(h:IsP N)(L:Bs)(X Y:OnP P):(chF N L X Y).2*ivF (chF N L X Y).2=1:=by
 obtain⟨k,e⟩:=MV (N:=N) L X Y;rw[e];have:=FT h.1 k;generalize kM N k=a at *;exact sM h a this
theorem P4(h:IsP N)(L:Bs)(X Y:OnP P):((chF N L X Y).2*(chF N L X Y).2).val≠0:=λe=>by
 have d:=JR h L X Y;have c:(chF N L X Y).2*(chF N L X Y).2=0:=X8 (e.trans (YM N).symm);generalize (chF N L X Y).2=x at *;generalize ivF x=y at *;have b:(1:Fin N)=0:=by grobner
 have k:1%N=0%N:=congrArg Fin.val b;have:=h.1;rw[US oM,YM]at k;exact absurd k dC
theorem PN(C:Fld P)(k:∀r:EC.Pt P,On r->mul N r=none)(h:IsP N)(u:OnP P)(t:Nat)(q:Md.Ps Bs (Fin N) (OnP P)):
 (aD C k).KV u (((aD C k).pst (chF N) ivF u t q t).a 0) (((aD C k).pst (chF N) ivF u t q t).b 0)
  ((aD C k).vst (chF N) ivF t ((aD C k).pLi (chF N) ivF u t q) ((aD C k).pTi (chF N) ivF u t q) ⟨q.s,(aD C k).hdP u (2^t) q,q.g,q.h⟩ t):=
 (aD C k).found (chF N) ivF u (JR h) t q
end
namespace SPA
variable {N:Nat}[NeZero N]{M:Type}
namespace Md
variable (D:Md N M)
theorem Ib(a b p:M):D.ad (D.ad p a) b=D.ad (D.ad a p) b:=by ac_rfl
end Md
end SPA
section
open SPA
variable {P:Nat}[NeZero P]{N:Nat}[NeZero N]
theorem Tl.pt(C:Fld P)(k:∀r:EC.Pt P,On r->mul N r=none)(n:Fin N)(X:OnP P):Tl N [(n.val,wr X.1)] ((aD C k).ac n X):=
 ⟨λx hx=>⟨X.1,X.2,by rw[WM.1 hx]⟩,λx hx=>by rw[WM.1 hx];exact n.isLt,by
  show EC.add (mul n.val (fR P (wr X.1))) none=_;rw[lM C X.2,bK];rfl⟩
structure Gd(N n c:Nat)(T:Nat->List (Nat × Bs))(g:Nat->OnP P):Prop where
 tl:∀i,i<n->Tl N (T i) (g i)
 len:∀i,i<n->(T i).length=c
section
variable (C:Fld P) (hord:∀r:EC.Pt P,EC.On r->EC.mul N r=none)
theorem Gd.fold{n c:Nat}{T:Nat->List (Nat × Bs)}{g:Nat->OnP P}(h:Gd N (n+n) c T g)(x y:Fin N):Gd N n (c+c) (kY N x.val y.val n T) ((aD C hord).fP x y n g):=
 ⟨λi k=>MM C hord x y n h.tl i k,λi k=>Jw N x.val y.val n h.len i k⟩
theorem Gd.cmb{n c:Nat}{T:Nat->List (Nat × Bs)}{g:Nat->OnP P}(h:Gd N n c T g)(a:Nat->Fin N):Tl N (dH N (λi=>(a i).val) T n) ((aD C hord).dt a g n)/\(dH N (λi=>(a i).val) T n).length=c*n:=
 ⟨Fz C hord n h.tl,eR N _ n h.len⟩
omit [NeZero N] in
theorem Gd.low{n m c:Nat}{T:Nat->List (Nat × Bs)}{g:Nat->OnP P}(h:Gd N (n+m) c T g):Gd N n c T g:=⟨λi k=>h.tl i oM,λi k=>h.len i oM⟩
omit [NeZero N] in
theorem Gd.high{n m c:Nat}{T:Nat->List (Nat × Bs)}{g:Nat->OnP P}(h:Gd N (n+m) c T g):Gd N m c (λi=>T (n+i)) (λi=>g (n+i)):=⟨λi k=>h.tl (n+i) oM,λi k=>h.len (n+i) oM⟩
def Jj(N:Nat)(a b:Nat->Nat)(p:Nat)(G H:Nat->List (Nat × Bs))(U:List (Nat × Bs))(n:Nat):List (Nat × Bs):=dH N a G n++dH N b H n++U.map (tmT N p)
theorem Ji{n c d:Nat}{G H:Nat->List (Nat × Bs)}{U:List (Nat × Bs)}{g h:Nat->OnP P}{u:OnP P}(hG:Gd N n c G g)(k:Gd N n c H h)(e:Tl N U u)(hd:U.length=d)(a b:Nat->Fin N):
 Tl N (Jj N (λi=>(a i).val) (λi=>(b i).val) (Md.pr a b n).val G H U n) ((aD C hord).hd a b g h u n)/\(Jj N (λi=>(a i).val) (λi=>(b i).val) (Md.pr a b n).val G H U n).length=c*n+c*n+d:=by
 refine⟨((hG.cmb C hord a).1.app C hord (k.cmb C hord b).1).app C hord (e.tm C hord _),?_⟩;unfold Jj;rw[UA,UA,UQ,eR N _ n hG.len,eR N _ n k.len,hd]
end
end
section
variable {P:Nat}[NeZero P]{N:Nat}
def BL(W:Ur)(q:Option Wu)(n:Nat)(X:Nat->List UInt8):Prop:=0<n->∃g,q=some (aZ g)/\g<W.heap.size/\∀i,i<n->∃a l c,W.cell? ⟨g,i,none⟩=some (.slice a l c)/\PartOk W (.slice a l c) (X i)
structure Ar(w W:Ur)(K e n i:Nat)(R:Nat->List Ut):Prop where
 bl:kZ w W
 lt:K<W.heap.size
 th:W.there K 0 (e*n)
 rw:∀j,j<i->W.rangeAt K (e*j) (R j)
theorem Ar.grow{w W W':Ur}{K e n i:Nat}{R:Nat->List Ut}(h:Ar w W K e n i R)(k:kZ W W'):Ar w W' K e n i R:=
 ⟨h.bl.trans (k.mono h.bl.size),Ux h.lt k.size,dJ h.th k h.lt,λj b=>RG.range_below (h.rw j b) k h.lt⟩
theorem Ar.put{w W:Ur}{K e n i:Nat}{R:Nat->List Ut}(h:Ar w W K e n i R)(c:w.heap.size<=K)(g:i<n)(b:∀j,j<=i->(R j).length=e):Ar w (W.setCells K (e*i) (R i)) K e n (i+1) R:=by
 refine⟨RG.below_setCells c _ _ _ h.bl,by rw[setCells_size];exact h.lt,VW h.th _ _ _,λj l=>?_⟩;by_cases k:j=i
 ·subst k;refine VO W K _ _ λt d=>?_
  rw[b j (Uw _)]at d;have f:e*j+e<=e*n:=by
   have:=Yh e (yAV g);rwa[Yi]at this
  have:=h.th (e*j+t) oM;rwa[UD]at this
 ·have f:e*j+e<=e*i:=by
   have:=Yh e (show j+1<=i by omega);rwa[Yi]at this
  exact Vh (h.rw j oM) K _ _ (UX (U4 (by rw[b j oM];omega)))
theorem Cg{T E:U8}{e:Nat}(j:prog.underlying T=some (.slice E))(g:(prog.info? E).map (λi=>(i.size,decide (i.bytes<=4000),i.zero.isSome))=some (e,true,true))(n:Nat)(l:n<=512):∃C0:List Ut,C0.length=e*n/\∀w:Ur,(XC T (iZ n) (iZ n)).run prog w=.ok (sZ w.heap.size n n) (w.alloc (.cells C0.toArray E)):=by
 obtain⟨i,b,k⟩:=Uy.1 g;simp only[V6.injEq,decide_eq_true_eq]at k;obtain⟨o,m,d⟩:=k;obtain⟨z,c⟩:=Vr.1 d;refine⟨(madeCells z.cells (n*e)).toList,by rw[UK,YI,Vv],λw=>?_⟩;have p:(i.bytes:Int)*(n:Int)<=281474976710656:=by
  have:i.bytes*n<=4000*512:=WQ m l;have f:((i.bytes*n:Nat):Int)<=281474976710656:=oM;rwa[Xw]at f
 have:=run_make (P:=prog) w T E i z j b c .i64 .i64 (n:Int) (n:Int) oM oM p oM;rw[X0,o]at this;rw[XD];exact this
theorem Ar.new{w k:Ur}{K e n:Nat}{C0:List Ut}{E:U8}(R:Nat->List Ut)(f:C0.length=e*n)(b:w.alloc (.cells C0.toArray E)=k)(c:w.heap.size=K):Ar w k K e n 0 R:=by
 subst c;have hR:Row k w.heap.size C0:=by rw[<-b];exact aE w _ _
 exact⟨by rw[<-b];exact aC _ _,hR.1,by rw[<-f];exact hR.2.2,λj d=>absurd d (Ym _)⟩
theorem Dk(O:Ord N)(r:Nat)(L:Bs)(k:ByteArray)(w:Ur)(o:k.size<=1048576)(y:Holds encB w r 0 L)(J:L.size=32):
 UH prog 232 #[.agg #[jZ r],.string k] w (Ret λe w'=>SP.Only r 0 32 w w'/\Holds encB w' r 0 (tI L k.data.toList)/\e=nv (oS N (CN L k.data.toList 64))):=by
 obtain⟨A,D⟩:=hE (CN L k.data.toList 64);obtain⟨t,b⟩:∃t,Hid (tI L k.data.toList=t):=⟨_,rfl⟩
 rw[b.out];have I:t.size=32:=by rw[<-b.out];exact bE _ _
 have z:A.size=64:=by rw[<-D.out];exact Ha _ _ _
 rw[D.out];have s:=Holds.lt y oM;obtain⟨i,c⟩:∃i,Hid ((w.alloc (.cells #[jZ r] 143)).alloc (.cells #[uZ 0,uZ 0,uZ 0,uZ 0] 49)=i):=⟨_,rfl⟩
 have B:Hid (Row i (w.heap.size+1) [uZ 0,uZ 0,uZ 0,uZ 0]/\kZ w i/\Holds encB i r 0 L):=by
  rw[<-c.out];have d:kZ w ((w.alloc (.cells #[jZ r] 143)).alloc (.cells #[uZ 0,uZ 0,uZ 0,uZ 0] 49)):=(aC w _).alloc (by rw[UB];omega) _;have hR:=aE (w.alloc (.cells #[jZ r] 143)) [uZ 0,uZ 0,uZ 0,uZ 0] 49;rw[UB]at hR;exact⟨hR,d,Holds.below y d s⟩
 clear y;go_enter func232,ntmps232;go_wp2_with fail
 rw[c.out];clear c;refine(Nn r L k 64 i o dC B.2.2 J).mono ?_;rintro e K ⟨H,rfl,P,F,f,l⟩;rw[D.out]at l;rw[b.out]at f;have x:=Holds.lt f oM;have g:=mk4 (B.1.only F oM) ((SP.Only.of_below B.2.1 rfl s).trans F) l f;go_wp2_with fail
 refine(zL O H A z K (Holds.lt g.2.2.1 oM) g.2.2.1).mono ?_;rintro e G ⟨v,rfl,d,rfl⟩;have q:=mk3 (g.1.below d) (g.2.1.trans (SP.Only.of_below d rfl (Ux s g.2.1.size))) (Holds.below g.2.2.2 d x);obtain⟨m,E⟩:=hE (oS N A);rw[E.out];obtain⟨C,p⟩:=hE (G.setCells (w.heap.size+1) 0 (wn m));have u:Hid (Row C (w.heap.size+1) (wn m)/\SP.Only r 0 32 w C/\Holds encB C r 0 t):=by
  rw[<-p.out];refine⟨q.1.put rfl,dW q.2.1 s oM _,λj n=>?_⟩;have e:=aH (w.heap.size+1) (wn m) 0 G r oM;rw[UW (a:=⟨r,0+j,none⟩) e,VU (a:=⟨r,0+j,none⟩) e];exact q.2.2 j n
 obtain⟨M,n⟩:=hE (nv m);rw[n.out];go_wp2_with (refine U2 rfl 49 _ _ rfl (w.heap.size+1) 0 (wn m).toArray ?_ ?_ ?_ ?_ ?_ ?_;rfl;exact n.symm;exact q.1.2.2;exact i40;exact aM m;rw[show(wn m).toArray.toList=wn m from rfl,p.out])
 refine UE (aG 4 49 rfl u.1 rfl u40 i40) rfl ?_;exact⟨_,rfl,u.2.1,u.2.2,by rw[E.out];rfl⟩
theorem aV{W W':Ur}{k:Nat}{vs:List Ut}(h:Row W k vs)(c:W.heap.size<=W'.heap.size)(e:W'.heap[k]? = W.heap[k]?):Row W' k vs:=
 ⟨Ux h.1 c,λj v b=>by rw[UW (a:=⟨k,0+j,none⟩) e];exact h.2.1 j v b,λj b=>by rw[UW (a:=⟨k,0+j,none⟩) e,VU (a:=⟨k,0+j,none⟩) e];exact h.2.2 j b⟩
structure Wk(w W:Ur)(k7 r:Nat)(L:Bs):Prop where
 bl:kZ w W
 r7:Row W k7 [jZ r]
 lg:Holds encB W r 0 L
 lr:w.heap.size<=r
 n7:k7≠r
theorem uS4:prog.underlying 124=some (.slice 49):=kR
theorem iS4:(prog.info? 49).map (λi=>(i.size,decide (i.bytes<=4000),i.zero.isSome))=some (4,true,true):=kR
end
section
variable {Q Q':Nat->Prop}{W W':Ur}{v:Ut}{l:List (Nat × Bs)}{n:Nat}
structure Kq(Q:Nat->Prop)(W W':Ur):Prop where
 size:W.heap.size<=W'.heap.size
 block:∀g,Q g->g<W.heap.size->W'.heap[g]? = W.heap[g]?
theorem Kq.of_below(k:kZ W W'):Kq Q W W':=⟨k.size,λg _ h=>k.block g h⟩
theorem Kq.of_only{r o m:Nat}(k:SP.Only r o m W W')(c:∀g,Q g->g≠r):Kq Q W W':=⟨k.size,λg d b=>k.block g b (c g d)⟩
theorem Kq.range{g o:Nat}{vs:List Ut}(h:Kq Q W W')(c:Q g)(k:g<W.heap.size)(b:W.rangeAt g o vs):W'.rangeAt g o vs:=λj v d=>by
 rw[UW (a:=⟨g,o+j,none⟩) (h.block g c k)];exact b j v d
theorem Kq.cell{g o:Nat}{x:Ut}(h:Kq Q W W')(c:Q g)(k:g<W.heap.size)(b:W.cell? ⟨g,o,none⟩=some x):W'.cell? ⟨g,o,none⟩=some x:=by
 rw[UW (a:=⟨g,o,none⟩) (h.block g c k)];exact b
def SmQ(Q:Nat->Prop)(W:Ur)(v:Ut)(l:List (Nat × Bs)):Prop:=∃g c,v=sZ g l.length c/\l.length<=c/\Q g/\g<W.heap.size/\W.rangeAt g 0 (aU l)
theorem SmQ.sm(h:SmQ Q W v l):Sm 0 W v l:=by
 obtain⟨g,c,d,b,-,k⟩:=h;exact⟨g,c,d,b,Wy _,k⟩
theorem Sm.q{B:Nat}(h:Sm B W v l):SmQ (B<=·) W v l:=h
theorem SmQ.mono(h:SmQ Q W v l)(e:∀g,Q g->Q' g):SmQ Q' W v l:=by
 obtain⟨g,c,f,d,k,b⟩:=h;exact⟨g,c,f,d,e g k,b⟩
theorem SmQ.keep(h:SmQ Q W v l)(d:Kq Q W W'):SmQ Q W' v l:=by
 obtain⟨g,c,f,e,k,b,i⟩:=h;exact⟨g,c,f,e,k,Ux b d.size,d.range k b i⟩
def SLq(Q:Nat->Prop)(W:Ur)(v:Ut)(n:Nat)(a:Nat->Nat):Prop:=∃g o c,v=.slice (some ⟨g,o,none⟩) n c/\n<=c/\Q g/\g<W.heap.size/\∀j,j<n->W.rangeAt g (o+4*j) (wn (a j))
theorem SLq.mono{a:Nat->Nat}(h:SLq Q W v n a)(e:∀g,Q g->Q' g):SLq Q' W v n a:=by
 obtain⟨g,o,c,f,d,k,b⟩:=h;exact⟨g,o,c,f,d,e g k,b⟩
theorem SLq.keep{a:Nat->Nat}(h:SLq Q W v n a)(d:Kq Q W W'):SLq Q W' v n a:=by
 obtain⟨g,o,c,f,e,k,b,l⟩:=h;exact⟨g,o,c,f,e,k,Ux b d.size,λj i=>d.range k b (l j i)⟩
theorem SLq.congr{a b:Nat->Nat}(h:SLq Q W v n a)(e:∀j,j<n->a j=b j):SLq Q W v n b:=by
 obtain⟨g,o,c,l,i,d,f,m⟩:=h;exact⟨g,o,c,l,i,d,f,λj k=>by rw[<-e j k];exact m j k⟩
def GLq(Q:Nat->Prop)(W:Ur)(v:Ut)(n:Nat)(T:Nat->List (Nat × Bs)):Prop:=∃g o c,v=.slice (some ⟨g,o,none⟩) n c/\n<=c/\Q g/\g<W.heap.size/\∀j,j<n->∃x,W.cell? ⟨g,o+j,none⟩=some x/\SmQ Q W x (T j)
theorem GLq.mono{T:Nat->List (Nat × Bs)}(h:GLq Q W v n T)(k:∀g,Q g->Q' g):GLq Q' W v n T:=by
 obtain⟨g,o,c,i,e,b,d,m⟩:=h;refine⟨g,o,c,i,e,k g b,d,λj l=>?_⟩;obtain⟨x,f,p⟩:=m j l;exact⟨x,f,p.mono k⟩
theorem GLq.keep{T:Nat->List (Nat × Bs)}(h:GLq Q W v n T)(k:Kq Q W W'):GLq Q W' v n T:=by
 obtain⟨g,o,c,i,e,b,d,m⟩:=h;refine⟨g,o,c,i,e,b,Ux d k.size,λj l=>?_⟩;obtain⟨x,f,p⟩:=m j l;exact⟨x,k.cell b d f,p.keep k⟩
structure GRq(Q:Nat->Prop)(W:Ur)(v:Ut)(n:Nat)(G H:Nat->List (Nat × Bs))(U:List (Nat × Bs)):Prop where
 ex:∃vg vh vu,v=.agg #[vg,vh,vu]/\GLq Q W vg n G/\GLq Q W vh n H/\SmQ Q W vu U
theorem GRq.mono{G H:Nat->List (Nat × Bs)}{U:List (Nat × Bs)}(h:GRq Q W v n G H U)(k:∀g,Q g->Q' g):GRq Q' W v n G H U:=by
 obtain⟨j,c,f,i,e,b,d⟩:=h.ex;exact⟨j,c,f,i,e.mono k,b.mono k,d.mono k⟩
theorem GRq.keep{G H:Nat->List (Nat × Bs)}{U:List (Nat × Bs)}(h:GRq Q W v n G H U)(k:Kq Q W W'):GRq Q W' v n G H U:=by
 obtain⟨i,c,f,g,e,b,d⟩:=h.ex;exact⟨i,c,f,g,e.keep k,b.keep k,d.keep k⟩
structure TOk(N:Nat)(l:List (Nat × Bs)):Prop where
 sz:∀x∈l,x.2.size=33
 lt:∀x∈l,x.1<N
theorem TOk.szm{N:Nat}(h:TOk N l):∀x∈l.map (·.2),x.size=33:=λx hx=>by
 obtain⟨y,k,rfl⟩:=Vn.1 hx;exact h.sz y k
theorem TOk.app{N:Nat}{m:List (Nat × Bs)}(h:TOk N l)(k:TOk N m):TOk N (l++m):=⟨λx hx=>(Wz.1 hx).elim (h.sz x) (k.sz x),λx hx=>(Wz.1 hx).elim (h.lt x) (k.lt x)⟩
theorem TOk.tm{N:Nat}(c:0<N)(h:TOk N l)(k:Nat):TOk N (l.map (tmT N k)):=⟨λx hx=>by
 obtain⟨y,b,rfl⟩:=Vn.1 hx;exact h.sz y b,λx hx=>by
 obtain⟨y,b,rfl⟩:=Vn.1 hx;exact V5 _ c⟩
theorem TOk.nil{N:Nat}:TOk N []:=⟨λ_ h=>(UY h).elim,λ_ h=>(UY h).elim⟩
theorem Tl.ok{P:Nat}[NeZero P]{N:Nat}{X:OnP P}(h:Tl N l X):TOk N l:=⟨λx hx=>by
 obtain⟨X,-,e⟩:=h.pts x hx;rw[e];exact aT _,h.lt⟩
theorem oH{N:Nat}(k:0<N){a:Nat->Nat}{T:Nat->List (Nat × Bs)}:∀n,(∀i,i<n->TOk N (T i))->TOk N (dH N a T n)
 | 0,_=>TOk.nil
 | n+1,h=>(oH k n λi b=>h i oM).app ((h n oM).tm k _)
end
namespace RG
variable {P:VD}{ops:Array Vk}{Q:Yo->Act->Ur->Prop}{w:Ur}{a0:Act}{F:Flow}
theorem gC{L:Array Bool}{i j:Nat}{o:Vk}(ho:ops[i]? = some o)(k:∀e∈o.after,VP .any e=true->on L e.on=true)(b:depOn ops i j=true):on L j=true:=by
 unfold depOn at b;rw[ho]at b;obtain⟨e,d,c⟩:=Array.any_eq_true'.1 b;simp only[UL,beq_iff_eq]at c;have:=k e d c.1;rw[c.2]at this;exact this
end RG
namespace RG
structure S1 where
 p:Ut->Ur->Prop
 st:∀v w w',kZ w w'->p v w->p v w'
def pE(v:Ut):S1:=⟨λx _=>x=v,λ_ _ _ _ h=>h⟩
def pA:S1:=⟨λ_ _=>True,λ_ _ _ _ h=>h⟩
def pM(Q:Nat->Prop)(l:List (Nat × Bs)):S1:=⟨λv w=>SmQ Q w v l,λ_ _ _ k h=>h.keep (Kq.of_below k)⟩
def pS(Q:Nat->Prop)(n:Nat)(a:Nat->Nat):S1:=⟨λv w=>SLq Q w v n a,λ_ _ _ k h=>h.keep (Kq.of_below k)⟩
def pG(Q:Nat->Prop)(n:Nat)(T:Nat->List (Nat × Bs)):S1:=⟨λv w=>GLq Q w v n T,λ_ _ _ k h=>h.keep (Kq.of_below k)⟩
def pR(Q:Nat->Prop)(n:Nat)(G H:Nat->List (Nat × Bs))(U:List (Nat × Bs)):S1:=⟨λv w=>GRq Q w v n G H U,λ_ _ _ k h=>h.keep (Kq.of_below k)⟩
def pI(T:U8)(p:S1):S1:=⟨λv w=>∃x,v=.iface T x/\p.p x w,λ_ w w' c ⟨x,b,k⟩=>⟨x,b,p.st x w w' c k⟩⟩
def pN(B:Nat)(cs:List Ut):S1:=⟨λv w=>∃k,v=jZ k/\B<=k/\Row w k cs,λ_ _ _ e ⟨k,d,c,b⟩=>⟨k,d,c,b.below e⟩⟩
def nth:List S1->Nat->S1
 | [],_=>pA
 | x :: _,0=>x
 | _ :: r,k+1=>nth r k
def gwL(L:List S1)(B:Ur->Prop)(k:∀w w',kZ w w'->B w->B w'):Gw:=⟨λi=>(nth L i).p,B,λi=>(nth L i).st,k⟩
variable {P:VD}{ops:Array Vk}{Q:Yo->Act->Ur->Prop}{w:Ur}{a0:Act}{G:Gw}{k:Nat}{o:Vk}
theorem Jm(b:List (WC × Ut))(v:Ut)(c:∀a W,PreG G ops a0 k o a W->AllE a b)(hR:∀W,G.R k v W)(d:∀W,(dA (b.map (·.1)) o,(U5 (evo (evl b)) o).run P W)=(true,.ok (.value v) W):=by intro _;kernel_rfl):bF P Q G.flow ops a0 k o:=
 bN λa W e=>⟨b,v,W,c a W e,d W,UR _ _,hR W⟩
theorem RU(t:WC)(v b:Ut)(c:a0.eval (.tmp t)=v)(hR:∀W,G.R k b W)(hf:oY ops k t=true:=by kernel_rfl)(d:∀W,(dA [t] o,(U5 (evo (evl [(t,v)])) o).run P W)=(true,.ok (.value b) W):=by intro _;kernel_rfl):bF P Q G.flow ops a0 k o:=
 Jm [(t,v)] b (λa W e=>⟨(e.o t hf).trans c,yCl⟩) hR d
theorem rF(j:Nat)(t:WC)(v b:Ut)(d:∀x W,G.R j x W->x=v)(hR:∀W,G.R k b W)(hd:(dB o j,aX ops j)=(true,some t):=by kernel_rfl)(c:∀W,(dA [t] o,(U5 (evo (evl [(t,v)])) o).run P W)=(true,.ok (.value b) W):=by intro _;kernel_rfl):bF P Q G.flow ops a0 k o:=
 Jm [(t,v)] b (λa W e=>⟨d _ W (e.n j t (congrArg Zw hd) (congrArg Zv hd)),yCl⟩) hR c
theorem DT(j:Nat)(t:WC)(f:Ut->Ut)(hR:∀x W,G.R j x W->G.R k (f x) W)(hd:(dB o j,aX ops j)=(true,some t):=by kernel_rfl)(b:∀v W,(dA [t] o,(U5 (evo (evl [(t,v)])) o).run P W)=(true,.ok (.value (f v)) W):=by intro _ _;kernel_rfl):bF P Q G.flow ops a0 k o:=
 bN λa W c=>⟨[(t,a.eval (.tmp t))],_,W,⟨rfl,yCl⟩,b _ W,UR _ _,hR _ W (c.n j t (congrArg Zw hd) (congrArg Zv hd))⟩
theorem A0(j:Nat)(t:WC)(c:Nat)(b:WC)(v u d:Ut)(I:Sem Ut)(l:∀W,I.run P W=.ok d W)(i:∀x W,G.R j x W->x=v)(f:∀x W,G.R c x W->x=u)(hR:∀W,G.R k d W)(hd:((dB o j,aX ops j),(dB o c,aX ops c))=((true,some t),(true,some b)):=by kernel_rfl)(e:(dA [t,b] o,U5 (evo (evl [(t,v),(b,u)])) o)=(true,I >>= λv=>pure (Xp v)):=by kernel_rfl):bF P Q G.flow ops a0 k o:=
 bN λa W g=>⟨[(t,v),(b,u)],d,W,⟨i _ W (g.n j t (congrArg (·.1.1) hd) (congrArg (·.1.2) hd)),f _ W (g.n c b (congrArg (·.2.1) hd) (congrArg (·.2.2) hd)),yCl⟩,by
  rw[V6.injEq]at e⊢;refine⟨e.1,?_⟩;rw[e.2,UV,l W];rfl,UR _ _,hR W⟩
theorem DR(j:Nat)(t:WC)(v b:Ut)(I:Sem Ut)(f:∀W,I.run P W=.ok b W)(d:∀x W,G.R j x W->x=v)(hR:∀W,G.R k b W)(hd:(dB o j,aX ops j)=(true,some t):=by kernel_rfl)(c:(dA [t] o,U5 (evo (evl [(t,v)])) o)=(true,I >>= λv=>pure (Xp v)):=by kernel_rfl):bF P Q G.flow ops a0 k o:=
 bN λa W e=>⟨[(t,v)],b,W,⟨d _ W (e.n j t (congrArg Zw hd) (congrArg Zv hd)),yCl⟩,by
  rw[V6.injEq]at c⊢;refine⟨c.1,?_⟩;rw[c.2,UV,f W];rfl,UR _ _,hR W⟩
theorem fF(T:U8)(j:Nat)(t:WC)(g off:Nat)(x:Ut)(d:(P.underlying T).map (·.isRow)=some false)(f:∀x W,G.R j x W->x=oZ g off)(e:∀W,G.B W->W.cell? ⟨g,off,none⟩=some x)(hR:∀W,G.R k x W)(hd:(dB o j,aX ops j)=(true,some t):=by kernel_rfl)(ho:o.op=.load T (.tmp t):=by rfl):bF P Q G.flow ops a0 k o:=
 mH λa W b=>by
  have c:=rY b;refine⟨x,W,?_,UR _ _,hR W⟩;unfold U5;rw[ho];dsimp only;rw[f _ W (c.n j t (congrArg Zw hd) (congrArg Zv hd)),UV,fD (e W c.b) d];rfl
theorem RV(T:U8)(j:Nat)(t:WC)(g off:Nat)(cs:List Ut)(c:(P.underlying T).map (·.isRow)=some true)(f:(P.info? T).map (·.size)=some cs.length)(e:∀x W,G.R j x W->x=oZ g off)(d:∀W,G.B W->W.rangeAt g off cs)(hR:∀W,G.R k (.agg cs.toArray) W)(hd:(dB o j,aX ops j)=(true,some t):=by kernel_rfl)(ho:o.op=.load T (.tmp t):=by rfl):bF P Q G.flow ops a0 k o:=
 iQ T t ho c λa W b=>⟨g,off,cs,e _ W (b.n j t (congrArg Zw hd) (congrArg Zv hd)),d W b.b,f,hR W⟩
theorem iD(T:U8)(t:WC)(g off:Nat)(cs:List Ut)(c:(P.underlying T).map (·.isRow)=some true)(f:(P.info? T).map (·.size)=some cs.length)(e:a0.eval (.tmp t)=oZ g off)(d:∀W,G.B W->W.rangeAt g off cs)(hR:∀W,G.R k (.agg cs.toArray) W)(hf:oY ops k t=true:=by kernel_rfl)(ho:o.op=.load T (.tmp t):=by rfl):bF P Q G.flow ops a0 k o:=
 iQ T t ho c λa W b=>⟨g,off,cs,(b.o t hf).trans e,d W b.b,f,hR W⟩
theorem PD(T:U8)(t:WC)(g off:Nat)(x:Ut)(d:(P.underlying T).map (·.isRow)=some false)(f:a0.eval (.tmp t)=oZ g off)(e:∀W,G.B W->W.cell? ⟨g,off,none⟩=some x)(hR:∀W,G.R k x W)(hf:oY ops k t=true:=by kernel_rfl)(ho:o.op=.load T (.tmp t):=by rfl):bF P Q G.flow ops a0 k o:=
 mH λa W b=>by
  have c:=rY b;refine⟨x,W,?_,UR _ _,hR W⟩;unfold U5;rw[ho];dsimp only;rw[c.o t hf,f,UV,fD (e W c.b) d];rfl
theorem xP(cs:List Ut)(T:U8)(hR:∀W W':Ur,Row W' W.heap.size cs->G.B W->G.R k (jZ W.heap.size) W')(b:∀W,(dA [] o,(U5 (evo (evl [])) o).run P W)=(true,.ok (.value (jZ W.heap.size)) (W.alloc (.cells cs.toArray T))):=by intro _;kernel_rfl):bF P Q G.flow ops a0 k o:=
 bN λa W c=>⟨[],_,_,trivial,b W,aC W _,hR W _ (aE W cs T) c.b⟩
theorem NN(f:Xq)(args:Array Ut)(b:∀W,G.B W->UH P f args W (rZ W λe W'=>G.R k e W'))(c:∀W,(dA [] o,(U5 (evo (evl [])) o).run P W)=(true,.ok (.enter f args) W):=by intro _;kernel_rfl):bF P Q G.flow ops a0 k o:=
 gK λa W d=>⟨[],f,args,trivial,c W,b W d.b⟩
theorem oW(j:Nat)(t:WC)(f:Xq)(args:Ut->Array Ut)(c:∀x W,G.R j x W->G.B W->UH P f (args x) W (rZ W λe W'=>G.R k e W'))(hd:(dB o j,aX ops j)=(true,some t):=by kernel_rfl)(d:∀x W,(dA [t] o,(U5 (evo (evl [(t,x)])) o).run P W)=(true,.ok (.enter f (args x)) W):=by intro _ _;kernel_rfl):bF P Q G.flow ops a0 k o:=
 gK λa W b=>⟨[(t,a.eval (.tmp t))],f,_,⟨rfl,yCl⟩,d _ W,c _ W (b.n j t (congrArg Zw hd) (congrArg Zv hd)) b.b⟩
theorem eD(j:Nat)(t:WC)(c:Nat)(b:WC)(f:Xq)(args:Ut->Ut->Array Ut)(g:∀x y W,G.R j x W->G.R c y W->G.B W->UH P f (args x y) W (rZ W λe W'=>G.R k e W'))(hd:((dB o j,aX ops j),(dB o c,aX ops c))=((true,some t),(true,some b)):=by kernel_rfl)(i:∀x y W,(dA [t,b] o,(U5 (evo (evl [(t,x),(b,y)])) o).run P W)=(true,.ok (.enter f (args x y)) W):=by intro _ _ _;kernel_rfl):bF P Q G.flow ops a0 k o:=
 gK λa W d=>⟨[(t,a.eval (.tmp t)),(b,a.eval (.tmp b))],f,_,⟨rfl,rfl,yCl⟩,i _ _ W,g _ _ W (d.n j t (congrArg (·.1.1) hd) (congrArg (·.1.2) hd)) (d.n c b (congrArg (·.2.1) hd) (congrArg (·.2.2) hd)) d.b⟩
theorem rG(j:Nat)(t:WC)(g:Nat)(d:WC)(c:Nat)(b:WC)(f:Xq)(args:Ut->Ut->Ut->Array Ut)(l:∀x y z W,G.R j x W->G.R g y W->G.R c z W->G.B W->UH P f (args x y z) W (rZ W λe W'=>G.R k e W'))(hd:((dB o j,aX ops j),(dB o g,aX ops g),(dB o c,aX ops c))=((true,some t),(true,some d),(true,some b)):=by kernel_rfl)(m:∀x y z W,(dA [t,d,b] o,(U5 (evo (evl [(t,x),(d,y),(b,z)])) o).run P W)=(true,.ok (.enter f (args x y z)) W):=by intro _ _ _ _;kernel_rfl):bF P Q G.flow ops a0 k o:=
 gK λa W i=>⟨[(t,a.eval (.tmp t)),(d,a.eval (.tmp d)),(b,a.eval (.tmp b))],f,_,⟨rfl,rfl,rfl,yCl⟩,m _ _ _ W,l _ _ _ W (i.n j t (congrArg (·.1.1) hd) (congrArg (·.1.2) hd)) (i.n g d (congrArg (·.2.1.1) hd) (congrArg (·.2.1.2) hd)) (i.n c b (congrArg (·.2.2.1) hd) (congrArg (·.2.2.2) hd)) i.b⟩
theorem oV(T:U8)(j:Nat)(t:WC)(c:Nat)(b:WC)(p:S1)(f:Xq)(l:∀x W,G.R j x W->(pI T p).p x W)(g:∀x y W,p.p x W->G.R c y W->G.B W->UH P f #[x,y] W (rZ W λe W'=>G.R k e W'))(hd:((dB o j,aX ops j),(dB o c,aX ops c))=((true,some t),(true,some b)):=by kernel_rfl)(i:∀x y W,(dA [t,b] o,(U5 (evo (evl [(t,.iface T x),(b,y)])) o).run P W)=(true,.ok (.enter f #[x,y]) W):=by intro _ _ _;kernel_rfl):bF P Q G.flow ops a0 k o:=
 gK λa W d=>by
  obtain⟨x,e,hx⟩:=l _ W (d.n j t (congrArg (·.1.1) hd) (congrArg (·.1.2) hd));exact⟨[(t,.iface T x),(b,a.eval (.tmp b))],f,_,⟨e,rfl,yCl⟩,i _ _ W,g _ _ W hx (d.n c b (congrArg (·.2.1) hd) (congrArg (·.2.2) hd)) d.b⟩
end RG
namespace RG
variable {P:VD}{ops:Array Vk}{Q:Yo->Act->Ur->Prop}{w:Ur}{a0:Act}{G:Gw}{k:Nat}{o:Vk}{T:U8}{g off:Nat}{cs:List Ut}{v u v' z:Ut}{I:Sem Ut}{f:Xq}{t:WC}
theorem gO(t:WC)(v:Ut)(b:a0.eval (.tmp t)=v:=by kernel_rfl)(hR:∀W,G.R k v W:=by exact λ_=>rfl)(hf:oY ops k t=true:=by kernel_rfl)(c:∀W,(dA [t] o,(U5 (evo (evl [(t,v)])) o).run P W)=(true,.ok (.value v) W):=by intro _;kernel_rfl):bF P Q G.flow ops a0 k o:=RU t v v b hR hf c
theorem gP(t:WC)(v b:Ut)(c:a0.eval (.tmp t)=v:=by kernel_rfl)(hR:∀W,G.R k b W:=by exact λ_=>rfl)(hf:oY ops k t=true:=by kernel_rfl)(d:∀W,(dA [t] o,(U5 (evo (evl [(t,v)])) o).run P W)=(true,.ok (.value b) W):=by intro _;kernel_rfl):bF P Q G.flow ops a0 k o:=RU t v b c hR hf d
theorem gLo(t:WC)(b:∀W,G.B W->W.rangeAt g off cs)(c:(P.underlying T).map (·.isRow)=some true)(e:(P.info? T).map (·.size)=some cs.length)(d:a0.eval (.tmp t)=oZ g off:=by kernel_rfl)(hR:∀W,G.R k (.agg cs.toArray) W:=by exact λ_=>rfl)(hf:oY ops k t=true:=by kernel_rfl)(ho:o.op=.load T (.tmp t):=by rfl):bF P Q G.flow ops a0 k o:=iD T t g off cs c e d b hR hf ho
theorem gLr(j:Nat)(t:WC)(c:∀W,G.B W->W.rangeAt g off cs)(b:(P.underlying T).map (·.isRow)=some true)(e:(P.info? T).map (·.size)=some cs.length)(d:∀x W,G.R j x W->x=oZ g off:=by exact λ_ _ h=>h)(hR:∀W,G.R k (.agg cs.toArray) W:=by exact λ_=>rfl)(hd:(dB o j,aX ops j)=(true,some t):=by kernel_rfl)(ho:o.op=.load T (.tmp t):=by rfl):bF P Q G.flow ops a0 k o:=RV T j t g off cs b e d c hR hd ho
theorem gX(j:Nat)(t:WC)(b:Nat)(c:WC)(g:∀W,I.run P W=.ok v' W)(f:∀x W,G.R j x W->x=v:=by exact λ_ _ h=>h)(d:∀x W,G.R b x W->x=u:=by exact λ_ _ h=>h)(hR:∀W,G.R k v' W:=by exact λ_=>rfl)(hd:((dB o j,aX ops j),(dB o b,aX ops b))=((true,some t),(true,some c)):=by kernel_rfl)(e:(dA [t,c] o,U5 (evo (evl [(t,v),(c,u)])) o)=(true,I >>= λv=>pure (Xp v)):=by kernel_rfl):bF P Q G.flow ops a0 k o:=A0 j t b c v u v' I g f d hR hd e
theorem gC2(j:Nat)(t:WC)(b:Nat)(c:WC)(g:∀W,UH P f #[v,u] W (rZ W λe W'=>e=v'))(i:∀x W,G.R j x W->x=v:=by exact λ_ _ h=>h)(d:∀x W,G.R b x W->x=u:=by exact λ_ _ h=>h)(hR:∀W,G.R k v' W:=by exact λ_=>rfl)(hd:((dB o j,aX ops j),(dB o b,aX ops b))=((true,some t),(true,some c)):=by kernel_rfl)(l:∀x y W,(dA [t,c] o,(U5 (evo (evl [(t,x),(c,y)])) o).run P W)=(true,.ok (.enter f #[x,y]) W):=by intro _ _ _;kernel_rfl):bF P Q G.flow ops a0 k o:=
 eD j t b c f (λx y=>#[x,y]) (λx y W n m _=>by
  rw[i x W n,d y W m];refine(g W).mono ?_;rintro e W' ⟨a,rfl,p,rfl⟩;exact⟨_,rfl,p,hR W'⟩) hd l
end RG
section
def hf(n:Nat):Nat:=2^Nat.log2 (n-1)
end
section
variable {P:Nat}[NeZero P]{N:Nat}
def hZ(n:Nat):Bs:=#[bV n 16777216,bV n 65536,bV n 256,bV n 1]
theorem IK{w:Ur}{r n:Nat}(h:Holds encB w r 0 (hZ n)):PartOk w (sZ r 4 4) (hZ n).toList:=
 ⟨_,r,0,4,hZ n,rfl,rfl,Uw _,VR rfl,UX ⟨rfl,h⟩⟩
theorem Mv:Gives 70 #[uZ 1] (nv 1):=by
 intro w;go_enter func70,ntmps70;refine RG.M.enter [(0,.v (uZ 1))] 6 kR ?_;intro a0 c;repeat refine Uz ?_
 refine c.T [.m 0] [(0,RG.z 4)] [] [RG.z 4] [0,2] ⟨mk 0 49,yCl⟩ ?_;intro k e f d;repeat refine Uz ?_
 refine d.T [.x (uZ 1),.x (nv 1),.x (nv 1),.u 0] [] [(0,3,wn 1)] [wn 1] [2] ⟨st,st,st,RG.pt i40,yCl⟩ ?_;intro a2 g b;refine Wp ?_;refine UE (v:=nv 1) (aI b.st 2 49 rfl 0 _ rfl (b.at (s:=(.p 0 0))) u40 i40) b.sl.defers ?_;exact⟨_,rfl,b.st.bel.below,rfl⟩
def tZ(a:Nat):Nat:=if a=0 then 1 else a
theorem Mo(O:Ord N){a:Nat}(i:a<N):Gives 210 #[nv a] (nv (tZ a)):=by
 intro w;have f:=Ux i O.le;have g:∀w:Ur,(binOp .eql 49 (nv a) (nv 0)).run prog w=.ok (.bool (decide (a=0))) w:=λw=>eqS f (show 0<top by unfold top;omega) w
 obtain⟨d,hd⟩:=hE (decide (a=0));rw[hd.out]at g;go_enter func210,ntmps210;refine RG.M.enter [(0,.v (nv a))] 8 kR ?_;intro a0 m;repeat refine Uz ?_
 refine m.T [.m 0,.m 1] [(0,wn a),(1,RG.z 4)] [] [wn a,RG.z 4] [1,2] ⟨mk 0 49,mk 1 49,yCl⟩ ?_;intro o r p t n;repeat refine Uz ?_
 refine n.U [.x (nv a),.x (nv 0),.x (.bool d)] [1,2,5] ⟨ld u40 i40,st,aQ rfl .eql 49 49 3 4 (nv a) (nv 0) (.bool d) rfl rfl sx sx (λw=>kR) g,yCl⟩ ?_;intro a2 q b;cases d with
 | true =>
  refine VE b.ev ?_;have c:=of_decide_eq_true hd.out;have e:tZ a=1:=by unfold tZ;rw[yCj c]
  rw[e];repeat refine Uz ?_
  refine b.T [.c (nv 1),.u 1] [] [(1,1,wn 1)] [wn a,wn 1] [2] ⟨cl Mv,RG.pt i40,yCl⟩ ?_;intro j l k;refine Wp ?_;refine UE (v:=nv 1) (aI k.st 2 49 rfl 1 _ rfl (k.at (s:=(.p 1 0))) u40 i40) k.sl.defers ?_;exact⟨_,rfl,k.st.bel.below,rfl⟩
 | false =>
  refine VI b.ev ?_;have c:=of_decide_eq_false hd.out;have e:tZ a=a:=by unfold tZ;rw[yCk c]
  rw[e];refine WS ?_;repeat refine Uz ?_
  refine b.T [.x (nv a),.u 1] [] [(1,1,wn a)] [wn a,wn a] [2] ⟨ld u40 i40,RG.pt i40,yCl⟩ ?_;intro j l k;refine Wp ?_;refine UE (v:=nv a) (aI k.st 2 49 rfl 1 _ rfl (k.at (s:=(.p 1 0))) u40 i40) k.sl.defers ?_;exact⟨_,rfl,k.st.bel.below,rfl⟩
end
section
section
variable {P:VD}{ops:Array Vk}{rest:List Vk}{op:Vk}{a:Act}{w w':Ur}{v:Ut}{Q:Yo->Act->Ur->Prop}
theorem fV(c:op.guard=none)(k:U8)(x y:Operand)(ho:op.op=.store k x y)(b o:Nat)(v:Ut)(hx:a.eval x=oZ b o)(f:a.eval y=v)(hv:v.cells=#[v])(j:v.oneCell'=true)(g:w.there b o 1)(i:(P.info? k).map (·.size)=some 1)
 (h:wpList P ops Q rest (a.put op.dst WP) (w.setCells b o [v])):wpList P ops Q (op :: rest) a w:=
 Xg c λ_ d=>by
  have l:=ZA (P:=P) w b o k #[v] g i (by simp[j]);have e:storeVar k ⟨b,o,none⟩ v=storeVar k ⟨b,o,none⟩ (.agg #[v]):=by
   unfold storeVar;rw[hv];rfl
  unfold VT U5;simp only[ho,hx,f,Yw,X4,UV,Wr,Vm,e,l];exact d _ _ h
theorem rR(k:op.guard=none)(s t:WC)(d:Array U8)(ho:op.op=.call ⟨.value (.tmp s),#[.tmp t],d⟩)(f:Xq)(cap:Array Ut)(x:Ut)(g:a.eval (.tmp s)=.func (.func f) #[] cap)(hx:a.eval (.tmp t)=x)(hf:∀args W,(callFunc f args).run P W=.ok (.enter f args) W)
 {R:Ut->Ur->Prop}(b:UH P f (#[x]++cap) w (Ret R)) (h:∀v w',R v w'->wpList P ops Q rest (a.put op.dst v) w'):wpList P ops Q (op :: rest) a w:=
 Xg k λK c=>by
  have i:(U5 a.eval op).run P w=.ok (.enter f (#[x]++cap)) w:=by
   unfold U5;rw[ho];have e:(#[Operand.tmp t].map a.eval)=#[x]:=by simp[hx]
   simp only[resolve,g,Deferred.ofValue,UV,Wr,Vm,invoke,e];exact hf _ w
  unfold VT;rw[i,Oper.upon_enter];refine b.mono ?_;rintro e w' ⟨v,rfl,hR⟩;exact c _ _ (h v w' hR)
end
end
section
variable {P:Nat}[NeZero P]{N:Nat}
theorem xC(n:Nat)(l:n<4294967296)(w:Ur):UH prog 200 #[iZ n] w (rZ w λe w'=>∃r,e=sZ r 4 4/\r<w'.heap.size/\Holds encB w' r 0 (hZ n)):=by
 have b:(n:Int)/16777216%256=SP.ub (bV n 16777216):=jL n 16777216;have b0:(n:Int)/16777216=SP.ub (bV n 16777216):=oM;clear b;have b1:(n:Int)/65536%256=SP.ub (bV n 65536):=jL n 65536;have o:(n:Int)/256%256=SP.ub (bV n 256):=jL n 256;have m:(n:Int)%256=SP.ub (bV n 1):=xK n;have d:=xO w (bV n 16777216) (bV n 65536) (bV n 256) (bV n 1);have i:Hid (hZ n=#[bV n 16777216,bV n 65536,bV n 256,bV n 1]):=rfl;generalize bV n 16777216=j at *;generalize bV n 65536=c at *;generalize bV n 256=f at *;generalize bV n 1=g at *;have k:kZ w (w.alloc (.cells #[.int .u8 (SP.ub j),.int .u8 (SP.ub c),.int .u8 (SP.ub f),.int .u8 (SP.ub g)] 5)):=(UR _ _).alloc (Uw _) _;go_enter func200,ntmps200;go_wp2;go_ret;refine⟨_,rfl,k,_,rfl,by rw[UB];omega,?_⟩;rw[i.out];exact d
theorem AS(a:Bs)(i:a.size=33)(w:Ur):UH prog 135 #[pvl a] w (rZ w λe w'=>Sm w.heap.size w' e [(1,a)]):=by
 have l:=Hid.mk' (rM i w);obtain⟨g,d⟩:=hE (w.alloc (.cells (aA a).toArray 103));rw[d.out]at l;have K:Hid (Row g w.heap.size (aA a)/\kZ w g):=by rw[<-d.out];exact⟨aE w _ _,aC w _⟩
 obtain⟨va,f⟩:=hE (pvl a);have j:Hid ((Ve 103 va).run prog w=.ok (jZ w.heap.size) g):=by rw[<-f.out];exact l
 rw[f.out];go_enter func135,ntmps135;go_wp2_with (first|(refine aF (u:=va) (v:=jZ w.heap.size) (w':=g) rfl 103 (.tmp 0) rfl ?_ ?_ ?_;rfl;exact j.out)|fail)
 refine(gwL [pE (pvl a),pE (nv 1),pM (w.heap.size<=·) [(1,a)],pM (w.heap.size<=·) [(1,a)]] (λW=>Row W w.heap.size (aA a)/\kZ w W) (λW W' c h=>⟨h.1.below c,h.2.trans (c.mono h.2.size)⟩)).draws kR kR ⟨
  iD 103 1 w.heap.size 0 (aA a) uCP (by rw[aB i];exact cV) rfl (λW b=>b.1.2.1) (λ_=>rfl),
  NN 70 #[uZ 1] λW b=>(IX W).mono (by
   rintro e W' ⟨u,rfl,c,rfl⟩;exact⟨_,rfl,c,rfl⟩),
  eD 0 3 1 4 64 (λx y=>#[x,y]) λx y W hx m b=>by
   obtain rfl:x=pvl a:=hx;obtain rfl:y=nv 1:=m;refine(kU a i 1 W).mono ?_;rintro e W' ⟨u,rfl,c,k,rfl,n,hR⟩;exact⟨_,rfl,c,Sm.one hR (UC b.2.size n) rfl⟩,
  DT 2 5 id λx W h=>h,yCl⟩ ⟨K.1,K.2.drew⟩ ?_
 intro V o hR b;have m:=mk1 (hR 3 (Xj (VR kR)));have n:=mk1 (b.2);dsimp only[bU,VK];go_wp2;go_ret;exact⟨_,rfl,n.out,m.out⟩
theorem u9s:(prog.underlying 9).map (·.isRow)=some false:=kR
def pH(n:Nat)(b:Bs):S1:=⟨λv W=>∃r,v=sZ r n n/\r<W.heap.size/\Holds encB W r 0 b,λ_ _ _ c ⟨r,e,k,d⟩=>⟨r,e,Ux k c.size,Holds.below d c k⟩⟩
noncomputable def hpN (P:Nat) [NeZero P] (lb:ByteArray) (i:Nat):Bs:=wr (.some (hpt P lb (hZ i).toList):EC.Pt P)
theorem Jg(lb:ByteArray)(i:Nat):(hpN P lb i).size=33:=aT _
theorem OW(C:Fld P)(lb:ByteArray)(m:lb.size<=1000000)(i:Nat)(A:i<4294967296)(k:Nat)(w:Ur)(a:k<w.heap.size)(v:w.cell? ⟨k,0,none⟩=some (.string lb)):
 UH prog 201 #[iZ i,jZ k] w (rZ w λe w'=>Sm w.heap.size w' e [(1,hpN P lb i)]):=by
 obtain⟨T,d⟩:=hE (hpN P lb i);have f:T.size=33:=by rw[<-d.out];exact Jg _ _
 rw[d.out];have s:=λ(W:Ur) (n:Option Wu) (q o:Nat) (D:PartOk W (.slice n q o) (hZ i).toList)=>FK C lb m n q o (hZ i).toList W D
 have E:wr (.some (hpt P lb (hZ i).toList):EC.Pt P)=T:=d.out;rw[E]at s;have B:=Hid.mk' s;have F:=mk1 (v);have j:=Hid.mk' (λW=>xC i A W);go_enter func201,ntmps201;go_wp2_with fail
 refine(gwL [pE (.string lb),pE (iZ i),pH 4 (hZ i),pE (pvl T),pM (w.heap.size<=·) [(1,T)],pM (w.heap.size<=·) [(1,T)]] (λW=>W.cell? ⟨k,0,none⟩=some (.string lb)/\kZ w W) (λW W' b h=>⟨by rw[b.cell (p:=⟨k,0,none⟩) (Ux a h.2.size)];exact h.1,h.2.trans (b.mono h.2.size)⟩)).draws kR kR ⟨
  PD 9 1 k 0 (.string lb) u9s rfl (λW c=>c.1) (λ_=>rfl),
  gO 0 (iZ i),
  oW 1 5 200 (λx=>#[x]) (λx W hx c=>by
   obtain rfl:x=iZ i:=hx;refine(j W).mono ?_;rintro e W' ⟨u,rfl,b,r,rfl,t,l⟩;exact⟨_,rfl,b,r,rfl,t,l⟩),
  eD 0 4 2 6 136 (λx y=>#[x,y]) (λx y W hx z c=>by
   obtain rfl:x=.string lb:=hx;obtain⟨r,rfl,t,l⟩:=z;refine(B W _ _ _ (IK l)).mono ?_;rintro e W' ⟨u,rfl,b,rfl⟩;exact⟨_,rfl,b,rfl⟩),
  oW 3 7 135 (λx=>#[x]) (λx W hx c=>by
   obtain rfl:x=pvl T:=hx;refine(AS T f W).mono ?_;rintro e W' ⟨u,rfl,b,l⟩;exact⟨_,rfl,b,l.q.mono λg t=>UC c.2.size t⟩),
  DT 4 8 id (λx W h=>h),yCl⟩ ⟨F.out,(UR _ w).drew⟩ ?_
 intro V z hR c;have l:=mk1 (hR 5 (Xj (VR kR)));have t:=mk1 (c.2);dsimp only[bU,VK];simp only[UN,Us,Uu,Uv];go_wp2;go_ret;exact⟨_,rfl,t.out,l.out⟩
theorem uSu:prog.underlying 129=some (.slice 131):=kR
theorem iSu:(prog.info? 131).map (λi=>(i.size,decide (i.bytes<=4000),i.zero.isSome))=some (1,true,true):=kR
theorem RQ:(prog.info? 131).map (·.size)=some 1:=kR
structure LsI(w W:Ur)(K n i:Nat)(T:Nat->List (Nat × Bs)):Prop where
 bl:kZ w W
 lt:K<W.heap.size
 th:W.there K 0 n
 ge:w.heap.size<=K
 el:∀j,j<i->∃x,W.cell? ⟨K,j,none⟩=some x/\SmQ (λg=>w.heap.size<=g/\g≠K) W x (T j)
theorem LsI.grow{w W W':Ur}{K n i:Nat}{T:Nat->List (Nat × Bs)}(h:LsI w W K n i T)(k:kZ W W'):LsI w W' K n i T:=
 ⟨h.bl.trans (k.mono h.bl.size),Ux h.lt k.size,dJ h.th k h.lt,h.ge,λj d=>by
  obtain⟨x,c,b⟩:=h.el j d;exact⟨x,by rw[k.cell (p:=⟨K,j,none⟩) h.lt];exact c,b.keep (Kq.of_below k)⟩⟩
theorem Kq.set{Q:Nat->Prop}{W:Ur}{K o:Nat}{vs:List Ut}(k:∀g,Q g->g≠K):Kq Q W (W.setCells K o vs):=⟨by rw[setCells_size];exact Uw _,λg b _=>aH K vs o W g (k g b)⟩
theorem LsI.put{w W:Ur}{K n i:Nat}{T:Nat->List (Nat × Bs)}{x:Ut}(h:LsI w W K n i T)(d:i<n)(hx:SmQ (λg=>w.heap.size<=g/\g≠K) W x (T i)):LsI w (W.setCells K i [x]) K n (i+1) T:=by
 have b:Kq (λg=>w.heap.size<=g/\g≠K) W (W.setCells K i [x]):=Kq.set λg f=>f.2
 refine⟨RG.below_setCells h.ge _ _ _ h.bl,by rw[setCells_size];exact h.lt,VW h.th _ _ _,h.ge,λj p=>?_⟩;by_cases e:j=i
 ·subst e;refine⟨x,?_,hx.keep b⟩;have:=VO W K j [x] (λt c=>by
   have k:t=0:=by simp at c;omega
   subst k;have:=h.th j d;rwa[UD]at this) 0 x rfl
  exact this
 ·obtain⟨y,m,l⟩:=h.el j oM;refine⟨y,?_,l.keep b⟩;have o:W.rangeAt K j [y]:=λt u c=>by
   have k:t=0:=by have:=(UF.1 c).1;simp at this;omega
   subst k;obtain rfl:y=u:=by simpa using c
   exact m
  exact Vh o K i [x] (UX (by simp;omega)) 0 y rfl
theorem LsI.gl{w W:Ur}{K n:Nat}{T:Nat->List (Nat × Bs)}(h:LsI w W K n n T):GLq (w.heap.size<=·) W (sZ K n n) n T:=
 ⟨K,0,n,rfl,Uw _,h.ge,h.lt,λj d=>by
  obtain⟨x,c,k⟩:=h.el j d;exact⟨x,by rw[UD];exact c,k.mono λg b=>b.1⟩⟩
theorem SmQ.one{Q:Nat->Prop}{W:Ur}{v:Ut}{l:List (Nat × Bs)}(h:SmQ Q W v l):v.cells=#[v]/\v.oneCell'=true:=by
 obtain⟨g,c,rfl,-⟩:=h;exact⟨rfl,rfl⟩
theorem Aa(n:Nat)(H:n<=512)(f:Xq)(cap:Array Ut)(hf:∀args W,(callFunc f args).run prog W=.ok (.enter f args) W)(T:Nat->List (Nat × Bs))(w:Ur)
 (z:∀i W,i<n->kZ w W->UH prog f (#[iZ i]++cap) W (rZ W λe W'=>Sm W.heap.size W' e (T i))) :
 UH prog 162 #[iZ n,.func (.func f) #[] cap] w (rZ w λe w'=>GLq (w.heap.size<=·) w' e n T):=by
 obtain⟨C0,p,l⟩:=Cg uSu iSu n H;have k:=l w;obtain⟨K,r⟩:∃K,Hid (w.heap.size=K):=⟨_,rfl⟩
 obtain⟨v,b⟩:∃v,Hid (w.alloc (.cells C0.toArray 131)=v):=⟨_,rfl⟩
 have s:Ar w v K 1 n 0 (λ_=>[]):=Ar.new _ p b.out r.out;rw[b.out,r.out]at k;have J:Hid (LsI w v K n 0 T):=⟨s.bl,s.lt,by have:=s.th;rwa[Xi]at this,by rw[r.out];exact Uw _,λj D=>absurd D (Ym _)⟩
 have M:=Hid.mk' z;have E:=Hid.mk' hf;obtain⟨fv,q⟩:=hE (Z0 (.func f) #[] cap);rw[q.out];clear s p l z hf b r;go_enter func162,ntmps162;go_wp2;clear k;go_loopg [11] n (λm s11 W=>∃i:Nat,i+m=n/\s11=iZ i/\Hid (LsI w W K n i T))
 case atStart=>exact⟨0,oM,rfl,J⟩
 case round =>
  obtain⟨i,G,rfl,c⟩:=hrel;by_cases u:i<n
  ·have y:(i:Int)<(n:Int):=oM;have x:=atS K 0 n n i u;rw[show 0+1*i=i by omega]at x;have C:=Hid.mk' u;go_wp2_with (first|(refine rR rfl 16 17 _ rfl f cap (iZ i) ?_ ?_ E.out (M i wr C.out c.bl) ?_;exact q.symm;rfl;intro e W' hR;refine Zf ?_)|fail)
   obtain⟨N,L⟩:=hR;have B:=c.grow N;have o:SmQ (λg=>w.heap.size<=g/\g≠K) W' e (T i):=L.q.mono λg I=>⟨UC (UC c.bl.size (Uw _)) I,by have:=c.lt;omega⟩
   have a:=mk1 (B.put u o);have F:Hid (W'.there K i 1):=λt O=>by
    have d:t=0:=oM;subst d;have:=B.th i u;rwa[UD]at this
   have A:=Hid.mk' o.one;obtain⟨P,d⟩:=hE (W'.setCells K i [e]);rw[d.out]at a;show wpList _ _ _ _ _ _;go_wp2_with (first|(refine fV rfl 131 _ _ rfl K i e ?_ ?_ A.1 A.2 F.out RQ ?_;rfl;rfl;rw[d.out])|fail)
   go_roundg (gk-1)
   case measure=>omega
   case rel=>exact⟨i+1,oM,rfl,a⟩
  ·have y:¬(i:Int)<(n:Int):=oM;obtain rfl:i=n:=oM;have d:=mk2 c.bl c.gl;go_wp2;go_ret;exact⟨_,rfl,d.1,d.2⟩
theorem tQ(C:Fld P)(lb:ByteArray)(f:lb.size<=1000000)(n:Nat)(r:n<=512)(w:Ur):
 UH prog 134 #[.string lb,iZ n] w (rZ w λe w'=>GLq (w.heap.size<=·) w' e n (λi=>[(1,hpN P lb i)])):=by
 obtain⟨d,b⟩:=hE (w.alloc (.cells #[.string lb] 9));obtain⟨k,l⟩:=hE (w.heap.size);have t:kZ w d:=by rw[<-b.out];exact aC _ _
 have hR:Row d k [.string lb]:=by rw[<-b.out,<-l.out];exact aE w _ _
 have o:=Hid.mk' (Aa n r 201 #[jZ k] (λ_ _=>kR) (λi=>[(1,hpN P lb i)]) d (λi W u m=>OW C lb f i oM k W (Ux hR.1 m.size) (by rw[m.cell (p:=⟨k,0,none⟩) hR.1];exact hR.2.1 0 _ rfl)));have j:=Hid.mk' t;go_enter func134,ntmps134;go_wp2_with fail
 rw[b.out,l.out];refine o.mono ?_;rintro e x ⟨v,rfl,c,hG⟩;have q:=mk2 (j.trans (c.mono j.size)) (hG.mono λg s=>UC j.size s);go_wp2;go_ret;exact⟨_,rfl,q.out⟩
noncomputable def hpU (P:Nat) [NeZero P]:Bs:=wr (.some (hpt P ⟨#[105,110,110,101,114]⟩ []):EC.Pt P)
theorem iGr:(prog.info? 133).map (·.size)=some 3:=kR
theorem uGr:(prog.underlying 133).map (·.isRow)=some true:=kR
noncomputable def gGT (P:Nat) [NeZero P] (i:Nat):List (Nat × Bs):=[(1,hpN P ⟨#[108,101,102,116]⟩ i)]
noncomputable def hGT (P:Nat) [NeZero P] (i:Nat):List (Nat × Bs):=[(1,hpN P ⟨#[114,105,103,104,116]⟩ i)]
noncomputable def uGT (P:Nat) [NeZero P]:List (Nat × Bs):=[(1,hpU P)]
theorem xQ(C:Fld P)(n:Nat)(S:n<=512)(w:Ur):
 UH prog 62 #[iZ n] w (rZ w λe w'=>GRq (w.heap.size<=·) w' e n (gGT P) (hGT P) (uGT P)):=by
 have x:=λW=>tQ C ⟨#[108,101,102,116]⟩ dC n S W
 have K:=λW=>tQ C ⟨#[114,105,103,104,116]⟩ dC n S W
 have N:=λW:Ur=>FK C ⟨#[105,110,110,101,114]⟩ dC none 0 0 [] W ⟨none,0,0,0,#[],rfl,rfl,Uw _,Wy _,U4 rfl⟩
 have e0:wr (.some (hpt P ⟨#[105,110,110,101,114]⟩ []):EC.Pt P)=hpU P:=rfl;rw[e0]at N;have V:=λW=>AS (hpU P) (aT _) W
 obtain⟨U,a⟩:∃U,Hid (hpU P=U):=⟨_,rfl⟩
 have Y:uGT P=[(1,U)]:=by unfold uGT;rw[a.out]
 rw[Y];rw[a.out]at N V;have s:=Hid.mk' (V1 x (V1 K (V1 N V)));have X:(λi=>[(1,hpN P ⟨#[108,101,102,116]⟩ i)])=gGT P:=rfl;have e3:(λi=>[(1,hpN P ⟨#[114,105,103,104,116]⟩ i)])=hGT P:=rfl;rw[X,e3]at s;generalize gGT P=G at s⊢;generalize hGT P=H at s⊢;clear x K N V e0 Y X e3 C S;obtain⟨F,A⟩:∃F,Hid (w.alloc (.cells #[.slice none 0 0,.slice none 0 0,.slice none 0 0] 133)=F):=⟨_,rfl⟩
 obtain⟨k,M⟩:∃k,Hid (w.heap.size=k):=⟨_,rfl⟩
 have O:Hid (kZ w F/\Row F k [.slice none 0 0,.slice none 0 0,.slice none 0 0]):=by rw[<-A.out,<-M.out];exact⟨aC _ _,aE w _ _⟩
 go_enter func62,ntmps62;go_wp2_with fail
 rw[A.out,M.out];refine(s.1 F).mono ?_;rintro e Q ⟨v1,rfl,z,hG⟩;have B:Hid (kZ w Q/\Row Q k [.slice none 0 0,.slice none 0 0,.slice none 0 0]/\GLq (k < ·) Q v1 n G):=⟨O.1.trans (z.mono O.1.size),O.2.below z,hG.mono λg o=>Ux O.2.1 o⟩
 go_wp2_with fail
 refine(s.2.1 Q).mono ?_;rintro e E ⟨v2,rfl,u,hG⟩;have L:Hid (kZ w E/\Row E k [.slice none 0 0,.slice none 0 0,.slice none 0 0]/\GLq (k < ·) E v1 n G/\GLq (k < ·) E v2 n H):=⟨B.1.trans (u.mono B.1.size),B.2.1.below u,B.2.2.keep (Kq.of_below u),hG.mono λg o=>Ux B.2.1.1 o⟩
 go_wp2_with fail
 refine(s.2.2.1 E).mono ?_;rintro e I ⟨v,rfl,d,rfl⟩;have t:Hid (kZ w I/\Row I k [.slice none 0 0,.slice none 0 0,.slice none 0 0]/\GLq (k < ·) I v1 n G/\GLq (k < ·) I v2 n H):=⟨L.1.trans (d.mono L.1.size),L.2.1.below d,L.2.2.1.keep (Kq.of_below d),L.2.2.2.keep (Kq.of_below d)⟩
 obtain⟨vu,J⟩:=hE (pvl U);have HO:Hid (∀W:Ur,UH prog 135 #[vu] W (rZ W λe w'=>Sm W.heap.size w' e [(1,U)])):=by rw[<-J.out];exact s.2.2.2
 rw[J.out];go_wp2_with fail
 refine(HO I).mono ?_;rintro e f ⟨v3,rfl,b,Z⟩;have c:Hid (kZ w f/\Row f k [.slice none 0 0,.slice none 0 0,.slice none 0 0]/\GLq (k < ·) f v1 n G/\GLq (k < ·) f v2 n H/\SmQ (k < ·) f v3 [(1,U)]):=⟨t.1.trans (b.mono t.1.size),t.2.1.below b,t.2.2.1.keep (Kq.of_below b),t.2.2.2.keep (Kq.of_below b),Z.q.mono λg o=>Ux t.2.1.1 o⟩
 clear b Z t HO;obtain⟨r,m,c1,rfl,-⟩:=c.2.2.1;obtain⟨j,p,c2,rfl,-⟩:=c.2.2.2.1;obtain⟨l,q,rfl,-⟩:=c.2.2.2.2;obtain⟨y,D⟩:∃y,Hid (f.setCells k 0 [.slice (some ⟨r,m,none⟩) n c1,.slice (some ⟨j,p,none⟩) n c2,sZ l [(1,U)].length q]=y):=⟨_,Hid.mk' rfl⟩
 have T:Hid (kZ w y/\Row y k [.slice (some ⟨r,m,none⟩) n c1,.slice (some ⟨j,p,none⟩) n c2,sZ l [(1,U)].length q]/\GRq (w.heap.size<=·) y (.agg #[.slice (some ⟨r,m,none⟩) n c1,.slice (some ⟨j,p,none⟩) n c2,sZ l [(1,U)].length q]) n G H [(1,U)]):=by
  rw[<-D.out];have R:∀g,k<g->w.heap.size<=g:=λg o=>by rw[M.out];omega
  have kq:Kq (k < ·) f (f.setCells k 0 [.slice (some ⟨r,m,none⟩) n c1,.slice (some ⟨j,p,none⟩) n c2,sZ l [(1,U)].length q]):=Kq.set λg o=>Nat.ne_of_gt o
  exact⟨RG.below_setCells (by rw[M.out];exact Uw _) _ _ _ c.1,c.2.1.put rfl,_,_,_,rfl,(c.2.2.1.keep kq).mono R,(c.2.2.2.1.keep kq).mono R,(c.2.2.2.2.keep kq).mono R⟩
 have R:=mk1 (c.2.1.2.2);go_wp2_with (refine bG (v:=.agg #[.slice (some ⟨r,m,none⟩) n c1,.slice (some ⟨j,p,none⟩) n c2,sZ l [(1,U)].length q]) (w':=f) rfl (.build 133 _) rfl ?_ ?_;kernel_rfl;refine Zf ?_)
 show wpList _ _ _ _ _ _;refine U2 rfl 133 _ _ rfl k 0 #[.slice (some ⟨r,m,none⟩) n c1,.slice (some ⟨j,p,none⟩) n c2,sZ l [(1,U)].length q] ?_ ?_ R.out iGr ?_ ?_
 ·kernel_rfl
 ·kernel_rfl
 ·kernel_rfl
 rw[show(#[.slice (some ⟨r,m,none⟩) n c1,.slice (some ⟨j,p,none⟩) n c2,sZ l [(1,U)].length q]:Array Ut).toList=[.slice (some ⟨r,m,none⟩) n c1,.slice (some ⟨j,p,none⟩) n c2,sZ l [(1,U)].length q] from rfl,D.out];go_wp2;refine UE (aG 2 133 rfl T.2.1 rfl uGr iGr) rfl ?_;exact⟨_,rfl,T.1,T.2.2⟩
theorem u22:(prog.underlying 23).map (·.isRow)=some false:=kR
theorem SU(k o n c i:Nat)(b:i<n)(w:Ur):(Vl 24 (.slice (some ⟨k,o,none⟩) n c) (iZ i)).run prog w=.ok (.pointer (some ⟨k,o+i,none⟩)) w:=by
 go_simp
theorem lF(k o n c i:Nat)(b:i<n)(w:Ur):(Vl 124 (.slice (some ⟨k,o,none⟩) n c) (iZ i)).run prog w=.ok (.pointer (some ⟨k,o+4*i,none⟩)) w:=by
 go_simp
theorem TL(N:Nat)(g:N<=512):∃C0:List Ut,C0.length=4*N/\∀w:Ur,(XC 124 (iZ N) (iZ N)).run prog w=.ok (sZ w.heap.size N N) (w.alloc (.cells C0.toArray 49)):=by
 have e:prog.underlying 124=some (.slice 49):=kR;have n:(prog.info? 49).map (λi=>(i.size,decide (i.bytes<=4000),i.zero.isSome))=some (4,true,true):=kR;obtain⟨i,b,k⟩:=Uy.1 n;simp only[V6.injEq,decide_eq_true_eq]at k;obtain⟨j,f,d⟩:=k;obtain⟨z,c⟩:=Vr.1 d;refine⟨(madeCells z.cells (N*4)).toList,by rw[UK,YI,Vv],λw=>?_⟩;have l:(i.bytes:Int)*(N:Int)<=281474976710656:=by
  have:i.bytes*N<=4000*512:=WQ f g;have m:((i.bytes*N:Nat):Int)<=281474976710656:=oM;rwa[Xw]at m
 have:=run_make (P:=prog) w 124 49 i z e b c .i64 .i64 (N:Int) (N:Int) oM oM l oM;rw[X0,j]at this;rw[XD];exact this
def Up(N:Nat)(w:Ur)(n:Nat)(L:Nat->Bs)(e:Ut)(w':Ur):Prop:=
 ((∃j,j<n/\rq N (L j)=none)/\kZ w w'/\e=.tuple #[.slice none 0 0,.bool false]) \/
 ((∀j,j<n->(rq N (L j)).isSome=true)/\∃k C,Made w k C w'/\Rows 4 n (λj=>wn ((rq N (L j)).getD 0)) n C/\e=.tuple #[sZ k n n,.bool true])
theorem Nl(O:Ord N)(n cap:Nat)(hn:n<=512)(q:Option Wu)(L:Nat->Bs)(w:Ur)(hA:Args w q n L):UH prog 121 #[(.func (.func 16) #[] #[]),.slice q n cap] w (Ret λe w'=>Up N w n L e w'):=by
 obtain⟨C,Z,P⟩:=TL n hn;go_enter func121,ntmps121;refine RG.M.enter [(0,.v (.func (.func 16) #[] #[])),(1,.v (.slice q n cap))] 35 kR ?_;intro a0 M0;repeat refine Uz ?_
 refine M0.U [.x (.slice none 0 0),.x (.bool false)] [0,1] ⟨st,st,yCl⟩ ?_;intro a1 w1 M1;repeat refine Uz ?_
 refine M1.t [.x 11 [] (.slice q n cap),.x 12 [(11,0)] (iZ n),⟨some 13,[(12,1)],.s 0 n n,.make 0⟩,.s 6 [(13,2)] (.s 0 n n)] [(2,C)] [] [C] [(0,.v (.func (.func 16) #[] #[])),(1,.v (.slice q n cap)),(6,.s 0 n n)] ⟨st,st,mJ 0 rfl _ rfl 124 49 12 12 n rfl rfl sx sx P,st,yCl⟩ ?_;intro j2 a2 w2 M2;repeat refine Uz ?_
 refine M2.U [.x (.slice q n cap),.x (iZ n),.x (iZ 0)] [0,6,14,15,16] ⟨st,st,st,yCl⟩ ?_;intro a3 w3 M3;repeat refine Uz ?_
 refine XH ?_;refine wp_loop_ghost (λm a wr=>∃(i:Nat) (C:List Ut) (S:Nat),i+m=n/\(∀j,j<i->(rq N (L j)).isSome=true)/\Rows 4 n (λj=>wn ((rq N (L j)).getD 0)) i C/\RG.M w w.heap.size [] 35 [C] [S] [(0,.v (.func (.func 16) #[] #[])),(6,.s 0 n n),(14,.v (.slice q n cap)),(15,.v (iZ n)),(16,.v (iZ i))] a wr) n ⟨0,C,_,oM,λj hj=>oM,⟨Z,λj r hj=>oM⟩,M3⟩ ?_;clear P;intro m' a wr;rintro⟨i,C,S,h9,o,hR,A⟩;by_cases u:i<n
 ·obtain⟨z,Y,Q,hc⟩:=hA oM;subst Y;obtain⟨v,hv,K⟩:=hc i u;have t:w.cell? ⟨z,0+i,none⟩=some v:=by rw[UD];exact hv
  have y:=λw' (R:BelX w.heap.size [] w w')=>EA O v (L i) w' (K.below R.below)
  obtain⟨m,hm⟩:∃m,m=(rq N (L i)).getD 0:=⟨_,rfl⟩
  cases x:(rq N (L i)).isSome with
  | true =>
   have B:∀w',BelX w.heap.size [] w w'->UH prog 16 #[v] w' (Ret λe D=>kZ w' D/\e=.tuple #[nv m,.bool true]):=λw' R=>by
    have h:=y w' R;rw[x,<-hm]at h;exact h
   have I:=hR.len;have p:0+4*i+(wn m).length<=C.length:=by rw[I];show 0+4*i+4<=4*n;omega
   obtain⟨F,l⟩:∃c,rep C (0+4*i) (wn m)=c:=⟨_,rfl⟩
   have h0:=l ▸ RG.rep_at p;have T:F.length=C.length:=l ▸ cU p;have h6:Rows 4 n (λj=>wn ((rq N (L j)).getD 0)) (i+1) F:=by
    have:=hR.next u rfl;rw[<-l,hm];exact this
   repeat refine Uz ?_
   refine A.U [.x (.bool true)] [0,6,14,15,16,17] ⟨aQ rfl .lss 3 3 16 15 (iZ i) (iZ n) (.bool true) rfl rfl sx sx (λw=>kR) (gA u),yCl⟩ ?_;intro J G k;repeat refine Uz ?_
   refine VE k.ev ?_;refine WS ?_;refine Uz ?_;refine XH ?_;repeat refine Uz ?_
   refine k.U [.x (iZ i),.x (.pointer (some ⟨z,0+i,none⟩)),.x v,.x (iZ i),.x v] [0,6,7,8,14,15,16] ⟨st,bD rfl 24 14 16 rfl (.v (sZ z n cap)) (iZ i) sx sx (λμ w=>SU _ 0 _ _ i u w),bM rfl z (0+i) Q UY 23 19 rfl v rfl sx t u22,st,st,yCl⟩ ?_;intro H M d;repeat refine Uz ?_
   refine d.T [.x (.func (.func 16) #[] #[]),.x v,.c (.tuple #[nv m,.bool true]),.x (.tuple #[nv m,.bool true]),.x (nv m),.x (.bool true),.m 1,.u 1,.x (.bool true)] [(6,RG.z 4)] [(1,7,wn m)] [C,wn m] [0,6,7,9,10,14,15,16] ⟨st,st,clB (λ_ _=>kR) B,st,st,st,mk 1 49,RG.pt i40,st,yCl⟩ ?_;intro h3 h4 h1 E;repeat refine Uz ?_
   refine E.U [.x (.bool true),.x (.bool false)] [0,6,7,9,14,15,16,28] ⟨st,st,yCl⟩ ?_;intro V h5 g;repeat refine Uz ?_
   refine VI g.ev ?_;refine WS ?_;repeat refine Uz ?_
   refine g.tx [.s 29 [] (.s 0 n n),.x 30 [] (iZ i),.x 31 [] (nv m),.s 32 [(29,0),(30,1)] (.p 0 (0+4*i)),.u [(32,3),(31,2)] 0] [] [(0,4,F)] [F,wn m] [(0,.v (.func (.func 16) #[] #[])),(6,.s 0 n n),(14,.v (sZ z n cap)),(15,.v (iZ n)),(16,.v (iZ i))] kR (congrArg (λn=>[n]) T) ⟨st,st,ld u40 i40,bD rfl 124 29 30 rfl (.s 0 n n) (iZ i) sx sx (λμ w=>lF _ 0 _ _ i u w),eZ 0 (0+4*i) rfl _ rfl 49 (.tmp 32) (.tmp 31) (wn m) rfl rfl sx sx p h0 i40 rfl,yCl⟩ ?_;intro h2 X f;repeat refine Uz ?_
   refine f.U [.x (iZ ((i+1:Nat):Int)),.x (iZ ((i+1:Nat):Int))] [0,6,14,15,16] ⟨aP rfl .add 3 3 16 (iZ i) (iZ 1) (iZ ((i+1:Nat):Int)) rfl rfl sx (λw=>kR) (uQ i 1 oM oM),st,yCl⟩ ?_;intro h8 h7 W;show ∃n',_;exact⟨m'-1,oM,i+1,F,S,oM,λj hj=>(by
    by_cases U:j=i
    ·rw[U];exact x
    ·exact o j oM),h6,RG.M.drop (cs:=[F]) (cs2:=[_]) (ks:=[S]) (ks2:=[_]) W rfl rfl⟩
  | false =>
   have B:∀w',BelX w.heap.size [] w w'->UH prog 16 #[v] w' (Ret λe D=>kZ w' D/\e=.tuple #[nv m,.bool false]):=λw' R=>by
    have h:=y w' R;rw[x,<-hm]at h;exact h
   repeat refine Uz ?_
   refine A.U [.x (.bool true)] [0,14,16,17] ⟨aQ rfl .lss 3 3 16 15 (iZ i) (iZ n) (.bool true) rfl rfl sx sx (λw=>kR) (gA u),yCl⟩ ?_;intro J G k;repeat refine Uz ?_
   refine VE k.ev ?_;refine WS ?_;refine Uz ?_;refine XH ?_;repeat refine Uz ?_
   refine k.U [.x (iZ i),.x (.pointer (some ⟨z,0+i,none⟩)),.x v,.x (iZ i),.x v] [0,8] ⟨st,bD rfl 24 14 16 rfl (.v (sZ z n cap)) (iZ i) sx sx (λμ w=>SU _ 0 _ _ i u w),bM rfl z (0+i) Q UY 23 19 rfl v rfl sx t u22,st,st,yCl⟩ ?_;intro H M d;repeat refine Uz ?_
   refine d.T [.x (.func (.func 16) #[] #[]),.x v,.c (.tuple #[nv m,.bool false]),.x (.tuple #[nv m,.bool false]),.x (nv m),.x (.bool false),.m 1,.u 1,.x (.bool false)] [(6,RG.z 4)] [(1,7,wn m)] [C,wn m] [10] ⟨st,st,clB (λ_ _=>kR) B,st,st,st,mk 1 49,RG.pt i40,st,yCl⟩ ?_;intro h3 h4 h1 E;repeat refine Uz ?_
   refine E.U [.x (.bool false),.x (.bool true)] [28] ⟨st,st,yCl⟩ ?_;intro V h5 g;repeat refine Uz ?_
   refine VE g.ev ?_;repeat refine Uz ?_
   refine g.U [.x (.slice none 0 0),.x (.bool false)] [4,5] ⟨st,st,yCl⟩ ?_;intro h2 X f;refine Wp ?_;refine UE (v:=.tuple #[.slice none 0 0,.bool false]) (fX 4 5 rfl (.slice none 0 0) (.bool false) f.av f.av) f.sl.defers ?_;exact⟨_,rfl,U4 ⟨⟨i,u,by simpa using x⟩,f.st.bel.below,rfl⟩⟩
 ·have f:i=n:=oM;rw[f]at o hR;repeat refine Uz ?_
  refine A.U [.x (.bool false)] [6,17] ⟨aQ rfl .lss 3 3 16 15 (iZ i) (iZ n) (.bool false) rfl rfl sx sx (λw=>kR) (nH u),yCl⟩ ?_;intro J G k;repeat refine Uz ?_
  refine VI k.ev ?_;refine wp_exit ?_;dsimp only[Exit.then,Exit.inBlock];rw[yCj rfl];repeat refine Uz ?_
  refine k.U [.s (.s 0 n n),.s (.s 0 n n),.x (.bool true)] [4,5] ⟨st,st,st,yCl⟩ ?_;intro H M d;refine Wp ?_;refine UE (v:=_) (fX 4 5 rfl _ (.bool true) (d.at (s:=.s 0 n n)) d.av) d.sl.defers ?_;exact⟨_,rfl,UX ⟨o,_,C,d.st.made (b:=0) rfl,hR,rfl⟩⟩
def prS(N:Nat)(a b:Nat->Nat):Nat->Nat
 | 0=>0
 | i+1=>sPl N (prS N a b i) (sTi N (b i) (a i))
theorem AN(k:0<N)(a b:Nat->Nat):∀i,prS N a b i<N
 | 0=>k
 | _+1=>V5 _ k
structure CbS(w W:Ur)(N k4 k5 i:Nat)(a b:Nat->Nat):Prop where
 bl:kZ w W
 r4:Row W k4 [uZ 0,uZ 0,uZ 0,uZ 0]
 r5:Row W k5 (wn (prS N a b i))
theorem CbS.grow{w W W':Ur}{d c i:Nat}{a b:Nat->Nat}(h:CbS w W N d c i a b)(k:kZ W W'):CbS w W' N d c i a b:=
 ⟨h.bl.trans (k.mono h.bl.size),h.r4.below k,h.r5.below k⟩
theorem CbS.drew{w W:Ur}{c k i:Nat}{a b:Nat->Nat}(h:CbS w W N c k i a b):CbS w W.drew N c k i a b:=⟨h.bl.drew,h.r4,h.r5⟩
theorem wn0:wn 0=[uZ 0,uZ 0,uZ 0,uZ 0]:=kR
theorem aR{W:Ur}{k K o:Nat}{vs us:List Ut}(h:Row W k vs)(b:k≠K):Row (W.setCells K o us) k vs:=aV h (by rw[setCells_size];exact Uw _) (aH K us o W k b)
theorem CbS.put{w W:Ur}{d k i:Nat}{a b:Nat->Nat}(h:CbS w W N d k i a b)(e:w.heap.size<=k)(c:d≠k):CbS w (W.setCells k 0 (wn (prS N a b (i+1)))) N d k (i+1) a b:=
 ⟨RG.below_setCells e _ _ _ h.bl,aR h.r4 c,h.r5.put rfl⟩
theorem Bc(O:Ord N){Q:Nat->Prop}(n:Nat)(hn:n<=512)(a b:Nat->Nat)(ha:∀i,i<n->a i<N)(C:∀i,i<n->b i<N)(va vb:Ut)(w:Ur)(h1:SLq Q w va n a)(h2:SLq Q w vb n b):
 UH prog 78 #[va,vb] w (rZ w λe w'=>e=nv (prS N a b n)):=by
 obtain⟨U,o1,c1,rfl,-,-,Y,X⟩:=h1;obtain⟨r,B,c2,rfl,-,-,S,Z⟩:=h2;obtain⟨c,t⟩:∃k,Hid (w.heap.size=k):=⟨_,rfl⟩
 obtain⟨w1,F⟩:∃w1,Hid ((w.alloc (.cells #[uZ 0,uZ 0,uZ 0,uZ 0] 49)).alloc (.cells #[uZ 0,uZ 0,uZ 0,uZ 0] 49)=w1):=⟨_,rfl⟩
 have K1:Hid (CbS w w1 N c (c+1) 0 a b):=by
  rw[<-F.out,<-t.out];have hR:=aE (w.alloc (.cells #[uZ 0,uZ 0,uZ 0,uZ 0] 49)) [uZ 0,uZ 0,uZ 0,uZ 0] 49;rw[UB]at hR;exact⟨(aC w _).alloc (by rw[UB];omega) _,(aE w _ _).alloc _,by show Row _ _ (wn 0);rw[wn0];exact hR⟩
 have f:Hid (Ord N/\(∀i,i<n->a i<N)/\(∀i,i<n->b i<N)/\(∀j,j<n->w.rangeAt U (o1+4*j) (wn (a j)))/\(∀j,j<n->w.rangeAt r (B+4*j) (wn (b j)))/\U<w.heap.size/\r<w.heap.size/\w.heap.size<=c):=⟨O,ha,C,X,Z,Y,S,by rw[t.out];exact Uw _⟩
 obtain⟨d,h4,T⟩:=Uy.1 u40;have HD:Hid (prog.underlying 49=some d/\d.isRow=true):=⟨h4,T⟩
 clear O ha C X Z Y S h4 T;go_enter func78,ntmps78;go_wp2;rw[F.out,t.out];clear F t;go_loopg [10] n (λm s10 W=>∃i:Nat,i+m=n/\s10=iZ i/\Hid (CbS w W N c (c+1) i a b))
 case atStart=>exact⟨0,oM,rfl,K1⟩
 case round =>
  clear K1;obtain⟨i,he,rfl,E⟩:=hrel;by_cases P:i<n
  ·have h8:(i:Int)<(n:Int):=oM;have hc:(i:Int)<=600:=oM;have HL:=Hid.mk' P;have h9:=lF U o1 n c1 i P;have B0:Hid (wr.rangeAt U (o1+4*i) (wn (a i))):=RG.range_below (f.2.2.2.1 i P) E.bl f.2.2.2.2.2.1;obtain⟨K,z⟩:∃k,Hid (wr.heap.size=k):=⟨_,rfl⟩
   obtain⟨R,J⟩:∃R,Hid (wr.alloc (.cells #[uZ 0,uZ 0,uZ 0,uZ 0] 49)=R):=⟨_,rfl⟩
   obtain⟨W2,H⟩:∃W2,Hid (R.setCells K 0 (wn (a i))=W2):=⟨_,rfl⟩
   have F1:Hid (Row R K [uZ 0,uZ 0,uZ 0,uZ 0]/\kZ wr R):=by rw[<-J.out,<-z.out];exact⟨aE wr _ _,aC wr _⟩
   have F2:Hid (Row W2 K (wn (a i))/\CbS w W2 N c (c+1) i a b):=by
    rw[<-H.out];exact⟨F1.1.put rfl,E.grow (RG.below_setCells (by rw[z.out];exact Uw _) _ _ _ F1.2)⟩
   obtain⟨va,h0⟩:∃v,Hid (U3 (wn (a i)).toArray=v):=⟨_,rfl⟩
   have HO:Hid ((wn (a i)).toArray.all (·.oneCell')=true):=aM _;clear E;go_wp2_with (first|(refine U6 rfl 49 _ rfl U (o1+4*i) ?_ (wn (a i)) d ?_ ?_ ?_ ?_ ?_;rfl;exact B0.out;exact HD.1;exact HD.2;exact i40;rw[h0.out])|(refine bG (v:=jZ K) (w':=R) rfl (.alloc 49) rfl ?_ ?_;(rw[<-J.out,<-z.out];kernel_rfl))|(refine U2 rfl 49 _ _ rfl K 0 (wn (a i)).toArray ?_ ?_ ?_ ?_ ?_ ?_;rfl;exact h0.symm;exact F1.1.2.2;exact i40;exact HO.out;rw[show(wn (a i)).toArray.toList=wn (a i) from rfl,H.out])|fail)
   clear J H z F1 HO;obtain⟨s,G⟩:∃s,Hid (prS N a b i=s):=⟨_,rfl⟩
   have HN:Hid (s<N/\a i<N/\b i<N):=⟨by rw[<-G.out];exact AN f.1.pos a b i,f.2.1 i P,f.2.2.1 i P⟩
   obtain⟨p,L⟩:∃p,Hid (sTi N (b i) (a i)=p):=⟨_,rfl⟩
   obtain⟨q,l⟩:∃q,Hid (sPl N s p=q):=⟨_,rfl⟩
   have HP:Hid (p<N):=by show p<N;rw[<-L.out];exact V5 _ f.1.pos
   have HQ:Hid (prS N a b (i+1)=q):=by show _=_;rw[<-l.out,<-L.out,<-G.out];rfl
   have hT:=λW=>iI f.1 (b i) (a i) HN.2.2 HN.2.1 W
   have I:=λW=>mY f.1 s p HN.1 HP.out W
   rw[L.out]at hT;rw[l.out]at I;have h7:∀W,kZ w W->W.rangeAt r (B+4*i) (wn (b i)):=λW A=>RG.range_below (f.2.2.2.2.1 i P) A f.2.2.2.2.2.2.1
   have h6:∀W,CbS w W N c (c+1) i a b->W.rangeAt (c+1) 0 (wn s):=λW h=>by rw[<-G.out];exact h.r5.2.1
   refine(gwL [pE (nv s),pE (.iface 49 (nv s)),pE (.slice (some ⟨r,B,none⟩) n c2),pE (iZ i),pE (.pointer (some ⟨r,B+4*i,none⟩)),pE (nv (b i)),pE (.iface 49 (nv (b i))),pE (nv (a i)),pE (nv p),pE (nv q)] (λW=>CbS w W N c (c+1) i a b/\Row W K (wn (a i))) (λW W' C h=>⟨h.1.grow C,h.2.below C⟩)).last 10 kR kR kR ⟨
    iD 49 5 (c+1) 0 (wn s) u40 i40 rfl (λW A=>h6 W A.1) (λ_=>rfl),
    rF 0 15 (nv s) (.iface 49 (nv s)) (λx W h=>h) (λ_=>rfl),
    gO 1 (.slice (some ⟨r,B,none⟩) n c2),
    gO 6 (iZ i),
    A0 2 17 3 18 (.slice (some ⟨r,B,none⟩) n c2) (iZ i) (.pointer (some ⟨r,B+4*i,none⟩)) (Vl 124 (.slice (some ⟨r,B,none⟩) n c2) (iZ i)) (lF r B n c2 i HL.out) (λx W h=>h) (λx W h=>h) (λ_=>rfl),
    gLr 4 19 (λW A=>h7 W A.1.bl) u40 i40,
    rF 5 20 (nv (b i)) (.iface 49 (nv (b i))) (λx W h=>h) (λ_=>rfl),
    iD 49 7 K 0 (wn (a i)) u40 i40 rfl (λW A=>A.2.2.1) (λ_=>rfl),
    oV 49 6 21 7 22 (pE (nv (b i))) 79 (λx W h=>⟨_,h,rfl⟩) (λx y W hx g A=>by
     obtain rfl:x=nv (b i):=hx;obtain rfl:y=nv (a i):=g;refine(hT W).mono ?_;rintro e W' ⟨u,rfl,C,rfl⟩;exact⟨_,rfl,C,rfl⟩),
    oV 49 1 16 8 23 (pE (nv s)) 80 (λx W h=>⟨_,h,rfl⟩) (λx y W hx g A=>by
     obtain rfl:x=nv s:=hx;obtain rfl:y=nv p:=g;refine(I W).mono ?_;rintro e W' ⟨u,rfl,C,rfl⟩;exact⟨_,rfl,C,rfl⟩),yCl⟩ ⟨F2.2.drew,F2.1⟩ ?_
   intro V W3 h5 M;have h3:V 9=nv q:=h5 9 dC;obtain⟨D,o⟩:∃D,Hid (W3.setCells (c+1) 0 (wn q)=D):=⟨_,rfl⟩
   have K4:Hid (CbS w D N c (c+1) (i+1) a b):=by
    have h:=M.1.put (by have:=f.2.2.2.2.2.2.2;omega) oM;rw[HQ.out,o.out]at h;exact h
   have HT:Hid (W3.there (c+1) 0 4):=M.1.r5.2.2;dsimp only[bU,VK,Xl,Xm];simp only[UN,Us,Uu,Uv];obtain⟨vq,g⟩:∃v,Hid (nv q=v):=⟨_,rfl⟩
   rw[h3,g.out];clear h5 M h3 F2 hT I h7 h6;generalize V 0=s0;generalize V 1=s1;generalize V 2=s2;generalize V 3=s3;generalize V 4=s4;generalize V 5=s5;generalize V 6=s6;generalize V 7=s7;generalize V 8=s8;go_wp2_with (first|(refine U2 rfl 49 _ _ rfl (c+1) 0 (wn q).toArray ?_ ?_ ?_ ?_ ?_ ?_;rfl;exact g.symm;exact HT.out;exact i40;exact aM q;rw[show(wn q).toArray.toList=wn q from rfl,o.out])|fail)
   go_roundg (gk-1)
   case measure=>omega
   case rel=>exact⟨i+1,oM,rfl,K4⟩
  ·have h8:¬(i:Int)<(n:Int):=oM;obtain rfl:i=n:=oM;obtain⟨q,l⟩:∃q,Hid (prS N a b i=q):=⟨_,rfl⟩
   obtain⟨D,o⟩:∃D,Hid (wr.setCells c 0 (wn q)=D):=⟨_,rfl⟩
   have R5:Hid (wr.rangeAt (c+1) 0 (wn q)/\wr.there c 0 4):=⟨by rw[<-l.out];exact E.r5.2.1,E.r4.2.2⟩
   have K4:Hid (kZ w D/\Row D c (wn q)):=by
    rw[<-o.out];exact⟨RG.below_setCells f.2.2.2.2.2.2.2 _ _ _ E.bl,E.r4.put rfl⟩
   obtain⟨vq,g⟩:∃v,Hid (nv q=v):=⟨_,rfl⟩
   clear E;go_wp2_with (first|(refine U6 rfl 49 _ rfl (c+1) 0 ?_ (wn q) d ?_ ?_ ?_ ?_ ?_;rfl;exact R5.1;exact HD.1;exact HD.2;exact i40;rw[show U3 (wn q).toArray=vq from g.out])|(refine U2 rfl 49 _ _ rfl c 0 (wn q).toArray ?_ ?_ ?_ ?_ ?_ ?_;rfl;exact g.symm;exact R5.2;exact i40;exact aM q;rw[show(wn q).toArray.toList=wn q from rfl,o.out])|fail)
   refine UE (aG 4 49 rfl K4.2 rfl u40 i40) rfl ?_;exact⟨_,rfl,K4.1,by rw[l.out];rfl⟩
theorem AB:(prog.underlying 131).map (·.isRow)=some false:=kR
structure CbM(w W:Ur)(v:Ut)(l:List (Nat × Bs)):Prop where
 bl:kZ w W
 sm:SmZ w.heap.size W v l
theorem CbM.grow{w W W':Ur}{v:Ut}{l:List (Nat × Bs)}(h:CbM w W v l)(k:kZ W W'):CbM w W' v l:=⟨h.bl.trans (k.mono h.bl.size),h.sm.grow k⟩
theorem CbM.drew{w W:Ur}{v:Ut}{l:List (Nat × Bs)}(h:CbM w W v l):CbM w W.drew v l:=⟨h.bl.drew,h.sm.grow ⟨rfl,rfl,rfl,Uw _,λ_ _=>rfl⟩⟩
theorem Ij{B:Nat}{W:Ur}{v:Ut}{l:List (Nat × Bs)}(h:SmZ B W v l):SmZ 0 W v l:=by
 rcases h with h|⟨g,c,d,b,-,k⟩
 ·exact U4 h
 ·exact UX ⟨g,c,d,b,Wy _,k⟩
theorem JO(O:Ord N){Q:Nat->Prop}(n c:Nat)(h3:0<n)(P:0<c)(hn:n<=512)(h5:c*n<=400)(a:Nat->Nat)(T:Nat->List (Nat × Bs))(ha:∀i,i<n->a i<N)(hT:∀i,i<n->TOk N (T i))(hl:∀i,i<n->(T i).length=c)(va vb:Ut)(w:Ur)(h1:SLq Q w va n a)(J:GLq Q w vb n T):
 UH prog 139 #[va,vb] w (rZ w λe w'=>Sm w.heap.size w' e (dH N a T n)):=by
 obtain⟨I,o1,c1,rfl,-,-,Z,X⟩:=h1;obtain⟨b,f,c2,rfl,-,-,M,h0⟩:=J;have K1:Hid (CbM w w (.slice none 0 0) (dH N a T 0)):=⟨UR _ _,U4 ⟨rfl,rfl⟩⟩
 have k:Hid (Ord N/\(∀i,i<n->a i<N)/\(∀i,i<n->TOk N (T i))/\(∀i,i<n->(T i).length=c)/\(∀j,j<n->w.rangeAt I (o1+4*j) (wn (a j)))/\(∀j,j<n->∃x,w.cell? ⟨b,f+j,none⟩=some x/\SmQ Q w x (T j))/\I<w.heap.size/\b<w.heap.size/\0<c/\c*n<=400/\0<n):=⟨O,ha,hT,hl,X,h0,Z,M,P,h5,h3⟩
 obtain⟨d,h4,R⟩:=Uy.1 u40;have HD:Hid (prog.underlying 49=some d/\d.isRow=true):=⟨h4,R⟩
 go_enter func139,ntmps139;go_wp2;go_loopg [5,10] n (λm s5 s10 W=>∃i:Nat,i+m=n/\s10=iZ i/\Hid (CbM w W s5 (dH N a T i)))
 case atStart=>exact⟨0,oM,rfl,K1⟩
 case round =>
  obtain⟨i,he,rfl,K⟩:=hrel;by_cases r:i<n
  ·have h7:(i:Int)<(n:Int):=oM;have E:=Hid.mk' r;have h9:=lF I o1 n c1 i r;have B0:=mk1 (RG.range_below (k.2.2.2.2.1 i r) K.bl k.2.2.2.2.2.2.1);obtain⟨s,t⟩:=hE (wr.heap.size);obtain⟨L,F⟩:=hE (wr.alloc (.cells #[uZ 0,uZ 0,uZ 0,uZ 0] 49));obtain⟨W2,D⟩:=hE (L.setCells s 0 (wn (a i)));have U:Hid (Row L s [uZ 0,uZ 0,uZ 0,uZ 0]/\kZ wr L):=by rw[<-F.out,<-t.out];exact⟨aE wr _ _,aC wr _⟩
   have F2:Hid (Row W2 s (wn (a i))/\CbM w W2 u5 (dH N a T i)):=by
    rw[<-D.out];exact⟨U.1.put rfl,K.grow (RG.below_setCells (by rw[t.out];exact Uw _) _ _ _ U.2)⟩
   obtain⟨va,G⟩:=hE (U3 (wn (a i)).toArray);have HO:Hid ((wn (a i)).toArray.all (·.oneCell')=true):=aM _;go_wp2_with (first|(refine U6 rfl 49 _ rfl I (o1+4*i) ?_ (wn (a i)) d ?_ ?_ ?_ ?_ ?_;rfl;exact B0.out;exact HD.1;exact HD.2;exact i40;rw[G.out])|(refine bG (v:=jZ s) (w':=L) rfl (.alloc 49) rfl ?_ ?_;(rw[<-F.out,<-t.out];kernel_rfl))|(refine U2 rfl 49 _ _ rfl s 0 (wn (a i)).toArray ?_ ?_ ?_ ?_ ?_ ?_;rfl;exact G.symm;exact U.1.2.2;exact i40;exact HO.out;rw[show(wn (a i)).toArray.toList=wn (a i) from rfl,D.out])|fail)
   obtain⟨x,Y,S⟩:=k.2.2.2.2.2.1 i r;have HX:=mk2 Y S;obtain⟨l,q⟩:=hE (dH N a T i);have C:dH N a T (i+1)=l++(T i).map (tmT N (a i)):=by rw[<-q.out];rfl
   have h8:l.length=c*i:=by rw[<-q.out];exact eR N a i λj hj=>k.2.2.2.1 j oM
   have hc:c*i+c<=c*n:=by have:=Yh c (yAV r);rwa[Yi]at this
   have H:Hid (l.length<=500/\(T i).length<=500/\0<(T i).length/\TOk N l):=⟨by have:=k.2.2.2.2.2.2.2.2.2.1;omega,by rw[k.2.2.2.1 i r];have:=k.2.2.2.2.2.2.2.2.2.1;omega,by rw[k.2.2.2.1 i r];exact k.2.2.2.2.2.2.2.2.1,by rw[<-q.out];exact oH k.1.pos i λj hj=>k.2.2.1 j oM⟩
   have HE:Hid (dH N a T (i+1)=l++(T i).map (tmT N (a i))):=C;rw[q.out]at F2;refine(gwL [pE u5,pE (.iface 131 u5),pE (.slice (some ⟨b,f,none⟩) n c2),pE (iZ i),pE (.pointer (some ⟨b,f+1*i,none⟩)),pE x,pE (.iface 131 x),pE (nv (a i)),pM (w.heap.size<=·) ((T i).map (tmT N (a i))),pM (w.heap.size<=·) (l++(T i).map (tmT N (a i))),pM (w.heap.size<=·) (l++(T i).map (tmT N (a i)))] (λW=>CbM w W u5 l/\Row W s (wn (a i))) (λW W' A h=>⟨h.1.grow A,h.2.below A⟩)).draws kR kR ⟨
    gO 5 u5,
    rF 0 15 u5 (.iface 131 u5) (λx W h=>h) (λ_=>rfl),
    gO 1 (.slice (some ⟨b,f,none⟩) n c2),
    gO 6 (iZ i),
    A0 2 17 3 18 (.slice (some ⟨b,f,none⟩) n c2) (iZ i) (.pointer (some ⟨b,f+1*i,none⟩)) (Vl 129 (.slice (some ⟨b,f,none⟩) n c2) (iZ i)) (atS b f n c2 i E.out) (λx W h=>h) (λx W h=>h) (λ_=>rfl),
    fF 131 4 19 b (f+1*i) x AB (λx W h=>h) (λW o=>by rw[Xi,o.1.bl.cell (p:=⟨b,f+i,none⟩) k.2.2.2.2.2.2.2.1];exact HX.1) (λ_=>rfl),
    rF 5 20 x (.iface 131 x) (λx W h=>h) (λ_=>rfl),
    iD 49 7 s 0 (wn (a i)) u40 i40 rfl (λW o=>o.2.2.1) (λ_=>rfl),
    oV 131 6 21 7 22 (pE x) 164 (λx W h=>⟨_,h,rfl⟩) (λz y W hx B o=>by
     obtain rfl:z=x:=hx;obtain rfl:y=nv (a i):=B;refine(eG k.1 (k.2.1 i E.out) 0 z (T i) (by have:=H.2.1;omega) (k.2.2.1 i E.out).szm (k.2.2.1 i E.out).lt W (HX.2.sm.grow o.1.bl)).mono ?_;rintro e W' ⟨u,rfl,A,hs⟩;exact⟨_,rfl,A,hs.q.mono λg V=>UC o.1.bl.size V⟩),
    oV 131 1 16 8 23 (pE u5) 65 (λx W h=>⟨_,h,rfl⟩) (λz y W hx B o=>by
     obtain rfl:z=u5:=hx;have B:=B;refine(cO 0 z y l ((T i).map (tmT N (a i))) (by rw[UA,UQ];have:=H.2.2.1;omega) H.1 (by rw[UQ];exact H.2.1) H.2.2.2.sz ((k.2.2.1 i E.out).tm k.1.pos (a i)).sz W (Ij o.1.sm) (UX B.sm)).mono ?_;rintro e W' ⟨u,rfl,A,hs⟩;exact⟨_,rfl,A,hs.q.mono λg V=>UC o.1.bl.size V⟩),
    DT 9 24 id (λx W h=>h),yCl⟩ ⟨F2.2.drew,F2.1⟩ ?_
   intro V W3 h6 B;have o:Hid (CbM w W3 (V 10) (dH N a T (i+1))):=⟨B.1.bl,UX (by rw[HE.out];exact h6 10 (Xj (VR kR)))⟩
   dsimp only[bU,VK];go_wp2;go_roundg (gk-1)
   case measure=>omega
   case rel=>exact⟨i+1,oM,rfl,o⟩
  ·have h7:¬(i:Int)<(n:Int):=oM;obtain rfl:i=n:=oM;have o:Hid (kZ w wr/\Sm w.heap.size wr u5 (dH N a T i)):=⟨K.bl,by
    rcases K.sm with⟨-,h⟩|h
    ·exfalso;have:=eR N a i k.2.2.2.1;rw[h]at this;have J:=yAx k.2.2.2.2.2.2.2.2.1 k.2.2.2.2.2.2.2.2.2.2;rw[<-this]at J;exact absurd J (Nat.lt_irrefl _)
    ·exact h⟩
   go_wp2;go_ret;exact⟨_,rfl,o.1,o.2⟩
theorem rSc:(prog.underlying 49).map (·.isRow)=some true:=u40
theorem nSc:(prog.info? 49).map (·.size)=some 4:=i40
def nM(N x y n:Nat)(a:Nat->Nat)(i:Nat):Nat:=sPl N (sTi N (a i) x) (sTi N (a (n+i)) y)
structure FdS(w W:Ur)(K k4 k5 n i x y:Nat)(f:Nat->Nat):Prop where
 ar:Ar w W K 4 n i (λj=>wn (f j))
 r4:Row W k4 (wn x)
 r5:Row W k5 (wn y)
theorem FdS.grow{w W W':Ur}{K b c n i x y:Nat}{f:Nat->Nat}(h:FdS w W K b c n i x y f)(k:kZ W W'):FdS w W' K b c n i x y f:=⟨h.ar.grow k,h.r4.below k,h.r5.below k⟩
theorem FdS.drew{w W:Ur}{K b k n i x y:Nat}{f:Nat->Nat}(h:FdS w W K b k n i x y f):FdS w W.drew K b k n i x y f:=h.grow ⟨rfl,rfl,rfl,Uw _,λ_ _=>rfl⟩
theorem FdS.put{w W:Ur}{K b k n i x y:Nat}{f:Nat->Nat}(h:FdS w W K b k n i x y f)(c:w.heap.size<=K)(g:i<n)(d:b≠K)(e:k≠K):FdS w (W.setCells K (4*i) (wn (f i))) K b k n (i+1) x y f:=
 ⟨h.ar.put c g (λ_ _=>rfl),aR h.r4 d,aR h.r5 e⟩
theorem Oa(a b:Nat)(h:a+b<4611686018427387904)(w:Ur):(binOp .add 3 (iZ a) (iZ b)).run prog w=.ok (iZ ((a+b:Nat):Int)) w:=by
 have d:(a:Int)+(b:Int)<4611686018427387904:=oM;have c:-4611686018427387904<(a:Int)+(b:Int):=oM;have k:VS.wrap ((a:Int)+(b:Int))=((a+b:Nat):Int):=by rw[Yj];omega
 go_simp
theorem SQ(w:Ur)(x y:Nat):∃k,Hid ((w.alloc (.cells (wn x).toArray 49)).alloc (.cells (wn y).toArray 49)=k)/\kZ w k/\Row k w.heap.size (wn x)/\Row k (w.heap.size+1) (wn y)/\k.heap.size=w.heap.size+2:=by
 have hR:=aE (w.alloc (.cells (wn x).toArray 49)) (wn y) 49;rw[UB]at hR;exact⟨_,Hid.mk' rfl,(aC w _).alloc (by rw[UB];omega) _,(aE w _ _).alloc _,hR,by rw[UB,UB]⟩
theorem Jy(O:Ord N){Q:Nat->Prop}(n:Nat)(hn:n<=500)(a:Nat->Nat)(x y:Nat)(hx:x<N)(o:y<N)(ha:∀i,i<n+n->a i<N)(va:Ut)(w:Ur)(h1:SLq Q w va (n+n) a):
 UH prog 160 #[va,nv x,nv y] w (rZ w λe w'=>SLq (w.heap.size<=·) w' e n (nM N x y n a)):=by
 obtain⟨b,d,c1,rfl,-,-,h5,h4⟩:=h1;obtain⟨m,hm⟩:∃m,Hid (n+n=m):=⟨_,rfl⟩
 have hq:(m:Int).tdiv 2=(n:Int):=by rw[<-hm.out,X7 oM];omega
 obtain⟨L,h9,J,H,F,G⟩:=SQ w x y;obtain⟨C0,h2,he⟩:=Cg uS4 iS4 n oM;have r:=he L;obtain⟨K,hK⟩:∃K,Hid (L.heap.size=K):=⟨_,rfl⟩
 obtain⟨w3,E⟩:∃w3,Hid (L.alloc (.cells C0.toArray 49)=w3):=⟨_,rfl⟩
 have Y:Ar L w3 K 4 n 0 (λj=>wn (nM N x y n a j)):=Ar.new _ h2 E.out hK.out;rw[E.out,hK.out]at r;obtain⟨c,l⟩:∃k,Hid (w.heap.size=k):=⟨_,rfl⟩
 rw[l.out]at H F G;have HK:Hid (K=c+2/\w.heap.size<=c):=⟨by rw[<-hK.out,G],by rw[l.out];exact Uw _⟩
 have K1:Hid (FdS w w3 K c (c+1) n 0 x y (nM N x y n a)):=⟨⟨J.trans (Y.bl.mono J.size),Y.lt,Y.th,λj hj=>absurd hj (Ym _)⟩,H.below Y.bl,F.below Y.bl⟩
 have g:Hid (Ord N/\x<N/\y<N/\(∀i,i<n+n->a i<N)/\(∀j,j<n+n->w.rangeAt b (d+4*j) (wn (a j)))/\b<w.heap.size):=⟨O,hx,o,ha,h4,h5⟩
 obtain⟨vx,h8⟩:∃v,Hid (nv x=v):=⟨_,rfl⟩
 obtain⟨vy,h3⟩:∃v,Hid (nv y=v):=⟨_,rfl⟩
 obtain⟨B,C⟩:∃B,Hid (w.alloc (.cells (wn x).toArray 49)=B):=⟨_,rfl⟩
 have B1:Hid ((Ve 49 vx).run prog w=.ok (jZ c) B):=by rw[<-h8.out,<-C.out,<-l.out];exact boxS x w
 have B2:Hid ((Ve 49 vy).run prog B=.ok (.pointer (some ⟨c+1,0,none⟩)) L):=by
  have h:=boxS y B;rw[show B.heap.size=c+1 by rw[<-C.out,UB,l.out]]at h;have e:B.alloc (.cells (wn y).toArray 49)=L:=by rw[<-C.out];exact h9.out
  rw[e]at h;rw[<-h3.out];exact h
 rw[h8.out,h3.out,hm.out];clear O hx o ha h4 h5 J H F G Y h2 he hK E l h9;go_enter func160,ntmps160;go_wp2_with (first|(refine aF (u:=vx) (v:=jZ c) (w':=B) rfl 49 (.tmp 1) rfl ?_ ?_ ?_;rfl;exact B1.out)|(refine aF (u:=vy) (v:=.pointer (some ⟨c+1,0,none⟩)) (w':=L) rfl 49 (.tmp 2) rfl ?_ ?_ ?_;rfl;exact B2.out)|fail)
 clear r B1 B2 hq;go_loopg [15] n (λm s15 W=>∃i:Nat,i+m=n/\s15=iZ i/\Hid (FdS w W K c (c+1) n i x y (nM N x y n a)))
 case atStart=>exact⟨0,oM,rfl,K1⟩
 case round =>
  clear K1;obtain⟨i,hs,rfl,X⟩:=hrel;by_cases hi:i<n
  ·have hk:(i:Int)<(n:Int):=oM;have hr:(i:Int)<=600:=oM;have HL:=Hid.mk' hi;have KP:=X;clear X;go_wp2_with fail
   obtain⟨p1,D⟩:∃p,Hid (sTi N (a i) x=p):=⟨_,rfl⟩
   obtain⟨p2,R⟩:∃p,Hid (sTi N (a (n+i)) y=p):=⟨_,rfl⟩
   obtain⟨q,h6⟩:∃q,Hid (sPl N p1 p2=q):=⟨_,rfl⟩
   have HP:Hid (p1<N/\p2<N):=⟨by rw[<-D.out];exact V5 _ g.1.pos,by rw[<-R.out];exact V5 _ g.1.pos⟩
   have HQ:Hid (nM N x y n a i=q):=by show _=_;rw[<-h6.out,<-D.out,<-R.out];rfl
   have M:=λW=>iI g.1 (a i) x (g.2.2.2.1 i oM) g.2.1 W
   have S:=λW=>iI g.1 (a (n+i)) y (g.2.2.2.1 (n+i) oM) g.2.2.1 W
   have I:=λW=>mY g.1 p1 p2 HP.1 HP.2 W
   rw[D.out]at M;rw[R.out]at S;rw[h6.out]at I;have h7:∀W,kZ w W->W.rangeAt b (d+4*i) (wn (a i)):=λW f=>RG.range_below (g.2.2.2.2.1 i oM) f g.2.2.2.2.2
   have hg:∀W,kZ w W->W.rangeAt b (d+4*(n+i)) (wn (a (n+i))):=λW f=>RG.range_below (g.2.2.2.2.1 (n+i) oM) f g.2.2.2.2.2
   have hl:i<m:=by rw[<-hm.out];omega
   have Z:n+i<m:=by rw[<-hm.out];omega
   refine(gwL [pE (sZ K n n),pE (iZ i),pE (.slice (some ⟨b,d,none⟩) m c1),pE (iZ i),pE (.pointer (some ⟨b,d+4*i,none⟩)),pE (nv (a i)),pE (.iface 49 (nv (a i))),pE (nv x),pE (nv p1),pE (.iface 49 (nv p1)),pE (.slice (some ⟨b,d,none⟩) m c1),pE (sZ K n n),pE (iZ n),pE (iZ i),pE (iZ ((n+i:Nat):Int)),pE (.pointer (some ⟨b,d+4*(n+i),none⟩)),pE (nv (a (n+i))),pE (.iface 49 (nv (a (n+i)))),pE (nv y),pE (nv p2),pE (nv q),pE (.pointer (some ⟨K,0+4*i,none⟩))] (λW=>FdS w W K c (c+1) n i x y (nM N x y n a)) (λW W' U h=>h.grow U)).last 22 kR kR kR ⟨
    gO 7 (sZ K n n),
    gO 8 (iZ i),
    gO 0 (.slice (some ⟨b,d,none⟩) m c1),
    gO 8 (iZ i),
    A0 2 20 3 21 (.slice (some ⟨b,d,none⟩) m c1) (iZ i) (.pointer (some ⟨b,d+4*i,none⟩)) (Vl 124 (.slice (some ⟨b,d,none⟩) m c1) (iZ i)) (lF b d m c1 i hl) (λx W h=>h) (λx W h=>h) (λ_=>rfl),
    gLr 4 22 (λW f=>h7 W f.ar.bl) rSc nSc,
    rF 5 23 (nv (a i)) (.iface 49 (nv (a i))) (λx W h=>h) (λ_=>rfl),
    iD 49 4 c 0 (wn x) rSc nSc rfl (λW f=>f.r4.2.1) (λ_=>rfl),
    oV 49 6 24 7 25 (pE (nv (a i))) 79 (λx W h=>⟨_,h,rfl⟩) (λz u W hx o f=>by
     obtain rfl:z=nv (a i):=hx;obtain rfl:u=nv x:=o;refine(M W).mono ?_;rintro e W' ⟨u,rfl,U,rfl⟩;exact⟨_,rfl,U,rfl⟩),
    rF 8 26 (nv p1) (.iface 49 (nv p1)) (λx W h=>h) (λ_=>rfl),
    gO 0 (.slice (some ⟨b,d,none⟩) m c1),
    gO 7 (sZ K n n),
    rF 11 29 (sZ K n n) (iZ n) (λx W h=>h) (λ_=>rfl),
    gO 8 (iZ i),
    Jn .add 3 3 30 31 rfl (λa W s=>⟨_,_,iZ ((n+i:Nat):Int),s.n 12 30 kR kR,s.n 13 31 kR kR,kR,Oa n i oM W,rfl⟩),
    A0 10 28 14 32 (.slice (some ⟨b,d,none⟩) m c1) (iZ ((n+i:Nat):Int)) (.pointer (some ⟨b,d+4*(n+i),none⟩)) (Vl 124 (.slice (some ⟨b,d,none⟩) m c1) (iZ ((n+i:Nat):Int))) (lF b d m c1 (n+i) Z) (λx W h=>h) (λx W h=>h) (λ_=>rfl),
    gLr 15 33 (λW f=>hg W f.ar.bl) rSc nSc,
    rF 16 34 (nv (a (n+i))) (.iface 49 (nv (a (n+i)))) (λx W h=>h) (λ_=>rfl),
    iD 49 5 (c+1) 0 (wn y) rSc nSc rfl (λW f=>f.r5.2.1) (λ_=>rfl),
    oV 49 17 35 18 36 (pE (nv (a (n+i)))) 79 (λx W h=>⟨_,h,rfl⟩) (λz u W hx o f=>by
     obtain rfl:z=nv (a (n+i)):=hx;obtain rfl:u=nv y:=o;refine(S W).mono ?_;rintro e W' ⟨u,rfl,U,rfl⟩;exact⟨_,rfl,U,rfl⟩),
    oV 49 9 27 19 37 (pE (nv p1)) 80 (λx W h=>⟨_,h,rfl⟩) (λz u W hx o f=>by
     obtain rfl:z=nv p1:=hx;obtain rfl:u=nv p2:=o;refine(I W).mono ?_;rintro e W' ⟨u,rfl,U,rfl⟩;exact⟨_,rfl,U,rfl⟩),
    A0 0 18 1 19 (sZ K n n) (iZ i) (.pointer (some ⟨K,0+4*i,none⟩)) (Vl 124 (sZ K n n) (iZ i)) (lF K 0 n n i HL.out) (λx W h=>h) (λx W h=>h) (λ_=>rfl),yCl⟩ KP.drew ?_
   intro V W3 T P;have A:V 20=nv q:=T 20 dC;have s:V 21=.pointer (some ⟨K,0+4*i,none⟩):=T 21 dC;obtain⟨W4,hc⟩:∃W4,Hid (W3.setCells K (4*i) (wn q)=W4):=⟨_,rfl⟩
   have K4:Hid (FdS w W4 K c (c+1) n (i+1) x y (nM N x y n a)):=by
    have h:=P.put (by have:=HK.out;omega) hi (by have:=HK.out;omega) (by have:=HK.out;omega);rw[HQ.out,hc.out]at h;exact h
   have HT:Hid (W3.there K (4*i) 4):=λt ht=>by
    have:=P.ar.th (4*i+t) oM;rwa[UD]at this
   dsimp only[bU,VK,Xl,Xm];simp only[UN,Us,Uu,Uv];obtain⟨vq,h0⟩:∃v,Hid (nv q=v):=⟨_,rfl⟩
   rw[A,s,h0.out,UD];clear T P A s KP M S I hg h7;generalize V 0=s0;generalize V 1=s1;generalize V 2=s2;generalize V 3=s3;generalize V 4=s4;generalize V 5=s5;generalize V 6=s6;generalize V 7=s7;generalize V 8=s8;generalize V 9=s9;generalize V 10=s10;generalize V 11=s11;generalize V 12=s12;generalize V 13=s13;generalize V 14=s14;generalize V 15=s15;generalize V 16=s16;generalize V 17=s17;generalize V 18=s18;generalize V 19=s19;go_wp2_with (first|(refine U2 rfl 49 _ _ rfl K (4*i) (wn q).toArray ?_ ?_ ?_ ?_ ?_ ?_;rfl;exact h0.symm;exact HT.out;exact i40;exact aM q;rw[show(wn q).toArray.toList=wn q from rfl,hc.out])|fail)
   go_roundg (gk-1)
   case measure=>omega
   case rel=>exact⟨i+1,oM,rfl,K4⟩
  ·have hk:¬(i:Int)<(n:Int):=oM;obtain rfl:i=n:=oM;have K4:Hid (kZ w wr/\SLq (w.heap.size<=·) wr (sZ K i i) i (nM N x y i a)):=⟨X.ar.bl,K,0,i,rfl,Uw _,by have:=HK.out;omega,X.ar.lt,λj hj=>by rw[UD];exact X.ar.rw j hj⟩
   clear X;go_wp2;go_ret;exact⟨_,rfl,K4.1,K4.2⟩
end
section
theorem aN{w k:Ur}{g:Nat}{z:List Ut}{T:U8}(b:Hid (w.heap.size=g))(c:Hid (w.alloc (.cells z.toArray T)=k)):Hid (kZ w k/\Row k g z):=by
 rw[<-c.out,<-b.out];exact⟨aC _ _,aE w _ _⟩
theorem ET{w k b:Ur}{g:Nat}{z vs:List Ut}{T:U8}(d:Hid (w.heap.size=g))(f:Hid (w.alloc (.cells z.toArray T)=k))(e:Hid (k.setCells g 0 vs=b))(c:vs.length=z.length):Hid (k.there g 0 vs.toArray.size/\kZ w b/\Row b g vs):=by
 have h:=(aN d f).out;rw[<-e.out];exact⟨by rw[VC,c];exact h.2.2.2,RG.below_setCells (by rw[d.out];exact Uw _) _ _ _ h.1,h.2.put c⟩
structure Kz(Z:Nat->Prop)(w w':Ur):Prop where
 os:w'.os=w.os
 tape:w'.tape=w.tape
 output:w'.output=w.output
 size:w.heap.size<=w'.heap.size
 block:∀g,g<w.heap.size->Z g->w'.heap[g]? = w.heap[g]?
section
variable {Z:Nat->Prop}{w w' W:Ur}{k o:Nat}{vs:List Ut}
theorem Kz.of(h:kZ w w'):Kz Z w w':=⟨h.os,h.tape,h.output,h.size,λg k _=>h.block g k⟩
theorem Kz.trans(h:Kz Z w w')(k:Kz Z w' W):Kz Z w W:=⟨k.os.trans h.os,k.tape.trans h.tape,k.output.trans h.output,UC h.size k.size,λg c b=>(k.block g (Ux c h.size) b).trans (h.block g c b)⟩
theorem Kz.bel(h:Kz Z w w')(b:∀g,Z g):kZ w w':=⟨h.os,h.tape,h.output,h.size,λg k=>h.block g k (b g)⟩
theorem Kz.kq{Q:Nat->Prop}(h:Kz Z w w')(k:∀g,Q g->Z g):Kq Q w w':=⟨h.size,λg c b=>h.block g b (k g c)⟩
theorem Kz.set(h:Kz Z w W)(b:w.heap.size<=k\/¬Z k):Kz Z w (W.setCells k o vs):=by
 obtain⟨i,e,d⟩:=mX k vs o W;refine⟨i.trans h.os,e.trans h.tape,d.trans h.output,by rw[setCells_size];exact h.size,λg f c=>?_⟩;rw[aH k vs o W g (by rintro rfl;rcases b with b|b;omega;exact b c)];exact h.block g f c
theorem Kz.range(h:Kz Z w w')(b:Z k)(d:k<w.heap.size)(c:w.rangeAt k o vs):w'.rangeAt k o vs:=(h.kq λ_ h=>h).range b d c
end
structure LsS(Z:Nat->Prop)(w W:Ur)(K n i:Nat)(a:Nat->Nat):Prop where
 kz:Kz Z w W
 lt:K<W.heap.size
 th:W.there K 0 (4*n)
 rw:∀j,j<i->W.rangeAt K (4*j) (wn (a j))
theorem Da{w w':Ur}{k o n:Nat}(h:w.there k o n)(e:w'.heap[k]? = w.heap[k]?):w'.there k o n:=λj b=>by
 have:=h j b;rw[UW (a:=⟨k,o+j,none⟩) e,VU (a:=⟨k,o+j,none⟩) e];exact this
theorem LsS.grow{Z:Nat->Prop}{w W W':Ur}{K n i:Nat}{a:Nat->Nat}(h:LsS Z w W K n i a)(b:Z K)(k:Kz Z W W'):LsS Z w W' K n i a:=
 ⟨h.kz.trans k,Ux h.lt k.size,Da h.th (k.block K h.lt b),λj c=>k.range b h.lt (h.rw j c)⟩
theorem LsS.put{Z:Nat->Prop}{w W:Ur}{K n i:Nat}{a:Nat->Nat}(h:LsS Z w W K n i a)(b:w.heap.size<=K)(d:i<n):LsS Z w (W.setCells K (4*i) (wn (a i))) K n (i+1) a:=by
 refine⟨h.kz.set (U4 b),by rw[setCells_size];exact h.lt,VW h.th _ _ _,λj c=>?_⟩;by_cases e:j=i
 ·subst e;exact VO W K _ _ λt k=>by
   have k:t<4:=k;have:=h.th (4*j+t) oM;rwa[UD]at this
 ·exact Vh (h.rw j oM) K _ _ (UX (by
   show 4*j+4<=4*i\/4*i+4<=4*j;omega))
theorem zZ(n:Nat)(S:n<=512)(f:Xq)(cap:Array Ut)(hf:∀args W,(callFunc f args).run prog W=.ok (.enter f args) W)(a:Nat->Nat)(Z:Nat->Prop)(I:Nat->Ur->Prop)(w:Ur)(L:∀g,w.heap.size<=g->Z g)(v:∀W,kZ w W->I 0 W)(x:∀i W K o vs,w.heap.size<=K->I i W->I i (YJ W K o vs))
 (G:∀i W,i<n->Kz Z w W->I i W->UH prog f (#[iZ i]++cap) W (Ret λe W'=>Kz Z W W'/\I (i+1) W'/\e=nv (a i))) :
 UH prog 132 #[iZ n,.func (.func f) #[] cap] w (Ret λe w'=>Kz Z w w'/\I n w'/\SLq (w.heap.size<=·) w' e n a/\∃g c,e=sZ g n c):=by
 obtain⟨C0,s,r⟩:=Cg uS4 iS4 n S;have b:=r w;obtain⟨K,l⟩:=hE (w.heap.size);obtain⟨A,d⟩:=hE (w.alloc (.cells C0.toArray 49));have p:Ar w A K 4 n 0 (λ_=>[]):=Ar.new _ s d.out l.out;rw[d.out,l.out]at b;have T:Hid (LsS Z w A K n 0 a/\I 0 A):=⟨⟨Kz.of p.bl,p.lt,p.th,λj C=>absurd C (Ym _)⟩,v A p.bl⟩
 have U:=mk1 G;have O:=mk1 hf;have z:Hid (Z K/\w.heap.size<=K/\∀i W o vs,I i W->I i (YJ W K o vs)):=⟨L K (YO l.out),YO l.out,λi W o vs=>x i W K o vs (YO l.out)⟩
 obtain⟨fv,u⟩:=hE (Z0 (.func f) #[] cap);rw[u.out];clear p s r G hf d l v x L;go_enter func132,ntmps132;go_wp2;clear b;go_loopg [11] n (λm s11 W=>∃i:Nat,i+m=n/\s11=iZ i/\Hid (LsS Z w W K n i a/\I i W))
 case atStart=>exact⟨0,oM,rfl,T⟩
 case round =>
  obtain⟨i,R,rfl,k⟩:=hrel;by_cases D:i<n
  ·have E:(i:Int)<(n:Int):=oM;have B:=lF K 0 n n i D;rw[UD]at B;have N:=mk1 D;go_wp2_with (first|(refine rR rfl 16 17 _ rfl f cap (iZ i) ?_ ?_ O.out (U i wr N.out k.1.kz k.2) ?_;exact u.symm;rfl;intro e W' hR;refine Zf ?_)|fail)
   obtain⟨J,H,rfl⟩:=hR;have F:=k.1.grow z.1 J;obtain⟨M,q⟩:=hE (W'.setCells K (4*i) (wn (a i)));have Q:Hid (LsS Z w M K n (i+1) a/\I (i+1) M):=by rw[<-q.out];exact⟨F.put z.2.1 D,z.2.2 _ _ _ _ H⟩
   have P:Hid (W'.there K (4*i) 4):=λt X=>by
    have:=F.th (4*i+t) oM;rwa[UD]at this
   obtain⟨V,y⟩:=hE (nv (a i));rw[y.out];clear J H F k;show wpList _ _ _ _ _ _;go_wp2_with (first|(refine U2 rfl 49 _ _ rfl K (4*i) (wn (a i)).toArray ?_ ?_ ?_ ?_ ?_ ?_;rfl;exact y.symm;exact P.out;exact i40;exact aM _;rw[show(wn (a i)).toArray.toList=wn (a i) from rfl,q.out])|fail)
   go_roundg (gk-1)
   case measure=>omega
   case rel=>exact⟨i+1,oM,rfl,Q⟩
  ·have E:¬(i:Int)<(n:Int):=oM;obtain rfl:i=n:=oM;have q:Hid (Kz Z w wr/\I i wr/\SLq (w.heap.size<=·) wr (sZ K i i) i a):=⟨k.1.kz,k.2,K,0,i,rfl,Uw _,z.2.1,k.1.lt,λj C=>by rw[UD];exact k.1.rw j C⟩
   go_wp2;go_ret;exact⟨_,rfl,q.1,q.2.1,q.2.2,_,_,rfl⟩
theorem GH(n:Nat)(j:n<=512)(f:Xq)(cap:Array Ut)(hf:∀args W,(callFunc f args).run prog W=.ok (.enter f args) W)(a:Nat->Nat)(Z:Nat->Prop)(I:Nat->Ur->Prop)(w:Ur)(p:∀g,w.heap.size<=g->Z g)(k:∀W,kZ w W->I 0 W)(b:∀i W K o vs,w.heap.size<=K->I i W->I i (YJ W K o vs))
 (c:∀i W,i<n->Kz Z w W->I i W->UH prog f (#[iZ i]++cap) W (Ret λe W'=>Kz Z W W'/\I (i+1) W'/\e=nv (a i))) :
 UH prog 132 #[iZ n,.func (.func f) #[] cap] w (Ret λe w'=>Kz Z w w'/\I n w'/\SLq (w.heap.size<=·) w' e n a):=
 (zZ n j f cap hf a Z I w p k b c).mono λ_ _ ⟨v,h,m,l,d,_⟩=>⟨v,h,m,l,d⟩
theorem jB(n:Nat)(g:n<=512)(f:Xq)(cap:Array Ut)(hf:∀args W,(callFunc f args).run prog W=.ok (.enter f args) W)(a:Nat->Nat)(w:Ur)
 (c:∀i W,i<n->kZ w W->UH prog f (#[iZ i]++cap) W (rZ W λe W'=>e=nv (a i))) :
 UH prog 132 #[iZ n,.func (.func f) #[] cap] w (rZ w λe w'=>SLq (w.heap.size<=·) w' e n a):=by
 refine(GH n g f cap hf a (λ_=>True) (λ_ _=>True) w (λ_ _=>trivial) (λ_ _=>trivial) (λ_ _ _ _ _ _ _=>trivial) λi W d j _=>?_).mono ?_
 ·refine(c i W d (j.bel λ_=>trivial)).mono ?_;rintro e w' ⟨v,rfl,b,k⟩;exact⟨v,rfl,Kz.of b,trivial,k⟩
 ·rintro e w' ⟨v,rfl,b,-,k⟩;exact⟨v,rfl,b.bel λ_=>trivial,k⟩
end
section
variable {P:Nat}[NeZero P]{N:Nat}
abbrev w1c(x:Nat):List Ut:=[uZ x,uZ 0,uZ 0,uZ 0]
theorem Oo{x:Nat}(hx:x<18446744073709551616):wn x=w1c x:=by
 unfold wn;rw[US hx,Xe hx,Xe (by omega:x<340282366920938463463374607431768211456),Xe (by omega:x<6277101735386680763835789423207666416102355444464034512896)];rfl
theorem zW(x:Nat)(hx:x<18446744073709551616):Gives 70 #[uZ x] (nv x):=by
 unfold nv;rw[Oo hx];intro w;go_enter func70,ntmps70;refine RG.M.enter [(0,.v (uZ x))] 6 kR ?_;intro a0 c;repeat refine Uz ?_
 refine c.T [.m 0] [(0,RG.z 4)] [] [RG.z 4] [0,2] ⟨mk 0 49,yCl⟩ ?_;intro k e f d;repeat refine Uz ?_
 refine d.T [.x (uZ x),.x (.agg (w1c x).toArray),.x (.agg (w1c x).toArray),.u 0] [] [(0,3,w1c x)] [w1c x] [2] ⟨st,st,st,RG.pt i40,yCl⟩ ?_;intro a2 g b;refine Wp ?_;refine UE (v:=.agg (w1c x).toArray) (aI b.st 2 49 rfl 0 _ rfl (b.at (s:=(.p 0 0))) u40 i40) b.sl.defers ?_;exact⟨_,rfl,b.st.bel.below,rfl⟩
theorem MI(v i:Nat)(hv:v<18446744073709551616):v/2^i<18446744073709551616:=Nat.lt_of_le_of_lt (Nat.div_le_self _ _) hv
theorem rU{w b W W':Ur}{k x:Nat}(e:Hid (w.heap.size=k))(f:Hid (w.alloc (.cells (RG.z 4).toArray 49)=b))(d:kZ b W)(g:Hid (W.setCells k 0 (wn x)=W')):Hid (W.there k 0 4/\kZ w W'/\Row W' k (wn x)):=by
 have h:=(aN e f).out;have c:=h.2.below d;rw[<-g.out];exact⟨c.2.2,RG.below_setCells (YO e.out) _ _ _ (h.1.trans (d.mono h.1.size)),c.put rfl⟩
theorem Jb(v i k:Nat)(hv:v<18446744073709551616)(z:i<64)(w:Ur)(m:k<w.heap.size)(l:w.cell? ⟨k,0,none⟩=some (uZ v)):UH prog 129 #[iZ i,jZ k] w (rZ w λe w'=>e=nv (v/2^i%2)):=by
 obtain⟨q,g⟩:=hE (w.heap.size);obtain⟨n,b⟩:=hE (w.alloc (.cells (RG.z 4).toArray 49));have s:=aN g b;have r:n.cell? ⟨k,0,none⟩=some (uZ v):=by rw[s.1.cell (p:=⟨k,0,none⟩) m];exact l
 have j:bits .and .u64 ((v:Int)/2^i) 1=((v/2^i%2:Nat):Int):=by
  rw[<-and_one _ (MI v i hv),Int.natCast_ediv,Int.natCast_pow];rfl
 have o:=mk1 (zW (v/2^i%2) oM);generalize v/2^i%2=x at j o⊢;have t:=mk1 j;clear l m j;go_enter func129,ntmps129;go_wp2_with (first|(refine alR 3 g b ?_)|fail)
 rw[t.out];refine(o n).mono ?_;rintro e u ⟨B,rfl,f,rfl⟩;obtain⟨a,c⟩:=hE (u.setCells q 0 (wn x));have R:=rU g b f c;obtain⟨y,d⟩:=hE (nv x);rw[d.out];go_wp2_with (first|(refine stR 3 c d R.1 i40 (aM x) ?_)|fail)
 refine UE (aG 3 49 rfl R.2.2 rfl u40 i40) rfl ?_;exact⟨_,rfl,R.2.1,rfl⟩
theorem Pm(O:Ord N)(v i k m:Nat)(hv:v<18446744073709551616)(C:i<64)(w:Ur)(r:k<w.heap.size)(f:m<w.heap.size)(y:w.cell? ⟨k,0,none⟩=some (uZ v))(j:w.cell? ⟨m,0,none⟩=some (.func (.func 129) #[] #[jZ k])):UH prog 130 #[iZ i,jZ m] w (rZ w λe w'=>e=nv (sMi N (v/2^i%2) 1)):=by
 obtain⟨q,s⟩:=hE (w.heap.size);obtain⟨a,b⟩:=hE (w.alloc (.cells (RG.z 4).toArray 49));have t:=aN s b;have o:a.cell? ⟨m,0,none⟩=some (.func (.func 129) #[] #[jZ k]):=by rw[t.1.cell (p:=⟨m,0,none⟩) f];exact j
 have B:=mk1 (Jb v i k hv C a (Ux r t.1.size) (by rw[t.1.cell (p:=⟨k,0,none⟩) r];exact y));have z:=mk1 (Dl O (v/2^i%2) 1 (by have:=O.n2;omega) (by have:=O.n2;omega));have F:=mk1 (zW 1 dC);generalize v/2^i%2=x at B z⊢;obtain⟨vf,d⟩:=hE (Z0 (.func 129) #[] #[jZ k]);rw[d.out]at o;clear y r j f;go_enter func130,ntmps130;go_wp2_with (first|(refine alR 3 s b ?_)|(refine rR rfl 4 5 _ rfl 129 #[jZ k] (iZ i) ?_ ?_ (λ_ _=>kR) B.out ?_;exact d.symm;rfl;intro e W' hR;refine Zf ?_)|fail)
 obtain⟨c,rfl⟩:=hR;show wpList _ _ _ _ _ _;go_wp2_with fail
 refine(F W').mono ?_;rintro e D ⟨E,rfl,l,rfl⟩;go_wp2_with fail
 refine(z D).mono ?_;rintro e G ⟨E,rfl,u,rfl⟩;obtain⟨I,n⟩:=hE (G.setCells q 0 (wn (sMi N x 1)));have R:=rU s b (c.trans ((l.trans (u.mono l.size)).mono c.size)) n;obtain⟨H,g⟩:=hE (nv (sMi N x 1));rw[g.out];go_wp2_with (first|(refine stR 3 n g R.1 i40 (aM _) ?_)|fail)
 refine UE (aG 3 49 rfl R.2.2 rfl u40 i40) rfl ?_;exact⟨_,rfl,R.2.1,rfl⟩
end
namespace RG
variable {P:VD}{ops:Array Vk}{Q:Yo->Act->Ur->Prop}{w:Ur}{a0:Act}{F:Flow}
def nC(k:Array Vk):Nat->Nat->Nat->Bool
 | 0,i,j=>depOn k i j
 | f+1,i,j=>depOn k i j || (VG i).any (λx=>depOn k i x && nC k f x j)
def mG(k:Array Vk)(n:Nat):Bool:=(VG n).all (λj=>nC k 5 n j) && (VG k.size).all (λi=>decide (i<=n) || depOn k i (i-1))
theorem yI{n i:Nat}(h:mG ops n=true)(c:n<i)(b:i<ops.size):depOn ops i (i-1)=true:=by
 unfold mG at h;rw[UL]at h;have k:=Va.1 h.2 i (V0.2 b);rw[Xv,decide_eq_true_eq]at k;rcases k with k|k
 ·omega
 ·exact k
theorem wQ{L:Array Bool}{a:Act}(c:InvF F ops a0 L a w):∀(f i j:Nat),i<ops.size->on L i=true->nC ops f i j=true->on L j=true
 | 0,i,j,his,hi,h=>by
  have k:=U0 his;unfold nC depOn at h;rw[k]at h;exact Ba (ho:=k) c h hi
 | f+1,i,j,his,hi,h=>by
  have k:=U0 his;unfold nC at h;rw[Xv]at h;have hd:∀x,depOn ops i x=true->on L x=true:=λx hx=>by
   unfold depOn at hx;rw[k]at hx;exact Ba (ho:=k) c hx hi
  rcases h with h|h
  ·exact hd j h
  ·obtain⟨x,hx,b⟩:=yA4.1 h;rw[UL]at b;exact wQ c f x j (by have:=V0.1 hx;omega) (hd x b.1) b.2
theorem zC{n:Nat}(B:∀i,n<i->i<ops.size->depOn ops i (i-1)=true)(v:∀(i:Nat) (o:Vk),ops[i]? = some o->∀e∈o.after,VP .any e=true->e.on<i):∀(c:Nat) (L:Array Bool) (a:Act) (w:Ur) (m:Nat),n<=m->m<=ops.size->L.size=ops.size->(∀j,on L j=true↔j<m)->unl L=c->wpList P ops Q (ops.toList.drop m) a w->wpAny P .any ops Q c L a w:=by
 intro c;induction c with
 | zero =>
  intro L a w m u y t k A h;have q:m=ops.size:=by
   rcases Wq m ops.size with d|d
   ·have:=kN A m oM;rw[k]at this;omega
   ·omega
  rw[q,<-UK,yA2]at h;refine⟨?_,h⟩;apply List.eq_nil_iff_forall_not_mem.2;intro i r;obtain⟨d,o,ho,-⟩:=mem_ready.1 r;have f:=(k i).2 (by rw[q];exact(UZ.1 ho).1);unfold on at f;rw[UI]at d f;cases hh:L[i]? with
  | none=>rw[hh]at d;cases d
  | some b=>rw[hh]at d f;rw[show b=false from d]at f;cases f
 | succ c ih =>
  intro L a w m u y t k A h;have s:∀i,i∈U7 .any ops L->i=m:=λi r=>by
   obtain⟨d,o,ho,p⟩:=mem_ready.1 r;have g:on L i=false:=by
    unfold on;rw[UI]at d⊢;cases hh:L[i]? with
    | none=>rfl
    | some b=>rw[hh]at d;exact d
   have l:=(UZ.1 ho).1;rcases Nat.lt_trichotomy i m with f|f|f
   ·rw[(k i).2 f]at g;cases g
   ·exact f
   ·have:=(k (i-1)).1 (gC ho p (B i oM l));omega
  refine⟨λD=>?_,λi r=>?_⟩
  ·rcases Wq m ops.size with d|d
   ·exfalso;have ho:ops[m]? = some ops[m]:=U0 _;have g:on L m=false:=by
     cases x:on L m with
     | false=>rfl
     | true=>have:=(k m).1 x;omega
    have:m∈U7 .any ops L:=mem_ready.2 ⟨?_,_,ho,λe z x=>(k e.on).2 (v m _ ho e z x)⟩
    ·rw[D]at this;cases this
    ·unfold on at g;rw[UI,U0 (by rw[t];exact d)]at g⊢;exact g
   ·have q:m=ops.size:=oM;rw[q,<-UK,yA2]at h;exact h
  ·obtain rfl:=s i r;obtain⟨d,o,ho,p⟩:=mem_ready.1 r;have l:=(UZ.1 ho).1;have q:ops.toList.drop i=o :: ops.toList.drop (i+1):=by
    rw[List.drop_eq_getElem_cons (by rw[UK];exact l)];have:ops.toList[i]? = some o:=by rw[Vq];exact ho
    rw[UG (by rw[UK];exact l)]at this;rw[UO.inj this]
   rw[q]at h;have x:wpOp P ops Q i (λz w'=>wpList P ops Q (ops.toList.drop (i+1)) z w') a w:=by
    unfold wpOp;rw[ho];exact h
   refine Zz (λz w' C=>ih _ z w' (i+1) oM oM (by rw[Array.size_setIfInBounds];exact t) (λj=>?_) (by have:=lN d;omega) C) x;rw[eC (by rw[t];omega)];constructor
   ·intro g;rw[Xv]at g;rcases g with g|g
    ·have:=(k j).1 g;omega
    ·have:i=j:=by simpa using g
     omega
   ·intro g;by_cases f:j<i
    ·rw[(k j).2 f,Bool.true_or]
    ·rw[show j=i by omega];simp
theorem xW{id:Nat}(F:Flow)(n:Nat)(Z:Array Bool->Act->Prop)(T:n<ops.size)(t:mG ops n=true)(J:P.follows .mixedOrders=true)(R:RegF P Q F ops a0 n)(M:∀b,F.B b w.drew)(S:∀L,(∀i,on L i=false)->Z L a0)
 (E:∀(k:Nat) (o:Vk) (L:Array Bool) (a:Act) (w:Ur),k<n->(∀i,on L i=true->i<n)->ops[k]? = some o->on L k=false->(∀e∈o.after,VP .any e=true->on L e.on=true)->InvF F ops a0 L a w->Z L a->wpOp P ops Q k (λA w'=>InvF F ops a0 (L.setIfInBounds k true) A w'/\Z (L.setIfInBounds k true) A) a w)
 (N:∀(V:Nat->Ut) (w':Ur),(∀i,i<n->F.kill i=[]->F.R i (V i) w')->(∀b,F.killB b=[]->F.B b w')->(∃L a,Z L a/\∀i,i<n->on L i=true/\∀d,aX ops i=some d->a.tmps[d]? = some (V i))->wpList P ops Q (ops.toList.drop n) (bU V (ops.toList.take n) 0 a0) w'):(V4 id ops true).wp P Q a0 w:=by
 have B:∀(i:Nat) (o:Vk),ops[i]? = some o->∀e∈o.after,VP .any e=true->e.on<i:=λi o ho=>(R.of ho).1
 have key:∀(g:Nat) (L:Array Bool) (a:Act) (w:Ur),unl L=g->(∀j,n<=j->on L j=false)->InvF F ops a0 L a w->Z L a->wpAny P .any ops Q g L a w:=by
  intro g;induction g with
  | zero =>
   intro L a w D c q G;have:=kN D n (by rw[q.size];omega);rw[c n (Uw _)]at this;cases this
  | succ g ih =>
   intro L a w D c q G;by_cases f:∀j,j<n->on L j=true
   ·have m:∀j,on L j=true↔j<n:=λj=>⟨λp=>(by
     rcases Wq j n with h|h
     ·exact h
     ·rw[c j h]at p;cases p),f j⟩
    obtain⟨V,v,C⟩:=q.all;have H:=q.act R oM m v;have u:∀l:List Nat,l=[]->∀x∈l,on L x=false:=λl K x hx=>by rw[K]at hx;cases hx
    have r:=N V w (λj p I=>C j (f j p) (u _ I)) (λb O=>q.base b (u _ O)) ⟨L,a,G,λi y=>⟨f i y,λd hd=>v i d (f i y) hd⟩⟩;rw[<-H]at r;exact zC (λi s z=>yI t s z) B _ L a w n (Uw _) oM q.size m D r
   ·refine⟨λI=>?_,λi y=>?_⟩
    ·exact absurd (λj p=>q.full R I j oM) f
    ·obtain⟨s,o,ho,m⟩:=mem_ready.1 y;have u:=(UZ.1 ho).1;have C:on L i=false:=by
      unfold on;rw[UI]at s⊢;cases hh:L[i]? with
      | none=>rfl
      | some b=>rw[hh]at s;exact s
     have H:i<n:=by
      rcases Wq i n with h|h
      ·exact h
      ·exfalso;rcases Wq n i with z|z
       ·have:=gC ho m (yI t z u);rw[c (i-1) oM]at this;cases this
       ·obtain rfl:i=n:=oM;refine f λj p=>?_
        unfold mG at t;rw[UL]at t;have r:=Va.1 t.1 j (V0.2 p);unfold nC at r;rw[Xv]at r;rcases r with r|r
        ·exact gC ho m r
        ·obtain⟨x,hx,v⟩:=yA4.1 r;rw[UL]at v;exact wQ q 4 x j (by have:=V0.1 hx;omega) (gC ho m v.1) v.2
     refine Zz (λA w' r=>ih _ A w' (by have:=lN s;omega) (λj p=>?_) r.1 r.2) (E i o L a w H (λj p=>?_) ho C m q G)
     ·rw[eC (by rw[q.size];exact u),c j p];simp only[Bool.false_or,beq_eq_false_iff_ne];omega
     ·rcases Wq j n with h|h
      ·exact h
      ·rw[c j h]at p;cases p
 have c:∀i,on (Array.replicate ops.size false) i=false:=λi=>by
  unfold on;rw[UI,Array.getElem?_replicate];by_cases h:i<ops.size
  ·rw[yCj h];rfl
  ·rw[yCk h];rfl
 refine wp_region_any J (key _ _ a0 _ ?_ (λj _=>c j) ⟨Array.size_replicate,(λi o _ h=>by rw[c]at h;cases h),rfl,rfl,λ_ _=>rfl,⟨λ_=>WP,λi d h=>(by rw[c]at h;cases h),λi h=>(by rw[c]at h;cases h)⟩,λb _=>M b⟩ (S _ c));unfold unl;rw[Array.toList_replicate,List.countP_replicate];simp
theorem qF{id:Nat}(F:Flow)(n:Nat)(m:n<ops.size)(e:mG ops n=true)(p:P.follows .mixedOrders=true)(R:RegF P Q F ops a0 n)(q:∀b,F.B b w.drew)
 (r:∀(V:Nat->Ut) (w':Ur),(∀i,i<n->F.kill i=[]->F.R i (V i) w')->(∀b,F.killB b=[]->F.B b w')->wpList P ops Q (ops.toList.drop n) (bU V (ops.toList.take n) 0 a0) w'):(V4 id ops true).wp P Q a0 w:=
 xW F n (λ_ _=>True) m e p R q (λ_ _=>trivial) (λk o L a w d c f g l j _=>Zz (λ_ _ h=>⟨h,yCl⟩) (Ey R d c f g l j)) λV w' d c _=>r V w' d c
theorem Gw.tail2{id:Nat}(G:Gw)(n:Nat)(k:(decide (n<ops.size) && mG ops n)=true)(d:P.follows .mixedOrders=true)(b:Be ops a0.tmps.size=true)(h:iK P Q G.flow ops a0 0 (ops.toList.take n))(e:G.B w.drew)
 (g:∀(V:Nat->Ut) (w':Ur),(∀i,i<n->G.R i (V i) w')->G.B w'->wpList P ops Q (ops.toList.drop n) (bU V (ops.toList.take n) 0 a0) w'):(V4 id ops true).wp P Q a0 w:=by
 rw[UL,decide_eq_true_eq]at k;exact qF G.flow n k.1 k.2 d (Gw.reg b h) (λ_=>e) λV w' f c=>g V w' (λi j=>f i j rfl) (c 0 rfl)
end RG
section
variable {P:Nat}[NeZero P]{N:Nat}
structure FdM(w W:Ur)(K k4 k5 n i x y:Nat)(f:Nat->List (Nat × Bs)):Prop where
 ls:LsI w W K n i f
 r4:Row W k4 (wn x)
 r5:Row W k5 (wn y)
theorem FdM.grow{w W W':Ur}{K b c n i x y:Nat}{f:Nat->List (Nat × Bs)}(h:FdM w W K b c n i x y f)(k:kZ W W'):FdM w W' K b c n i x y f:=⟨h.ls.grow k,h.r4.below k,h.r5.below k⟩
theorem FdM.drew{w W:Ur}{K b k n i x y:Nat}{f:Nat->List (Nat × Bs)}(h:FdM w W K b k n i x y f):FdM w W.drew K b k n i x y f:=h.grow ⟨rfl,rfl,rfl,Uw _,λ_ _=>rfl⟩
theorem FdM.put{w W:Ur}{K b k n i x y:Nat}{f:Nat->List (Nat × Bs)}{v:Ut}(h:FdM w W K b k n i x y f)(e:i<n)(c:b≠K)(d:k≠K)(hv:SmQ (λg=>w.heap.size<=g/\g≠K) W v (f i)):FdM w (W.setCells K i [v]) K b k n (i+1) x y f:=
 ⟨h.ls.put e hv,aR h.r4 c,aR h.r5 d⟩
theorem Jz(O:Ord N){Q:Nat->Prop}(n:Nat)(hn:n<=500)(c:Nat)(hc:c<=200)(Y:0<c)(a:Nat->List (Nat × Bs))(x y:Nat)(hx:x<N)(r:y<N)(ha:∀i,i<n+n->TOk N (a i)/\(a i).length=c)(va:Ut)(w:Ur)(h1:GLq Q w va (n+n) a):
 UH prog 217 #[va,nv x,nv y] w (rZ w λe w'=>GLq (w.heap.size<=·) w' e n (kY N x y n a)):=by
 obtain⟨b,d,c1,rfl,-,-,h4,h3⟩:=h1;obtain⟨m,hm⟩:=hE (n+n);have hq:(m:Int).tdiv 2=(n:Int):=by rw[<-hm.out,X7 oM];omega
 obtain⟨M,h8,L,J,H,o⟩:=SQ w x y;obtain⟨C0,h0,he⟩:=Cg uSu iSu n oM;have X:=he M;obtain⟨K,hK⟩:=hE (M.heap.size);obtain⟨w3,G⟩:=hE (M.alloc (.cells C0.toArray 131));have S:Ar M w3 K 1 n 0 (λ_=>[]):=Ar.new _ h0 G.out hK.out;rw[G.out,hK.out]at X;obtain⟨f,q⟩:=hE (w.heap.size);rw[q.out]at J H o;have HK:Hid (K=f+2/\w.heap.size<=f):=⟨by rw[<-hK.out,o],by rw[q.out];exact Uw _⟩
 have K1:Hid (FdM w w3 K f (f+1) n 0 x y (kY N x y n a)):=⟨⟨L.trans (S.bl.mono L.size),S.lt,by have:=S.th;rwa[Xi]at this,by have:=HK.out;omega,λj hj=>absurd hj (Ym _)⟩,J.below S.bl,H.below S.bl⟩
 have l:=mk8 O hx r ha h3 h4 hc Y;obtain⟨vx,h5⟩:=hE (nv x);obtain⟨vy,h2⟩:=hE (nv y);obtain⟨R,F⟩:=hE (w.alloc (.cells (wn x).toArray 49));have B1:Hid ((Ve 49 vx).run prog w=.ok (jZ f) R):=by rw[<-h5.out,<-F.out,<-q.out];exact boxS x w
 have B2:Hid ((Ve 49 vy).run prog R=.ok (.pointer (some ⟨f+1,0,none⟩)) M):=by
  have h:=boxS y R;rw[show R.heap.size=f+1 by rw[<-F.out,UB,q.out]]at h;have e:R.alloc (.cells (wn y).toArray 49)=M:=by rw[<-F.out];exact h8.out
  rw[e]at h;rw[<-h2.out];exact h
 rw[h5.out,h2.out,hm.out];clear O hx r ha h3 h4 hc Y L J H o S h0 he hK G q h8;go_enter func217,ntmps217;go_wp2_with (first|(refine aF (u:=vx) (v:=jZ f) (w':=R) rfl 49 (.tmp 1) rfl ?_ ?_ ?_;rfl;exact B1.out)|(refine aF (u:=vy) (v:=.pointer (some ⟨f+1,0,none⟩)) (w':=M) rfl 49 (.tmp 2) rfl ?_ ?_ ?_;rfl;exact B2.out)|fail)
 go_loopg [15] n (λm s15 W=>∃i:Nat,i+m=n/\s15=iZ i/\Hid (FdM w W K f (f+1) n i x y (kY N x y n a)))
 case atStart=>exact⟨0,oM,rfl,K1⟩
 case round =>
  obtain⟨i,k7,rfl,KM⟩:=hrel;by_cases hi:i<n
  ·have k3:(i:Int)<(n:Int):=oM;have HL:=Hid.mk' hi;have KP:=KM;go_wp2_with fail
   obtain⟨B,k2,hr⟩:=l.2.2.2.2.1 i oM;obtain⟨D,k1,o⟩:=l.2.2.2.2.1 (n+i) oM;have HX:=mk4 k2 hr k1 o;have s:=mk2 (l.2.2.2.1 i oM) (l.2.2.2.1 (n+i) oM);have U:=mk1 (l.2.2.2.2.2.2);obtain⟨C,A⟩:=hE ((a i).map (tmT N x));obtain⟨I,E⟩:=hE ((a (n+i)).map (tmT N y));have HQ:Hid (kY N x y n a i=C++I):=by show _=_;rw[<-A.out,<-E.out];rfl
   have HY:Hid (C.length=c/\I.length=c/\TOk N C/\TOk N I):=⟨by rw[<-A.out,UQ];exact s.1.2,by rw[<-E.out,UQ];exact s.2.2,by rw[<-A.out];exact s.1.1.tm l.1.pos x,by rw[<-E.out];exact s.2.1.tm l.1.pos y⟩
   have h6:=λ(W:Ur) (k:kZ w W)=>eG l.1 l.2.1 0 B (a i) (by rw[s.1.2];have:=U.out;omega) s.1.1.szm s.1.1.lt W (HX.2.1.sm.grow k)
   have hk:=λ(W:Ur) (k:kZ w W)=>eG l.1 l.2.2.1 0 D (a (n+i)) (by rw[s.2.2];have:=U.out;omega) s.2.1.szm s.2.1.lt W (HX.2.2.2.sm.grow k)
   have hw:=λ(W:Ur) (u v:Ut) (hu:Sm 0 W u C) (hv:Sm 0 W v I)=>cO 0 u v C I (by rw[UA];have:=HY.1;have:=U.out;omega) (by have:=HY.1;have:=U.out;omega) (by have:=HY.2.1;have:=U.out;omega) HY.2.2.1.sz HY.2.2.2.sz W (UX hu) (UX hv)
   rw[A.out]at h6;rw[E.out]at hk;have k0:∀W,kZ w W->W.cell? ⟨b,d+1*i,none⟩=some B:=λW k=>by rw[Xi,k.cell (p:=⟨b,d+i,none⟩) l.2.2.2.2.2.1];exact HX.1
   have k5:∀W,kZ w W->W.cell? ⟨b,d+1*(n+i),none⟩=some D:=λW k=>by rw[Xi,k.cell (p:=⟨b,d+(n+i),none⟩) l.2.2.2.2.2.1];exact HX.2.2.1
   have k6:i<m:=by rw[<-hm.out];omega
   have T:n+i<m:=by rw[<-hm.out];omega
   refine(gwL [pE (sZ K n n),pE (iZ i),pE (.slice (some ⟨b,d,none⟩) m c1),pE (iZ i),pE (.pointer (some ⟨b,d+1*i,none⟩)),pE B,pE (.iface 131 B),pE (nv x),pM (λg=>w.heap.size<=g/\g≠K) C,pI 131 (pM (λg=>w.heap.size<=g/\g≠K) C),pE (.slice (some ⟨b,d,none⟩) m c1),pE (sZ K n n),pE (iZ n),pE (iZ i),pE (iZ ((n+i:Nat):Int)),pE (.pointer (some ⟨b,d+1*(n+i),none⟩)),pE D,pE (.iface 131 D),pE (nv y),pM (λg=>w.heap.size<=g/\g≠K) I,pM (λg=>w.heap.size<=g/\g≠K) (C++I),pE (.pointer (some ⟨K,0+1*i,none⟩))] (λW=>FdM w W K f (f+1) n i x y (kY N x y n a)) (λW W' P h=>h.grow P)).last 22 kR kR kR ⟨
    gO 7 (sZ K n n),
    gO 8 (iZ i),
    gO 0 (.slice (some ⟨b,d,none⟩) m c1),
    gO 8 (iZ i),
    A0 2 20 3 21 (.slice (some ⟨b,d,none⟩) m c1) (iZ i) (.pointer (some ⟨b,d+1*i,none⟩)) (Vl 129 (.slice (some ⟨b,d,none⟩) m c1) (iZ i)) (atS b d m c1 i k6) (λx W h=>h) (λx W h=>h) (λ_=>rfl),
    fF 131 4 22 b (d+1*i) B AB (λx W h=>h) (λW k=>k0 W k.ls.bl) (λ_=>rfl),
    rF 5 23 B (.iface 131 B) (λx W h=>h) (λ_=>rfl),
    iD 49 4 f 0 (wn x) rSc nSc rfl (λW k=>k.r4.2.1) (λ_=>rfl),
    oV 131 6 24 7 25 (pE B) 164 (λx W h=>⟨_,h,rfl⟩) (λz u W hx r k=>by
     obtain rfl:z=B:=hx;obtain rfl:u=nv x:=r;refine(h6 W k.ls.bl).mono ?_;rintro e W' ⟨u,rfl,P,Z⟩;exact⟨_,rfl,P,Z.q.mono λg V=>⟨UC k.ls.bl.size V,by have:=k.ls.lt;omega⟩⟩),
    DT 8 26 (λv=>.iface 131 v) (λx W h=>⟨x,rfl,h⟩),
    gO 0 (.slice (some ⟨b,d,none⟩) m c1),
    gO 7 (sZ K n n),
    rF 11 29 (sZ K n n) (iZ n) (λx W h=>h) (λ_=>rfl),
    gO 8 (iZ i),
    Jn .add 3 3 30 31 rfl (λa W hp=>⟨_,_,iZ ((n+i:Nat):Int),hp.n 12 30 kR kR,hp.n 13 31 kR kR,kR,Oa n i oM W,rfl⟩),
    A0 10 28 14 32 (.slice (some ⟨b,d,none⟩) m c1) (iZ ((n+i:Nat):Int)) (.pointer (some ⟨b,d+1*(n+i),none⟩)) (Vl 129 (.slice (some ⟨b,d,none⟩) m c1) (iZ ((n+i:Nat):Int))) (atS b d m c1 (n+i) T) (λx W h=>h) (λx W h=>h) (λ_=>rfl),
    fF 131 15 33 b (d+1*(n+i)) D AB (λx W h=>h) (λW k=>k5 W k.ls.bl) (λ_=>rfl),
    rF 16 34 D (.iface 131 D) (λx W h=>h) (λ_=>rfl),
    iD 49 5 (f+1) 0 (wn y) rSc nSc rfl (λW k=>k.r5.2.1) (λ_=>rfl),
    oV 131 17 35 18 36 (pE D) 164 (λx W h=>⟨_,h,rfl⟩) (λz u W hx r k=>by
     obtain rfl:z=D:=hx;obtain rfl:u=nv y:=r;refine(hk W k.ls.bl).mono ?_;rintro e W' ⟨u,rfl,P,Z⟩;exact⟨_,rfl,P,Z.q.mono λg V=>⟨UC k.ls.bl.size V,by have:=k.ls.lt;omega⟩⟩),
    oV 131 9 27 19 37 (pM (λg=>w.heap.size<=g/\g≠K) C) 65 (λx W h=>h) (λz u W hx r k=>by
     have hx:=hx;have r:=r;refine(hw W z u hx.sm r.sm).mono ?_;rintro e W' ⟨u,rfl,P,Z⟩;exact⟨_,rfl,P,Z.q.mono λg V=>⟨UC k.ls.bl.size V,by have:=k.ls.lt;omega⟩⟩),
    A0 0 18 1 19 (sZ K n n) (iZ i) (.pointer (some ⟨K,0+1*i,none⟩)) (Vl 129 (sZ K n n) (iZ i)) (atS K 0 n n i HL.out) (λx W h=>h) (λx W h=>h) (λ_=>rfl),yCl⟩ KP.drew ?_
   intro V W3 hl h7;have hS:=hl 20 dC;have Z:=hl 21 dC;dsimp only[bU,VK,Xl,Xm];simp only[UN,Us,Uu,Uv];generalize V 20=vq at hS⊢;obtain⟨W4,h9⟩:=hE (W3.setCells K i [vq]);have K4:Hid (FdM w W4 K f (f+1) n (i+1) x y (kY N x y n a)):=by
    have h:=h7.put (v:=vq) hi (by have:=HK.out;omega) (by have:=HK.out;omega) (by rw[HQ.out];exact hS);rw[h9.out]at h;exact h
   have HT:Hid (W3.there K i 1):=λt ht=>by
    have hz:t=0:=oM;subst hz;have:=h7.ls.th i hi;rwa[UD]at this
   have HE:=Hid.mk' hS.one;rw[Z,UD,Xi];go_wp2_with (first|(refine fV rfl 131 _ _ rfl K i vq ?_ ?_ HE.1 HE.2 HT.out RQ ?_;rfl;rfl;rw[h9.out])|fail)
   go_roundg (gk-1)
   case measure=>omega
   case rel=>exact⟨i+1,oM,rfl,K4⟩
  ·have k3:¬(i:Int)<(n:Int):=oM;obtain rfl:i=n:=oM;have K4:=mk2 KM.ls.bl KM.ls.gl;go_wp2;go_ret;exact⟨_,rfl,K4.1,K4.2⟩
structure GOk(N n c:Nat)(G H:Nat->List (Nat × Bs))(U:List (Nat × Bs)):Prop where
 n0:0<n
 c0:0<c
 cn:c*n<=64
 g:∀i,i<n->TOk N (G i)/\(G i).length=c
 h:∀i,i<n->TOk N (H i)/\(H i).length=c
 u:TOk N U
 u0:0<U.length
 u9:U.length<=16
theorem GOk.nle{n c:Nat}{G H:Nat->List (Nat × Bs)}{U:List (Nat × Bs)}(h:GOk N n c G H U):n<=64:=by
 have k:=h.cn;have:=Nat.mul_le_mul_right n h.c0;omega
theorem GOk.cle{n c:Nat}{G H:Nat->List (Nat × Bs)}{U:List (Nat × Bs)}(h:GOk N n c G H U):c<=64:=by
 have k:=h.cn;have:=Yh c h.n0;omega
theorem CJ(c b k:Ut)(w:Ur):(Ve 133 (.agg #[c,b,k])).run prog w=.ok (jZ w.heap.size) (w.alloc (.cells #[c,b,k] 133)):=kR
theorem uGL:(prog.underlying 129).map (·.isRow)=some false:=kR
theorem xJ(O:Ord N){Q:Nat->Prop}(n c:Nat)(G H:Nat->List (Nat × Bs))(U:List (Nat × Bs))(hG:GOk N n c G H U)(a b:Nat->Nat)(R:∀i,i<n->a i<N)(j:∀i,i<n->b i<N)(v va p:Ut)(w:Ur)(h0:GRq Q w v n G H U)(h1:SLq Q w va n a)(h2:SLq Q w p n b):
 UH prog 66 #[v,va,p] w (rZ w λe w'=>Sm w.heap.size w' e (dH N a G n++dH N b H n)):=by
 obtain⟨l,m,D,rfl,M,P,-⟩:=h0.ex;have r:=λ(W:Ur) (d:kZ w W)=>JO O n c hG.n0 hG.c0 (by have:=hG.nle;omega) (by have:=hG.cn;omega) a G R (λi f=>(hG.g i f).1) (λi f=>(hG.g i f).2) va l W (h1.keep (Kq.of_below d)) (M.keep (Kq.of_below d))
 have q:=λ(W:Ur) (d:kZ w W)=>JO O n c hG.n0 hG.c0 (by have:=hG.nle;omega) (by have:=hG.cn;omega) b H j (λi f=>(hG.h i f).1) (λi f=>(hG.h i f).2) p m W (h2.keep (Kq.of_below d)) (P.keep (Kq.of_below d))
 have T:(dH N a G n).length=c*n:=eR N a n λi f=>(hG.g i f).2
 have l2:(dH N b H n).length=c*n:=eR N b n λi f=>(hG.h i f).2
 have t1:TOk N (dH N a G n):=oH O.pos n λi f=>(hG.g i f).1
 have t2:TOk N (dH N b H n):=oH O.pos n λi f=>(hG.h i f).1
 have Z:=yAx hG.c0 hG.n0;have X:=hG.cn;generalize dH N a G n=C at r T t1⊢;generalize dH N b H n=lb at q l2 t2⊢;have I:=λ(W:Ur) (u z:Ut) (Y:Sm 0 W u C) (L:Sm 0 W z lb)=>cO 0 u z C lb (by rw[UA];omega) oM oM t1.sz t2.sz W (UX Y) (UX L)
 have F:=Hid.mk' (V1 r (V1 q I));obtain⟨E,s⟩:=hE (w.alloc (.cells #[l,m,D] 133));obtain⟨k,J⟩:=hE (w.heap.size);have K:Hid (Row E k [l,m,D]/\kZ w E):=by rw[<-s.out,<-J.out];exact⟨aE w _ _,aC w _⟩
 obtain⟨v0,A⟩:=hE (U3 #[l,m,D]);have S:Hid ((Ve 133 v0).run prog w=.ok (jZ k) E):=by rw[<-A.out,<-s.out,<-J.out];exact CJ _ _ _ _
 rw[A.out];go_enter func66,ntmps66;go_wp2_with (first|(refine aF (u:=v0) (v:=jZ k) (w':=E) rfl 133 (.tmp 0) rfl ?_ ?_ ?_;rfl;exact S.out)|fail)
 refine(gwL [pE va,pE (jZ k),pE l,pM (w.heap.size<=·) C,pE p,pE (oZ k 1),pE m,pM (w.heap.size<=·) lb,pM (w.heap.size<=·) (C++lb),pM (w.heap.size<=·) (C++lb)] (λW=>Row W k [l,m,D]/\kZ w W) (λW W' j h=>⟨h.1.below j,h.2.trans (j.mono h.2.size)⟩)).draws kR kR ⟨
  gO 1 va,
  gO 3 (jZ k),
  fF 129 1 8 k 0 l uGL (λx W h=>h) (λW d=>d.1.2.1 0 _ rfl) (λ_=>rfl),
  eD 0 7 2 9 139 (λx y=>#[x,y]) (λx y W hx o d=>by
   obtain rfl:x=va:=hx;obtain rfl:y=l:=o;refine(F.1 W d.2).mono ?_;rintro e W' ⟨u,rfl,j,t⟩;exact⟨_,rfl,j,t.q.mono λg B=>UC d.2.size B⟩),
  gO 2 p,
  gP 3 (jZ k) (oZ k 1),
  fF 129 5 12 k 1 m uGL (λx W h=>h) (λW d=>d.1.2.1 1 _ rfl) (λ_=>rfl),
  eD 4 11 6 13 139 (λx y=>#[x,y]) (λx y W hx o d=>by
   obtain rfl:x=p:=hx;obtain rfl:y=m:=o;refine(F.2.1 W d.2).mono ?_;rintro e W' ⟨u,rfl,j,t⟩;exact⟨_,rfl,j,t.q.mono λg B=>UC d.2.size B⟩),
  eD 3 10 7 14 65 (λx y=>#[x,y]) (λx y W hx o d=>by
   have hx:=hx;have o:=o;refine(F.2.2 W x y hx.sm o.sm).mono ?_;rintro e W' ⟨u,rfl,j,t⟩;exact⟨_,rfl,j,t.q.mono λg B=>UC d.2.size B⟩),
  DT 8 15 id (λx W h=>h),yCl⟩ ⟨K.1,K.2.drew⟩ ?_
 intro V B hR d;have o:=mk1 (hR 9 (Xj (VR kR)));have t:=mk1 (d.2);dsimp only[bU,VK];simp only[UN,Us,Uu,Uv];go_wp2;go_ret;exact⟨_,rfl,t.out,o.out⟩
theorem Ff(O:Ord N){Q:Nat->Prop}(n c:Nat)(G H:Nat->List (Nat × Bs))(U:List (Nat × Bs))(hG:GOk N n c G H U)(a b:Nat->Nat)(S:∀i,i<n->a i<N)(f:∀i,i<n->b i<N)(v va m:Ut)(w:Ur)(X:GRq Q w v n G H U)(h1:SLq Q w va n a)(h2:SLq Q w m n b):
 UH prog 158 #[v,va,m] w (rZ w λe w'=>Sm w.heap.size w' e (Jj N a b (prS N a b n) G H U n)):=by
 have t:=λ(W:Ur) (d:kZ w W)=>xJ O n c G H U hG a b S f v va m W (X.keep (Kq.of_below d)) (h1.keep (Kq.of_below d)) (h2.keep (Kq.of_below d))
 have F:=λ(W:Ur) (d:kZ w W)=>Bc O n (by have:=hG.nle;omega) a b S f va m W (h1.keep (Kq.of_below d)) (h2.keep (Kq.of_below d))
 obtain⟨r,s,j,rfl,-,-,h5⟩:=X.ex;have l1:(dH N a G n).length=c*n:=eR N a n λi q=>(hG.g i q).2
 have l2:(dH N b H n).length=c*n:=eR N b n λi q=>(hG.h i q).2
 have t1:TOk N (dH N a G n):=oH O.pos n λi q=>(hG.g i q).1
 have t2:TOk N (dH N b H n):=oH O.pos n λi q=>(hG.h i q).1
 have h4:=yAx hG.c0 hG.n0;have h3:=hG.cn;unfold Jj;have pl:=AN O.pos a b n;have M:=hG.u.tm O.pos (prS N a b n);have Y:(U.map (tmT N (prS N a b n))).length<=16:=by rw[UQ];exact hG.u9
 generalize prS N a b n=p at F pl M Y⊢;have A:=λ(W:Ur) (d:kZ w W)=>eG O pl 0 j U (by have:=hG.u9;omega) hG.u.szm hG.u.lt W (h5.sm.grow d)
 generalize U.map (tmT N p)=E at A M Y⊢;have R:=t1.app t2;have l4:(dH N a G n++dH N b H n).length=c*n+c*n:=by rw[UA,l1,l2]
 generalize dH N a G n++dH N b H n=l at t R l4⊢;have P:=λ(W:Ur) (u z:Ut) (hu:Sm 0 W u l) (L:Sm 0 W z E)=>cO 0 u z l E (by rw[UA];omega) oM oM R.sz M.sz W (UX hu) (UX L)
 have J:=Hid.mk' (V1 t (V1 F (V1 A P)));obtain⟨K,B⟩:=hE (w.alloc (.cells #[r,s,j] 133));obtain⟨k,T⟩:=hE (w.heap.size);have Z:Hid (Row K k [r,s,j]/\kZ w K):=by rw[<-B.out,<-T.out];exact⟨aE w _ _,aC w _⟩
 obtain⟨v0,D⟩:=hE (U3 #[r,s,j]);have B1:Hid ((Ve 133 v0).run prog w=.ok (jZ k) K):=by rw[<-D.out,<-B.out,<-T.out];exact CJ _ _ _ _
 rw[D.out];go_enter func158,ntmps158;go_wp2_with (first|(refine aF (u:=v0) (v:=jZ k) (w':=K) rfl 133 (.tmp 0) rfl ?_ ?_ ?_;rfl;exact B1.out)|fail)
 refine(gwL [pE (.agg #[r,s,j]),pE va,pE m,pM (w.heap.size<=·) l,pE (oZ k 2),pE j,pE va,pE m,pE (nv p),pM (w.heap.size<=·) E,pM (w.heap.size<=·) (l++E),pM (w.heap.size<=·) (l++E)] (λW=>Row W k [r,s,j]/\kZ w W) (λW W' f h=>⟨h.1.below f,h.2.trans (f.mono h.2.size)⟩)).draws kR kR ⟨
  iD 133 3 k 0 [r,s,j] uGr iGr rfl (λW d=>d.1.2.1) (λ_=>rfl),
  gO 1 va,
  gO 2 m,
  rG 0 7 1 8 2 9 66 (λx y z=>#[x,y,z]) (λx y z W hx o L d=>by
   obtain rfl:x=.agg #[r,s,j]:=hx;obtain rfl:y=va:=o;obtain rfl:z=m:=L;refine(J.1 W d.2).mono ?_;rintro e W' ⟨u,rfl,f,C⟩;exact⟨_,rfl,f,C.q.mono λg I=>UC d.2.size I⟩),
  gP 3 (jZ k) (oZ k 2),
  fF 131 4 11 k 2 j AB (λx W h=>h) (λW d=>d.1.2.1 2 _ rfl) (λ_=>rfl),
  gO 1 va,
  gO 2 m,
  eD 6 13 7 14 78 (λx y=>#[x,y]) (λx y W hx o d=>by
   obtain rfl:x=va:=hx;obtain rfl:y=m:=o;refine(J.2.1 W d.2).mono ?_;rintro e W' ⟨u,rfl,f,rfl⟩;exact⟨_,rfl,f,rfl⟩),
  eD 5 12 8 15 164 (λx y=>#[x,y]) (λx y W hx o d=>by
   obtain rfl:x=j:=hx;obtain rfl:y=nv p:=o;refine(J.2.2.1 W d.2).mono ?_;rintro e W' ⟨u,rfl,f,C⟩;exact⟨_,rfl,f,C.q.mono λg I=>UC d.2.size I⟩),
  eD 3 10 9 16 65 (λx y=>#[x,y]) (λx y W hx o d=>by
   have hx:=hx;have o:=o;refine(J.2.2.2 W x y hx.sm o.sm).mono ?_;rintro e W' ⟨u,rfl,f,C⟩;exact⟨_,rfl,f,C.q.mono λg I=>UC d.2.size I⟩),
  DT 10 17 id (λx W h=>h),yCl⟩ ⟨Z.1,Z.2.drew⟩ ?_
 intro V I hR d;have o:=mk1 (hR 11 (Xj (VR kR)));have C:=mk1 (d.2);dsimp only[bU,VK];simp only[UN,Us,Uu,Uv];go_wp2;go_ret;exact⟨_,rfl,C.out,o.out⟩
end
namespace RG
variable {P:VD}{ops:Array Vk}{Q:Yo->Act->Ur->Prop}{w:Ur}{a0:Act}{G:Gw}{S:Ur->Ur->Prop}{m k:Nat}{o:Vk}
def Gw.st(G:Gw)(m:Nat)(S:Ur->Ur->Prop):Flow:=⟨G.R,λ_=>G.B,λi w w'=>(i=m/\S w w')\/kZ w w',λ_=>[],λ_=>[]⟩
theorem jQ(h:bF P Q G.flow ops a0 k o):bF P Q (G.st m S) ops a0 k o:=λa w K e d b c=>h a w K e d b λv w' hE hR=>c v w' (UX hE) hR
theorem Tk(h:∀(a:Act) (w:Ur),PreG G ops a0 m o a w->∃w',(U5 a.eval o).run P w=.ok .skip w'/\S w w'/\G.R m WP w'):bF P Q (G.st m S) ops a0 m o:=by
 intro a w K e c k b;obtain⟨w',g,i,hR⟩:=h a w ⟨λj d f hd=>e j d f rfl hd,c,k 0 rfl⟩;unfold VT;rw[g];exact b _ _ (U4 ⟨rfl,i⟩) hR
theorem Gw.tailS{id:Nat}(G:Gw)(m:Nat)(S:Ur->Ur->Prop)(n:Nat)(g:∀j v w w',j≠m->S w w'->G.R j v w->G.R j v w')(o:∀w w',S w w'->G.B w->G.B w')(f:(decide (n<ops.size) && mG ops n)=true)(q:P.follows .mixedOrders=true)(p:Be ops a0.tmps.size=true)(h:iK P Q (G.st m S) ops a0 0 (ops.toList.take n))(k:G.B w.drew)
 (r:∀(V:Nat->Ut) (w':Ur),(∀i,i<n->G.R i (V i) w')->G.B w'->wpList P ops Q (ops.toList.drop n) (bU V (ops.toList.take n) 0 a0) w'):(V4 id ops true).wp P Q a0 w:=by
 rw[UL,decide_eq_true_eq]at f;refine qF (G.st m S) n f.1 f.2 q ⟨p,tB h,λi j _ _ c _ _ v w w' hE hR=>?_,λi b _ _ w w' hE k=>?_⟩ (λ_=>k) λV w' t s=>r V w' (λi d=>t i d rfl) (s 0 rfl)
 ·rcases hE with⟨d,l⟩|hE
  ·exact g j v w w' (λe=>c (d.trans e.symm)) l hR
  ·exact G.sR j v w w' hE hR
 ·rcases hE with⟨-,l⟩|hE
  ·exact o w w' l k
  ·exact G.sB w w' hE k
end RG
section
variable {P:Nat}[NeZero P]{N:Nat}
theorem qE{P:VD}{m:Func}{tmps:Array Ut}{W:Ur}{k e:Nat}{vs us:List Ut}(t l:WC)(T c:U8)(v:m.results=#[.cell t T,.cell l c])(h:Row W k vs)(p:Row W e us)(q:tmps[t]? = some (jZ k))(f:tmps[l]? = some (jZ e))
 (g:(P.underlying T).map (·.isRow)=some true) (r:(P.info? T).map (·.size)=some vs.length) (b:(P.underlying c).map (·.isRow)=some true) (j:(P.info? c).map (·.size)=some us.length):(results m tmps).run P W=.ok (.tuple #[.agg vs.toArray,.agg us.toArray]) W:=by
 obtain⟨d,g,hd⟩:=Uy.1 g;obtain⟨w,b,i⟩:=Uy.1 b;have u:=Ye (P:=P) W k 0 T vs d h.2.1 g hd r;have n:=Ye (P:=P) W e 0 c us w p.2.1 b i j;have s:tmps.getD t WP=jZ k:=by rw[UI,q];rfl
 have o:tmps.getD l WP=jZ e:=by rw[UI,f];rfl
 unfold results;rw[v];simp only[XA,YP,YZ,s,o,asAddr];simp[UV,u,n]
section
variable {P:VD}{ops:Array Vk}{rest:List Vk}{op:Vk}{a:Act}{w w':Ur}{v:Ut}{Q:Yo->Act->Ur->Prop}
theorem fB(k:op.guard=none)(T:U8)(t:WC)(_:op.op=.alloc T)(_:op.dst=some t)(c:(U5 a.eval op).run P w=.ok (.value v) w')(h:wpList P ops Q rest (a.put op.dst v) w'):wpList P ops Q (op :: rest) a w:=
 Xg k λK b=>by
  unfold VT;rw[c];exact b _ _ h
end
theorem N9(g o j:Nat):(⟨g,o,none⟩:Wu).add j=⟨g,o+j,none⟩:=by
 unfold Zi;by_cases k:j=0
 ·subst k;rw[yCj rfl];rfl
 ·rw[yCk k]
theorem Io(b o n c k:Nat)(f:k<=c)(w:Ur):(Xn 129 (.slice (some ⟨b,o,none⟩) n c) none (some (iZ k)) none).run prog w=.ok (.slice (some ⟨b,o,none⟩) k c) w:=by
 have e:¬(k:Int)<0:=oM;have d:(k:Int)<=(c:Int):=oM;go_simp
theorem Im(b o n c k:Nat)(j:k<n)(d:n<=c)(w:Ur):(Xn 129 (.slice (some ⟨b,o,none⟩) n c) (some (iZ k)) none none).run prog w=.ok (.slice (some ⟨b,o+k,none⟩) (n-k) (c-k)) w:=by
 have i:¬(k:Int)<0:=oM;have g:(k:Int)<=(n:Int):=oM;have f:¬c=k:=oM;have e:=N9 b o (1*k);rw[Xi]at e;go_simp
theorem Di(b o n c k:Nat)(f:k<=c)(w:Ur):(Xn 124 (.slice (some ⟨b,o,none⟩) n c) none (some (iZ k)) none).run prog w=.ok (.slice (some ⟨b,o,none⟩) k c) w:=by
 have e:¬(k:Int)<0:=oM;have d:(k:Int)<=(c:Int):=oM;go_simp
theorem Dh(b o n c k:Nat)(j:k<n)(d:n<=c)(w:Ur):(Xn 124 (.slice (some ⟨b,o,none⟩) n c) (some (iZ k)) none none).run prog w=.ok (.slice (some ⟨b,o+k*4,none⟩) (n-k) (c-k)) w:=by
 have i:¬(k:Int)<0:=oM;have g:(k:Int)<=(n:Int):=oM;have f:¬c=k:=oM;have e:=N9 b o (k*4);rw[Vv]at e;rw[Vv k 4];go_simp
theorem GLq.high{Q:Nat->Prop}{W:Ur}{g o n c:Nat}{T:Nat->List (Nat × Bs)}(h:GLq Q W (.slice (some ⟨g,o,none⟩) (n+n) c) (n+n) T):GLq Q W (.slice (some ⟨g,o+n,none⟩) n (c-n)) n (λi=>T (n+i)):=by
 obtain⟨q,p,r,e,s,l,k,b⟩:=h;injection e with e1 e2 e3
 injection e1 with e1
 injection e1 with e1 e4
 subst e1 e3 e4;refine⟨g,o+n,c-n,rfl,oM,l,k,λj m=>?_⟩;obtain⟨x,f,d⟩:=b (n+j) oM;exact⟨x,by rw[Nat.add_assoc];exact f,d⟩
theorem GLq.low{Q:Nat->Prop}{W:Ur}{g o n c:Nat}{T:Nat->List (Nat × Bs)}(h:GLq Q W (.slice (some ⟨g,o,none⟩) (n+n) c) (n+n) T):GLq Q W (.slice (some ⟨g,o,none⟩) n c) n T:=by
 obtain⟨m,f,p,e,i,d,k,b⟩:=h;injection e with e1 e2 e3
 injection e1 with e1
 injection e1 with e1 e4
 subst e1 e3 e4;exact⟨g,o,c,rfl,oM,d,k,λj l=>b j oM⟩
theorem SLq.high{Q:Nat->Prop}{W:Ur}{g o n c:Nat}{T:Nat->Nat}(h:SLq Q W (.slice (some ⟨g,o,none⟩) (n+n) c) (n+n) T):SLq Q W (.slice (some ⟨g,o+n*4,none⟩) n (c-n)) n (λi=>T (n+i)):=by
 obtain⟨m,l,p,e,q,d,k,b⟩:=h;injection e with e1 e2 e3
 injection e1 with e1
 injection e1 with e1 e4
 subst e1 e3 e4;refine⟨g,o+n*4,c-n,rfl,oM,d,k,λj f=>?_⟩;have:=b (n+j) oM;rw[show o+4*(n+j)=o+n*4+4*j by omega]at this;exact this
theorem SLq.low{Q:Nat->Prop}{W:Ur}{g o n c:Nat}{T:Nat->Nat}(h:SLq Q W (.slice (some ⟨g,o,none⟩) (n+n) c) (n+n) T):SLq Q W (.slice (some ⟨g,o,none⟩) n c) n T:=by
 obtain⟨m,f,p,e,i,d,k,b⟩:=h;injection e with e1 e2 e3
 injection e1 with e1
 injection e1 with e1 e4
 subst e1 e3 e4;exact⟨g,o,c,rfl,oM,d,k,λj l=>b j oM⟩
def CrR(Q:Nat->Prop)(w:Ur)(n:Nat)(G H:Nat->List (Nat × Bs))(U:List (Nat × Bs))(e:Ut)(w':Ur):Prop:=kZ w w'/\∃k b,e=.tuple #[.agg k,.agg b]/\k.size=3/\b.size=3/\k.all (·.oneCell')=true/\b.all (·.oneCell')=true/\GRq Q w' (.agg k) n (λi=>G (n+i)) H U/\GRq Q w' (.agg b) n G (λi=>H (n+i)) U
theorem GO{Q:Nat->Prop}(n:Nat)(he:0<n)(hn:n<=500)(G H:Nat->List (Nat × Bs))(U:List (Nat × Bs))(v:Ut)(w:Ur)(h0:GRq Q w v (n+n) G H U):
 UH prog 157 #[v] w (Ret (CrR Q w n G H U)):=by
 obtain⟨vg,vh,c,rfl,h3,h4,h5⟩:=h0.ex;obtain⟨b,d,c1,rfl,S,-⟩:=id h3;obtain⟨f,g,c2,rfl,h8,-⟩:=id h4;obtain⟨g3,c3,rfl,-⟩:=id h5;have L:Hid (GLq Q w (.slice (some ⟨b,d+n,none⟩) n (c1-n)) n (λi=>G (n+i))/\GLq Q w (.slice (some ⟨f,g,none⟩) n c2) n H/\GLq Q w (.slice (some ⟨b,d,none⟩) n c1) n G/\GLq Q w (.slice (some ⟨f,g+n,none⟩) n (c2-n)) n (λi=>H (n+i))/\SmQ Q w (sZ g3 U.length c3) U):=⟨h3.high,h4.low,h3.low,h4.high,h5⟩
 have z:=Im b d (n+n) c1 n oM S;have C:=Io f g (n+n) c2 n oM;have E:=Io b d (n+n) c1 n oM;have B:=Im f g (n+n) c2 n oM h8;rw[Nat.add_sub_cancel]at z B;obtain⟨m,hm⟩:∃m,Hid (n+n=m):=⟨_,rfl⟩
 have hq:(m:Int).tdiv 2=(n:Int):=by rw[<-hm.out,X7 oM];omega
 rw[hm.out]at z C E B;rw[hm.out];obtain⟨c,r⟩:∃v,Hid (sZ g3 U.length c3=v):=⟨_,rfl⟩
 have h6:c.oneCell'=true:=by rw[<-r.out];rfl
 rw[r.out]at L;rw[r.out];obtain⟨k,P⟩:∃k,Hid (w.heap.size=k):=⟨_,rfl⟩
 obtain⟨A,t⟩:∃A,Hid (w.alloc (.cells #[.slice (some ⟨b,d,none⟩) m c1,.slice (some ⟨f,g,none⟩) m c2,c] 133)=A):=⟨_,rfl⟩
 obtain⟨R,K⟩:∃R,Hid (A.alloc (.cells #[.slice none 0 0,.slice none 0 0,.slice none 0 0] 133)=R):=⟨_,rfl⟩
 obtain⟨F,h7⟩:∃F,Hid (R.alloc (.cells #[.slice none 0 0,.slice none 0 0,.slice none 0 0] 133)=F):=⟨_,rfl⟩
 have T:R.heap.size=k+2:=by rw[<-K.out,UB,<-t.out,UB,P.out]
 have D:A.heap.size=k+1:=by rw[<-t.out,UB,P.out]
 have I:Hid (Below w.heap.size w F/\Row F k [.slice (some ⟨b,d,none⟩) m c1,.slice (some ⟨f,g,none⟩) m c2,c]/\Row F (k+1) [.slice none 0 0,.slice none 0 0,.slice none 0 0]/\Row F (k+2) [.slice none 0 0,.slice none 0 0,.slice none 0 0]):=by
  have b1:Below w.heap.size w A:=by rw[<-t.out];exact aC _ _
  have p:Row A k [.slice (some ⟨b,d,none⟩) m c1,.slice (some ⟨f,g,none⟩) m c2,c]:=by rw[<-t.out,<-P.out];exact aE w _ _
  have o:=aE A [.slice none 0 0,.slice none 0 0,.slice none 0 0] 133;have l:=aE (A.alloc (.cells #[.slice none 0 0,.slice none 0 0,.slice none 0 0] 133)) [.slice none 0 0,.slice none 0 0,.slice none 0 0] 133;rw[UB,D]at l;rw[D]at o;rw[<-h7.out,<-K.out];exact⟨(b1.alloc b1.size _).alloc (by rw[UB];have:=b1.size;omega) _,(p.alloc _).alloc _,o.alloc _,l⟩
 obtain⟨v0,Y⟩:∃v,Hid (U3 #[.slice (some ⟨b,d,none⟩) m c1,.slice (some ⟨f,g,none⟩) m c2,c]=v):=⟨_,rfl⟩
 have B1:Hid ((Ve 133 v0).run prog w=.ok (jZ k) A):=by rw[<-Y.out,<-t.out,<-P.out];exact CJ _ _ _ _
 rw[Y.out];have HK:Hid (w.heap.size=k):=P;have HV:Hid (c.oneCell'=true):=h6;have HZ:Hid (A.heap.size=k+1/\R.heap.size=k+2):=⟨D,T⟩
 have cK:F.cell? ⟨k,0,none⟩=some (.slice (some ⟨b,d,none⟩) m c1):=I.2.1.2.1 0 _ rfl;clear h0 h3 h4 h5 S h8 h6 P D T;go_enter func157,ntmps157;go_wp2_with (first|(refine aF (u:=v0) (v:=jZ k) (w':=A) rfl 133 (.tmp 0) rfl ?_ ?_ ?_;rfl;exact B1.out)|(refine fB (v:=.pointer (some ⟨k+1,0,none⟩)) (w':=R) rfl 133 2 rfl rfl ?_ ?_;(rw[<-K.out,<-HZ.1];kernel_rfl))|(refine fB (v:=.pointer (some ⟨k+2,0,none⟩)) (w':=F) rfl 133 3 rfl rfl ?_ ?_;(rw[<-h7.out,<-HZ.2];kernel_rfl))|fail)
 clear cK hq;obtain⟨X,hc⟩:∃s,Hid (Vw (some ⟨b,d,none⟩) m c1=s):=⟨_,rfl⟩
 obtain⟨sh,ha⟩:∃s,Hid (Vw (some ⟨f,g,none⟩) m c2=s):=⟨_,rfl⟩
 rw[hc.out]at z E I;rw[ha.out]at C B I;obtain⟨p,O⟩:∃e,Hid ((#[.slice (some ⟨b,d+n,none⟩) n (c1-n),.slice (some ⟨f,g,none⟩) n c2,c]:Array Ut)=e):=⟨_,rfl⟩
 obtain⟨y,N⟩:∃e,Hid ((#[.slice (some ⟨b,d,none⟩) n c1,.slice (some ⟨f,g+n,none⟩) n (c2-n),c]:Array Ut)=e):=⟨_,rfl⟩
 have q:Hid (p.size=3/\y.size=3/\p.all (·.oneCell')=true/\y.all (·.oneCell')=true):=by
  rw[<-O.out,<-N.out,<-r.out];exact⟨rfl,rfl,kR,kR⟩
 have HI:Hid ((prog.info? 133).map (·.size)=some p.size/\(prog.info? 133).map (·.size)=some y.size/\(prog.info? 133).map (·.size)=some p.toList.length/\(prog.info? 133).map (·.size)=some y.toList.length):=by
  rw[UK,UK,q.1,q.2.1];exact⟨iGr,iGr,iGr,iGr⟩
 refine(gwL [pE (jZ k),pE X,pE (iZ n),pE (.slice (some ⟨b,d+n,none⟩) n (c1-n)),pE (.pointer (some ⟨k,1,none⟩)),pE sh,pE (iZ n),pE (.slice (some ⟨f,g,none⟩) n c2),pE (.pointer (some ⟨k,2,none⟩)),pE c,pE (.agg #[.slice (some ⟨b,d+n,none⟩) n (c1-n),.slice (some ⟨f,g,none⟩) n c2,c]),
  pE (jZ k),pE X,pE (iZ n),pE (.slice (some ⟨b,d,none⟩) n c1),pE (.pointer (some ⟨k,1,none⟩)),pE sh,pE (iZ n),pE (.slice (some ⟨f,g+n,none⟩) n (c2-n)),pE (.pointer (some ⟨k,2,none⟩)),pE c,pE (.agg #[.slice (some ⟨b,d,none⟩) n c1,.slice (some ⟨f,g+n,none⟩) n (c2-n),c]),⟨λ_ W=>Row W (k+1) p.toList,λ_ _ _ J h=>h.below J⟩] (λW=>Below w.heap.size w W/\Row W k [X,sh,c]/\(k+1<W.heap.size/\W.there (k+1) 0 3)/\Row W (k+2) [.slice none 0 0,.slice none 0 0,.slice none 0 0]) (λW W' J h=>⟨h.1.trans (J.mono h.1.size),h.2.1.below J,⟨Ux h.2.2.1.1 J.size,dJ h.2.2.1.2 J h.2.2.1.1⟩,h.2.2.2.below J⟩)).tailS 22 (λW W'=>W'=W.setCells (k+1) 0 p.toList) 23 (λj v W W' V M hR=>by
  subst M;match j,hR,V with
  | 0,hR,_=>exact hR
  | 1,hR,_=>exact hR
  | 2,hR,_=>exact hR
  | 3,hR,_=>exact hR
  | 4,hR,_=>exact hR
  | 5,hR,_=>exact hR
  | 6,hR,_=>exact hR
  | 7,hR,_=>exact hR
  | 8,hR,_=>exact hR
  | 9,hR,_=>exact hR
  | 10,hR,_=>exact hR
  | 11,hR,_=>exact hR
  | 12,hR,_=>exact hR
  | 13,hR,_=>exact hR
  | 14,hR,_=>exact hR
  | 15,hR,_=>exact hR
  | 16,hR,_=>exact hR
  | 17,hR,_=>exact hR
  | 18,hR,_=>exact hR
  | 19,hR,_=>exact hR
  | 20,hR,_=>exact hR
  | 21,hR,_=>exact hR
  | 22,_,V=>exact absurd rfl V
  | _+23,_,_=>trivial) (λW W' M h=>by subst M;exact⟨RG.below_setCells (by rw[HK.out];omega) _ _ _ h.1,aR h.2.1 oM,⟨by rw[setCells_size];exact h.2.2.1.1,VW h.2.2.1.2 _ _ _⟩,aR h.2.2.2 oM⟩) kR kR kR ⟨
  jQ (gO 1 (jZ k)),
  jQ (fF 129 0 9 k 0 X uGL (λx W h=>h) (λW l=>l.2.1.2.1 0 _ rfl) (λ_=>rfl)),
  jQ (gO 4 (iZ n)),
  jQ (RG.gX 1 10 2 11 z),
  jQ (gP 1 (jZ k) (.pointer (some ⟨k,1,none⟩))),
  jQ (fF 129 4 13 k 1 sh uGL (λx W h=>h) (λW l=>l.2.1.2.1 1 _ rfl) (λ_=>rfl)),
  jQ (gO 4 (iZ n)),
  jQ (RG.gX 5 14 6 15 C),
  jQ (gP 1 (jZ k) (.pointer (some ⟨k,2,none⟩))),
  jQ (fF 131 8 17 k 2 c AB (λx W h=>h) (λW l=>l.2.1.2.1 2 _ rfl) (λ_=>rfl)),
  jQ (Jm [(12,.slice (some ⟨b,d+n,none⟩) n (c1-n)),(16,.slice (some ⟨f,g,none⟩) n c2),(18,c)] (.agg #[.slice (some ⟨b,d+n,none⟩) n (c1-n),.slice (some ⟨f,g,none⟩) n c2,c]) (λa W o=>⟨o.n 3 12 kR kR,o.n 7 16 kR kR,o.n 9 18 kR kR,yCl⟩) (λ_=>rfl) (λW=>by
   rw[<-r.out];kernel_rfl)),
  jQ (gO 1 (jZ k)),
  jQ (fF 129 11 20 k 0 X uGL (λx W h=>h) (λW l=>l.2.1.2.1 0 _ rfl) (λ_=>rfl)),
  jQ (gO 4 (iZ n)),
  jQ (RG.gX 12 21 13 22 E),
  jQ (gP 1 (jZ k) (.pointer (some ⟨k,1,none⟩))),
  jQ (fF 129 15 24 k 1 sh uGL (λx W h=>h) (λW l=>l.2.1.2.1 1 _ rfl) (λ_=>rfl)),
  jQ (gO 4 (iZ n)),
  jQ (RG.gX 16 25 17 26 B),
  jQ (gP 1 (jZ k) (.pointer (some ⟨k,2,none⟩))),
  jQ (fF 131 19 28 k 2 c AB (λx W h=>h) (λW l=>l.2.1.2.1 2 _ rfl) (λ_=>rfl)),
  jQ (Jm [(23,.slice (some ⟨b,d,none⟩) n c1),(27,.slice (some ⟨f,g+n,none⟩) n (c2-n)),(29,c)] (.agg #[.slice (some ⟨b,d,none⟩) n c1,.slice (some ⟨f,g+n,none⟩) n (c2-n),c]) (λa W o=>⟨o.n 14 23 kR kR,o.n 18 27 kR kR,o.n 20 29 kR kR,yCl⟩) (λ_=>rfl) (λW=>by
   rw[<-r.out];kernel_rfl)),
  Tk λa W o=>⟨_,by
   have Z:a.eval (.tmp 19)=.agg p:=by
    have:=o.n 10 19 kR kR;rw[<-O.out];exact this
   have h2:a.eval (.tmp 2)=.pointer (some ⟨k+1,0,none⟩):=(o.o 2 kR).trans rfl;have hT:W.there (k+1) 0 p.size:=by rw[q.1];exact o.b.2.2.1.2
   unfold U5;simp only[Z,h2,Yw,X4,UV,Wr,Vm,ZA W (k+1) 0 133 p hT HI.1 q.2.2.1],rfl,⟨by rw[setCells_size];exact o.b.2.2.1.1,VO W (k+1) 0 p.toList (by rw[UK,q.1];exact o.b.2.2.1.2),VW (by rw[UK,q.1];exact o.b.2.2.1.2) _ _ _⟩⟩,yCl⟩ ⟨I.1.drew,I.2.1,⟨I.2.2.1.1,I.2.2.1.2.2⟩,I.2.2.2⟩ ?_
 intro V w3 hR l;have o:V 21=.agg #[.slice (some ⟨b,d,none⟩) n c1,.slice (some ⟨f,g+n,none⟩) n (c2-n),c]:=hR 21 dC;have J:Row w3 (k+1) p.toList:=hR 22 dC;rw[N.out]at o;obtain⟨M,h9⟩:∃M,Hid (w3.setCells (k+2) 0 y.toList=M):=⟨_,rfl⟩
 have K5:Hid (Row M (k+1) p.toList/\Row M (k+2) y.toList/\Below w.heap.size w M):=by
  rw[<-h9.out];exact⟨aR J oM,l.2.2.2.put (by rw[UK,q.2.1];rfl),RG.below_setCells (by rw[HK.out];omega) _ _ _ l.1⟩
 have HT:Hid (w3.there (k+2) 0 y.size):=by
  rw[q.2.1];exact l.2.2.2.2.2
 have HP:Hid (CrR Q w n G H U (.tuple #[.agg p.toList.toArray,.agg y.toList.toArray]) M):=by
  have kq:∀ {Q:Nat->Prop},Kq Q w M:=Kq.of_below K5.2.2;refine⟨K5.2.2,p,y,rfl,q.1,q.2.1,q.2.2.1,q.2.2.2,?_,?_⟩
  ·rw[<-O.out];exact⟨_,_,_,rfl,L.1.keep kq,L.2.1.keep kq,L.2.2.2.2.keep kq⟩
  ·rw[<-N.out];exact⟨_,_,_,rfl,L.2.2.1.keep kq,L.2.2.2.1.keep kq,L.2.2.2.2.keep kq⟩
 dsimp only[bU,VK,Xl,Xm];simp only[UN,Us,Uu,Uv];obtain⟨x2,Z⟩:∃x,Hid (U3 y=x):=⟨_,rfl⟩
 rw[o,Z.out];clear hR l o J z C E B;generalize V 0=s0;generalize V 1=s1;generalize V 2=s2;generalize V 3=s3;generalize V 4=s4;generalize V 5=s5;generalize V 6=s6;generalize V 7=s7;generalize V 8=s8;generalize V 9=s9;generalize V 10=s10;generalize V 11=s11;generalize V 12=s12;generalize V 13=s13;generalize V 14=s14;generalize V 15=s15;generalize V 16=s16;generalize V 17=s17;generalize V 18=s18;generalize V 19=s19;generalize V 20=s20;go_wp2_with (first|(refine U2 rfl 133 (.tmp 3) _ rfl (k+2) 0 y ?_ ?_ ?_ ?_ ?_ ?_;rfl;exact Z.symm;exact HT.out;exact HI.2.1;exact q.2.2.2;rw[h9.out])|fail)
 refine UE (qE 2 3 133 133 rfl K5.1 K5.2.1 rfl rfl uGr HI.2.2.1 uGr HI.2.2.2) rfl ?_;exact⟨_,rfl,HP.out⟩
theorem GRq.ar{Q:Nat->Prop}{W:Ur}{v:Ut}{n:Nat}{G H:Nat->List (Nat × Bs)}{U:List (Nat × Bs)}(h:GRq Q W v n G H U):∃e:Array Ut,v=.agg e/\e.size=3/\e.all (·.oneCell')=true:=by
 obtain⟨i,j,k,rfl,⟨l,d,c1,rfl,-⟩,⟨b,f,c2,rfl,-⟩,⟨c,g,rfl,-⟩⟩:=h.ex;exact⟨_,rfl,rfl,kR⟩
structure FgI(w W:Ur)(k x xi:Nat)(vg vh vu:Ut):Prop where
 bl:kZ w W
 r2:Row W k [vg,vh,vu]
 r3:Row W (k+1) (wn x)
 r4:Row W (k+2) [.slice none 0 0,.slice none 0 0,.slice none 0 0]
theorem FgI.grow{w W W':Ur}{k x f:Nat}{e c d:Ut}(h:FgI w W k x f e c d)(b:kZ W W'):FgI w W' k x f e c d:=⟨h.bl.trans (b.mono h.bl.size),h.r2.below b,h.r3.below b,h.r4.below b⟩
theorem FgI.drew{w W:Ur}{k x e:Nat}{d b c:Ut}(h:FgI w W k x e d b c):FgI w W.drew k x e d b c:=h.grow ⟨rfl,rfl,rfl,Uw _,λ_ _=>rfl⟩
theorem Fp(O:Ord N){Q:Nat->Prop}(n c:Nat)(hu:0<n)(G H:Nat->List (Nat × Bs))(U:List (Nat × Bs))(hG:GOk N (n+n) c G H U)(x:Nat)(hx:x<N)(v:Ut)(w:Ur)(hQ:∀g,w.heap.size<=g->Q g)(h0:GRq Q w v (n+n) G H U):
 UH prog 161 #[v,nv x] w (rZ w λe w'=>GRq Q w' e n (kY N (sIn N x) x n G) (kY N x (sIn N x) n H) U):=by
 obtain⟨r,q,i,rfl,T,h4,h5⟩:=h0.ex;have hi:sIn N x<N:=V5 _ O.pos;have h6:=λW=>uS O x hx W
 have L:=λ(W:Ur) (f:kZ w W)=>Jz O n (by have:=hG.nle;omega) c (by have:=hG.cle;omega) hG.c0 G (sIn N x) x hi hx hG.g r W (T.keep (Kq.of_below f))
 have E:=λ(W:Ur) (f:kZ w W)=>Jz O n (by have:=hG.nle;omega) c (by have:=hG.cle;omega) hG.c0 H x (sIn N x) hx hi hG.h q W (h4.keep (Kq.of_below f))
 generalize kY N (sIn N x) x n G=G' at L⊢;generalize kY N x (sIn N x) n H=H' at E⊢;generalize sIn N x=j at h6 L E;have HX:=mk3 h6 L E;have HU:=mk2 h5 hQ;obtain⟨k,hk⟩:=hE (w.heap.size);obtain⟨m,t⟩:=hE (w.alloc (.cells #[r,q,i] 133));obtain⟨B,C⟩:=hE (m.alloc (.cells (wn x).toArray 49));obtain⟨w3,D⟩:=hE (B.alloc (.cells #[.slice none 0 0,.slice none 0 0,.slice none 0 0] 133));have J:m.heap.size=k+1:=by rw[<-t.out,UB,hk.out]
 have hj:B.heap.size=k+2:=by rw[<-C.out,UB,J]
 have K3:Hid (FgI w w3 k x j r q i):=by
  have b1:kZ w m:=by rw[<-t.out];exact aC _ _
  have o:kZ m B:=by rw[<-C.out];exact aC _ _
  have l:kZ B w3:=by rw[<-D.out];exact aC _ _
  have s:Row m k [r,q,i]:=by rw[<-t.out,<-hk.out];exact aE w _ _
  have A:Row B (k+1) (wn x):=by rw[<-C.out,<-J];exact aE m _ _
  have p:Row w3 (k+2) [.slice none 0 0,.slice none 0 0,.slice none 0 0]:=by rw[<-D.out,<-hj];exact aE B _ _
  exact⟨(b1.trans (o.mono b1.size)).trans (l.mono (UC b1.size o.size)),(s.below o).below l,A.below l,p⟩
 obtain⟨v0,h7⟩:=hE (U3 #[r,q,i]);obtain⟨vx,A⟩:=hE (nv x);have B1:Hid ((Ve 133 v0).run prog w=.ok (jZ k) m):=by rw[<-h7.out,<-t.out,<-hk.out];exact CJ _ _ _ _
 have B2:Hid ((Ve 49 vx).run prog m=.ok (.pointer (some ⟨k+1,0,none⟩)) B):=by rw[<-A.out,<-C.out,<-J];exact boxS x m
 have HZ:=mk1 (hj);obtain⟨d,ht,hn⟩:=Uy.1 u40;have HD:=mk2 ht hn;rw[h7.out,A.out];go_enter func161,ntmps161;go_wp2_with (first|(refine aF (u:=v0) (v:=jZ k) (w':=m) rfl 133 (.tmp 0) rfl ?_ ?_ ?_;rfl;exact B1.out)|(refine aF (u:=vx) (v:=.pointer (some ⟨k+1,0,none⟩)) (w':=B) rfl 49 (.tmp 1) rfl ?_ ?_ ?_;rfl;exact B2.out)|(refine fB (v:=.pointer (some ⟨k+2,0,none⟩)) (w':=w3) rfl 133 4 rfl rfl ?_ ?_;(rw[<-D.out,<-HZ.out];kernel_rfl))|(refine ldR 3 K3.r3.2.1 A u40 nSc ?_)|fail)
 rw[<-A.out];refine(HX.1 w3).mono ?_;rintro e w4 ⟨u,rfl,hq,rfl⟩;obtain⟨M,I⟩:=hE (w4.heap.size);obtain⟨w5,hl⟩:=hE (w4.alloc (.cells #[uZ 0,uZ 0,uZ 0,uZ 0] 49));obtain⟨w6,h8⟩:=hE (w5.setCells M 0 (wn j));have F5:Hid (Row w5 M [uZ 0,uZ 0,uZ 0,uZ 0]/\kZ w4 w5):=by rw[<-hl.out,<-I.out];exact⟨aE w4 _ _,aC _ _⟩
 have K6:Hid (FgI w w6 k x j r q i/\Row w6 M (wn j)):=by
  rw[<-h8.out];exact⟨(K3.grow hq).grow (RG.below_setCells (by rw[I.out];exact Uw _) _ _ _ F5.2),F5.1.put rfl⟩
 obtain⟨vi,P⟩:=hE (nv j);rw[P.out];go_wp2_with (first|(refine alR 5 I hl ?_)|(refine stR 5 h8 P F5.1.2.2 nSc (aM j) ?_)|fail)
 refine(gwL [pE (jZ k),pE r,pE (nv j),pE (nv x),pG (λg=>w.heap.size<=g/\g≠k+2) n G',pE (oZ k 1),pE q,pE (nv x),pE (nv j),pG (λg=>w.heap.size<=g/\g≠k+2) n H',pE (oZ k 2),pE i,⟨λv W=>∃x y,v=.agg #[x,y,i]/\GLq (λg=>w.heap.size<=g/\g≠k+2) W x n G'/\GLq (λg=>w.heap.size<=g/\g≠k+2) W y n H',λ_ _ _ l ⟨x,y,R,Z,T⟩=>⟨x,y,R,Z.keep (Kq.of_below l),T.keep (Kq.of_below l)⟩⟩] (λW=>FgI w W k x j r q i/\Row W M (wn j)) (λW W' l h=>⟨h.1.grow l,h.2.below l⟩)).last 13 kR kR kR ⟨
  gO 2 (jZ k),
  fF 129 0 8 k 0 r uGL (λx W h=>h) (λW f=>f.1.r2.2.1 0 _ rfl) (λ_=>rfl),
  iD 49 5 M 0 (wn j) rSc nSc rfl (λW f=>f.2.2.1) (λ_=>rfl),
  iD 49 3 (k+1) 0 (wn x) rSc nSc rfl (λW f=>f.1.r3.2.1) (λ_=>rfl),
  rG 1 9 2 10 3 11 217 (λx y z=>#[x,y,z]) (λa b c W p l s f=>by
   obtain rfl:a=r:=p;obtain rfl:b=nv j:=l;obtain rfl:c=nv x:=s;refine(HX.2.1 W f.1.bl).mono ?_;rintro e W' ⟨u,rfl,l,o⟩;exact⟨_,rfl,l,o.mono λg F=>⟨UC f.1.bl.size F,by have:=f.1.r4.1;omega⟩⟩),
  gP 2 (jZ k) (oZ k 1),
  fF 129 5 13 k 1 q uGL (λx W h=>h) (λW f=>f.1.r2.2.1 1 _ rfl) (λ_=>rfl),
  iD 49 3 (k+1) 0 (wn x) rSc nSc rfl (λW f=>f.1.r3.2.1) (λ_=>rfl),
  iD 49 5 M 0 (wn j) rSc nSc rfl (λW f=>f.2.2.1) (λ_=>rfl),
  rG 6 14 7 15 8 16 217 (λx y z=>#[x,y,z]) (λa b c W p l s f=>by
   obtain rfl:a=q:=p;obtain rfl:b=nv x:=l;obtain rfl:c=nv j:=s;refine(HX.2.2 W f.1.bl).mono ?_;rintro e W' ⟨u,rfl,l,o⟩;exact⟨_,rfl,l,o.mono λg F=>⟨UC f.1.bl.size F,by have:=f.1.r4.1;omega⟩⟩),
  gP 2 (jZ k) (oZ k 2),
  fF 131 10 18 k 2 i AB (λx W h=>h) (λW f=>f.1.r2.2.1 2 _ rfl) (λ_=>rfl),
  bN (λa W o=>by
   have R:=o.n 4 12 kR kR;have Z:=o.n 9 17 kR kR;have T:=o.n 11 19 kR kR;obtain⟨K,Y,c1,X,-⟩:=id R;obtain⟨S,o2,c2,V,-⟩:=id Z;obtain⟨g3,c3,e3,-⟩:=HU.1;rw[X]at R;rw[V]at Z;refine⟨[(12,.slice (some ⟨K,Y,none⟩) n c1),(17,.slice (some ⟨S,o2,none⟩) n c2),(19,i)],.agg #[.slice (some ⟨K,Y,none⟩) n c1,.slice (some ⟨S,o2,none⟩) n c2,i],W,⟨X,V,T,yCl⟩,?_,UR _ _,⟨_,_,rfl,R,Z⟩⟩;rw[e3];kernel_rfl),yCl⟩ ⟨K6.1.drew,K6.2⟩ ?_
 intro V K hR f;obtain⟨o,p,hV,X,S⟩:∃x y,V 12=.agg #[x,y,i]/\GLq (λg=>w.heap.size<=g/\g≠k+2) K x n G'/\GLq (λg=>w.heap.size<=g/\g≠k+2) K y n H':=hR 12 dC;have hm:=HU.1.keep (Kq.of_below f.1.bl);have s:∀g,w.heap.size<=g/\g≠k+2->Q g:=λg F=>HU.2 g F.1
 have gr:GRq Q K (.agg #[o,p,i]) n G' H' U:=⟨_,_,_,rfl,X.mono s,S.mono s,hm⟩
 obtain⟨e,he,hw,hr⟩:=gr.ar;obtain rfl:#[o,p,i]=e:=by injection he
 obtain⟨w8,h9⟩:=hE (K.setCells (k+2) 0 [o,p,i]);have K8:Hid (kZ w w8/\Row w8 (k+2) [o,p,i]/\GRq Q w8 (.agg #[o,p,i]) n G' H' U):=by
  rw[<-h9.out];have kq:Kq (λg=>w.heap.size<=g/\g≠k+2) K (K.setCells (k+2) 0 [o,p,i]):=Kq.set λg F=>F.2
  have Y:kZ w (K.setCells (k+2) 0 [o,p,i]):=RG.below_setCells (by rw[hk.out];omega) _ _ _ f.1.bl;exact⟨Y,f.1.r4.put rfl,_,_,_,rfl,(X.keep kq).mono s,(S.keep kq).mono s,HU.1.keep (Kq.of_below Y)⟩
 have HT:=mk2 f.1.r4.2.2 hr;dsimp only[bU,VK,Xl,Xm];simp only[UN,Us,Uu,Uv];obtain⟨ve,Y⟩:=hE (U3 #[o,p,i]);rw[hV,Y.out];go_wp2_with (first|(refine U2 rfl 133 (.tmp 4) _ rfl (k+2) 0 #[o,p,i] ?_ ?_ ?_ ?_ ?_ ?_;rfl;exact Y.symm;exact HT.1;exact iGr;exact HT.2;rw[show(#[o,p,i]:Array Ut).toList=[o,p,i] from rfl,h9.out])|fail)
 refine UE (aG 4 133 rfl K8.2.1 rfl uGr iGr) rfl ?_;exact⟨_,rfl,K8.1,K8.2.2⟩
def lgV(r:Nat):Ut:=.agg #[jZ r]
theorem uLg:(prog.underlying 145).map (·.isRow)=some true:=kR
theorem iLg:(prog.info? 145).map (·.size)=some 1:=kR
theorem uLp:(prog.underlying 141).map (·.isRow)=some false:=kR
theorem Na(r:Nat)(w:Ur):(Ve 145 (lgV r)).run prog w=.ok (jZ w.heap.size) (w.alloc (.cells #[jZ r] 145)):=kR
theorem fE{W:Ur}{r K o:Nat}{vs:List Ut}{L:Bs}(h:Holds encB W r 0 L)(k:r≠K):Holds encB (W.setCells K o vs) r 0 L:=λj b=>by
 have e:=aH K vs o W r k;rw[UW (a:=⟨r,0+j,none⟩) e,VU (a:=⟨r,0+j,none⟩) e];exact h j b
theorem GF(k:ByteArray)(w:Ur)(g:k.size<=1048576):UH prog 144 #[.string k] w (rZ w λe w'=>∃r,e=lgV r/\w.heap.size<=r/\r<w'.heap.size/\Holds encB w' r 0 (newL k.data.toList)):=by
 obtain⟨L,q⟩:=hE (newL k.data.toList);rw[q.out];obtain⟨p,d⟩:=hE (w.alloc (.cells #[.pointer none] 145));have l:Hid (Row p w.heap.size [.pointer none]/\kZ w p):=by rw[<-d.out];exact⟨aE w _ _,aC w _⟩
 go_enter func144,ntmps144;go_wp2_with fail
 rw[d.out];refine(Gp k p g).mono ?_;rintro e s ⟨u,rfl,c,r,rfl,o,n,b⟩;rw[q.out]at b;have t:=Ux l.1.1 o;have f:=mk4 (l.1.below c) (l.2.trans (c.mono l.2.size)) b n;obtain⟨m,i⟩:=hE (s.setCells w.heap.size 0 [jZ r]);have j:Hid (Row m w.heap.size [jZ r]/\kZ w m/\Holds encB m r 0 L/\r<m.heap.size):=by
  rw[<-i.out];exact⟨f.1.put rfl,RG.below_setCells (Uw _) _ _ _ f.2.1,fE f.2.2.1 oM,by rw[setCells_size];exact f.2.2.2⟩
 go_wp2_with (refine bG (v:=.agg #[jZ r]) (w':=s) rfl (.build 145 _) rfl ?_ ?_;kernel_rfl;refine Zf ?_)
 show wpList _ _ _ _ _ _;refine U2 rfl 145 _ _ rfl w.heap.size 0 #[jZ r] ?_ ?_ ?_ ?_ ?_ ?_
 ·kernel_rfl
 ·kernel_rfl
 ·exact f.1.2.2
 ·exact iLg
 ·kernel_rfl
 rw[show(#[jZ r]).toList=[jZ r] from rfl,i.out];go_wp2;refine UE (aG 2 145 rfl j.1 rfl uLg iLg) rfl ?_;exact⟨_,rfl,j.2.1,r,rfl,oM,j.2.2.2,j.2.2.1⟩
theorem yX(O:Ord N)(r:Nat)(L:Bs)(w:Ur)(t:Holds encB w r 0 L)(D:L.size=32):
 UH prog 209 #[.agg #[jZ r]] w (Ret λe w'=>SP.Only r 0 32 w w'/\Holds encB w' r 0 (bB L)/\e=nv (cha N L)):=by
 have x:=Holds.lt t oM;obtain⟨c,b⟩:∃c,Hid ((w.alloc (.cells #[jZ r] 143)).alloc (.cells #[uZ 0,uZ 0,uZ 0,uZ 0] 49)=c):=⟨_,rfl⟩
 have p:Hid (Row c (w.heap.size+1) [uZ 0,uZ 0,uZ 0,uZ 0]/\kZ w c/\Holds encB c r 0 L/\c.rangeAt w.heap.size 0 [jZ r]):=by
  rw[<-b.out];have k:kZ w ((w.alloc (.cells #[jZ r] 143)).alloc (.cells #[uZ 0,uZ 0,uZ 0,uZ 0] 49)):=(aC w _).alloc (by rw[UB];omega) _;have hR:=aE (w.alloc (.cells #[jZ r] 143)) [uZ 0,uZ 0,uZ 0,uZ 0] 49;rw[UB]at hR;exact⟨hR,k,Holds.below t k x,((aE w [jZ r] 143).alloc _).2.1⟩
 clear t;obtain⟨d,j,i⟩:=Uy.1 u124;have z:Hid (prog.underlying 143=some d/\d.isRow=true):=⟨j,i⟩
 clear j i;have a:=Dk O r L ⟨#[99,104,97,108,108,101,110,103,101]⟩ c dC p.2.2.1 D;have g:oS N (CN L (⟨#[99,104,97,108,108,101,110,103,101]⟩:ByteArray).data.toList 64)=cha N L:=rfl;have f:tI L (⟨#[99,104,97,108,108,101,110,103,101]⟩:ByteArray).data.toList=bB L:=rfl;rw[g,f]at a;have q:(bB L).size=32:=bE _ _;have C:=Hid.mk' a;obtain⟨m,y⟩:=hE (cha N L);obtain⟨G,k⟩:=hE (bB L);rw[y.out,k.out]at C;rw[k.out]at q;rw[y.out,k.out];go_enter func209,ntmps209;go_wp2_with (refine U6 rfl 143 _ rfl w.heap.size 0 ?_ [jZ r] d ?_ ?_ ?_ ?_ ?_;kernel_rfl;(rw[b.out];exact p.2.2.2);exact z.1;exact z.2;exact i124;rw[b.out])
 refine C.mono ?_;rintro e F ⟨v,rfl,B,A,rfl⟩;have E:=Holds.lt A oM;have o:=mk3 (p.1.only B oM) ((SP.Only.of_below p.2.1 rfl x).trans B) A;obtain⟨u,n⟩:=hE (F.setCells (w.heap.size+1) 0 (wn m));have s:Hid (Row u (w.heap.size+1) (wn m)/\SP.Only r 0 32 w u/\Holds encB u r 0 G):=by rw[<-n.out];exact⟨o.1.put rfl,dW o.2.1 x oM _,fE o.2.2 oM⟩
 obtain⟨H,l⟩:=hE (nv m);rw[l.out];go_wp2_with (refine U2 rfl 49 _ _ rfl (w.heap.size+1) 0 (wn m).toArray ?_ ?_ ?_ ?_ ?_ ?_;rfl;exact l.symm;exact o.1.2.2;exact i40;exact aM m;rw[show(wn m).toArray.toList=wn m from rfl,n.out])
 refine UE (aG 2 49 rfl s.1 rfl u40 i40) rfl ?_;exact⟨_,rfl,s.2.1,s.2.2,rfl⟩
def chS(N:Nat)(L:Bs):Nat:=tZ (cha N L)
theorem FD[NeZero N](d:1<N)(L:Bs)(b:cha N L<N):chS N L=(kM N L).val:=by
 unfold chS kM Ms tZ;generalize cha N L=c at b;have hv:(ofF N c).val=c:=US b;by_cases k:c=0
 ·subst k;rw[yCj rfl,yCj rB];exact(US d).symm
 ·rw[yCk k,yCk (λe=>k (by rw[<-hv,e];exact YM N)),hv]
theorem yF(O:Ord N)(r:Nat)(L:Bs)(w:Ur)(y:Holds encB w r 0 L)(K:L.size=32):
 UH prog 147 #[lgV r] w (Ret λe w'=>SP.Only r 0 32 w w'/\Holds encB w' r 0 (bB L)/\e=nv (chS N L)):=by
 have B:=Holds.lt y oM;obtain⟨f,c⟩:∃f,Hid ((w.alloc (.cells #[jZ r] 145)).alloc (.cells #[uZ 0,uZ 0,uZ 0,uZ 0] 49)=f):=⟨_,rfl⟩
 have p:Hid (Row f (w.heap.size+1) [uZ 0,uZ 0,uZ 0,uZ 0]/\kZ w f/\Holds encB f r 0 L/\f.rangeAt w.heap.size 0 [jZ r]):=by
  rw[<-c.out];have k:kZ w ((w.alloc (.cells #[jZ r] 145)).alloc (.cells #[uZ 0,uZ 0,uZ 0,uZ 0] 49)):=(aC w _).alloc (by rw[UB];omega) _;have hR:=aE (w.alloc (.cells #[jZ r] 145)) [uZ 0,uZ 0,uZ 0,uZ 0] 49;rw[UB]at hR;exact⟨hR,k,Holds.below y k B,((aE w [jZ r] 145).alloc _).2.1⟩
 clear y;obtain⟨d,j,i⟩:=Uy.1 u124;have E:Hid (prog.underlying 143=some d/\d.isRow=true):=⟨j,i⟩
 clear j i;have M:=yX O r L f p.2.2.1 K;have t:cha N L<N:=uU O _;have o:=λW=>Mo O t W
 have A:tZ (cha N L)=chS N L:=rfl;rw[A]at o;have u:(bB L).size=32:=bE _ _;obtain⟨m,D⟩:=hE (cha N L);obtain⟨q,C⟩:=hE (chS N L);obtain⟨Q,b⟩:=hE (bB L);have I:=Hid.mk' M;have H:=Hid.mk' o;rw[D.out,b.out]at I;rw[D.out,C.out]at H;rw[b.out]at u;rw[C.out,b.out];unfold lgV;go_enter func147,ntmps147;go_wp2_with (refine U6 rfl 143 _ rfl w.heap.size 0 ?_ [jZ r] d ?_ ?_ ?_ ?_ ?_;kernel_rfl;(rw[c.out];exact p.2.2.2);exact E.1;exact E.2;exact i124;rw[c.out])
 refine I.mono ?_;rintro e P ⟨v,rfl,G,F,rfl⟩;have g:=Holds.lt F oM;have z:=mk3 (p.1.only G oM) ((SP.Only.of_below p.2.1 rfl B).trans G) F;go_wp2_with fail
 refine(H P).mono ?_;rintro e J ⟨R,rfl,k,rfl⟩;have s:=mk3 (z.1.below k) (z.2.1.trans (SP.Only.of_below k rfl g)) (Holds.below z.2.2 k g);obtain⟨a,n⟩:=hE (J.setCells (w.heap.size+1) 0 (wn q));have x:Hid (Row a (w.heap.size+1) (wn q)/\SP.Only r 0 32 w a/\Holds encB a r 0 Q):=by rw[<-n.out];exact⟨s.1.put rfl,dW s.2.1 B oM _,fE s.2.2 oM⟩
 obtain⟨S,l⟩:=hE (nv q);rw[l.out];go_wp2_with (refine U2 rfl 49 _ _ rfl (w.heap.size+1) 0 (wn q).toArray ?_ ?_ ?_ ?_ ?_ ?_;rfl;exact l.symm;exact s.1.2.2;exact i40;exact aM q;rw[show(wn q).toArray.toList=wn q from rfl,n.out])
 refine UE (aG 2 49 rfl x.1 rfl u40 i40) rfl ?_;exact⟨_,rfl,x.2.1,x.2.2,rfl⟩
structure CaI(w W:Ur)(k r:Nat)(X Y L:Bs):Prop where
 on:SP.Only r 0 32 w W
 r0:Row W k [jZ r]
 r1:Row W (k+1) (aA X)
 r2:Row W (k+2) (aA Y)
 r3:Row W (k+3) [uZ 0,uZ 0,uZ 0,uZ 0]
 lg:Holds encB W r 0 L
theorem CaI.grow{w W W':Ur}{k r:Nat}{X Y L:Bs}(h:CaI w W k r X Y L)(d:L.size=32)(b:kZ W W'):CaI w W' k r X Y L:=
 have c:=Holds.lt h.lg oM
 ⟨h.on.trans (SP.Only.of_below b rfl c),h.r0.below b,h.r1.below b,h.r2.below b,h.r3.below b,Holds.below h.lg b c⟩
theorem CaI.say{w W W':Ur}{k r:Nat}{X Y L c:Bs}(h:CaI w W k r X Y L)(e:r<k)(b:SP.Only r 0 32 W W')(d:Holds encB W' r 0 c):CaI w W' k r X Y c:=
 ⟨h.on.trans b,h.r0.only b oM,h.r1.only b oM,h.r2.only b oM,h.r3.only b oM,d⟩
theorem sW(O:Ord N)(r:Nat)(L X Y:Bs)(s j:ByteArray)(h1:s.size<=1048576)(h2:j.size<=1048576)(hX:X.size=33)(hY:Y.size=33)(w:Ur)(hL:Holds encB w r 0 L)(hl:L.size=32):
 UH prog 146 #[lgV r,.string s,pvl X,.string j,pvl Y] w (Ret λe w'=>SP.Only r 0 32 w w'/\Holds encB w' r 0 (bB (jW s.data.toList j.data.toList L X Y))/\e=nv (chS N (jW s.data.toList j.data.toList L X Y))):=by
 have hr:=Holds.lt hL oM;obtain⟨H,G⟩:∃H,Hid (uN L s.data.toList X.toList=H):=⟨_,rfl⟩
 have s1:H.size=32:=by rw[<-G.out];exact kP _ _ _
 obtain⟨y,E⟩:∃y,Hid (uN H j.data.toList Y.toList=y):=⟨_,rfl⟩
 have s2:y.size=32:=by rw[<-E.out];exact kP _ _ _
 have e2:jW s.data.toList j.data.toList L X Y=y:=by unfold jW;rw[G.out,E.out]
 rw[e2];obtain⟨k,I⟩:∃k,Hid (w.heap.size=k):=⟨_,rfl⟩
 obtain⟨b,g⟩:∃b,Hid (w.alloc (.cells #[jZ r] 145)=b):=⟨_,rfl⟩
 obtain⟨c,p⟩:∃c,Hid (b.alloc (.cells (aA X).toArray 103)=c):=⟨_,rfl⟩
 obtain⟨f,i⟩:∃f,Hid (c.alloc (.cells (aA Y).toArray 103)=f):=⟨_,rfl⟩
 obtain⟨F,D⟩:∃F,Hid (f.alloc (.cells #[uZ 0,uZ 0,uZ 0,uZ 0] 49)=F):=⟨_,rfl⟩
 have z1:b.heap.size=k+1:=by rw[<-g.out,UB,I.out]
 have z2:c.heap.size=k+2:=by rw[<-p.out,UB,z1]
 have z3:f.heap.size=k+3:=by rw[<-i.out,UB,z2]
 have C:r<k:=by rw[<-I.out];exact hr
 have HK:Hid (w.heap.size<=k):=by show _<=_;rw[I.out];exact Uw _
 have K4:Hid (CaI w F k r X Y L):=by
  have b1:kZ w b:=by rw[<-g.out];exact aC _ _
  have o:kZ b c:=by rw[<-p.out];exact aC _ _
  have n:kZ c f:=by rw[<-i.out];exact aC _ _
  have l:kZ f F:=by rw[<-D.out];exact aC _ _
  have A:Row b k [jZ r]:=by rw[<-g.out,<-I.out];exact aE w _ _
  have B:Row c (k+1) (aA X):=by rw[<-p.out,<-z1];exact aE b _ _
  have a:Row f (k+2) (aA Y):=by rw[<-i.out,<-z2];exact aE c _ _
  have z:Row F (k+3) [uZ 0,uZ 0,uZ 0,uZ 0]:=by rw[<-D.out,<-z3];exact aE f _ _
  have t:kZ w F:=((b1.trans (o.mono b1.size)).trans (n.mono (UC b1.size o.size))).trans (l.mono (UC b1.size (UC o.size n.size)));exact⟨SP.Only.of_below t rfl hr,((A.below o).below n).below l,(B.below n).below l,a.below l,z,Holds.below hL t hr⟩
 obtain⟨vl,Q⟩:∃v,Hid (lgV r=v):=⟨_,rfl⟩
 obtain⟨vX,R⟩:∃v,Hid (pvl X=v):=⟨_,rfl⟩
 obtain⟨vY,P⟩:∃v,Hid (pvl Y=v):=⟨_,rfl⟩
 have B1:Hid ((Ve 145 vl).run prog w=.ok (jZ k) b):=by rw[<-Q.out,<-g.out,<-I.out];exact Na r w
 have B2:Hid ((Ve 103 vX).run prog b=.ok (.pointer (some ⟨k+1,0,none⟩)) c):=by rw[<-R.out,<-p.out,<-z1];exact rM hX b
 have B3:Hid ((Ve 103 vY).run prog c=.ok (.pointer (some ⟨k+2,0,none⟩)) f):=by rw[<-P.out,<-i.out,<-z2];exact rM hY c
 have HZ:Hid (f.heap.size=k+3):=z3;rw[Q.out,R.out,P.out];have M:Hid (Ord N/\s.size<=1048576/\j.size<=1048576/\X.size=33/\Y.size=33):=⟨O,h1,h2,hX,hY⟩
 clear hL z1 z2 z3 g p i I e2 O h1 h2 hX hY;go_enter func146,ntmps146;go_wp2_with (first|(refine aF (u:=vl) (v:=jZ k) (w':=b) rfl 145 (.tmp 0) rfl ?_ ?_ ?_;rfl;exact B1.out)|(refine aF (u:=vX) (v:=.pointer (some ⟨k+1,0,none⟩)) (w':=c) rfl 103 (.tmp 2) rfl ?_ ?_ ?_;rfl;exact B2.out)|(refine aF (u:=vY) (v:=.pointer (some ⟨k+2,0,none⟩)) (w':=f) rfl 103 (.tmp 4) rfl ?_ ?_ ?_;rfl;exact B3.out)|(refine fB (v:=.pointer (some ⟨k+3,0,none⟩)) (w':=F) rfl 49 10 rfl rfl ?_ ?_;(rw[<-D.out,<-HZ.out];kernel_rfl))|fail)
 refine(gwL [pE (jZ k),pE (jZ k),pE (jZ r),pE (.string s),pE (.slice (some ⟨k+1,0,none⟩) 33 33)] (λW=>CaI w W k r X Y L) (λW W' hb h=>h.grow hl hb)).tail2 5 kR kR kR ⟨
  gO 5 (jZ k),
  rF 0 11 (jZ k) (jZ k) (λx W h=>h) (λ_=>rfl),
  fF 141 1 12 k 0 (jZ r) uLp (λx W h=>h) (λW z=>z.r0.2.1 0 _ rfl) (λ_=>rfl),
  gO 1 (.string s),
  gP 7 (.pointer (some ⟨k+1,0,none⟩)) (.slice (some ⟨k+1,0,none⟩) 33 33),yCl⟩ (K4.grow hl ⟨rfl,rfl,rfl,Uw _,λ_ _=>rfl⟩) ?_
 intro V w5 hR z;have n:V 2=jZ r:=hR 2 dC;have o:V 3=.string s:=hR 3 dC;have l:V 4=.slice (some ⟨k+1,0,none⟩) 33 33:=hR 4 dC;dsimp only[bU,VK,Xl,Xm];simp only[UN,Us,Uu,Uv];rw[n,o,l];have a:=Hid.mk' z;clear hR z n o l K4;generalize V 0=s0;generalize V 1=h3;go_wp2_with fail
 refine(Bq r L s (some ⟨k+1,0,none⟩) 33 33 X.toList w5 M.2.1 (OG a.lg) hl (wO M.2.2.2.1 a.r1)).mono ?_;rintro e w6 ⟨rfl,A,t⟩;rw[G.out]at t;have K6:Hid (CaI w w6 k r X Y H):=a.say C A (OE t);clear A t a;go_wp2_with fail
 refine(gwL [pE (jZ k),pE (jZ k),pE (jZ r),pE (.string j),pE (.slice (some ⟨k+2,0,none⟩) 33 33)] (λW=>CaI w W k r X Y H) (λW W' hb h=>h.grow s1 hb)).tail2 5 kR kR kR ⟨
  gO 5 (jZ k),
  rF 0 17 (jZ k) (jZ k) (λx W h=>h) (λ_=>rfl),
  fF 141 1 18 k 0 (jZ r) uLp (λx W h=>h) (λW z=>z.r0.2.1 0 _ rfl) (λ_=>rfl),
  gO 3 (.string j),
  gP 9 (.pointer (some ⟨k+2,0,none⟩)) (.slice (some ⟨k+2,0,none⟩) 33 33),yCl⟩ (K6.grow s1 ⟨rfl,rfl,rfl,Uw _,λ_ _=>rfl⟩) ?_
 intro V w7 hR z;have n:V 2=jZ r:=hR 2 dC;have o:V 3=.string j:=hR 3 dC;have l:V 4=.slice (some ⟨k+2,0,none⟩) 33 33:=hR 4 dC;dsimp only[bU,VK,Xl,Xm];simp only[UN,Us,Uu,Uv];rw[n,o,l];have a:=Hid.mk' z;clear hR z n o l K6;generalize V 0=h4;generalize V 1=s3;go_wp2_with fail
 refine(Bq r H j (some ⟨k+2,0,none⟩) 33 33 Y.toList w7 M.2.2.1 (OG a.lg) s1 (wO M.2.2.2.2 a.r2)).mono ?_;rintro e w8 ⟨rfl,A,t⟩;rw[E.out]at t;have Z:Hid (CaI w w8 k r X Y y):=a.say C A (OE t);clear A t a;have HS:=Hid.mk' (yF M.1 r y w8 Z.lg s2);have h0:(bB y).size=32:=bE _ _;obtain⟨q,hq⟩:∃m,Hid (chS N y=m):=⟨_,rfl⟩
 obtain⟨L3,B⟩:∃m,Hid (bB y=m):=⟨_,rfl⟩
 rw[hq.out,B.out]at HS;rw[B.out]at h0;obtain⟨d,S,K⟩:=Uy.1 uLg;have HD:Hid (prog.underlying 145=some d/\d.isRow=true):=⟨S,K⟩
 clear S K;go_wp2_with (first|(refine U6 rfl 145 (.tmp 5) rfl k 0 ?_ [jZ r] d ?_ ?_ ?_ ?_ ?_;rfl;exact Z.r0.2.1;exact HD.1;exact HD.2;exact iLg;skip)|fail)
 refine HS.mono ?_;rintro e w9 ⟨v,rfl,A,t,rfl⟩;have K9:Hid (CaI w w9 k r X Y L3):=Z.say C A t;clear A t Z HS;obtain⟨U,J⟩:∃U,Hid (w9.setCells (k+3) 0 (wn q)=U):=⟨_,rfl⟩
 have KA:Hid (Row U (k+3) (wn q)/\SP.Only r 0 32 w U/\Holds encB U r 0 L3):=by
  have T:=HZ.out;rw[<-J.out];exact⟨K9.r3.put rfl,dW K9.on hr (by have:=HK.out;omega) _,fE K9.lg oM⟩
 obtain⟨vm,T⟩:∃vm,Hid (nv q=vm):=⟨_,rfl⟩
 rw[T.out];go_wp2_with (refine U2 rfl 49 _ _ rfl (k+3) 0 (wn q).toArray ?_ ?_ ?_ ?_ ?_ ?_;rfl;exact T.symm;exact K9.r3.2.2;exact nSc;exact aM q;rw[show(wn q).toArray.toList=wn q from rfl,J.out])
 refine UE (aG 10 49 rfl KA.1 rfl rSc nSc) rfl ?_;exact⟨_,rfl,KA.2.1,by rw[B.out];exact KA.2.2,by rw[hq.out];rfl⟩
theorem v7:prog.underlying 24=some (.slice 23):=kR
theorem Je:(prog.info? 23).map (λi=>(i.size,i.bytes,i.zero.map λz=>z.cells.size))=some (1,24,some 1):=kR
theorem lH(g o j:Nat):(⟨g,o,none⟩:Wu).add j=⟨g,o+j,none⟩:=by
 unfold Zi;by_cases k:j=0
 ·subst k;rw[yCj rfl];rfl
 ·rw[yCk k]
structure VL(w:Ur)(q:Option Wu)(m:Nat)(ys:List Ut):Prop where
 len:ys.length=m
 nil:q=none->m=0
 cells:ys=[]\/∃b o,q=some ⟨b,o,none⟩/\b<w.heap.size/\∀(j:Nat) u,ys[j]? = some u->w.cell? ⟨b,o+j,none⟩=some u
 one:∀u∈ys,u.oneCell'=true
theorem VL.below{w w':Ur}{q:Option Wu}{m:Nat}{ys:List Ut}(h:VL w q m ys)(c:kZ w w'):VL w' q m ys:=
 ⟨h.len,h.nil,by
  rcases h.cells with e|⟨b,o,g,k,d⟩
  ·exact U4 e
  ·exact UX ⟨b,o,g,Ux k c.size,λj u f=>by rw[c.cell (p:=⟨b,o+j,none⟩) k];exact d j u f⟩,h.one⟩
structure GLs(w W:Ur)(v:Ut)(xs:List Ut):Prop where
 bl:kZ w W
 ow:W.ownsRow w.heap.size 23 1 v xs.length xs
 nn:v.ownBlock≠none
theorem GLs.lt{w W:Ur}{v:Ut}{xs:List Ut}(h:GLs w W v xs):∃g cap,v=sZ g xs.length cap/\w.heap.size<=g/\g<W.heap.size:=by
 rcases id h.ow with⟨-,⟨rfl,d⟩|⟨g,cap,cur,rfl,c,k,-⟩⟩
 ·exact absurd rfl h.nn
 ·refine⟨g,cap,rfl,c,?_⟩;by_cases b:g<W.heap.size
  ·exact b
  ·rw[WN oM]at k;cases k
theorem GLs.below{w W W':Ur}{v:Ut}{xs:List Ut}(h:GLs w W v xs)(d:kZ W W'):GLs w W' v xs:=by
 refine⟨h.bl.trans (d.mono h.bl.size),?_,h.nn⟩;rcases h.ow with⟨c,b|⟨g,cap,cur,b,e,k,f⟩⟩
 ·exact⟨c,U4 b⟩
 ·refine⟨c,UX ⟨g,cap,cur,b,e,?_,f⟩⟩;rw[d.block g (by
   by_cases i:g<W.heap.size
   ·exact i
   ·rw[WN oM]at k;cases k)]
  exact k
theorem GLs.app2{w W:Ur}{v:Ut}{xs ys:List Ut}{q:Option Wu}{m c:Nat}(h:GLs w W v xs)(hx:VL W q m ys)(J:xs.length+m<=1000000):
 ∃n W',(Vt #[24,24] 24 #[v,.slice q m c]).run prog W=.ok n W'/\GLs w W' n (xs++ys)/\W.heap.size<=W'.heap.size:=by
 obtain⟨i,t,s⟩:=Uy.1 Je;simp only[V6.injEq]at s;obtain⟨H,F,y⟩:=s;obtain⟨z,x,p⟩:=Uy.1 y;obtain⟨g,cap,rfl,I,D⟩:=h.lt;cases q with
 | none =>
  have B:=hx.nil rfl;subst B;obtain rfl:ys=[]:=List.length_eq_zero_iff.1 hx.len;rcases id h.ow with⟨-,⟨d,-⟩|⟨E,f,cur,d,K,C,A,G⟩⟩
  ·cases d
  ·injection d with d _ h0'
   injection d with d
   injection d with d
   subst d h0';have r:=Y6 (P:=prog) W 24 24 24 23 i v7 t g 0 xs.length cap (.slice none 0 c) 0 [] (yB8 (e':=23) _ v7 c) A (λj e=>by cases e) (λj e=>by cases e);refine⟨_,_,r,?_,Uw _⟩;rw[Xu];exact h
 | some a =>
  obtain⟨n,W',C,r,d,G⟩:=Y1 (P:=prog) W w.heap.size 24 24 23 i z 1 24 v7 t x H F p dC _ xs.length xs h.ow a m c ys (by rw[hx.len];omega)
   (λj u e=>by
    rcases hx.cells with rfl|⟨b,o,B,-,A⟩
    ·cases e
    ·obtain rfl:=UO.inj B;rw[lH];exact A j u e) hx.one (by unfold maxLen;omega) oM h.bl.size
  refine⟨n,W',C,⟨⟨by rw[d.os,h.bl.os],by rw[d.tape,h.bl.tape],by rw[d.output,h.bl.output],UC h.bl.size d.size,λk e=>?_⟩,?_,?_⟩,d.size⟩
  ·rw[d.block k (Ux e h.bl.size) (by simp[V9];omega)];exact h.bl.block k e
  ·rw[UA,hx.len];exact r
  ·rcases r.2 with⟨A,-⟩|⟨E,f,cur,rfl,-⟩
   ·have:=(G.1 A).1;exact absurd this (by simp)
   ·simp[V9]
theorem GLs.app{w W:Ur}{v:Ut}{xs ys:List Ut}{q:Option Wu}{m c:Nat}(h:GLs w W v xs)(hx:VL W q m ys)(b:xs.length+m<=1000000):
 ∃k W',(Vt #[24,24] 24 #[v,.slice q m c]).run prog W=.ok k W'/\GLs w W' k (xs++ys):=by
 obtain⟨k,W',e,d,-⟩:=h.app2 (c:=c) hx b;exact⟨k,W',e,d⟩
end
end Go.Proofs.YtdoammpgchejcaaGreat
