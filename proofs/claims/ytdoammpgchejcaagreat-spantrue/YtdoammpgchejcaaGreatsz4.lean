import Derived.Deep.LoopGhost
import Derived.Laws.AppendOwn
import Derived.Deep.AppendSrc
import Derived.Lib.AppendZeros
import Derived.Deep.MidRow
import Derived.BigQuiet
import Derived.Lib.ConvBytes
import Derived.BigRegion
import Derived.Deep.RegionLaw
import Derived.Laws.OwnMore
import Derived.ArgAppend
import Derived.Test.YtdoammpgchejcaaGreatsz3
set_option linter.unusedVariables false
set_option linter.constructorNameAsVariable false
set_option linter.unusedSimpArgs false
set_option maxRecDepth 1000000
set_option maxHeartbeats 4000000
namespace Go.Proofs.YtdoammpgchejcaaGreat
open EC NT RG SP
open _root_.And renaming intro->V4
open _root_.Array renaming eq_empty_of_size_eq_zero->ZN,getD->yBU,getD_eq_getD_getElem?->UJ,getElem?_eq_getElem->UZ,getElem?_eq_none->Wu,getElem?_eq_some_iff->UY,getElem?_push_size->Xb,length_toList->UL,replicate->UM,setIfInBounds->Yg,size->Wt
open _root_.Bool renaming and_eq_true->UN,noConfusion->YG,or_eq_true->WV
open _root_.Go renaming Addr->Wv,Calls->UK,Exit->X9,FuncId->Xl,Oper->Vk,Operand->XM,Program->VD,Tmp->WF,TypeId->Vb,Value->Uv,World->Ut,bodyPost_ret->UH,execOp->U9,getD_set_ne->XW,run_append_own->Yv,run_append_room_src->YZ,run_loadVar_mid->Y2,run_storeVar_mid->yAf,run_underlying->Yn,undef->WJ,wpList_load_mid->U8,wpList_plain->Xd,wpList_store_mid->U3,wpOp_mono->X8,wp_block->Xy,wp_cond_false->VJ,wp_cond_true->VH,wp_region_any->Z5,wp_ret->Wy,wp_seq->UC,wp_skip->WQ
open _root_.Go.Act renaming put->UR
open _root_.Go.Addr renaming add->Zr
open _root_.Go.Builtin renaming append_->Vx,firstCells->yAw,nextslicecap->YA
open _root_.Go.Code renaming region->V3
open _root_.Go.Instr renaming box->Vh,buildSlice->VF,indexAt->Vj,makeFunc->YV,sliceAt->Xw,storeAt->Y6,sureAddr->Yy
open _root_.Go.IntKind renaming i64->VY,wrap_i64->Yp
open _root_.Go.Lib renaming wpList_append_run->WG
open _root_.Go.Next renaming value->Xq
open _root_.Go.Oper renaming wp->VT
open _root_.Go.Operand renaming tmp->yBn
open _root_.Go.Region renaming binds->VM,free->YX,noSelect->XQ,ready->U7,wanted->V5
open _root_.Go.Result renaming andThen_ok->Vr
open _root_.Go.RowKit.Below renaming refl->UT
open _root_.Go.RowKit.Hid renaming out->Zq
open _root_.Go.Sem renaming run_bind->UW,run_pure->WA
open _root_.Go.Src renaming ofNil->yCa,ofSlice->yAN
open _root_.Go.Value renaming agg->U5,func->Zv,oneCell'->yBm,ownBlock->V9,slice->VA
open _root_.Go.World renaming cell?->V1,cell?_drew->Zc,cell?_of_block->U0,frozen?->Xe,frozen?_of_block->VR,rangeAt->Y5,rangeAt_setCells_apart->Vq,rangeAt_setCells_same->VZ,setCells->Yw,size_alloc->UD,size_drew->yBd,there_setCells->V7
open _root_.Int renaming tdiv_eq_ediv_of_nonneg->Yd
open _root_.List renaming all_eq_true->Va,any_eq_true->yBb,append_nil->XC,drop->Xo,drop_length->ZZ,eq_nil_of_length_eq_zero->ZV,getElem?_append_left->UX,getElem?_append_right->U4,getElem?_cons_succ->Vf,getElem?_cons_zero->Vl,getElem?_eq_getElem->UI,getElem?_eq_none->WE,getElem?_eq_some_iff->UG,getElem?_map->Vy,getElem?_toArray->Vm,length_append->UB,length_cons->Vg,length_eq_zero_iff->yAo,length_map->US,length_nil->WO,length_set->yBj,map_append->Wx,mem_append->Ww,mem_cons->V0,mem_range->VS,mem_singleton->WT,nodup_append->Za,nodup_cons->X1,nodup_nil->yBy,not_mem_nil->U1,range->VB,setIfInBounds_toArray->Uu,set_cons_succ->Uw,set_cons_zero->Ux,size_toArray->VE,take->Xn
open _root_.Nat renaming add_mul->XH,add_sub_cancel->yAX,div_eq_of_lt->XA,le_of_ble_eq_true->VX,le_of_eq->YC,le_of_lt->XN,le_refl->Uy,le_trans->UE,lt_of_lt_of_le->Uz,lt_of_sub_eq_succ->YB,lt_of_succ_le->Xt,lt_or_ge->VV,mod_eq_of_lt->UU,mod_lt->V6,mul_comm->Vv,mul_le_mul->WP,mul_le_mul_left->XU,mul_le_mul_right->WX,mul_pos->yAJ,not_lt_zero->Ys,one_mul->Xj,pow_pos->X6,pow_succ->V8,reduceAdd->VO,succ_lt_succ->yBg,zero_add->UF,zero_le->Wz,zero_lt_succ->Zd,zero_mod->YO
open _root_.Ne renaming symm->YL
open _root_.Option renaming map_eq_some_iff->UA,some->UP
open _root_.Or renaming inl->U6,inr->U2
open _root_.Prod renaming mk->We
open Go.Proofs.Tryz
variable {args:Array Uv}{l:List (Nat × Bs)}{us xs ys z:List Uv}{K g ga id y:Nat}{q:Option Wv}{I:Sem Uv}{R:Uv->Ut->Prop}{e:Vb}{f:Xl}
section
open Go.RowKit Go.Sort Go.Deep
variable {P:Nat}[NeZero P]{N:Nat}
theorem u9s:(prog.underlying 9).map (·.isRow)=some false:=kR
def pH(n:Nat)(b:Bs):S1:=⟨λv W=>∃r,v=sZ r n n/\r<W.heap.size/\Holds encB W r 0 b,λ_ _ _ k ⟨r,e,c,d⟩=>⟨r,e,Uz c k.size,Holds.below d k c⟩⟩
noncomputable def hpN (P:Nat) [NeZero P] (lb:ByteArray) (i:Nat):Bs:=wr (.some (hpt P lb (iC i).toList):EC.Pt P)
theorem Jj(lb:ByteArray)(i:Nat):(hpN P lb i).size=33:=aT _
theorem OY(C:Fld P)(lb:ByteArray)(d:lb.size<=1000000)(i:Nat)(E:i<4294967296)(k:Nat)(w:Ut)(z:k<w.heap.size)(B:w.cell? ⟨k,0,none⟩=some (.string lb)):
 UK prog 201 #[iZ i,jZ k] w (rZ w λe w'=>Sm w.heap.size w' e [(1,hpN P lb i)]):=by
 obtain⟨T,f⟩:=hE (hpN P lb i);have j:T.size=33:=by rw[<-f.out];exact Jj _ _
 rw[f.out];have q:=λ(W:Ut) (n:Option Wv) (s t:Nat) (v:PartOk W (.slice n s t) (iC i).toList)=>FM C lb d n s t (iC i).toList W v
 have A:wr (.some (hpt P lb (iC i).toList):EC.Pt P)=T:=f.out;rw[A]at q;have a:=Hid.mk' q;have D:=mk1 (B);have l:=Hid.mk' (λW=>xB i E W);go_enter func201,ntmps201;go_wp2_with fail
 refine(gwL [pE (.string lb),pE (iZ i),pH 4 (iC i),pE (pvl T),pM (w.heap.size<=·) [(1,T)],pM (w.heap.size<=·) [(1,T)]] (λW=>W.cell? ⟨k,0,none⟩=some (.string lb)/\kZ w W) (λW W' b h=>⟨by rw[b.cell (p:=⟨k,0,none⟩) (Uz z h.2.size)];exact h.1,h.2.trans (b.mono h.2.size)⟩)).draws kR kR ⟨
  PK 9 1 k 0 (.string lb) u9s rfl (λW c=>c.1) (λ_=>rfl),
  gO 0 (iZ i),
  oW 1 5 200 (λx=>#[x]) (λx W hx c=>by
   obtain rfl:x=iZ i:=hx;refine(l W).mono ?_;rintro e W' ⟨u,rfl,b,r,rfl,o,m⟩;exact⟨_,rfl,b,r,rfl,o,m⟩),
  eD 0 4 2 6 136 (λx y=>#[x,y]) (λx y W hx F c=>by
   obtain rfl:x=.string lb:=hx;obtain⟨r,rfl,o,m⟩:=F;refine(a W _ _ _ (IP m)).mono ?_;rintro e W' ⟨u,rfl,b,rfl⟩;exact⟨_,rfl,b,rfl⟩),
  oW 3 7 135 (λx=>#[x]) (λx W hx c=>by
   obtain rfl:x=pvl T:=hx;refine(AU T j W).mono ?_;rintro e W' ⟨u,rfl,b,m⟩;exact⟨_,rfl,b,m.q.mono λg o=>UE c.2.size o⟩),
  DV 4 8 id (λx W h=>h),yCm⟩ ⟨D.out,(UT _ w).drew⟩ ?_
 intro V F hR c;have o:=mk1 (hR 5 (Xt (VX kR)));have m:=mk1 (c.2);dsimp only[bU,VO];simp only[UR,Uu,Uw,Ux];go_wp2;go_ret;exact⟨_,rfl,m.out,o.out⟩
theorem uSu:prog.underlying 129=some (.slice 131):=kR
theorem iSu:(prog.info? 131).map (λi=>(i.size,decide (i.bytes<=4000),i.zero.isSome))=some (1,true,true):=kR
theorem RS:(prog.info? 131).map (·.size)=some 1:=kR
structure LsI(w W:Ut)(K n i:Nat)(T:Nat->List (Nat × Bs)):Prop where
 bl:kZ w W
 lt:K<W.heap.size
 th:W.there K 0 n
 ge:w.heap.size<=K
 el:∀j,j<i->∃x,W.cell? ⟨K,j,none⟩=some x/\SmQ (λg=>w.heap.size<=g/\g≠K) W x (T j)
theorem LsI.grow{w W W':Ut}{n i:Nat}{T:Nat->List (Nat × Bs)}(h:LsI w W K n i T)(k:kZ W W'):LsI w W' K n i T:=
 ⟨h.bl.trans (k.mono h.bl.size),Uz h.lt k.size,dM h.th k h.lt,h.ge,λj b=>by
  obtain⟨x,c,d⟩:=h.el j b;exact⟨x,by rw[k.cell (p:=⟨K,j,none⟩) h.lt];exact c,d.keep (Kq.of_below k)⟩⟩
theorem Kq.set{Q:Nat->Prop}{W:Ut}{o:Nat}{vs:List Uv}(b:∀g,Q g->g≠K):Kq Q W (W.setCells K o vs):=⟨by rw[setCells_size];exact Uy _,λg k _=>aH K vs o W g (b g k)⟩
theorem LsI.put{w W:Ut}{n i:Nat}{T:Nat->List (Nat × Bs)}{x:Uv}(h:LsI w W K n i T)(o:i<n)(hx:SmQ (λg=>w.heap.size<=g/\g≠K) W x (T i)):LsI w (W.setCells K i [x]) K n (i+1) T:=by
 have b:Kq (λg=>w.heap.size<=g/\g≠K) W (W.setCells K i [x]):=Kq.set λg d=>d.2
 refine⟨RG.below_setCells h.ge _ _ _ h.bl,by rw[setCells_size];exact h.lt,V7 h.th _ _ _,h.ge,λj p=>?_⟩;by_cases e:j=i
 ·subst e;refine⟨x,?_,hx.keep b⟩;have:=VZ W K j [x] (λt c=>by
   have k:t=0:=by simp at c;omega
   subst k;have:=h.th j o;rwa[UF]at this) 0 x rfl
  exact this
 ·obtain⟨y,f,m⟩:=h.el j oM;refine⟨y,?_,m.keep b⟩;have l:W.rangeAt K j [y]:=λt u c=>by
   have k:t=0:=by have:=(UG.1 c).1;simp at this;omega
   subst k;obtain rfl:y=u:=by simpa using c
   exact f
  exact Vq l K i [x] (U2 (by simp;omega)) 0 y rfl
theorem LsI.gl{w W:Ut}{n:Nat}{T:Nat->List (Nat × Bs)}(h:LsI w W K n n T):GLq (w.heap.size<=·) W (sZ K n n) n T:=
 ⟨K,0,n,rfl,Uy _,h.ge,h.lt,λj b=>by
  obtain⟨x,c,d⟩:=h.el j b;exact⟨x,by rw[UF];exact c,d.mono λg k=>k.1⟩⟩
theorem SmQ.one{Q:Nat->Prop}{W:Ut}{v:Uv}(h:SmQ Q W v l):v.cells=#[v]/\v.oneCell'=true:=by
 obtain⟨g,c,rfl,-⟩:=h;exact⟨rfl,rfl⟩
theorem Aa(n:Nat)(N:n<=512)(f:Xl)(cap:Array Uv)(hf:∀args W,(callFunc f args).run prog W=.ok (.enter f args) W)(T:Nat->List (Nat × Bs))(w:Ut)
 (A:∀i W,i<n->kZ w W->UK prog f (#[iZ i]++cap) W (rZ W λe W'=>Sm W.heap.size W' e (T i))) :
 UK prog 162 #[iZ n,.func (.func f) #[] cap] w (rZ w λe w'=>GLq (w.heap.size<=·) w' e n T):=by
 obtain⟨C0,q,p⟩:=Cj uSu iSu n N;have k:=p w;obtain⟨K,r⟩:∃K,Hid (w.heap.size=K):=⟨_,rfl⟩
 obtain⟨u,b⟩:∃u,Hid (w.alloc (.cells C0.toArray 131)=u):=⟨_,rfl⟩
 have s:Ar w u K 1 n 0 (λ_=>[]):=Ar.new _ q b.out r.out;rw[b.out,r.out]at k;have E:Hid (LsI w u K n 0 T):=⟨s.bl,s.lt,by have:=s.th;rwa[Xj]at this,by rw[r.out];exact Uy _,λj D=>absurd D (Ys _)⟩
 have M:=Hid.mk' A;have F:=Hid.mk' hf;obtain⟨fv,d⟩:=hE (Zv (.func f) #[] cap);rw[d.out];clear s q p A hf b r;go_enter func162,ntmps162;go_wp2;clear k;go_loopg [11] n (λm s11 W=>∃i:Nat,i+m=n/\s11=iZ i/\Hid (LsI w W K n i T))
 case atStart=>exact⟨0,oM,rfl,E⟩
 case round =>
  obtain⟨i,H,rfl,c⟩:=hrel;by_cases v:i<n
  ·have x:(i:Int)<(n:Int):=oM;have y:=atS K 0 n n i v;rw[show 0+1*i=i by omega]at y;have G:=Hid.mk' v;go_wp2_with (first|(refine rQ rfl 16 17 _ rfl f cap (iZ i) ?_ ?_ F.out (M i wr G.out c.bl) ?_;exact d.symm;rfl;intro e W' hR;refine Zq ?_)|fail)
   obtain⟨L,J⟩:=hR;have B:=c.grow L;have o:SmQ (λg=>w.heap.size<=g/\g≠K) W' e (T i):=J.q.mono λg C=>⟨UE (UE c.bl.size (Uy _)) C,by have:=c.lt;omega⟩
   have z:=mk1 (B.put v o);have I:Hid (W'.there K i 1):=λt P=>by
    have l:t=0:=oM;subst l;have:=B.th i v;rwa[UF]at this
   have a:=Hid.mk' o.one;obtain⟨O,l⟩:=hE (W'.setCells K i [e]);rw[l.out]at z;show wpList _ _ _ _ _ _;go_wp2_with (first|(refine fW rfl 131 _ _ rfl K i e ?_ ?_ a.1 a.2 I.out RS ?_;rfl;rfl;rw[l.out])|fail)
   go_roundg (gk-1)
   case measure=>omega
   case rel=>exact⟨i+1,oM,rfl,z⟩
  ·have x:¬(i:Int)<(n:Int):=oM;obtain rfl:i=n:=oM;have l:=mk2 c.bl c.gl;go_wp2;go_ret;exact⟨_,rfl,l.1,l.2⟩
theorem tP(C:Fld P)(lb:ByteArray)(c:lb.size<=1000000)(n:Nat)(t:n<=512)(w:Ut):
 UK prog 134 #[.string lb,iZ n] w (rZ w λe w'=>GLq (w.heap.size<=·) w' e n (λi=>[(1,hpN P lb i)])):=by
 obtain⟨j,b⟩:=hE (w.alloc (.cells #[.string lb] 9));obtain⟨k,l⟩:=hE (w.heap.size);have s:kZ w j:=by rw[<-b.out];exact aC _ _
 have hR:Row j k [.string lb]:=by rw[<-b.out,<-l.out];exact aE w _ _
 have q:=Hid.mk' (Aa n t 201 #[jZ k] (λ_ _=>kR) (λi=>[(1,hpN P lb i)]) j (λi W x m=>OY C lb c i oM k W (Uz hR.1 m.size) (by rw[m.cell (p:=⟨k,0,none⟩) hR.1];exact hR.2.1 0 _ rfl)));have f:=Hid.mk' s;go_enter func134,ntmps134;go_wp2_with fail
 rw[b.out,l.out];refine q.mono ?_;rintro e u ⟨v,rfl,d,hG⟩;have r:=mk2 (f.trans (d.mono f.size)) (hG.mono λg o=>UE f.size o);go_wp2;go_ret;exact⟨_,rfl,r.out⟩
noncomputable def hpU (P:Nat) [NeZero P]:Bs:=wr (.some (hpt P ⟨#[105,110,110,101,114]⟩ []):EC.Pt P)
theorem iGr:(prog.info? 133).map (·.size)=some 3:=kR
theorem uGr:(prog.underlying 133).map (·.isRow)=some true:=kR
noncomputable def gGT (P:Nat) [NeZero P] (i:Nat):List (Nat × Bs):=[(1,hpN P ⟨#[108,101,102,116]⟩ i)]
noncomputable def hGT (P:Nat) [NeZero P] (i:Nat):List (Nat × Bs):=[(1,hpN P ⟨#[114,105,103,104,116]⟩ i)]
noncomputable def uGT (P:Nat) [NeZero P]:List (Nat × Bs):=[(1,hpU P)]
theorem xP(C:Fld P)(n:Nat)(V:n<=512)(w:Ut):
 UK prog 62 #[iZ n] w (rZ w λe w'=>GRq (w.heap.size<=·) w' e n (gGT P) (hGT P) (uGT P)):=by
 have y:=λW=>tP C ⟨#[108,101,102,116]⟩ dC n V W
 have a:=λW=>tP C ⟨#[114,105,103,104,116]⟩ dC n V W
 have O:=λW:Ut=>FM C ⟨#[105,110,110,101,114]⟩ dC none 0 0 [] W ⟨none,0,0,0,#[],rfl,rfl,Uy _,Wz _,U6 rfl⟩
 have e0:wr (.some (hpt P ⟨#[105,110,110,101,114]⟩ []):EC.Pt P)=hpU P:=rfl;rw[e0]at O;have T:=λW=>AU (hpU P) (aT _) W
 obtain⟨U,K⟩:∃U,Hid (hpU P=U):=⟨_,rfl⟩
 have e1:uGT P=[(1,U)]:=by unfold uGT;rw[K.out]
 rw[e1];rw[K.out]at O T;have u:=Hid.mk' (V4 y (V4 a (V4 O T)));have X:(λi=>[(1,hpN P ⟨#[108,101,102,116]⟩ i)])=gGT P:=rfl;have e3:(λi=>[(1,hpN P ⟨#[114,105,103,104,116]⟩ i)])=hGT P:=rfl;rw[X,e3]at u;generalize gGT P=G at u⊢;generalize hGT P=H at u⊢;clear y a O T e0 e1 X e3 C V;obtain⟨F,L⟩:∃F,Hid (w.alloc (.cells #[.slice none 0 0,.slice none 0 0,.slice none 0 0] 133)=F):=⟨_,rfl⟩
 obtain⟨k,M⟩:∃k,Hid (w.heap.size=k):=⟨_,rfl⟩
 have N:Hid (kZ w F/\Row F k [.slice none 0 0,.slice none 0 0,.slice none 0 0]):=by rw[<-L.out,<-M.out];exact⟨aC _ _,aE w _ _⟩
 go_enter func62,ntmps62;go_wp2_with fail
 rw[L.out,M.out];refine(u.1 F).mono ?_;rintro e Q ⟨v1,rfl,x,hG⟩;have J:Hid (kZ w Q/\Row Q k [.slice none 0 0,.slice none 0 0,.slice none 0 0]/\GLq (k < ·) Q v1 n G):=⟨N.1.trans (x.mono N.1.size),N.2.below x,hG.mono λg j=>Uz N.2.1 j⟩
 go_wp2_with fail
 refine(u.2.1 Q).mono ?_;rintro e D ⟨v2,rfl,s,hG⟩;have A:Hid (kZ w D/\Row D k [.slice none 0 0,.slice none 0 0,.slice none 0 0]/\GLq (k < ·) D v1 n G/\GLq (k < ·) D v2 n H):=⟨J.1.trans (s.mono J.1.size),J.2.1.below s,J.2.2.keep (Kq.of_below s),hG.mono λg j=>Uz J.2.1.1 j⟩
 go_wp2_with fail
 refine(u.2.2.1 D).mono ?_;rintro e I ⟨v,rfl,c,rfl⟩;have t:Hid (kZ w I/\Row I k [.slice none 0 0,.slice none 0 0,.slice none 0 0]/\GLq (k < ·) I v1 n G/\GLq (k < ·) I v2 n H):=⟨A.1.trans (c.mono A.1.size),A.2.1.below c,A.2.2.1.keep (Kq.of_below c),A.2.2.2.keep (Kq.of_below c)⟩
 obtain⟨vu,E⟩:=hE (pvl U);have Y:Hid (∀W:Ut,UK prog 135 #[vu] W (rZ W λe w'=>Sm W.heap.size w' e [(1,U)])):=by rw[<-E.out];exact u.2.2.2
 rw[E.out];go_wp2_with fail
 refine(Y I).mono ?_;rintro e f ⟨v3,rfl,b,Z⟩;have d:Hid (kZ w f/\Row f k [.slice none 0 0,.slice none 0 0,.slice none 0 0]/\GLq (k < ·) f v1 n G/\GLq (k < ·) f v2 n H/\SmQ (k < ·) f v3 [(1,U)]):=⟨t.1.trans (b.mono t.1.size),t.2.1.below b,t.2.2.1.keep (Kq.of_below b),t.2.2.2.keep (Kq.of_below b),Z.q.mono λg j=>Uz t.2.1.1 j⟩
 clear b Z t Y;obtain⟨l,o,c1,rfl,-⟩:=d.2.2.1;obtain⟨m,r,c2,rfl,-⟩:=d.2.2.2.1;obtain⟨p,q,rfl,-⟩:=d.2.2.2.2;obtain⟨B,z⟩:∃B,Hid (f.setCells k 0 [.slice (some ⟨l,o,none⟩) n c1,.slice (some ⟨m,r,none⟩) n c2,sZ p [(1,U)].length q]=B):=⟨_,Hid.mk' rfl⟩
 have S:Hid (kZ w B/\Row B k [.slice (some ⟨l,o,none⟩) n c1,.slice (some ⟨m,r,none⟩) n c2,sZ p [(1,U)].length q]/\GRq (w.heap.size<=·) B (.agg #[.slice (some ⟨l,o,none⟩) n c1,.slice (some ⟨m,r,none⟩) n c2,sZ p [(1,U)].length q]) n G H [(1,U)]):=by
  rw[<-z.out];have R:∀g,k<g->w.heap.size<=g:=λg j=>by rw[M.out];omega
  have kq:Kq (k < ·) f (f.setCells k 0 [.slice (some ⟨l,o,none⟩) n c1,.slice (some ⟨m,r,none⟩) n c2,sZ p [(1,U)].length q]):=Kq.set λg j=>Nat.ne_of_gt j
  exact⟨RG.below_setCells (by rw[M.out];exact Uy _) _ _ _ d.1,d.2.1.put rfl,_,_,_,rfl,(d.2.2.1.keep kq).mono R,(d.2.2.2.1.keep kq).mono R,(d.2.2.2.2.keep kq).mono R⟩
 have R:=mk1 (d.2.1.2.2);go_wp2_with (refine bG (v:=.agg #[.slice (some ⟨l,o,none⟩) n c1,.slice (some ⟨m,r,none⟩) n c2,sZ p [(1,U)].length q]) (w':=f) rfl (.build 133 _) rfl ?_ ?_;kernel_rfl;refine Zq ?_)
 show wpList _ _ _ _ _ _;refine U3 rfl 133 _ _ rfl k 0 #[.slice (some ⟨l,o,none⟩) n c1,.slice (some ⟨m,r,none⟩) n c2,sZ p [(1,U)].length q] ?_ ?_ R.out iGr ?_ ?_
 ·kernel_rfl
 ·kernel_rfl
 ·kernel_rfl
 rw[show(#[.slice (some ⟨l,o,none⟩) n c1,.slice (some ⟨m,r,none⟩) n c2,sZ p [(1,U)].length q]:Array Uv).toList=[.slice (some ⟨l,o,none⟩) n c1,.slice (some ⟨m,r,none⟩) n c2,sZ p [(1,U)].length q] from rfl,z.out];go_wp2;refine UH (aG 2 133 rfl S.2.1 rfl uGr iGr) rfl ?_;exact⟨_,rfl,S.1,S.2.2⟩
theorem u22:(prog.underlying 23).map (·.isRow)=some false:=kR
theorem SY(k o n c i:Nat)(b:i<n)(w:Ut):(Vj 24 (.slice (some ⟨k,o,none⟩) n c) (iZ i)).run prog w=.ok (.pointer (some ⟨k,o+i,none⟩)) w:=by
 go_simp
theorem lH(k o n c i:Nat)(b:i<n)(w:Ut):(Vj 124 (.slice (some ⟨k,o,none⟩) n c) (iZ i)).run prog w=.ok (.pointer (some ⟨k,o+4*i,none⟩)) w:=by
 go_simp
theorem TO(N:Nat)(g:N<=512):∃C0:List Uv,C0.length=4*N/\∀w:Ut,(Instr.makeSlice 124 (iZ N) (iZ N)).run prog w=.ok (sZ w.heap.size N N) (w.alloc (.cells C0.toArray 49)):=by
 have c:prog.underlying 124=some (.slice 49):=kR;have l:(prog.info? 49).map (λi=>(i.size,decide (i.bytes<=4000),i.zero.isSome))=some (4,true,true):=kR;obtain⟨i,b,k⟩:=UA.1 l;simp only[We.injEq,decide_eq_true_eq]at k;obtain⟨m,n,j⟩:=k;obtain⟨z,e⟩:=Option.isSome_iff_exists.1 j;refine⟨(madeCells z.cells (N*4)).toList,by rw[UL,size_madeCells,Vv],λw=>?_⟩;have f:(i.bytes:Int)*(N:Int)<=281474976710656:=by
  have:i.bytes*N<=4000*512:=WP n g;have d:((i.bytes*N:Nat):Int)<=281474976710656:=oM;rwa[Int.natCast_mul]at d
 have:=run_make (P:=prog) w 124 49 i z c b e .i64 .i64 (N:Int) (N:Int) oM oM f oM;rw[Int.toNat_natCast,m]at this;rw[Array.toArray_toList];exact this
def Ur(N:Nat)(w:Ut)(n:Nat)(L:Nat->Bs)(e:Uv)(w':Ut):Prop:=
 ((∃j,j<n/\rq N (L j)=none)/\kZ w w'/\e=.tuple #[.slice none 0 0,.bool false]) \/
 ((∀j,j<n->(rq N (L j)).isSome=true)/\∃k C,Made w k C w'/\Rows 4 n (λj=>wn ((rq N (L j)).getD 0)) n C/\e=.tuple #[sZ k n n,.bool true])
theorem Np(O:Ord N)(n cap:Nat)(hn:n<=512)(q:Option Wv)(L:Nat->Bs)(w:Ut)(hA:Args w q n L):UK prog 121 #[(.func (.func 16) #[] #[]),.slice q n cap] w (Ret λe w'=>Ur N w n L e w'):=by
 obtain⟨C,V,M⟩:=TO n hn;go_enter func121,ntmps121;refine RG.M.enter [(0,.v (.func (.func 16) #[] #[])),(1,.v (.slice q n cap))] 35 kR ?_;intro a0 M0;repeat refine UC ?_
 refine M0.U [.x (.slice none 0 0),.x (.bool false)] [0,1] ⟨st,st,yCm⟩ ?_;intro a1 w1 M1;repeat refine UC ?_
 refine M1.t [.x 11 [] (.slice q n cap),.x 12 [(11,0)] (iZ n),⟨some 13,[(12,1)],.s 0 n n,.make 0⟩,.s 6 [(13,2)] (.s 0 n n)] [(2,C)] [] [C] [(0,.v (.func (.func 16) #[] #[])),(1,.v (.slice q n cap)),(6,.s 0 n n)] ⟨st,st,mI 0 rfl _ rfl 124 49 12 12 n rfl rfl sx sx M,st,yCm⟩ ?_;intro j2 a2 w2 M2;repeat refine UC ?_
 refine M2.U [.x (.slice q n cap),.x (iZ n),.x (iZ 0)] [0,6,14,15,16] ⟨st,st,st,yCm⟩ ?_;intro a3 w3 M3;repeat refine UC ?_
 refine Xy ?_;refine wp_loop_ghost (λm a wr=>∃(i:Nat) (C:List Uv) (S:Nat),i+m=n/\(∀j,j<i->(rq N (L j)).isSome=true)/\Rows 4 n (λj=>wn ((rq N (L j)).getD 0)) i C/\RG.M w w.heap.size [] 35 [C] [S] [(0,.v (.func (.func 16) #[] #[])),(6,.s 0 n n),(14,.v (.slice q n cap)),(15,.v (iZ n)),(16,.v (iZ i))] a wr) n ⟨0,C,_,oM,λj hj=>oM,⟨V,λj r hj=>oM⟩,M3⟩ ?_;clear M;intro m' a wr;rintro⟨i,C,S,ha,p,hR,E⟩;by_cases x:i<n
 ·obtain⟨y,W,K,hc⟩:=hA oM;subst W;obtain⟨v,hv,J⟩:=hc i x;have t:w.cell? ⟨y,0+i,none⟩=some v:=by rw[UF];exact hv
  have z:=λw' (R:BelX w.heap.size [] w w')=>EB O v (L i) w' (J.below R.below)
  obtain⟨m,Y⟩:∃m,m=(rq N (L i)).getD 0:=⟨_,rfl⟩
  cases u:(rq N (L i)).isSome with
  | true =>
   have A:∀w',BelX w.heap.size [] w w'->UK prog 16 #[v] w' (Ret λe B=>kZ w' B/\e=.tuple #[nv m,.bool true]):=λw' R=>by
    have h:=z w' R;rw[u,<-Y]at h;exact h
   have P:=hR.len;have g:0+4*i+(wn m).length<=C.length:=by rw[P];show 0+4*i+4<=4*n;omega
   obtain⟨F,l⟩:∃c,rep C (0+4*i) (wn m)=c:=⟨_,rfl⟩
   have h6:=l ▸ RG.rep_at g;have U:F.length=C.length:=l ▸ cU g;have h5:Rows 4 n (λj=>wn ((rq N (L j)).getD 0)) (i+1) F:=by
    have:=hR.next x rfl;rw[<-l,Y];exact this
   repeat refine UC ?_
   refine E.U [.x (.bool true)] [0,6,14,15,16,17] ⟨aQ rfl .lss 3 3 16 15 (iZ i) (iZ n) (.bool true) rfl rfl sx sx (λw=>kR) (gB x),yCm⟩ ?_;intro Q H d;repeat refine UC ?_
   refine VH d.ev ?_;refine WQ ?_;refine UC ?_;refine Xy ?_;repeat refine UC ?_
   refine d.U [.x (iZ i),.x (.pointer (some ⟨y,0+i,none⟩)),.x v,.x (iZ i),.x v] [0,6,7,8,14,15,16] ⟨st,bD rfl 24 14 16 rfl (.v (sZ y n cap)) (iZ i) sx sx (λμ w=>SY _ 0 _ _ i x w),bM rfl y (0+i) K U1 23 19 rfl v rfl sx t u22,st,st,yCm⟩ ?_;intro G I k;repeat refine UC ?_
   refine k.T [.x (.func (.func 16) #[] #[]),.x v,.c (.tuple #[nv m,.bool true]),.x (.tuple #[nv m,.bool true]),.x (nv m),.x (.bool true),.m 1,.u 1,.x (.bool true)] [(6,RG.z 4)] [(1,7,wn m)] [C,wn m] [0,6,7,9,10,14,15,16] ⟨st,st,clB (λ_ _=>kR) A,st,st,st,mk 1 49,RG.pt i40,st,yCm⟩ ?_;intro h0 h7 h4 D;repeat refine UC ?_
   refine D.U [.x (.bool true),.x (.bool false)] [0,6,7,9,14,15,16,28] ⟨st,st,yCm⟩ ?_;intro Z X o;repeat refine UC ?_
   refine VJ o.ev ?_;refine WQ ?_;repeat refine UC ?_
   refine o.tx [.s 29 [] (.s 0 n n),.x 30 [] (iZ i),.x 31 [] (nv m),.s 32 [(29,0),(30,1)] (.p 0 (0+4*i)),.u [(32,3),(31,2)] 0] [] [(0,4,F)] [F,wn m] [(0,.v (.func (.func 16) #[] #[])),(6,.s 0 n n),(14,.v (sZ y n cap)),(15,.v (iZ n)),(16,.v (iZ i))] kR (congrArg (λn=>[n]) U) ⟨st,st,ld u40 i40,bD rfl 124 29 30 rfl (.s 0 n n) (iZ i) sx sx (λμ w=>lH _ 0 _ _ i x w),fA 0 (0+4*i) rfl _ rfl 49 (.tmp 32) (.tmp 31) (wn m) rfl rfl sx sx g h6 i40 rfl,yCm⟩ ?_;intro T h1 f;repeat refine UC ?_
   refine f.U [.x (iZ ((i+1:Nat):Int)),.x (iZ ((i+1:Nat):Int))] [0,6,14,15,16] ⟨aP rfl .add 3 3 16 (iZ i) (iZ 1) (iZ ((i+1:Nat):Int)) rfl rfl sx (λw=>kR) (uP i 1 oM oM),st,yCm⟩ ?_;intro h8 h9 h2;show ∃n',_;exact⟨m'-1,oM,i+1,F,S,oM,λj hj=>(by
    by_cases h3:j=i
    ·rw[h3];exact u
    ·exact p j oM),h5,RG.M.drop (cs:=[F]) (cs2:=[_]) (ks:=[S]) (ks2:=[_]) h2 rfl rfl⟩
  | false =>
   have A:∀w',BelX w.heap.size [] w w'->UK prog 16 #[v] w' (Ret λe B=>kZ w' B/\e=.tuple #[nv m,.bool false]):=λw' R=>by
    have h:=z w' R;rw[u,<-Y]at h;exact h
   repeat refine UC ?_
   refine E.U [.x (.bool true)] [0,14,16,17] ⟨aQ rfl .lss 3 3 16 15 (iZ i) (iZ n) (.bool true) rfl rfl sx sx (λw=>kR) (gB x),yCm⟩ ?_;intro Q H d;repeat refine UC ?_
   refine VH d.ev ?_;refine WQ ?_;refine UC ?_;refine Xy ?_;repeat refine UC ?_
   refine d.U [.x (iZ i),.x (.pointer (some ⟨y,0+i,none⟩)),.x v,.x (iZ i),.x v] [0,8] ⟨st,bD rfl 24 14 16 rfl (.v (sZ y n cap)) (iZ i) sx sx (λμ w=>SY _ 0 _ _ i x w),bM rfl y (0+i) K U1 23 19 rfl v rfl sx t u22,st,st,yCm⟩ ?_;intro G I k;repeat refine UC ?_
   refine k.T [.x (.func (.func 16) #[] #[]),.x v,.c (.tuple #[nv m,.bool false]),.x (.tuple #[nv m,.bool false]),.x (nv m),.x (.bool false),.m 1,.u 1,.x (.bool false)] [(6,RG.z 4)] [(1,7,wn m)] [C,wn m] [10] ⟨st,st,clB (λ_ _=>kR) A,st,st,st,mk 1 49,RG.pt i40,st,yCm⟩ ?_;intro h0 h7 h4 D;repeat refine UC ?_
   refine D.U [.x (.bool false),.x (.bool true)] [28] ⟨st,st,yCm⟩ ?_;intro Z X o;repeat refine UC ?_
   refine VH o.ev ?_;repeat refine UC ?_
   refine o.U [.x (.slice none 0 0),.x (.bool false)] [4,5] ⟨st,st,yCm⟩ ?_;intro T h1 f;refine Wy ?_;refine UH (v:=.tuple #[.slice none 0 0,.bool false]) (fY 4 5 rfl (.slice none 0 0) (.bool false) f.av f.av) f.sl.defers ?_;exact⟨_,rfl,U6 ⟨⟨i,x,by simpa using u⟩,f.st.bel.below,rfl⟩⟩
 ·have f:i=n:=oM;rw[f]at p hR;repeat refine UC ?_
  refine E.U [.x (.bool false)] [6,17] ⟨aQ rfl .lss 3 3 16 15 (iZ i) (iZ n) (.bool false) rfl rfl sx sx (λw=>kR) (nG x),yCm⟩ ?_;intro Q H d;repeat refine UC ?_
  refine VJ d.ev ?_;refine wp_exit ?_;dsimp only[Exit.then,Exit.inBlock];rw[yCk rfl];repeat refine UC ?_
  refine d.U [.s (.s 0 n n),.s (.s 0 n n),.x (.bool true)] [4,5] ⟨st,st,st,yCm⟩ ?_;intro G I k;refine Wy ?_;refine UH (v:=_) (fY 4 5 rfl _ (.bool true) (k.at (s:=.s 0 n n)) k.av) k.sl.defers ?_;exact⟨_,rfl,U2 ⟨p,_,C,k.st.made (b:=0) rfl,hR,rfl⟩⟩
def prS(N:Nat)(a b:Nat->Nat):Nat->Nat
 | 0=>0
 | i+1=>sPl N (prS N a b i) (sTi N (b i) (a i))
theorem AO(k:0<N)(a b:Nat->Nat):∀i,prS N a b i<N
 | 0=>k
 | _+1=>V6 _ k
structure CbS(w W:Ut)(N k4 k5 i:Nat)(a b:Nat->Nat):Prop where
 bl:kZ w W
 r4:Row W k4 [uZ 0,uZ 0,uZ 0,uZ 0]
 r5:Row W k5 (wn (prS N a b i))
theorem CbS.grow{w W W':Ut}{d c i:Nat}{a b:Nat->Nat}(h:CbS w W N d c i a b)(k:kZ W W'):CbS w W' N d c i a b:=
 ⟨h.bl.trans (k.mono h.bl.size),h.r4.below k,h.r5.below k⟩
theorem CbS.drew{w W:Ut}{c k i:Nat}{a b:Nat->Nat}(h:CbS w W N c k i a b):CbS w W.drew N c k i a b:=⟨h.bl.drew,h.r4,h.r5⟩
theorem wn0:wn 0=[uZ 0,uZ 0,uZ 0,uZ 0]:=kR
theorem aR{W:Ut}{k o:Nat}{vs:List Uv}(h:Row W k vs)(b:k≠K):Row (W.setCells K o us) k vs:=aV h (by rw[setCells_size];exact Uy _) (aH K us o W k b)
theorem CbS.put{w W:Ut}{c k i:Nat}{a b:Nat->Nat}(h:CbS w W N c k i a b)(e:w.heap.size<=k)(d:c≠k):CbS w (W.setCells k 0 (wn (prS N a b (i+1)))) N c k (i+1) a b:=
 ⟨RG.below_setCells e _ _ _ h.bl,aR h.r4 d,h.r5.put rfl⟩
theorem Be(O:Ord N){Q:Nat->Prop}(n:Nat)(hn:n<=512)(a b:Nat->Nat)(ha:∀i,i<n->a i<N)(C:∀i,i<n->b i<N)(va vb:Uv)(w:Ut)(h1:SLq Q w va n a)(h2:SLq Q w vb n b):
 UK prog 78 #[va,vb] w (rZ w λe w'=>e=nv (prS N a b n)):=by
 obtain⟨g1,o1,c1,rfl,-,-,S,X⟩:=h1;obtain⟨r,A,c2,rfl,-,-,h4,Z⟩:=h2;obtain⟨c,t⟩:∃k,Hid (w.heap.size=k):=⟨_,rfl⟩
 obtain⟨w1,M⟩:∃w1,Hid ((w.alloc (.cells #[uZ 0,uZ 0,uZ 0,uZ 0] 49)).alloc (.cells #[uZ 0,uZ 0,uZ 0,uZ 0] 49)=w1):=⟨_,rfl⟩
 have K1:Hid (CbS w w1 N c (c+1) 0 a b):=by
  rw[<-M.out,<-t.out];have hR:=aE (w.alloc (.cells #[uZ 0,uZ 0,uZ 0,uZ 0] 49)) [uZ 0,uZ 0,uZ 0,uZ 0] 49;rw[UD]at hR;exact⟨(aC w _).alloc (by rw[UD];omega) _,(aE w _ _).alloc _,by show Row _ _ (wn 0);rw[wn0];exact hR⟩
 have f:Hid (Ord N/\(∀i,i<n->a i<N)/\(∀i,i<n->b i<N)/\(∀j,j<n->w.rangeAt g1 (o1+4*j) (wn (a j)))/\(∀j,j<n->w.rangeAt r (A+4*j) (wn (b j)))/\g1<w.heap.size/\r<w.heap.size/\w.heap.size<=c):=⟨O,ha,C,X,Z,S,h4,by rw[t.out];exact Uy _⟩
 obtain⟨d,h5,U⟩:=UA.1 u40;have HD:Hid (prog.underlying 49=some d/\d.isRow=true):=⟨h5,U⟩
 clear O ha C X Z S h4 h5 U;go_enter func78,ntmps78;go_wp2;rw[M.out,t.out];clear M t;go_loopg [10] n (λm s10 W=>∃i:Nat,i+m=n/\s10=iZ i/\Hid (CbS w W N c (c+1) i a b))
 case atStart=>exact⟨0,oM,rfl,K1⟩
 case round =>
  clear K1;obtain⟨i,h9,rfl,E⟩:=hrel;by_cases R:i<n
  ·have h7:(i:Int)<(n:Int):=oM;have h8:(i:Int)<=600:=oM;have HL:=Hid.mk' R;have hc:=lH g1 o1 n c1 i R;have B0:Hid (wr.rangeAt g1 (o1+4*i) (wn (a i))):=RG.range_below (f.2.2.2.1 i R) E.bl f.2.2.2.2.2.1;obtain⟨L,z⟩:∃k,Hid (wr.heap.size=k):=⟨_,rfl⟩
   obtain⟨P,H⟩:∃P,Hid (wr.alloc (.cells #[uZ 0,uZ 0,uZ 0,uZ 0] 49)=P):=⟨_,rfl⟩
   obtain⟨W2,I⟩:∃W2,Hid (P.setCells L 0 (wn (a i))=W2):=⟨_,rfl⟩
   have F1:Hid (Row P L [uZ 0,uZ 0,uZ 0,uZ 0]/\kZ wr P):=by rw[<-H.out,<-z.out];exact⟨aE wr _ _,aC wr _⟩
   have F2:Hid (Row W2 L (wn (a i))/\CbS w W2 N c (c+1) i a b):=by
    rw[<-I.out];exact⟨F1.1.put rfl,E.grow (RG.below_setCells (by rw[z.out];exact Uy _) _ _ _ F1.2)⟩
   obtain⟨va,h3⟩:∃v,Hid (U5 (wn (a i)).toArray=v):=⟨_,rfl⟩
   have HO:Hid ((wn (a i)).toArray.all (·.oneCell')=true):=aM _;clear E;go_wp2_with (first|(refine U8 rfl 49 _ rfl g1 (o1+4*i) ?_ (wn (a i)) d ?_ ?_ ?_ ?_ ?_;rfl;exact B0.out;exact HD.1;exact HD.2;exact i40;rw[h3.out])|(refine bG (v:=jZ L) (w':=P) rfl (.alloc 49) rfl ?_ ?_;(rw[<-H.out,<-z.out];kernel_rfl))|(refine U3 rfl 49 _ _ rfl L 0 (wn (a i)).toArray ?_ ?_ ?_ ?_ ?_ ?_;rfl;exact h3.symm;exact F1.1.2.2;exact i40;exact HO.out;rw[show(wn (a i)).toArray.toList=wn (a i) from rfl,I.out])|fail)
   clear H I z F1 HO;obtain⟨s,J⟩:∃s,Hid (prS N a b i=s):=⟨_,rfl⟩
   have HN:Hid (s<N/\a i<N/\b i<N):=⟨by rw[<-J.out];exact AO f.1.pos a b i,f.2.1 i R,f.2.2.1 i R⟩
   obtain⟨p,K⟩:∃p,Hid (sTi N (b i) (a i)=p):=⟨_,rfl⟩
   obtain⟨q,l⟩:∃q,Hid (sPl N s p=q):=⟨_,rfl⟩
   have HP:Hid (p<N):=by show p<N;rw[<-K.out];exact V6 _ f.1.pos
   have HQ:Hid (prS N a b (i+1)=q):=by show _=_;rw[<-l.out,<-K.out,<-J.out];rfl
   have hT:=λW=>iJ f.1 (b i) (a i) HN.2.2 HN.2.1 W
   have G:=λW=>mX f.1 s p HN.1 HP.out W
   rw[K.out]at hT;rw[l.out]at G;have h6:∀W,kZ w W->W.rangeAt r (A+4*i) (wn (b i)):=λW B=>RG.range_below (f.2.2.2.2.1 i R) B f.2.2.2.2.2.2.1
   have h0:∀W,CbS w W N c (c+1) i a b->W.rangeAt (c+1) 0 (wn s):=λW h=>by rw[<-J.out];exact h.r5.2.1
   refine(gwL [pE (nv s),pE (.iface 49 (nv s)),pE (.slice (some ⟨r,A,none⟩) n c2),pE (iZ i),pE (.pointer (some ⟨r,A+4*i,none⟩)),pE (nv (b i)),pE (.iface 49 (nv (b i))),pE (nv (a i)),pE (nv p),pE (nv q)] (λW=>CbS w W N c (c+1) i a b/\Row W L (wn (a i))) (λW W' C h=>⟨h.1.grow C,h.2.below C⟩)).last 10 kR kR kR ⟨
    iE 49 5 (c+1) 0 (wn s) u40 i40 rfl (λW B=>h0 W B.1) (λ_=>rfl),
    rE 0 15 (nv s) (.iface 49 (nv s)) (λx W h=>h) (λ_=>rfl),
    gO 1 (.slice (some ⟨r,A,none⟩) n c2),
    gO 6 (iZ i),
    A4 2 17 3 18 (.slice (some ⟨r,A,none⟩) n c2) (iZ i) (.pointer (some ⟨r,A+4*i,none⟩)) (Vj 124 (.slice (some ⟨r,A,none⟩) n c2) (iZ i)) (lH r A n c2 i HL.out) (λx W h=>h) (λx W h=>h) (λ_=>rfl),
    gLr 4 19 (λW B=>h6 W B.1.bl) u40 i40,
    rE 5 20 (nv (b i)) (.iface 49 (nv (b i))) (λx W h=>h) (λ_=>rfl),
    iE 49 7 L 0 (wn (a i)) u40 i40 rfl (λW B=>B.2.2.1) (λ_=>rfl),
    oV 49 6 21 7 22 (pE (nv (b i))) 79 (λx W h=>⟨_,h,rfl⟩) (λx y W hx g B=>by
     obtain rfl:x=nv (b i):=hx;obtain rfl:y=nv (a i):=g;refine(hT W).mono ?_;rintro e W' ⟨u,rfl,C,rfl⟩;exact⟨_,rfl,C,rfl⟩),
    oV 49 1 16 8 23 (pE (nv s)) 80 (λx W h=>⟨_,h,rfl⟩) (λx y W hx g B=>by
     obtain rfl:x=nv s:=hx;obtain rfl:y=nv p:=g;refine(G W).mono ?_;rintro e W' ⟨u,rfl,C,rfl⟩;exact⟨_,rfl,C,rfl⟩),yCm⟩ ⟨F2.2.drew,F2.1⟩ ?_
   intro V W3 Y F;have T:V 9=nv q:=Y 9 dC;obtain⟨D,g⟩:∃D,Hid (W3.setCells (c+1) 0 (wn q)=D):=⟨_,rfl⟩
   have K4:Hid (CbS w D N c (c+1) (i+1) a b):=by
    have h:=F.1.put (by have:=f.2.2.2.2.2.2.2;omega) oM;rw[HQ.out,g.out]at h;exact h
   have HT:Hid (W3.there (c+1) 0 4):=F.1.r5.2.2;dsimp only[bU,VO,Xn,Xo];simp only[UR,Uu,Uw,Ux];obtain⟨vq,o⟩:∃v,Hid (nv q=v):=⟨_,rfl⟩
   rw[T,o.out];clear Y F T F2 hT G h6 h0;generalize V 0=s0;generalize V 1=s1;generalize V 2=s2;generalize V 3=s3;generalize V 4=s4;generalize V 5=s5;generalize V 6=s6;generalize V 7=s7;generalize V 8=s8;go_wp2_with (first|(refine U3 rfl 49 _ _ rfl (c+1) 0 (wn q).toArray ?_ ?_ ?_ ?_ ?_ ?_;rfl;exact o.symm;exact HT.out;exact i40;exact aM q;rw[show(wn q).toArray.toList=wn q from rfl,g.out])|fail)
   go_roundg (gk-1)
   case measure=>omega
   case rel=>exact⟨i+1,oM,rfl,K4⟩
  ·have h7:¬(i:Int)<(n:Int):=oM;obtain rfl:i=n:=oM;obtain⟨q,l⟩:∃q,Hid (prS N a b i=q):=⟨_,rfl⟩
   obtain⟨D,g⟩:∃D,Hid (wr.setCells c 0 (wn q)=D):=⟨_,rfl⟩
   have R5:Hid (wr.rangeAt (c+1) 0 (wn q)/\wr.there c 0 4):=⟨by rw[<-l.out];exact E.r5.2.1,E.r4.2.2⟩
   have K4:Hid (kZ w D/\Row D c (wn q)):=by
    rw[<-g.out];exact⟨RG.below_setCells f.2.2.2.2.2.2.2 _ _ _ E.bl,E.r4.put rfl⟩
   obtain⟨vq,o⟩:∃v,Hid (nv q=v):=⟨_,rfl⟩
   clear E;go_wp2_with (first|(refine U8 rfl 49 _ rfl (c+1) 0 ?_ (wn q) d ?_ ?_ ?_ ?_ ?_;rfl;exact R5.1;exact HD.1;exact HD.2;exact i40;rw[show U5 (wn q).toArray=vq from o.out])|(refine U3 rfl 49 _ _ rfl c 0 (wn q).toArray ?_ ?_ ?_ ?_ ?_ ?_;rfl;exact o.symm;exact R5.2;exact i40;exact aM q;rw[show(wn q).toArray.toList=wn q from rfl,g.out])|fail)
   refine UH (aG 4 49 rfl K4.2 rfl u40 i40) rfl ?_;exact⟨_,rfl,K4.1,by rw[l.out];rfl⟩
theorem AC:(prog.underlying 131).map (·.isRow)=some false:=kR
structure CbM(w W:Ut)(v:Uv)(l:List (Nat × Bs)):Prop where
 bl:kZ w W
 sm:SmZ w.heap.size W v l
theorem CbM.grow{w W W':Ut}{v:Uv}(h:CbM w W v l)(k:kZ W W'):CbM w W' v l:=⟨h.bl.trans (k.mono h.bl.size),h.sm.grow k⟩
theorem CbM.drew{w W:Ut}{v:Uv}(h:CbM w W v l):CbM w W.drew v l:=⟨h.bl.drew,h.sm.grow ⟨rfl,rfl,rfl,Uy _,λ_ _=>rfl⟩⟩
theorem Im{B:Nat}{W:Ut}{v:Uv}(h:SmZ B W v l):SmZ 0 W v l:=by
 rcases h with h|⟨g,c,b,d,-,k⟩
 ·exact U6 h
 ·exact U2 ⟨g,c,b,d,Wz _,k⟩
theorem JR(O:Ord N){Q:Nat->Prop}(n c:Nat)(M:0<n)(S:0<c)(hn:n<=512)(h0:c*n<=400)(a:Nat->Nat)(T:Nat->List (Nat × Bs))(ha:∀i,i<n->a i<N)(hT:∀i,i<n->TOk N (T i))(hl:∀i,i<n->(T i).length=c)(va vb:Uv)(w:Ut)(h1:SLq Q w va n a)(J:GLq Q w vb n T):
 UK prog 139 #[va,vb] w (rZ w λe w'=>Sm w.heap.size w' e (dJ N a T n)):=by
 obtain⟨L,o1,c1,rfl,-,-,R,Y⟩:=h1;obtain⟨b,f,c2,rfl,-,-,h5,h4⟩:=J;have K1:Hid (CbM w w (.slice none 0 0) (dJ N a T 0)):=⟨UT _ _,U6 ⟨rfl,rfl⟩⟩
 have k:Hid (Ord N/\(∀i,i<n->a i<N)/\(∀i,i<n->TOk N (T i))/\(∀i,i<n->(T i).length=c)/\(∀j,j<n->w.rangeAt L (o1+4*j) (wn (a j)))/\(∀j,j<n->∃x,w.cell? ⟨b,f+j,none⟩=some x/\SmQ Q w x (T j))/\L<w.heap.size/\b<w.heap.size/\0<c/\c*n<=400/\0<n):=⟨O,ha,hT,hl,Y,h4,R,h5,S,h0,M⟩
 obtain⟨d,h6,X⟩:=UA.1 u40;have HD:Hid (prog.underlying 49=some d/\d.isRow=true):=⟨h6,X⟩
 go_enter func139,ntmps139;go_wp2;go_loopg [5,10] n (λm s5 s10 W=>∃i:Nat,i+m=n/\s10=iZ i/\Hid (CbM w W s5 (dJ N a T i)))
 case atStart=>exact⟨0,oM,rfl,K1⟩
 case round =>
  obtain⟨i,h9,rfl,K⟩:=hrel;by_cases s:i<n
  ·have h3:(i:Int)<(n:Int):=oM;have B:=Hid.mk' s;have hc:=lH L o1 n c1 i s;have B0:=mk1 (RG.range_below (k.2.2.2.2.1 i s) K.bl k.2.2.2.2.2.2.1);obtain⟨t,r⟩:=hE (wr.heap.size);obtain⟨I,C⟩:=hE (wr.alloc (.cells #[uZ 0,uZ 0,uZ 0,uZ 0] 49));obtain⟨W2,F⟩:=hE (I.setCells t 0 (wn (a i)));have F1:Hid (Row I t [uZ 0,uZ 0,uZ 0,uZ 0]/\kZ wr I):=by rw[<-C.out,<-r.out];exact⟨aE wr _ _,aC wr _⟩
   have F2:Hid (Row W2 t (wn (a i))/\CbM w W2 u5 (dJ N a T i)):=by
    rw[<-F.out];exact⟨F1.1.put rfl,K.grow (RG.below_setCells (by rw[r.out];exact Uy _) _ _ _ F1.2)⟩
   obtain⟨va,G⟩:=hE (U5 (wn (a i)).toArray);have HO:Hid ((wn (a i)).toArray.all (·.oneCell')=true):=aM _;go_wp2_with (first|(refine U8 rfl 49 _ rfl L (o1+4*i) ?_ (wn (a i)) d ?_ ?_ ?_ ?_ ?_;rfl;exact B0.out;exact HD.1;exact HD.2;exact i40;rw[G.out])|(refine bG (v:=jZ t) (w':=I) rfl (.alloc 49) rfl ?_ ?_;(rw[<-C.out,<-r.out];kernel_rfl))|(refine U3 rfl 49 _ _ rfl t 0 (wn (a i)).toArray ?_ ?_ ?_ ?_ ?_ ?_;rfl;exact G.symm;exact F1.1.2.2;exact i40;exact HO.out;rw[show(wn (a i)).toArray.toList=wn (a i) from rfl,F.out])|fail)
   obtain⟨x,P,U⟩:=k.2.2.2.2.2.1 i s;have HX:=mk2 P U;obtain⟨l,o⟩:=hE (dJ N a T i);have E:dJ N a T (i+1)=l++(T i).map (tmT N (a i)):=by rw[<-o.out];rfl
   have h7:l.length=c*i:=by rw[<-o.out];exact eU N a i λj hj=>k.2.2.2.1 j oM
   have h8:c*i+c<=c*n:=by have:=XU c (Nat.succ_le_of_lt s);rwa[Nat.mul_succ]at this
   have D:Hid (l.length<=500/\(T i).length<=500/\0<(T i).length/\TOk N l):=⟨by have:=k.2.2.2.2.2.2.2.2.2.1;omega,by rw[k.2.2.2.1 i s];have:=k.2.2.2.2.2.2.2.2.2.1;omega,by rw[k.2.2.2.1 i s];exact k.2.2.2.2.2.2.2.2.1,by rw[<-o.out];exact oH k.1.pos i λj hj=>k.2.2.1 j oM⟩
   have HE:Hid (dJ N a T (i+1)=l++(T i).map (tmT N (a i))):=E;rw[o.out]at F2;refine(gwL [pE u5,pE (.iface 131 u5),pE (.slice (some ⟨b,f,none⟩) n c2),pE (iZ i),pE (.pointer (some ⟨b,f+1*i,none⟩)),pE x,pE (.iface 131 x),pE (nv (a i)),pM (w.heap.size<=·) ((T i).map (tmT N (a i))),pM (w.heap.size<=·) (l++(T i).map (tmT N (a i))),pM (w.heap.size<=·) (l++(T i).map (tmT N (a i)))] (λW=>CbM w W u5 l/\Row W t (wn (a i))) (λW W' A h=>⟨h.1.grow A,h.2.below A⟩)).draws kR kR ⟨
    gO 5 u5,
    rE 0 15 u5 (.iface 131 u5) (λx W h=>h) (λ_=>rfl),
    gO 1 (.slice (some ⟨b,f,none⟩) n c2),
    gO 6 (iZ i),
    A4 2 17 3 18 (.slice (some ⟨b,f,none⟩) n c2) (iZ i) (.pointer (some ⟨b,f+1*i,none⟩)) (Vj 129 (.slice (some ⟨b,f,none⟩) n c2) (iZ i)) (atS b f n c2 i B.out) (λx W h=>h) (λx W h=>h) (λ_=>rfl),
    fG 131 4 19 b (f+1*i) x AC (λx W h=>h) (λW q=>by rw[Xj,q.1.bl.cell (p:=⟨b,f+i,none⟩) k.2.2.2.2.2.2.2.1];exact HX.1) (λ_=>rfl),
    rE 5 20 x (.iface 131 x) (λx W h=>h) (λ_=>rfl),
    iE 49 7 t 0 (wn (a i)) u40 i40 rfl (λW q=>q.2.2.1) (λ_=>rfl),
    oV 131 6 21 7 22 (pE x) 164 (λx W h=>⟨_,h,rfl⟩) (λz y W hx H q=>by
     obtain rfl:z=x:=hx;obtain rfl:y=nv (a i):=H;refine(eG k.1 (k.2.1 i B.out) 0 z (T i) (by have:=D.2.1;omega) (k.2.2.1 i B.out).szm (k.2.2.1 i B.out).lt W (HX.2.sm.grow q.1.bl)).mono ?_;rintro e W' ⟨u,rfl,A,V⟩;exact⟨_,rfl,A,V.q.mono λg Z=>UE q.1.bl.size Z⟩),
    oV 131 1 16 8 23 (pE u5) 65 (λx W h=>⟨_,h,rfl⟩) (λz y W hx H q=>by
     obtain rfl:z=u5:=hx;have H:=H;refine(cO 0 z y l ((T i).map (tmT N (a i))) (by rw[UB,US];have:=D.2.2.1;omega) D.1 (by rw[US];exact D.2.1) D.2.2.2.sz ((k.2.2.1 i B.out).tm k.1.pos (a i)).sz W (Im q.1.sm) (U2 H.sm)).mono ?_;rintro e W' ⟨u,rfl,A,V⟩;exact⟨_,rfl,A,V.q.mono λg Z=>UE q.1.bl.size Z⟩),
    DV 9 24 id (λx W h=>h),yCm⟩ ⟨F2.2.drew,F2.1⟩ ?_
   intro V W3 Z H;have q:Hid (CbM w W3 (V 10) (dJ N a T (i+1))):=⟨H.1.bl,U2 (by rw[HE.out];exact Z 10 (Xt (VX kR)))⟩
   dsimp only[bU,VO];go_wp2;go_roundg (gk-1)
   case measure=>omega
   case rel=>exact⟨i+1,oM,rfl,q⟩
  ·have h3:¬(i:Int)<(n:Int):=oM;obtain rfl:i=n:=oM;have q:Hid (kZ w wr/\Sm w.heap.size wr u5 (dJ N a T i)):=⟨K.bl,by
    rcases K.sm with⟨-,h⟩|h
    ·exfalso;have:=eU N a i k.2.2.2.1;rw[h]at this;have J:=yAJ k.2.2.2.2.2.2.2.2.1 k.2.2.2.2.2.2.2.2.2.2;rw[<-this]at J;exact absurd J (Nat.lt_irrefl _)
    ·exact h⟩
   go_wp2;go_ret;exact⟨_,rfl,q.1,q.2⟩
theorem rSc:(prog.underlying 49).map (·.isRow)=some true:=u40
theorem nSc:(prog.info? 49).map (·.size)=some 4:=i40
def nK(N x y n:Nat)(a:Nat->Nat)(i:Nat):Nat:=sPl N (sTi N (a i) x) (sTi N (a (n+i)) y)
structure FdS(w W:Ut)(K k4 k5 n i x y:Nat)(f:Nat->Nat):Prop where
 ar:Ar w W K 4 n i (λj=>wn (f j))
 r4:Row W k4 (wn x)
 r5:Row W k5 (wn y)
theorem FdS.grow{w W W':Ut}{c b n i x:Nat}{f:Nat->Nat}(h:FdS w W K c b n i x y f)(k:kZ W W'):FdS w W' K c b n i x y f:=⟨h.ar.grow k,h.r4.below k,h.r5.below k⟩
theorem FdS.drew{w W:Ut}{b k n i x:Nat}{f:Nat->Nat}(h:FdS w W K b k n i x y f):FdS w W.drew K b k n i x y f:=h.grow ⟨rfl,rfl,rfl,Uy _,λ_ _=>rfl⟩
theorem FdS.put{w W:Ut}{b k n i x:Nat}{f:Nat->Nat}(h:FdS w W K b k n i x y f)(c:w.heap.size<=K)(g:i<n)(d:b≠K)(e:k≠K):FdS w (W.setCells K (4*i) (wn (f i))) K b k n (i+1) x y f:=
 ⟨h.ar.put c g (λ_ _=>rfl),aR h.r4 d,aR h.r5 e⟩
theorem Oc(a b:Nat)(h:a+b<4611686018427387904)(w:Ut):(binOp .add 3 (iZ a) (iZ b)).run prog w=.ok (iZ ((a+b:Nat):Int)) w:=by
 have c:(a:Int)+(b:Int)<4611686018427387904:=oM;have d:-4611686018427387904<(a:Int)+(b:Int):=oM;have k:VY.wrap ((a:Int)+(b:Int))=((a+b:Nat):Int):=by rw[Yp];omega
 go_simp
theorem SS(w:Ut)(x y:Nat):∃k,Hid ((w.alloc (.cells (wn x).toArray 49)).alloc (.cells (wn y).toArray 49)=k)/\kZ w k/\Row k w.heap.size (wn x)/\Row k (w.heap.size+1) (wn y)/\k.heap.size=w.heap.size+2:=by
 have hR:=aE (w.alloc (.cells (wn x).toArray 49)) (wn y) 49;rw[UD]at hR;exact⟨_,Hid.mk' rfl,(aC w _).alloc (by rw[UD];omega) _,(aE w _ _).alloc _,hR,by rw[UD,UD]⟩
theorem JB(O:Ord N){Q:Nat->Prop}(n:Nat)(hn:n<=500)(a:Nat->Nat)(x y:Nat)(hx:x<N)(B:y<N)(ha:∀i,i<n+n->a i<N)(va:Uv)(w:Ut)(h1:SLq Q w va (n+n) a):
 UK prog 160 #[va,nv x,nv y] w (rZ w λe w'=>SLq (w.heap.size<=·) w' e n (nK N x y n a)):=by
 obtain⟨b,d,c1,rfl,-,-,Z,h5⟩:=h1;obtain⟨m,hm⟩:∃m,Hid (n+n=m):=⟨_,rfl⟩
 have hq:(m:Int).tdiv 2=(n:Int):=by rw[<-hm.out,Yd oM];omega
 obtain⟨D,h8,S,J,H,I⟩:=SS w x y;obtain⟨C0,h2,hc⟩:=Cj uS4 iS4 n oM;have r:=hc D;obtain⟨K,hK⟩:∃K,Hid (D.heap.size=K):=⟨_,rfl⟩
 obtain⟨w3,G⟩:∃w3,Hid (D.alloc (.cells C0.toArray 49)=w3):=⟨_,rfl⟩
 have Y:Ar D w3 K 4 n 0 (λj=>wn (nK N x y n a j)):=Ar.new _ h2 G.out hK.out;rw[G.out,hK.out]at r;obtain⟨c,l⟩:∃k,Hid (w.heap.size=k):=⟨_,rfl⟩
 rw[l.out]at J H I;have HK:Hid (K=c+2/\w.heap.size<=c):=⟨by rw[<-hK.out,I],by rw[l.out];exact Uy _⟩
 have K1:Hid (FdS w w3 K c (c+1) n 0 x y (nK N x y n a)):=⟨⟨S.trans (Y.bl.mono S.size),Y.lt,Y.th,λj hj=>absurd hj (Ys _)⟩,J.below Y.bl,H.below Y.bl⟩
 have g:Hid (Ord N/\x<N/\y<N/\(∀i,i<n+n->a i<N)/\(∀j,j<n+n->w.rangeAt b (d+4*j) (wn (a j)))/\b<w.heap.size):=⟨O,hx,B,ha,h5,Z⟩
 obtain⟨vx,h4⟩:∃v,Hid (nv x=v):=⟨_,rfl⟩
 obtain⟨vy,h0⟩:∃v,Hid (nv y=v):=⟨_,rfl⟩
 obtain⟨o,U⟩:∃o,Hid (w.alloc (.cells (wn x).toArray 49)=o):=⟨_,rfl⟩
 have B1:Hid ((Vh 49 vx).run prog w=.ok (jZ c) o):=by rw[<-h4.out,<-U.out,<-l.out];exact boxS x w
 have B2:Hid ((Vh 49 vy).run prog o=.ok (.pointer (some ⟨c+1,0,none⟩)) D):=by
  have h:=boxS y o;rw[show o.heap.size=c+1 by rw[<-U.out,UD,l.out]]at h;have e:o.alloc (.cells (wn y).toArray 49)=D:=by rw[<-U.out];exact h8.out
  rw[e]at h;rw[<-h0.out];exact h
 rw[h4.out,h0.out,hm.out];clear O hx B ha h5 Z S J H I Y h2 hc hK G l h8;go_enter func160,ntmps160;go_wp2_with (first|(refine aF (u:=vx) (v:=jZ c) (w':=o) rfl 49 (.tmp 1) rfl ?_ ?_ ?_;rfl;exact B1.out)|(refine aF (u:=vy) (v:=.pointer (some ⟨c+1,0,none⟩)) (w':=D) rfl 49 (.tmp 2) rfl ?_ ?_ ?_;rfl;exact B2.out)|fail)
 clear r B1 B2 hq;go_loopg [15] n (λm s15 W=>∃i:Nat,i+m=n/\s15=iZ i/\Hid (FdS w W K c (c+1) n i x y (nK N x y n a)))
 case atStart=>exact⟨0,oM,rfl,K1⟩
 case round =>
  clear K1;obtain⟨i,hs,rfl,X⟩:=hrel;by_cases hi:i<n
  ·have hk:(i:Int)<(n:Int):=oM;have hr:(i:Int)<=600:=oM;have HL:=Hid.mk' hi;have KP:=X;clear X;go_wp2_with fail
   obtain⟨p1,F⟩:∃p,Hid (sTi N (a i) x=p):=⟨_,rfl⟩
   obtain⟨p2,M⟩:∃p,Hid (sTi N (a (n+i)) y=p):=⟨_,rfl⟩
   obtain⟨q,h7⟩:∃q,Hid (sPl N p1 p2=q):=⟨_,rfl⟩
   have HP:Hid (p1<N/\p2<N):=⟨by rw[<-F.out];exact V6 _ g.1.pos,by rw[<-M.out];exact V6 _ g.1.pos⟩
   have HQ:Hid (nK N x y n a i=q):=by show _=_;rw[<-h7.out,<-F.out,<-M.out];rfl
   have P:=λW=>iJ g.1 (a i) x (g.2.2.2.1 i oM) g.2.1 W
   have R:=λW=>iJ g.1 (a (n+i)) y (g.2.2.2.1 (n+i) oM) g.2.2.1 W
   have E:=λW=>mX g.1 p1 p2 HP.1 HP.2 W
   rw[F.out]at P;rw[M.out]at R;rw[h7.out]at E;have h9:∀W,kZ w W->W.rangeAt b (d+4*i) (wn (a i)):=λW f=>RG.range_below (g.2.2.2.2.1 i oM) f g.2.2.2.2.2
   have hg:∀W,kZ w W->W.rangeAt b (d+4*(n+i)) (wn (a (n+i))):=λW f=>RG.range_below (g.2.2.2.2.1 (n+i) oM) f g.2.2.2.2.2
   have hl:i<m:=by rw[<-hm.out];omega
   have h3:n+i<m:=by rw[<-hm.out];omega
   refine(gwL [pE (sZ K n n),pE (iZ i),pE (.slice (some ⟨b,d,none⟩) m c1),pE (iZ i),pE (.pointer (some ⟨b,d+4*i,none⟩)),pE (nv (a i)),pE (.iface 49 (nv (a i))),pE (nv x),pE (nv p1),pE (.iface 49 (nv p1)),pE (.slice (some ⟨b,d,none⟩) m c1),pE (sZ K n n),pE (iZ n),pE (iZ i),pE (iZ ((n+i:Nat):Int)),pE (.pointer (some ⟨b,d+4*(n+i),none⟩)),pE (nv (a (n+i))),pE (.iface 49 (nv (a (n+i)))),pE (nv y),pE (nv p2),pE (nv q),pE (.pointer (some ⟨K,0+4*i,none⟩))] (λW=>FdS w W K c (c+1) n i x y (nK N x y n a)) (λW W' T h=>h.grow T)).last 22 kR kR kR ⟨
    gO 7 (sZ K n n),
    gO 8 (iZ i),
    gO 0 (.slice (some ⟨b,d,none⟩) m c1),
    gO 8 (iZ i),
    A4 2 20 3 21 (.slice (some ⟨b,d,none⟩) m c1) (iZ i) (.pointer (some ⟨b,d+4*i,none⟩)) (Vj 124 (.slice (some ⟨b,d,none⟩) m c1) (iZ i)) (lH b d m c1 i hl) (λx W h=>h) (λx W h=>h) (λ_=>rfl),
    gLr 4 22 (λW f=>h9 W f.ar.bl) rSc nSc,
    rE 5 23 (nv (a i)) (.iface 49 (nv (a i))) (λx W h=>h) (λ_=>rfl),
    iE 49 4 c 0 (wn x) rSc nSc rfl (λW f=>f.r4.2.1) (λ_=>rfl),
    oV 49 6 24 7 25 (pE (nv (a i))) 79 (λx W h=>⟨_,h,rfl⟩) (λz u W hx B f=>by
     obtain rfl:z=nv (a i):=hx;obtain rfl:u=nv x:=B;refine(P W).mono ?_;rintro e W' ⟨u,rfl,T,rfl⟩;exact⟨_,rfl,T,rfl⟩),
    rE 8 26 (nv p1) (.iface 49 (nv p1)) (λx W h=>h) (λ_=>rfl),
    gO 0 (.slice (some ⟨b,d,none⟩) m c1),
    gO 7 (sZ K n n),
    rE 11 29 (sZ K n n) (iZ n) (λx W h=>h) (λ_=>rfl),
    gO 8 (iZ i),
    Jq .add 3 3 30 31 rfl (λa W s=>⟨_,_,iZ ((n+i:Nat):Int),s.n 12 30 kR kR,s.n 13 31 kR kR,kR,Oc n i oM W,rfl⟩),
    A4 10 28 14 32 (.slice (some ⟨b,d,none⟩) m c1) (iZ ((n+i:Nat):Int)) (.pointer (some ⟨b,d+4*(n+i),none⟩)) (Vj 124 (.slice (some ⟨b,d,none⟩) m c1) (iZ ((n+i:Nat):Int))) (lH b d m c1 (n+i) h3) (λx W h=>h) (λx W h=>h) (λ_=>rfl),
    gLr 15 33 (λW f=>hg W f.ar.bl) rSc nSc,
    rE 16 34 (nv (a (n+i))) (.iface 49 (nv (a (n+i)))) (λx W h=>h) (λ_=>rfl),
    iE 49 5 (c+1) 0 (wn y) rSc nSc rfl (λW f=>f.r5.2.1) (λ_=>rfl),
    oV 49 17 35 18 36 (pE (nv (a (n+i)))) 79 (λx W h=>⟨_,h,rfl⟩) (λz u W hx B f=>by
     obtain rfl:z=nv (a (n+i)):=hx;obtain rfl:u=nv y:=B;refine(R W).mono ?_;rintro e W' ⟨u,rfl,T,rfl⟩;exact⟨_,rfl,T,rfl⟩),
    oV 49 9 27 19 37 (pE (nv p1)) 80 (λx W h=>⟨_,h,rfl⟩) (λz u W hx B f=>by
     obtain rfl:z=nv p1:=hx;obtain rfl:u=nv p2:=B;refine(E W).mono ?_;rintro e W' ⟨u,rfl,T,rfl⟩;exact⟨_,rfl,T,rfl⟩),
    A4 0 18 1 19 (sZ K n n) (iZ i) (.pointer (some ⟨K,0+4*i,none⟩)) (Vj 124 (sZ K n n) (iZ i)) (lH K 0 n n i HL.out) (λx W h=>h) (λx W h=>h) (λ_=>rfl),yCm⟩ KP.drew ?_
   intro V W3 L C;have A:V 20=nv q:=L 20 dC;have s:V 21=.pointer (some ⟨K,0+4*i,none⟩):=L 21 dC;obtain⟨W4,h6⟩:∃W4,Hid (W3.setCells K (4*i) (wn q)=W4):=⟨_,rfl⟩
   have K4:Hid (FdS w W4 K c (c+1) n (i+1) x y (nK N x y n a)):=by
    have h:=C.put (by have:=HK.out;omega) hi (by have:=HK.out;omega) (by have:=HK.out;omega);rw[HQ.out,h6.out]at h;exact h
   have HT:Hid (W3.there K (4*i) 4):=λt ht=>by
    have:=C.ar.th (4*i+t) oM;rwa[UF]at this
   dsimp only[bU,VO,Xn,Xo];simp only[UR,Uu,Uw,Ux];obtain⟨vq,he⟩:∃v,Hid (nv q=v):=⟨_,rfl⟩
   rw[A,s,he.out,UF];clear L C A s KP P R E hg h9;generalize V 0=s0;generalize V 1=s1;generalize V 2=s2;generalize V 3=s3;generalize V 4=s4;generalize V 5=s5;generalize V 6=s6;generalize V 7=s7;generalize V 8=s8;generalize V 9=s9;generalize V 10=s10;generalize V 11=s11;generalize V 12=s12;generalize V 13=s13;generalize V 14=s14;generalize V 15=s15;generalize V 16=s16;generalize V 17=s17;generalize V 18=s18;generalize V 19=s19;go_wp2_with (first|(refine U3 rfl 49 _ _ rfl K (4*i) (wn q).toArray ?_ ?_ ?_ ?_ ?_ ?_;rfl;exact he.symm;exact HT.out;exact i40;exact aM q;rw[show(wn q).toArray.toList=wn q from rfl,h6.out])|fail)
   go_roundg (gk-1)
   case measure=>omega
   case rel=>exact⟨i+1,oM,rfl,K4⟩
  ·have hk:¬(i:Int)<(n:Int):=oM;obtain rfl:i=n:=oM;have K4:Hid (kZ w wr/\SLq (w.heap.size<=·) wr (sZ K i i) i (nK N x y i a)):=⟨X.ar.bl,K,0,i,rfl,Uy _,by have:=HK.out;omega,X.ar.lt,λj hj=>by rw[UF];exact X.ar.rw j hj⟩
   clear X;go_wp2;go_ret;exact⟨_,rfl,K4.1,K4.2⟩
end
section
open Go.RowKit Go.Sort Go.Deep
theorem aN{w k:Ut}{T:Vb}(b:Hid (w.heap.size=g))(c:Hid (w.alloc (.cells z.toArray T)=k)):Hid (kZ w k/\Row k g z):=by
 rw[<-c.out,<-b.out];exact⟨aC _ _,aE w _ _⟩
theorem EU{w k b:Ut}{vs:List Uv}{T:Vb}(d:Hid (w.heap.size=g))(e:Hid (w.alloc (.cells z.toArray T)=k))(f:Hid (k.setCells g 0 vs=b))(c:vs.length=z.length):Hid (k.there g 0 vs.toArray.size/\kZ w b/\Row b g vs):=by
 have h:=(aN d e).out;rw[<-f.out];exact⟨by rw[VE,c];exact h.2.2.2,RG.below_setCells (by rw[d.out];exact Uy _) _ _ _ h.1,h.2.put c⟩
structure Kz(Z:Nat->Prop)(w w':Ut):Prop where
 os:w'.os=w.os
 tape:w'.tape=w.tape
 output:w'.output=w.output
 size:w.heap.size<=w'.heap.size
 block:∀g,g<w.heap.size->Z g->w'.heap[g]? = w.heap[g]?
section
variable {Z:Nat->Prop}{w w' W:Ut}{k o:Nat}{vs:List Uv}
theorem Kz.of(h:kZ w w'):Kz Z w w':=⟨h.os,h.tape,h.output,h.size,λg k _=>h.block g k⟩
theorem Kz.trans(h:Kz Z w w')(k:Kz Z w' W):Kz Z w W:=⟨k.os.trans h.os,k.tape.trans h.tape,k.output.trans h.output,UE h.size k.size,λg b c=>(k.block g (Uz b h.size) c).trans (h.block g b c)⟩
theorem Kz.bel(h:Kz Z w w')(b:∀g,Z g):kZ w w':=⟨h.os,h.tape,h.output,h.size,λg k=>h.block g k (b g)⟩
theorem Kz.kq{Q:Nat->Prop}(h:Kz Z w w')(b:∀g,Q g->Z g):Kq Q w w':=⟨h.size,λg c k=>h.block g k (b g c)⟩
theorem Kz.set(h:Kz Z w W)(b:w.heap.size<=k\/¬Z k):Kz Z w (W.setCells k o vs):=by
 obtain⟨f,i,e⟩:=mW k vs o W;refine⟨f.trans h.os,i.trans h.tape,e.trans h.output,by rw[setCells_size];exact h.size,λg d c=>?_⟩;rw[aH k vs o W g (by rintro rfl;rcases b with b|b;omega;exact b c)];exact h.block g d c
theorem Kz.range(h:Kz Z w w')(c:Z k)(b:k<w.heap.size)(d:w.rangeAt k o vs):w'.rangeAt k o vs:=(h.kq λ_ h=>h).range c b d
end
structure LsS(Z:Nat->Prop)(w W:Ut)(K n i:Nat)(a:Nat->Nat):Prop where
 kz:Kz Z w W
 lt:K<W.heap.size
 th:W.there K 0 (4*n)
 rw:∀j,j<i->W.rangeAt K (4*j) (wn (a j))
theorem Dc{w w':Ut}{k o n:Nat}(h:w.there k o n)(e:w'.heap[k]? = w.heap[k]?):w'.there k o n:=λj b=>by
 have:=h j b;rw[U0 (a:=⟨k,o+j,none⟩) e,VR (a:=⟨k,o+j,none⟩) e];exact this
theorem LsS.grow{Z:Nat->Prop}{w W W':Ut}{n i:Nat}{a:Nat->Nat}(h:LsS Z w W K n i a)(b:Z K)(k:Kz Z W W'):LsS Z w W' K n i a:=
 ⟨h.kz.trans k,Uz h.lt k.size,Dc h.th (k.block K h.lt b),λj c=>k.range b h.lt (h.rw j c)⟩
theorem LsS.put{Z:Nat->Prop}{w W:Ut}{n i:Nat}{a:Nat->Nat}(h:LsS Z w W K n i a)(b:w.heap.size<=K)(d:i<n):LsS Z w (W.setCells K (4*i) (wn (a i))) K n (i+1) a:=by
 refine⟨h.kz.set (U6 b),by rw[setCells_size];exact h.lt,V7 h.th _ _ _,λj c=>?_⟩;by_cases e:j=i
 ·subst e;exact VZ W K _ _ λt k=>by
   have k:t<4:=k;have:=h.th (4*j+t) oM;rwa[UF]at this
 ·exact Vq (h.rw j oM) K _ _ (U2 (by
   show 4*j+4<=4*i\/4*i+4<=4*j;omega))
theorem zZ(n:Nat)(U:n<=512)(f:Xl)(cap:Array Uv)(hf:∀args W,(callFunc f args).run prog W=.ok (.enter f args) W)(a:Nat->Nat)(Z:Nat->Prop)(I:Nat->Ut->Prop)(w:Ut)(J:∀g,w.heap.size<=g->Z g)(p:∀W,kZ w W->I 0 W)(q:∀i W K o vs,w.heap.size<=K->I i W->I i (Yw W K o vs))
 (L:∀i W,i<n->Kz Z w W->I i W->UK prog f (#[iZ i]++cap) W (Ret λe W'=>Kz Z W W'/\I (i+1) W'/\e=nv (a i))) :
 UK prog 132 #[iZ n,.func (.func f) #[] cap] w (Ret λe w'=>Kz Z w w'/\I n w'/\SLq (w.heap.size<=·) w' e n a/\∃g c,e=sZ g n c):=by
 obtain⟨C0,y,u⟩:=Cj uS4 iS4 n U;have k:=u w;obtain⟨K,l⟩:=hE (w.heap.size);obtain⟨z,d⟩:=hE (w.alloc (.cells C0.toArray 49));have v:Ar w z K 4 n 0 (λ_=>[]):=Ar.new _ y d.out l.out;rw[d.out,l.out]at k;have O:Hid (LsS Z w z K n 0 a/\I 0 z):=⟨⟨Kz.of v.bl,v.lt,v.th,λj C=>absurd C (Ys _)⟩,p z v.bl⟩
 have T:=mk1 L;have P:=mk1 hf;have A:Hid (Z K/\w.heap.size<=K/\∀i W o vs,I i W->I i (Yw W K o vs)):=⟨J K (YC l.out),YC l.out,λi W o vs=>q i W K o vs (YC l.out)⟩
 obtain⟨fv,r⟩:=hE (Zv (.func f) #[] cap);rw[r.out];clear v y u L hf d l p q J;go_enter func132,ntmps132;go_wp2;clear k;go_loopg [11] n (λm s11 W=>∃i:Nat,i+m=n/\s11=iZ i/\Hid (LsS Z w W K n i a/\I i W))
 case atStart=>exact⟨0,oM,rfl,O⟩
 case round =>
  obtain⟨i,R,rfl,b⟩:=hrel;by_cases F:i<n
  ·have B:(i:Int)<(n:Int):=oM;have D:=lH K 0 n n i F;rw[UF]at D;have Q:=mk1 F;go_wp2_with (first|(refine rQ rfl 16 17 _ rfl f cap (iZ i) ?_ ?_ P.out (T i wr Q.out b.1.kz b.2) ?_;exact r.symm;rfl;intro e W' hR;refine Zq ?_)|fail)
   obtain⟨M,H,rfl⟩:=hR;have E:=b.1.grow A.1 M;obtain⟨G,s⟩:=hE (W'.setCells K (4*i) (wn (a i)));have N:Hid (LsS Z w G K n (i+1) a/\I (i+1) G):=by rw[<-s.out];exact⟨E.put A.2.1 F,A.2.2 _ _ _ _ H⟩
   have S:Hid (W'.there K (4*i) 4):=λt V=>by
    have:=E.th (4*i+t) oM;rwa[UF]at this
   obtain⟨X,x⟩:=hE (nv (a i));rw[x.out];clear M H E b;show wpList _ _ _ _ _ _;go_wp2_with (first|(refine U3 rfl 49 _ _ rfl K (4*i) (wn (a i)).toArray ?_ ?_ ?_ ?_ ?_ ?_;rfl;exact x.symm;exact S.out;exact i40;exact aM _;rw[show(wn (a i)).toArray.toList=wn (a i) from rfl,s.out])|fail)
   go_roundg (gk-1)
   case measure=>omega
   case rel=>exact⟨i+1,oM,rfl,N⟩
  ·have B:¬(i:Int)<(n:Int):=oM;obtain rfl:i=n:=oM;have s:Hid (Kz Z w wr/\I i wr/\SLq (w.heap.size<=·) wr (sZ K i i) i a):=⟨b.1.kz,b.2,K,0,i,rfl,Uy _,A.2.1,b.1.lt,λj C=>by rw[UF];exact b.1.rw j C⟩
   go_wp2;go_ret;exact⟨_,rfl,s.1,s.2.1,s.2.2,_,_,rfl⟩
theorem GI(n:Nat)(p:n<=512)(f:Xl)(cap:Array Uv)(hf:∀args W,(callFunc f args).run prog W=.ok (.enter f args) W)(a:Nat->Nat)(Z:Nat->Prop)(I:Nat->Ut->Prop)(w:Ut)(j:∀g,w.heap.size<=g->Z g)(k:∀W,kZ w W->I 0 W)(b:∀i W K o vs,w.heap.size<=K->I i W->I i (Yw W K o vs))
 (m:∀i W,i<n->Kz Z w W->I i W->UK prog f (#[iZ i]++cap) W (Ret λe W'=>Kz Z W W'/\I (i+1) W'/\e=nv (a i))) :
 UK prog 132 #[iZ n,.func (.func f) #[] cap] w (Ret λe w'=>Kz Z w w'/\I n w'/\SLq (w.heap.size<=·) w' e n a):=
 (zZ n p f cap hf a Z I w j k b m).mono λ_ _ ⟨v,h,d,l,c,_⟩=>⟨v,h,d,l,c⟩
theorem jD(n:Nat)(j:n<=512)(f:Xl)(cap:Array Uv)(hf:∀args W,(callFunc f args).run prog W=.ok (.enter f args) W)(a:Nat->Nat)(w:Ut)
 (c:∀i W,i<n->kZ w W->UK prog f (#[iZ i]++cap) W (rZ W λe W'=>e=nv (a i))) :
 UK prog 132 #[iZ n,.func (.func f) #[] cap] w (rZ w λe w'=>SLq (w.heap.size<=·) w' e n a):=by
 refine(GI n j f cap hf a (λ_=>True) (λ_ _=>True) w (λ_ _=>trivial) (λ_ _=>trivial) (λ_ _ _ _ _ _ _=>trivial) λi W g d _=>?_).mono ?_
 ·refine(c i W g (d.bel λ_=>trivial)).mono ?_;rintro e w' ⟨v,rfl,k,b⟩;exact⟨v,rfl,Kz.of k,trivial,b⟩
 ·rintro e w' ⟨v,rfl,k,-,b⟩;exact⟨v,rfl,k.bel λ_=>trivial,b⟩
end
section
open Go.RowKit Go.Sort Go.Deep
variable {P:Nat}[NeZero P]{N:Nat}
abbrev w1c(x:Nat):List Uv:=[uZ x,uZ 0,uZ 0,uZ 0]
theorem Ot{x:Nat}(hx:x<18446744073709551616):wn x=w1c x:=by
 unfold wn;rw[UU hx,XA hx,XA (by omega:x<340282366920938463463374607431768211456),XA (by omega:x<6277101735386680763835789423207666416102355444464034512896)];rfl
theorem zW(x:Nat)(hx:x<18446744073709551616):Gives 70 #[uZ x] (nv x):=by
 unfold nv;rw[Ot hx];intro w;go_enter func70,ntmps70;refine RG.M.enter [(0,.v (uZ x))] 6 kR ?_;intro a0 d;repeat refine UC ?_
 refine d.T [.m 0] [(0,RG.z 4)] [] [RG.z 4] [0,2] ⟨mk 0 49,yCm⟩ ?_;intro k g e c;repeat refine UC ?_
 refine c.T [.x (uZ x),.x (.agg (w1c x).toArray),.x (.agg (w1c x).toArray),.u 0] [] [(0,3,w1c x)] [w1c x] [2] ⟨st,st,st,RG.pt i40,yCm⟩ ?_;intro a2 f b;refine Wy ?_;refine UH (v:=.agg (w1c x).toArray) (aI b.st 2 49 rfl 0 _ rfl (b.at (s:=(.p 0 0))) u40 i40) b.sl.defers ?_;exact⟨_,rfl,b.st.bel.below,rfl⟩
theorem ML(v i:Nat)(hv:v<18446744073709551616):v/2^i<18446744073709551616:=Nat.lt_of_le_of_lt (Nat.div_le_self _ _) hv
theorem rT{w b W W':Ut}{k x:Nat}(c:Hid (w.heap.size=k))(f:Hid (w.alloc (.cells (RG.z 4).toArray 49)=b))(d:kZ b W)(g:Hid (W.setCells k 0 (wn x)=W')):Hid (W.there k 0 4/\kZ w W'/\Row W' k (wn x)):=by
 have h:=(aN c f).out;have e:=h.2.below d;rw[<-g.out];exact⟨e.2.2,RG.below_setCells (YC c.out) _ _ _ (h.1.trans (d.mono h.1.size)),e.put rfl⟩
theorem Je(v i k:Nat)(hv:v<18446744073709551616)(B:i<64)(w:Ut)(m:k<w.heap.size)(o:w.cell? ⟨k,0,none⟩=some (uZ v)):UK prog 129 #[iZ i,jZ k] w (rZ w λe w'=>e=nv (v/2^i%2)):=by
 obtain⟨q,g⟩:=hE (w.heap.size);obtain⟨n,b⟩:=hE (w.alloc (.cells (RG.z 4).toArray 49));have r:=aN g b;have u:n.cell? ⟨k,0,none⟩=some (uZ v):=by rw[r.1.cell (p:=⟨k,0,none⟩) m];exact o
 have j:bits .and .u64 ((v:Int)/2^i) 1=((v/2^i%2:Nat):Int):=by
  rw[<-and_one _ (ML v i hv),Int.natCast_ediv,Int.natCast_pow];rfl
 have l:=mk1 (zW (v/2^i%2) (by omega));generalize v/2^i%2=x at j l⊢;have s:=mk1 j;clear o m j;go_enter func129,ntmps129;go_wp2_with (first|(refine alR 3 g b ?_)|fail)
 rw[s.out];refine(l n).mono ?_;rintro e t ⟨z,rfl,f,rfl⟩;obtain⟨a,c⟩:=hE (t.setCells q 0 (wn x));have R:=rT g b f c;obtain⟨y,d⟩:=hE (nv x);rw[d.out];go_wp2_with (first|(refine stR 3 c d R.1 i40 (aM x) ?_)|fail)
 refine UH (aG 3 49 rfl R.2.2 rfl u40 i40) rfl ?_;exact⟨_,rfl,R.2.1,rfl⟩
theorem Pp(O:Ord N)(v i k g:Nat)(hv:v<18446744073709551616)(G:i<64)(w:Ut)(s:k<w.heap.size)(m:g<w.heap.size)(a:w.cell? ⟨k,0,none⟩=some (uZ v))(l:w.cell? ⟨g,0,none⟩=some (.func (.func 129) #[] #[jZ k])):UK prog 130 #[iZ i,jZ g] w (rZ w λe w'=>e=nv (sMi N (v/2^i%2) 1)):=by
 obtain⟨q,t⟩:=hE (w.heap.size);obtain⟨z,b⟩:=hE (w.alloc (.cells (RG.z 4).toArray 49));have o:=aN t b;have u:z.cell? ⟨g,0,none⟩=some (.func (.func 129) #[] #[jZ k]):=by rw[o.1.cell (p:=⟨g,0,none⟩) m];exact l
 have y:=mk1 (Je v i k hv G z (Uz s o.1.size) (by rw[o.1.cell (p:=⟨k,0,none⟩) s];exact a));have B:=mk1 (Dn O (v/2^i%2) 1 (by have:=O.n2;omega) (by have:=O.n2;omega));have C:=mk1 (zW 1 (by decide));generalize v/2^i%2=x at y B⊢;obtain⟨vf,f⟩:=hE (Zv (.func 129) #[] #[jZ k]);rw[f.out]at u;clear a s l m;go_enter func130,ntmps130;go_wp2_with (first|(refine alR 3 t b ?_)|(refine rQ rfl 4 5 _ rfl 129 #[jZ k] (iZ i) ?_ ?_ (λ_ _=>kR) y.out ?_;exact f.symm;rfl;intro e W' hR;refine Zq ?_)|fail)
 obtain⟨c,rfl⟩:=hR;show wpList _ _ _ _ _ _;go_wp2_with fail
 refine(C W').mono ?_;rintro e E ⟨D,rfl,d,rfl⟩;go_wp2_with fail
 refine(B E).mono ?_;rintro e F ⟨D,rfl,r,rfl⟩;obtain⟨I,j⟩:=hE (F.setCells q 0 (wn (sMi N x 1)));have R:=rT t b (c.trans ((d.trans (r.mono d.size)).mono c.size)) j;obtain⟨H,n⟩:=hE (nv (sMi N x 1));rw[n.out];go_wp2_with (first|(refine stR 3 j n R.1 i40 (aM _) ?_)|fail)
 refine UH (aG 3 49 rfl R.2.2 rfl u40 i40) rfl ?_;exact⟨_,rfl,R.2.1,rfl⟩
structure FdM(w W:Ut)(K k4 k5 n i x y:Nat)(f:Nat->List (Nat × Bs)):Prop where
 ls:LsI w W K n i f
 r4:Row W k4 (wn x)
 r5:Row W k5 (wn y)
theorem FdM.grow{w W W':Ut}{c b n i x:Nat}{f:Nat->List (Nat × Bs)}(h:FdM w W K c b n i x y f)(k:kZ W W'):FdM w W' K c b n i x y f:=⟨h.ls.grow k,h.r4.below k,h.r5.below k⟩
theorem FdM.drew{w W:Ut}{b k n i x:Nat}{f:Nat->List (Nat × Bs)}(h:FdM w W K b k n i x y f):FdM w W.drew K b k n i x y f:=h.grow ⟨rfl,rfl,rfl,Uy _,λ_ _=>rfl⟩
theorem FdM.put{w W:Ut}{b k n i x:Nat}{f:Nat->List (Nat × Bs)}{v:Uv}(h:FdM w W K b k n i x y f)(e:i<n)(c:b≠K)(d:k≠K)(hv:SmQ (λg=>w.heap.size<=g/\g≠K) W v (f i)):FdM w (W.setCells K i [v]) K b k n (i+1) x y f:=
 ⟨h.ls.put e hv,aR h.r4 c,aR h.r5 d⟩
theorem JC(O:Ord N){Q:Nat->Prop}(n:Nat)(hn:n<=500)(c:Nat)(hc:c<=200)(Y:0<c)(a:Nat->List (Nat × Bs))(x y:Nat)(hx:x<N)(s:y<N)(ha:∀i,i<n+n->TOk N (a i)/\(a i).length=c)(va:Uv)(w:Ut)(h1:GLq Q w va (n+n) a):
 UK prog 217 #[va,nv x,nv y] w (rZ w λe w'=>GLq (w.heap.size<=·) w' e n (lC N x y n a)):=by
 obtain⟨b,d,c1,rfl,-,-,T,h3⟩:=h1;obtain⟨m,hm⟩:=hE (n+n);have hq:(m:Int).tdiv 2=(n:Int):=by rw[<-hm.out,Yd oM];omega
 obtain⟨G,h6,L,J,I,o⟩:=SS w x y;obtain⟨C0,Z,h9⟩:=Cj uSu iSu n oM;have h5:=h9 G;obtain⟨K,hK⟩:=hE (G.heap.size);obtain⟨w3,H⟩:=hE (G.alloc (.cells C0.toArray 131));have S:Ar G w3 K 1 n 0 (λ_=>[]):=Ar.new _ Z H.out hK.out;rw[H.out,hK.out]at h5;obtain⟨f,q⟩:=hE (w.heap.size);rw[q.out]at J I o;have HK:Hid (K=f+2/\w.heap.size<=f):=⟨by rw[<-hK.out,o],by rw[q.out];exact Uy _⟩
 have K1:Hid (FdM w w3 K f (f+1) n 0 x y (lC N x y n a)):=⟨⟨L.trans (S.bl.mono L.size),S.lt,by have:=S.th;rwa[Xj]at this,by have:=HK.out;omega,λj hj=>absurd hj (Ys _)⟩,J.below S.bl,I.below S.bl⟩
 have l:=mk8 O hx s ha h3 T hc Y;obtain⟨vx,h2⟩:=hE (nv x);obtain⟨vy,X⟩:=hE (nv y);obtain⟨R,P⟩:=hE (w.alloc (.cells (wn x).toArray 49));have B1:Hid ((Vh 49 vx).run prog w=.ok (jZ f) R):=by rw[<-h2.out,<-P.out,<-q.out];exact boxS x w
 have B2:Hid ((Vh 49 vy).run prog R=.ok (.pointer (some ⟨f+1,0,none⟩)) G):=by
  have h:=boxS y R;rw[show R.heap.size=f+1 by rw[<-P.out,UD,q.out]]at h;have e:R.alloc (.cells (wn y).toArray 49)=G:=by rw[<-P.out];exact h6.out
  rw[e]at h;rw[<-X.out];exact h
 rw[h2.out,X.out,hm.out];clear O hx s ha h3 T hc Y L J I o S Z h9 hK H q h6;go_enter func217,ntmps217;go_wp2_with (first|(refine aF (u:=vx) (v:=jZ f) (w':=R) rfl 49 (.tmp 1) rfl ?_ ?_ ?_;rfl;exact B1.out)|(refine aF (u:=vy) (v:=.pointer (some ⟨f+1,0,none⟩)) (w':=G) rfl 49 (.tmp 2) rfl ?_ ?_ ?_;rfl;exact B2.out)|fail)
 go_loopg [15] n (λm s15 W=>∃i:Nat,i+m=n/\s15=iZ i/\Hid (FdM w W K f (f+1) n i x y (lC N x y n a)))
 case atStart=>exact⟨0,oM,rfl,K1⟩
 case round =>
  obtain⟨i,k6,rfl,KM⟩:=hrel;by_cases hi:i<n
  ·have k0:(i:Int)<(n:Int):=oM;have HL:=Hid.mk' hi;have KP:=KM;go_wp2_with fail
   obtain⟨D,hr,k1⟩:=l.2.2.2.2.1 i oM;obtain⟨E,hz,o⟩:=l.2.2.2.2.1 (n+i) oM;have HX:=mk4 hr k1 hz o;have r:=mk2 (l.2.2.2.1 i oM) (l.2.2.2.1 (n+i) oM);have HZ:=mk1 (l.2.2.2.2.2.2);obtain⟨B,A⟩:=hE ((a i).map (tmT N x));obtain⟨F,C⟩:=hE ((a (n+i)).map (tmT N y));have HQ:Hid (lC N x y n a i=B++F):=by show _=_;rw[<-A.out,<-C.out];rfl
   have HY:Hid (B.length=c/\F.length=c/\TOk N B/\TOk N F):=⟨by rw[<-A.out,US];exact r.1.2,by rw[<-C.out,US];exact r.2.2,by rw[<-A.out];exact r.1.1.tm l.1.pos x,by rw[<-C.out];exact r.2.1.tm l.1.pos y⟩
   have h8:=λ(W:Ut) (k:kZ w W)=>eG l.1 l.2.1 0 D (a i) (by rw[r.1.2];have:=HZ.out;omega) r.1.1.szm r.1.1.lt W (HX.2.1.sm.grow k)
   have he:=λ(W:Ut) (k:kZ w W)=>eG l.1 l.2.2.1 0 E (a (n+i)) (by rw[r.2.2];have:=HZ.out;omega) r.2.1.szm r.2.1.lt W (HX.2.2.2.sm.grow k)
   have hl:=λ(W:Ut) (u v:Uv) (hu:Sm 0 W u B) (hv:Sm 0 W v F)=>cO 0 u v B F (by rw[UB];have:=HY.1;have:=HZ.out;omega) (by have:=HY.1;have:=HZ.out;omega) (by have:=HY.2.1;have:=HZ.out;omega) HY.2.2.1.sz HY.2.2.2.sz W (U2 hu) (U2 hv)
   rw[A.out]at h8;rw[C.out]at he;have hw:∀W,kZ w W->W.cell? ⟨b,d+1*i,none⟩=some D:=λW k=>by rw[Xj,k.cell (p:=⟨b,d+i,none⟩) l.2.2.2.2.2.1];exact HX.1
   have k2:∀W,kZ w W->W.cell? ⟨b,d+1*(n+i),none⟩=some E:=λW k=>by rw[Xj,k.cell (p:=⟨b,d+(n+i),none⟩) l.2.2.2.2.2.1];exact HX.2.2.1
   have k3:i<m:=by rw[<-hm.out];omega
   have h0:n+i<m:=by rw[<-hm.out];omega
   refine(gwL [pE (sZ K n n),pE (iZ i),pE (.slice (some ⟨b,d,none⟩) m c1),pE (iZ i),pE (.pointer (some ⟨b,d+1*i,none⟩)),pE D,pE (.iface 131 D),pE (nv x),pM (λg=>w.heap.size<=g/\g≠K) B,pI 131 (pM (λg=>w.heap.size<=g/\g≠K) B),pE (.slice (some ⟨b,d,none⟩) m c1),pE (sZ K n n),pE (iZ n),pE (iZ i),pE (iZ ((n+i:Nat):Int)),pE (.pointer (some ⟨b,d+1*(n+i),none⟩)),pE E,pE (.iface 131 E),pE (nv y),pM (λg=>w.heap.size<=g/\g≠K) F,pM (λg=>w.heap.size<=g/\g≠K) (B++F),pE (.pointer (some ⟨K,0+1*i,none⟩))] (λW=>FdM w W K f (f+1) n i x y (lC N x y n a)) (λW W' M h=>h.grow M)).last 22 kR kR kR ⟨
    gO 7 (sZ K n n),
    gO 8 (iZ i),
    gO 0 (.slice (some ⟨b,d,none⟩) m c1),
    gO 8 (iZ i),
    A4 2 20 3 21 (.slice (some ⟨b,d,none⟩) m c1) (iZ i) (.pointer (some ⟨b,d+1*i,none⟩)) (Vj 129 (.slice (some ⟨b,d,none⟩) m c1) (iZ i)) (atS b d m c1 i k3) (λx W h=>h) (λx W h=>h) (λ_=>rfl),
    fG 131 4 22 b (d+1*i) D AC (λx W h=>h) (λW k=>hw W k.ls.bl) (λ_=>rfl),
    rE 5 23 D (.iface 131 D) (λx W h=>h) (λ_=>rfl),
    iE 49 4 f 0 (wn x) rSc nSc rfl (λW k=>k.r4.2.1) (λ_=>rfl),
    oV 131 6 24 7 25 (pE D) 164 (λx W h=>⟨_,h,rfl⟩) (λz u W hx s k=>by
     obtain rfl:z=D:=hx;obtain rfl:u=nv x:=s;refine(h8 W k.ls.bl).mono ?_;rintro e W' ⟨u,rfl,M,U⟩;exact⟨_,rfl,M,U.q.mono λg V=>⟨UE k.ls.bl.size V,by have:=k.ls.lt;omega⟩⟩),
    DV 8 26 (λv=>.iface 131 v) (λx W h=>⟨x,rfl,h⟩),
    gO 0 (.slice (some ⟨b,d,none⟩) m c1),
    gO 7 (sZ K n n),
    rE 11 29 (sZ K n n) (iZ n) (λx W h=>h) (λ_=>rfl),
    gO 8 (iZ i),
    Jq .add 3 3 30 31 rfl (λa W hp=>⟨_,_,iZ ((n+i:Nat):Int),hp.n 12 30 kR kR,hp.n 13 31 kR kR,kR,Oc n i oM W,rfl⟩),
    A4 10 28 14 32 (.slice (some ⟨b,d,none⟩) m c1) (iZ ((n+i:Nat):Int)) (.pointer (some ⟨b,d+1*(n+i),none⟩)) (Vj 129 (.slice (some ⟨b,d,none⟩) m c1) (iZ ((n+i:Nat):Int))) (atS b d m c1 (n+i) h0) (λx W h=>h) (λx W h=>h) (λ_=>rfl),
    fG 131 15 33 b (d+1*(n+i)) E AC (λx W h=>h) (λW k=>k2 W k.ls.bl) (λ_=>rfl),
    rE 16 34 E (.iface 131 E) (λx W h=>h) (λ_=>rfl),
    iE 49 5 (f+1) 0 (wn y) rSc nSc rfl (λW k=>k.r5.2.1) (λ_=>rfl),
    oV 131 17 35 18 36 (pE E) 164 (λx W h=>⟨_,h,rfl⟩) (λz u W hx s k=>by
     obtain rfl:z=E:=hx;obtain rfl:u=nv y:=s;refine(he W k.ls.bl).mono ?_;rintro e W' ⟨u,rfl,M,U⟩;exact⟨_,rfl,M,U.q.mono λg V=>⟨UE k.ls.bl.size V,by have:=k.ls.lt;omega⟩⟩),
    oV 131 9 27 19 37 (pM (λg=>w.heap.size<=g/\g≠K) B) 65 (λx W h=>h) (λz u W hx s k=>by
     have hx:=hx;have s:=s;refine(hl W z u hx.sm s.sm).mono ?_;rintro e W' ⟨u,rfl,M,U⟩;exact⟨_,rfl,M,U.q.mono λg V=>⟨UE k.ls.bl.size V,by have:=k.ls.lt;omega⟩⟩),
    A4 0 18 1 19 (sZ K n n) (iZ i) (.pointer (some ⟨K,0+1*i,none⟩)) (Vj 129 (sZ K n n) (iZ i)) (atS K 0 n n i HL.out) (λx W h=>h) (λx W h=>h) (λ_=>rfl),yCm⟩ KP.drew ?_
   intro V W3 h7 U;have hS:=h7 20 dC;have hk:=h7 21 dC;dsimp only[bU,VO,Xn,Xo];simp only[UR,Uu,Uw,Ux];generalize V 20=vq at hS⊢;obtain⟨W4,h4⟩:=hE (W3.setCells K i [vq]);have K4:Hid (FdM w W4 K f (f+1) n (i+1) x y (lC N x y n a)):=by
    have h:=U.put (v:=vq) hi (by have:=HK.out;omega) (by have:=HK.out;omega) (by rw[HQ.out];exact hS);rw[h4.out]at h;exact h
   have HT:Hid (W3.there K i 1):=λt ht=>by
    have k5:t=0:=oM;subst k5;have:=U.ls.th i hi;rwa[UF]at this
   have HE:=Hid.mk' hS.one;rw[hk,UF,Xj];go_wp2_with (first|(refine fW rfl 131 _ _ rfl K i vq ?_ ?_ HE.1 HE.2 HT.out RS ?_;rfl;rfl;rw[h4.out])|fail)
   go_roundg (gk-1)
   case measure=>omega
   case rel=>exact⟨i+1,oM,rfl,K4⟩
  ·have k0:¬(i:Int)<(n:Int):=oM;obtain rfl:i=n:=oM;have K4:=mk2 KM.ls.bl KM.ls.gl;go_wp2;go_ret;exact⟨_,rfl,K4.1,K4.2⟩
structure GOk(N n c:Nat)(G H:Nat->List (Nat × Bs))(U:List (Nat × Bs)):Prop where
 n0:0<n
 c0:0<c
 cn:c*n<=64
 g:∀i,i<n->TOk N (G i)/\(G i).length=c
 h:∀i,i<n->TOk N (H i)/\(H i).length=c
 u:TOk N U
 u0:0<U.length
 u9:U.length<=16
theorem GOk.nle{n c:Nat}{G H:Nat->List (Nat × Bs)}{U:List (Nat × Bs)}(h:GOk N n c G H U):n<=64:=by
 have k:=h.cn;have:=WX n h.c0;omega
theorem GOk.cle{n c:Nat}{G H:Nat->List (Nat × Bs)}{U:List (Nat × Bs)}(h:GOk N n c G H U):c<=64:=by
 have k:=h.cn;have:=XU c h.n0;omega
theorem CN(b c k:Uv)(w:Ut):(Vh 133 (.agg #[b,c,k])).run prog w=.ok (jZ w.heap.size) (w.alloc (.cells #[b,c,k] 133)):=kR
theorem uGL:(prog.underlying 129).map (·.isRow)=some false:=kR
theorem xI(O:Ord N){Q:Nat->Prop}(n c:Nat)(G H:Nat->List (Nat × Bs))(U:List (Nat × Bs))(hG:GOk N n c G H U)(a b:Nat->Nat)(ha:∀i,i<n->a i<N)(j:∀i,i<n->b i<N)(v va p:Uv)(w:Ut)(R:GRq Q w v n G H U)(P:SLq Q w va n a)(h2:SLq Q w p n b):
 UK prog 66 #[v,va,p] w (rZ w λe w'=>Sm w.heap.size w' e (dJ N a G n++dJ N b H n)):=by
 obtain⟨l,m,E,rfl,M,Z,-⟩:=R.ex;have t:=λ(W:Ut) (d:kZ w W)=>JR O n c hG.n0 hG.c0 (by have:=hG.nle;omega) (by have:=hG.cn;omega) a G ha (λi f=>(hG.g i f).1) (λi f=>(hG.g i f).2) va l W (P.keep (Kq.of_below d)) (M.keep (Kq.of_below d))
 have B:=λ(W:Ut) (d:kZ w W)=>JR O n c hG.n0 hG.c0 (by have:=hG.nle;omega) (by have:=hG.cn;omega) b H j (λi f=>(hG.h i f).1) (λi f=>(hG.h i f).2) p m W (h2.keep (Kq.of_below d)) (Z.keep (Kq.of_below d))
 have X:(dJ N a G n).length=c*n:=eU N a n λi f=>(hG.g i f).2
 have Y:(dJ N b H n).length=c*n:=eU N b n λi f=>(hG.h i f).2
 have t1:TOk N (dJ N a G n):=oH O.pos n λi f=>(hG.g i f).1
 have t2:TOk N (dJ N b H n):=oH O.pos n λi f=>(hG.h i f).1
 have S:=yAJ hG.c0 hG.n0;have h5:=hG.cn;generalize dJ N a G n=A at t X t1⊢;generalize dJ N b H n=lb at B Y t2⊢;have F:=λ(W:Ut) (u z:Uv) (hu:Sm 0 W u A) (L:Sm 0 W z lb)=>cO 0 u z A lb (by rw[UB];omega) oM oM t1.sz t2.sz W (U2 hu) (U2 L)
 have I:=Hid.mk' (V4 t (V4 B F));obtain⟨D,C⟩:=hE (w.alloc (.cells #[l,m,E] 133));obtain⟨k,J⟩:=hE (w.heap.size);have K:Hid (Row D k [l,m,E]/\kZ w D):=by rw[<-C.out,<-J.out];exact⟨aE w _ _,aC w _⟩
 obtain⟨v0,s⟩:=hE (U5 #[l,m,E]);have T:Hid ((Vh 133 v0).run prog w=.ok (jZ k) D):=by rw[<-s.out,<-C.out,<-J.out];exact CN _ _ _ _
 rw[s.out];go_enter func66,ntmps66;go_wp2_with (first|(refine aF (u:=v0) (v:=jZ k) (w':=D) rfl 133 (.tmp 0) rfl ?_ ?_ ?_;rfl;exact T.out)|fail)
 refine(gwL [pE va,pE (jZ k),pE l,pM (w.heap.size<=·) A,pE p,pE (oZ k 1),pE m,pM (w.heap.size<=·) lb,pM (w.heap.size<=·) (A++lb),pM (w.heap.size<=·) (A++lb)] (λW=>Row W k [l,m,E]/\kZ w W) (λW W' j h=>⟨h.1.below j,h.2.trans (j.mono h.2.size)⟩)).draws kR kR ⟨
  gO 1 va,
  gO 3 (jZ k),
  fG 129 1 8 k 0 l uGL (λx W h=>h) (λW d=>d.1.2.1 0 _ rfl) (λ_=>rfl),
  eD 0 7 2 9 139 (λx y=>#[x,y]) (λx y W hx o d=>by
   obtain rfl:x=va:=hx;obtain rfl:y=l:=o;refine(I.1 W d.2).mono ?_;rintro e W' ⟨u,rfl,j,q⟩;exact⟨_,rfl,j,q.q.mono λg r=>UE d.2.size r⟩),
  gO 2 p,
  gP 3 (jZ k) (oZ k 1),
  fG 129 5 12 k 1 m uGL (λx W h=>h) (λW d=>d.1.2.1 1 _ rfl) (λ_=>rfl),
  eD 4 11 6 13 139 (λx y=>#[x,y]) (λx y W hx o d=>by
   obtain rfl:x=p:=hx;obtain rfl:y=m:=o;refine(I.2.1 W d.2).mono ?_;rintro e W' ⟨u,rfl,j,q⟩;exact⟨_,rfl,j,q.q.mono λg r=>UE d.2.size r⟩),
  eD 3 10 7 14 65 (λx y=>#[x,y]) (λx y W hx o d=>by
   have hx:=hx;have o:=o;refine(I.2.2 W x y hx.sm o.sm).mono ?_;rintro e W' ⟨u,rfl,j,q⟩;exact⟨_,rfl,j,q.q.mono λg r=>UE d.2.size r⟩),
  DV 8 15 id (λx W h=>h),yCm⟩ ⟨K.1,K.2.drew⟩ ?_
 intro V r hR d;have q:=mk1 (hR 9 (Xt (VX kR)));have o:=mk1 (d.2);dsimp only[bU,VO];simp only[UR,Uu,Uw,Ux];go_wp2;go_ret;exact⟨_,rfl,o.out,q.out⟩
theorem Fg(O:Ord N){Q:Nat->Prop}(n c:Nat)(G H:Nat->List (Nat × Bs))(U:List (Nat × Bs))(hG:GOk N n c G H U)(a b:Nat->Nat)(ha:∀i,i<n->a i<N)(f:∀i,i<n->b i<N)(v va m:Uv)(w:Ut)(T:GRq Q w v n G H U)(S:SLq Q w va n a)(h2:SLq Q w m n b):
 UK prog 158 #[v,va,m] w (rZ w λe w'=>Sm w.heap.size w' e (Jm N a b (prS N a b n) G H U n)):=by
 have C:=λ(W:Ut) (d:kZ w W)=>xI O n c G H U hG a b ha f v va m W (T.keep (Kq.of_below d)) (S.keep (Kq.of_below d)) (h2.keep (Kq.of_below d))
 have D:=λ(W:Ut) (d:kZ w W)=>Be O n (by have:=hG.nle;omega) a b ha f va m W (S.keep (Kq.of_below d)) (h2.keep (Kq.of_below d))
 obtain⟨q,r,j,rfl,-,-,h5⟩:=T.ex;have l1:(dJ N a G n).length=c*n:=eU N a n λi s=>(hG.g i s).2
 have l2:(dJ N b H n).length=c*n:=eU N b n λi s=>(hG.h i s).2
 have t1:TOk N (dJ N a G n):=oH O.pos n λi s=>(hG.g i s).1
 have t2:TOk N (dJ N b H n):=oH O.pos n λi s=>(hG.h i s).1
 have h3:=yAJ hG.c0 hG.n0;have h4:=hG.cn;unfold Jm;have pl:=AO O.pos a b n;have P:=hG.u.tm O.pos (prS N a b n);have X:(U.map (tmT N (prS N a b n))).length<=16:=by rw[US];exact hG.u9
 generalize prS N a b n=p at D pl P X⊢;have E:=λ(W:Ut) (d:kZ w W)=>eG O pl 0 j U (by have:=hG.u9;omega) hG.u.szm hG.u.lt W (h5.sm.grow d)
 generalize U.map (tmT N p)=F at E P X⊢;have R:=t1.app t2;have l4:(dJ N a G n++dJ N b H n).length=c*n+c*n:=by rw[UB,l1,l2]
 generalize dJ N a G n++dJ N b H n=l at C R l4⊢;have M:=λ(W:Ut) (u z:Uv) (hu:Sm 0 W u l) (L:Sm 0 W z F)=>cO 0 u z l F (by rw[UB];omega) oM oM R.sz P.sz W (U2 hu) (U2 L)
 have K:=Hid.mk' (V4 C (V4 D (V4 E M)));obtain⟨J,I⟩:=hE (w.alloc (.cells #[q,r,j] 133));obtain⟨k,Y⟩:=hE (w.heap.size);have Z:Hid (Row J k [q,r,j]/\kZ w J):=by rw[<-I.out,<-Y.out];exact⟨aE w _ _,aC w _⟩
 obtain⟨v0,B⟩:=hE (U5 #[q,r,j]);have B1:Hid ((Vh 133 v0).run prog w=.ok (jZ k) J):=by rw[<-B.out,<-I.out,<-Y.out];exact CN _ _ _ _
 rw[B.out];go_enter func158,ntmps158;go_wp2_with (first|(refine aF (u:=v0) (v:=jZ k) (w':=J) rfl 133 (.tmp 0) rfl ?_ ?_ ?_;rfl;exact B1.out)|fail)
 refine(gwL [pE (.agg #[q,r,j]),pE va,pE m,pM (w.heap.size<=·) l,pE (oZ k 2),pE j,pE va,pE m,pE (nv p),pM (w.heap.size<=·) F,pM (w.heap.size<=·) (l++F),pM (w.heap.size<=·) (l++F)] (λW=>Row W k [q,r,j]/\kZ w W) (λW W' f h=>⟨h.1.below f,h.2.trans (f.mono h.2.size)⟩)).draws kR kR ⟨
  iE 133 3 k 0 [q,r,j] uGr iGr rfl (λW d=>d.1.2.1) (λ_=>rfl),
  gO 1 va,
  gO 2 m,
  rF 0 7 1 8 2 9 66 (λx y z=>#[x,y,z]) (λx y z W hx o L d=>by
   obtain rfl:x=.agg #[q,r,j]:=hx;obtain rfl:y=va:=o;obtain rfl:z=m:=L;refine(K.1 W d.2).mono ?_;rintro e W' ⟨u,rfl,f,t⟩;exact⟨_,rfl,f,t.q.mono λg A=>UE d.2.size A⟩),
  gP 3 (jZ k) (oZ k 2),
  fG 131 4 11 k 2 j AC (λx W h=>h) (λW d=>d.1.2.1 2 _ rfl) (λ_=>rfl),
  gO 1 va,
  gO 2 m,
  eD 6 13 7 14 78 (λx y=>#[x,y]) (λx y W hx o d=>by
   obtain rfl:x=va:=hx;obtain rfl:y=m:=o;refine(K.2.1 W d.2).mono ?_;rintro e W' ⟨u,rfl,f,rfl⟩;exact⟨_,rfl,f,rfl⟩),
  eD 5 12 8 15 164 (λx y=>#[x,y]) (λx y W hx o d=>by
   obtain rfl:x=j:=hx;obtain rfl:y=nv p:=o;refine(K.2.2.1 W d.2).mono ?_;rintro e W' ⟨u,rfl,f,t⟩;exact⟨_,rfl,f,t.q.mono λg A=>UE d.2.size A⟩),
  eD 3 10 9 16 65 (λx y=>#[x,y]) (λx y W hx o d=>by
   have hx:=hx;have o:=o;refine(K.2.2.2 W x y hx.sm o.sm).mono ?_;rintro e W' ⟨u,rfl,f,t⟩;exact⟨_,rfl,f,t.q.mono λg A=>UE d.2.size A⟩),
  DV 10 17 id (λx W h=>h),yCm⟩ ⟨Z.1,Z.2.drew⟩ ?_
 intro V A hR d;have t:=mk1 (hR 11 (Xt (VX kR)));have o:=mk1 (d.2);dsimp only[bU,VO];simp only[UR,Uu,Uw,Ux];go_wp2;go_ret;exact⟨_,rfl,o.out,t.out⟩
end
namespace RG
open Go Go.RowKit
variable {P:VD}{ops:Array Vk}{Q:X9->Act->Ut->Prop}{w:Ut}{a0:Act}{G:Gw}{S:Ut->Ut->Prop}{m k:Nat}{o:Vk}
def Gw.st(G:Gw)(m:Nat)(S:Ut->Ut->Prop):Flow:=⟨G.R,λ_=>G.B,λi w w'=>(i=m/\S w w')\/kZ w w',λ_=>[],λ_=>[]⟩
theorem jS(h:bF P Q G.flow ops a0 k o):bF P Q (G.st m S) ops a0 k o:=λa w K d e c b=>h a w K d e c λv w' hE hR=>b v w' (U2 hE) hR
theorem To(h:∀(a:Act) (w:Ut),PreG G ops a0 m o a w->∃w',(U9 a.eval o).run P w=.ok .skip w'/\S w w'/\G.R m WJ w'):bF P Q (G.st m S) ops a0 m o:=by
 intro a w K g i f k;obtain⟨w',b,c,hR⟩:=h a w ⟨λj d e hd=>g j d e rfl hd,i,f 0 rfl⟩;unfold VT;rw[b];exact k _ _ (U6 ⟨rfl,c⟩) hR
theorem Gw.tailS(G:Gw)(m:Nat)(S:Ut->Ut->Prop)(n:Nat)(f:∀j v w w',j≠m->S w w'->G.R j v w->G.R j v w')(g:∀w w',S w w'->G.B w->G.B w')(o:(decide (n<ops.size) && chain ops n)=true)(t:P.follows .mixedOrders=true)(s:Bf ops a0.tmps.size=true)(h:iM P Q (G.st m S) ops a0 0 (ops.toList.take n))(k:G.B w.drew)
 (q:∀(V:Nat->Uv) (w':Ut),(∀i,i<n->G.R i (V i) w')->G.B w'->wpList P ops Q (ops.toList.drop n) (bU V (ops.toList.take n) 0 a0) w'):(V3 id ops true).wp P Q a0 w:=by
 rw[UN,decide_eq_true_eq]at o;refine GM (G.st m S) n o.1 o.2 t ⟨s,sW h,λi j _ _ c _ _ v w w' hE hR=>?_,λi b _ _ w w' hE k=>?_⟩ (λ_=>k) λV w' p r=>q V w' (λi l=>p i l rfl) (r 0 rfl)
 ·rcases hE with⟨l,d⟩|hE
  ·exact f j v w w' (λe=>c (l.trans e.symm)) d hR
  ·exact G.sR j v w w' hE hR
 ·rcases hE with⟨-,d⟩|hE
  ·exact g w w' d k
  ·exact G.sB w w' hE k
end RG
section
open Go.RowKit Go.Sort Go.Deep
variable {P:Nat}[NeZero P]{N:Nat}
theorem qE{P:VD}{m:Func}{tmps:Array Uv}{W:Ut}{k e:Nat}{vs:List Uv}(t j:WF)(T c:Vb)(q:m.results=#[.cell t T,.cell j c])(h:Row W k vs)(v:Row W e us)(p:tmps[t]? = some (jZ k))(f:tmps[j]? = some (jZ e))
 (l:(P.underlying T).map (·.isRow)=some true) (w:(P.info? T).map (·.size)=some vs.length) (b:(P.underlying c).map (·.isRow)=some true) (g:(P.info? c).map (·.size)=some us.length):(results m tmps).run P W=.ok (.tuple #[.agg vs.toArray,.agg us.toArray]) W:=by
 obtain⟨d,l,hd⟩:=UA.1 l;obtain⟨r,b,i⟩:=UA.1 b;have o:=Y2 (P:=P) W k 0 T vs d h.2.1 l hd w;have n:=Y2 (P:=P) W e 0 c us r v.2.1 b i g;have u:tmps.getD t WJ=jZ k:=by rw[UJ,p];rfl
 have s:tmps.getD j WJ=jZ e:=by rw[UJ,f];rfl
 unfold results;rw[q];simp only[Array.mapM_eq_mapM_toList,List.mapM_cons,List.mapM_nil,u,s,asAddr];simp[UW,o,n]
section
variable {P:VD}{ops:Array Vk}{rest:List Vk}{op:Vk}{a:Act}{w w':Ut}{v:Uv}{Q:X9->Act->Ut->Prop}
theorem fC(k:op.guard=none)(T:Vb)(t:WF)(_:op.op=.alloc T)(_:op.dst=some t)(c:(U9 a.eval op).run P w=.ok (.value v) w')(h:wpList P ops Q rest (a.put op.dst v) w'):wpList P ops Q (op :: rest) a w:=
 Xd k λK b=>by
  unfold VT;rw[c];exact b _ _ h
end
theorem Ob(g o j:Nat):(⟨g,o,none⟩:Wv).add j=⟨g,o+j,none⟩:=by
 unfold Zr;by_cases k:j=0
 ·subst k;rw[yCk rfl];rfl
 ·rw[yCl k]
theorem Ir(b o n c k:Nat)(d:k<=c)(w:Ut):(Xw 129 (.slice (some ⟨b,o,none⟩) n c) none (some (iZ k)) none).run prog w=.ok (.slice (some ⟨b,o,none⟩) k c) w:=by
 have e:¬(k:Int)<0:=oM;have f:(k:Int)<=(c:Int):=oM;go_simp
theorem Iq(b o n c k:Nat)(f:k<n)(d:n<=c)(w:Ut):(Xw 129 (.slice (some ⟨b,o,none⟩) n c) (some (iZ k)) none none).run prog w=.ok (.slice (some ⟨b,o+k,none⟩) (n-k) (c-k)) w:=by
 have i:¬(k:Int)<0:=oM;have j:(k:Int)<=(n:Int):=oM;have g:¬c=k:=oM;have e:=Ob b o (1*k);rw[Xj]at e;go_simp
theorem Dl(b o n c k:Nat)(d:k<=c)(w:Ut):(Xw 124 (.slice (some ⟨b,o,none⟩) n c) none (some (iZ k)) none).run prog w=.ok (.slice (some ⟨b,o,none⟩) k c) w:=by
 have e:¬(k:Int)<0:=oM;have f:(k:Int)<=(c:Int):=oM;go_simp
theorem Dk(b o n c k:Nat)(f:k<n)(d:n<=c)(w:Ut):(Xw 124 (.slice (some ⟨b,o,none⟩) n c) (some (iZ k)) none none).run prog w=.ok (.slice (some ⟨b,o+k*4,none⟩) (n-k) (c-k)) w:=by
 have i:¬(k:Int)<0:=oM;have j:(k:Int)<=(n:Int):=oM;have g:¬c=k:=oM;have e:=Ob b o (k*4);rw[Vv]at e;rw[Vv k 4];go_simp
theorem GLq.high{Q:Nat->Prop}{W:Ut}{o n c:Nat}{T:Nat->List (Nat × Bs)}(h:GLq Q W (.slice (some ⟨g,o,none⟩) (n+n) c) (n+n) T):GLq Q W (.slice (some ⟨g,o+n,none⟩) n (c-n)) n (λi=>T (n+i)):=by
 obtain⟨q,s,r,e,m,f,k,b⟩:=h;injection e with e1 e2 e3
 injection e1 with e1
 injection e1 with e1 e4
 subst e1 e3 e4;refine⟨g,o+n,c-n,rfl,oM,f,k,λj p=>?_⟩;obtain⟨x,d,l⟩:=b (n+j) oM;exact⟨x,by rw[Nat.add_assoc];exact d,l⟩
theorem GLq.low{Q:Nat->Prop}{W:Ut}{o n c:Nat}{T:Nat->List (Nat × Bs)}(h:GLq Q W (.slice (some ⟨g,o,none⟩) (n+n) c) (n+n) T):GLq Q W (.slice (some ⟨g,o,none⟩) n c) n T:=by
 obtain⟨l,i,m,e,p,d,b,k⟩:=h;injection e with e1 e2 e3
 injection e1 with e1
 injection e1 with e1 e4
 subst e1 e3 e4;exact⟨g,o,c,rfl,oM,d,b,λj f=>k j oM⟩
theorem SLq.high{Q:Nat->Prop}{W:Ut}{o n c:Nat}{T:Nat->Nat}(h:SLq Q W (.slice (some ⟨g,o,none⟩) (n+n) c) (n+n) T):SLq Q W (.slice (some ⟨g,o+n*4,none⟩) n (c-n)) n (λi=>T (n+i)):=by
 obtain⟨m,q,p,e,f,d,k,b⟩:=h;injection e with e1 e2 e3
 injection e1 with e1
 injection e1 with e1 e4
 subst e1 e3 e4;refine⟨g,o+n*4,c-n,rfl,oM,d,k,λj l=>?_⟩;have:=b (n+j) oM;rw[show o+4*(n+j)=o+n*4+4*j by omega]at this;exact this
theorem SLq.low{Q:Nat->Prop}{W:Ut}{o n c:Nat}{T:Nat->Nat}(h:SLq Q W (.slice (some ⟨g,o,none⟩) (n+n) c) (n+n) T):SLq Q W (.slice (some ⟨g,o,none⟩) n c) n T:=by
 obtain⟨l,i,m,e,p,d,b,k⟩:=h;injection e with e1 e2 e3
 injection e1 with e1
 injection e1 with e1 e4
 subst e1 e3 e4;exact⟨g,o,c,rfl,oM,d,b,λj f=>k j oM⟩
def CrR(Q:Nat->Prop)(w:Ut)(n:Nat)(G H:Nat->List (Nat × Bs))(U:List (Nat × Bs))(e:Uv)(w':Ut):Prop:=kZ w w'/\∃b k,e=.tuple #[.agg b,.agg k]/\b.size=3/\k.size=3/\b.all (·.oneCell')=true/\k.all (·.oneCell')=true/\GRq Q w' (.agg b) n (λi=>G (n+i)) H U/\GRq Q w' (.agg k) n G (λi=>H (n+i)) U
theorem GQ{Q:Nat->Prop}(n:Nat)(hc:0<n)(hn:n<=500)(G H:Nat->List (Nat × Bs))(U:List (Nat × Bs))(v:Uv)(w:Ut)(h0:GRq Q w v (n+n) G H U):
 UK prog 157 #[v] w (Ret (CrR Q w n G H U)):=by
 obtain⟨vg,vh,b,rfl,h3,h4,h5⟩:=h0.ex;obtain⟨c,d,c1,rfl,T,-⟩:=id h3;obtain⟨f,g,c2,rfl,h6,-⟩:=id h4;obtain⟨g3,c3,rfl,-⟩:=id h5;have L:Hid (GLq Q w (.slice (some ⟨c,d+n,none⟩) n (c1-n)) n (λi=>G (n+i))/\GLq Q w (.slice (some ⟨f,g,none⟩) n c2) n H/\GLq Q w (.slice (some ⟨c,d,none⟩) n c1) n G/\GLq Q w (.slice (some ⟨f,g+n,none⟩) n (c2-n)) n (λi=>H (n+i))/\SmQ Q w (.slice (some (aZ g3)) U.length c3) U):=⟨h3.high,h4.low,h3.low,h4.high,h5⟩
 have A:=Iq c d (n+n) c1 n oM T;have E:=Ir f g (n+n) c2 n oM;have D:=Ir c d (n+n) c1 n oM;have z:=Iq f g (n+n) c2 n oM h6;rw[yAX]at A z;obtain⟨m,hm⟩:∃m,Hid (n+n=m):=⟨_,rfl⟩
 have hq:(m:Int).tdiv 2=(n:Int):=by rw[<-hm.out,Yd oM];omega
 rw[hm.out]at A E D z;rw[hm.out];obtain⟨b,q⟩:∃v,Hid (VA (some (aZ g3)) U.length c3=v):=⟨_,rfl⟩
 have h8:b.oneCell'=true:=by rw[<-q.out];rfl
 rw[q.out]at L;rw[q.out];obtain⟨k,R⟩:∃k,Hid (w.heap.size=k):=⟨_,rfl⟩
 obtain⟨y,B⟩:∃y,Hid (w.alloc (.cells #[.slice (some ⟨c,d,none⟩) m c1,.slice (some ⟨f,g,none⟩) m c2,b] 133)=y):=⟨_,rfl⟩
 obtain⟨P,K⟩:∃P,Hid (y.alloc (.cells #[.slice none 0 0,.slice none 0 0,.slice none 0 0] 133)=P):=⟨_,rfl⟩
 obtain⟨F,Z⟩:∃F,Hid (P.alloc (.cells #[.slice none 0 0,.slice none 0 0,.slice none 0 0] 133)=F):=⟨_,rfl⟩
 have S:P.heap.size=k+2:=by rw[<-K.out,UD,<-B.out,UD,R.out]
 have C:y.heap.size=k+1:=by rw[<-B.out,UD,R.out]
 have I:Hid (Below w.heap.size w F/\Row F k [.slice (some ⟨c,d,none⟩) m c1,.slice (some ⟨f,g,none⟩) m c2,b]/\Row F (k+1) [.slice none 0 0,.slice none 0 0,.slice none 0 0]/\Row F (k+2) [.slice none 0 0,.slice none 0 0,.slice none 0 0]):=by
  have b1:Below w.heap.size w y:=by rw[<-B.out];exact aC _ _
  have p:Row y k [.slice (some ⟨c,d,none⟩) m c1,.slice (some ⟨f,g,none⟩) m c2,b]:=by rw[<-B.out,<-R.out];exact aE w _ _
  have l:=aE y [.slice none 0 0,.slice none 0 0,.slice none 0 0] 133;have o:=aE (y.alloc (.cells #[.slice none 0 0,.slice none 0 0,.slice none 0 0] 133)) [.slice none 0 0,.slice none 0 0,.slice none 0 0] 133;rw[UD,C]at o;rw[C]at l;rw[<-Z.out,<-K.out];exact⟨(b1.alloc b1.size _).alloc (by rw[UD];have:=b1.size;omega) _,(p.alloc _).alloc _,l.alloc _,o⟩
 obtain⟨v0,X⟩:∃v,Hid (U5 #[.slice (some ⟨c,d,none⟩) m c1,.slice (some ⟨f,g,none⟩) m c2,b]=v):=⟨_,rfl⟩
 have B1:Hid ((Vh 133 v0).run prog w=.ok (jZ k) y):=by rw[<-X.out,<-B.out,<-R.out];exact CN _ _ _ _
 rw[X.out];have HK:Hid (w.heap.size=k):=R;have HV:Hid (b.oneCell'=true):=h8;have HZ:Hid (y.heap.size=k+1/\P.heap.size=k+2):=⟨C,S⟩
 have cK:F.cell? ⟨k,0,none⟩=some (.slice (some ⟨c,d,none⟩) m c1):=I.2.1.2.1 0 _ rfl;clear h0 h3 h4 h5 T h6 h8 R C S;go_enter func157,ntmps157;go_wp2_with (first|(refine aF (u:=v0) (v:=jZ k) (w':=y) rfl 133 (.tmp 0) rfl ?_ ?_ ?_;rfl;exact B1.out)|(refine fC (v:=.pointer (some ⟨k+1,0,none⟩)) (w':=P) rfl 133 2 rfl rfl ?_ ?_;(rw[<-K.out,<-HZ.1];kernel_rfl))|(refine fC (v:=.pointer (some ⟨k+2,0,none⟩)) (w':=F) rfl 133 3 rfl rfl ?_ ?_;(rw[<-Z.out,<-HZ.2];kernel_rfl))|fail)
 clear cK hq;obtain⟨sg,ha⟩:∃s,Hid (VA (some ⟨c,d,none⟩) m c1=s):=⟨_,rfl⟩
 obtain⟨sh,h9⟩:∃s,Hid (VA (some ⟨f,g,none⟩) m c2=s):=⟨_,rfl⟩
 rw[ha.out]at A D I;rw[h9.out]at E z I;obtain⟨o,O⟩:∃e,Hid ((#[.slice (some ⟨c,d+n,none⟩) n (c1-n),.slice (some ⟨f,g,none⟩) n c2,b]:Array Uv)=e):=⟨_,rfl⟩
 obtain⟨t,N⟩:∃e,Hid ((#[.slice (some ⟨c,d,none⟩) n c1,.slice (some ⟨f,g+n,none⟩) n (c2-n),b]:Array Uv)=e):=⟨_,rfl⟩
 have r:Hid (o.size=3/\t.size=3/\o.all (·.oneCell')=true/\t.all (·.oneCell')=true):=by
  rw[<-O.out,<-N.out,<-q.out];exact⟨rfl,rfl,kR,kR⟩
 have HI:Hid ((prog.info? 133).map (·.size)=some o.size/\(prog.info? 133).map (·.size)=some t.size/\(prog.info? 133).map (·.size)=some o.toList.length/\(prog.info? 133).map (·.size)=some t.toList.length):=by
  rw[UL,UL,r.1,r.2.1];exact⟨iGr,iGr,iGr,iGr⟩
 refine(gwL [pE (jZ k),pE sg,pE (iZ n),pE (.slice (some ⟨c,d+n,none⟩) n (c1-n)),pE (.pointer (some ⟨k,1,none⟩)),pE sh,pE (iZ n),pE (.slice (some ⟨f,g,none⟩) n c2),pE (.pointer (some ⟨k,2,none⟩)),pE b,pE (.agg #[.slice (some ⟨c,d+n,none⟩) n (c1-n),.slice (some ⟨f,g,none⟩) n c2,b]),
  pE (jZ k),pE sg,pE (iZ n),pE (.slice (some ⟨c,d,none⟩) n c1),pE (.pointer (some ⟨k,1,none⟩)),pE sh,pE (iZ n),pE (.slice (some ⟨f,g+n,none⟩) n (c2-n)),pE (.pointer (some ⟨k,2,none⟩)),pE b,pE (.agg #[.slice (some ⟨c,d,none⟩) n c1,.slice (some ⟨f,g+n,none⟩) n (c2-n),b]),⟨λ_ W=>Row W (k+1) o.toList,λ_ _ _ J h=>h.below J⟩] (λW=>Below w.heap.size w W/\Row W k [sg,sh,b]/\(k+1<W.heap.size/\W.there (k+1) 0 3)/\Row W (k+2) [.slice none 0 0,.slice none 0 0,.slice none 0 0]) (λW W' J h=>⟨h.1.trans (J.mono h.1.size),h.2.1.below J,⟨Uz h.2.2.1.1 J.size,dM h.2.2.1.2 J h.2.2.1.1⟩,h.2.2.2.below J⟩)).tailS 22 (λW W'=>W'=W.setCells (k+1) 0 o.toList) 23 (λj v W W' M V hR=>by
  subst V;match j,hR,M with
  | 0,hR,_=>exact hR
  | 1,hR,_=>exact hR
  | 2,hR,_=>exact hR
  | 3,hR,_=>exact hR
  | 4,hR,_=>exact hR
  | 5,hR,_=>exact hR
  | 6,hR,_=>exact hR
  | 7,hR,_=>exact hR
  | 8,hR,_=>exact hR
  | 9,hR,_=>exact hR
  | 10,hR,_=>exact hR
  | 11,hR,_=>exact hR
  | 12,hR,_=>exact hR
  | 13,hR,_=>exact hR
  | 14,hR,_=>exact hR
  | 15,hR,_=>exact hR
  | 16,hR,_=>exact hR
  | 17,hR,_=>exact hR
  | 18,hR,_=>exact hR
  | 19,hR,_=>exact hR
  | 20,hR,_=>exact hR
  | 21,hR,_=>exact hR
  | 22,_,M=>exact absurd rfl M
  | _+23,_,_=>trivial) (λW W' V h=>by subst V;exact⟨RG.below_setCells (by rw[HK.out];omega) _ _ _ h.1,aR h.2.1 oM,⟨by rw[setCells_size];exact h.2.2.1.1,V7 h.2.2.1.2 _ _ _⟩,aR h.2.2.2 oM⟩) kR kR kR ⟨
  jS (gO 1 (jZ k)),
  jS (fG 129 0 9 k 0 sg uGL (λx W h=>h) (λW l=>l.2.1.2.1 0 _ rfl) (λ_=>rfl)),
  jS (gO 4 (iZ n)),
  jS (RG.gX 1 10 2 11 A),
  jS (gP 1 (jZ k) (.pointer (some ⟨k,1,none⟩))),
  jS (fG 129 4 13 k 1 sh uGL (λx W h=>h) (λW l=>l.2.1.2.1 1 _ rfl) (λ_=>rfl)),
  jS (gO 4 (iZ n)),
  jS (RG.gX 5 14 6 15 E),
  jS (gP 1 (jZ k) (.pointer (some ⟨k,2,none⟩))),
  jS (fG 131 8 17 k 2 b AC (λx W h=>h) (λW l=>l.2.1.2.1 2 _ rfl) (λ_=>rfl)),
  jS (Jp [(12,.slice (some ⟨c,d+n,none⟩) n (c1-n)),(16,.slice (some ⟨f,g,none⟩) n c2),(18,b)] (.agg #[.slice (some ⟨c,d+n,none⟩) n (c1-n),.slice (some ⟨f,g,none⟩) n c2,b]) (λa W p=>⟨p.n 3 12 kR kR,p.n 7 16 kR kR,p.n 9 18 kR kR,yCm⟩) (λ_=>rfl) (λW=>by
   rw[<-q.out];kernel_rfl)),
  jS (gO 1 (jZ k)),
  jS (fG 129 11 20 k 0 sg uGL (λx W h=>h) (λW l=>l.2.1.2.1 0 _ rfl) (λ_=>rfl)),
  jS (gO 4 (iZ n)),
  jS (RG.gX 12 21 13 22 D),
  jS (gP 1 (jZ k) (.pointer (some ⟨k,1,none⟩))),
  jS (fG 129 15 24 k 1 sh uGL (λx W h=>h) (λW l=>l.2.1.2.1 1 _ rfl) (λ_=>rfl)),
  jS (gO 4 (iZ n)),
  jS (RG.gX 16 25 17 26 z),
  jS (gP 1 (jZ k) (.pointer (some ⟨k,2,none⟩))),
  jS (fG 131 19 28 k 2 b AC (λx W h=>h) (λW l=>l.2.1.2.1 2 _ rfl) (λ_=>rfl)),
  jS (Jp [(23,.slice (some ⟨c,d,none⟩) n c1),(27,.slice (some ⟨f,g+n,none⟩) n (c2-n)),(29,b)] (.agg #[.slice (some ⟨c,d,none⟩) n c1,.slice (some ⟨f,g+n,none⟩) n (c2-n),b]) (λa W p=>⟨p.n 14 23 kR kR,p.n 18 27 kR kR,p.n 20 29 kR kR,yCm⟩) (λ_=>rfl) (λW=>by
   rw[<-q.out];kernel_rfl)),
  To λa W p=>⟨_,by
   have h1:a.eval (.tmp 19)=.agg o:=by
    have:=p.n 10 19 kR kR;rw[<-O.out];exact this
   have Y:a.eval (.tmp 2)=.pointer (some ⟨k+1,0,none⟩):=(p.o 2 kR).trans rfl;have hT:W.there (k+1) 0 o.size:=by rw[r.1];exact p.b.2.2.1.2
   unfold U9;simp only[h1,Y,Y6,Yy,UW,WA,Vr,yAf W (k+1) 0 133 o hT HI.1 r.2.2.1],rfl,⟨by rw[setCells_size];exact p.b.2.2.1.1,VZ W (k+1) 0 o.toList (by rw[UL,r.1];exact p.b.2.2.1.2),V7 (by rw[UL,r.1];exact p.b.2.2.1.2) _ _ _⟩⟩,yCm⟩ ⟨I.1.drew,I.2.1,⟨I.2.2.1.1,I.2.2.1.2.2⟩,I.2.2.2⟩ ?_
 intro V w3 hR l;have p:V 21=.agg #[.slice (some ⟨c,d,none⟩) n c1,.slice (some ⟨f,g+n,none⟩) n (c2-n),b]:=hR 21 dC;have J:Row w3 (k+1) o.toList:=hR 22 dC;rw[N.out]at p;obtain⟨M,Y⟩:∃M,Hid (w3.setCells (k+2) 0 t.toList=M):=⟨_,rfl⟩
 have K5:Hid (Row M (k+1) o.toList/\Row M (k+2) t.toList/\Below w.heap.size w M):=by
  rw[<-Y.out];exact⟨aR J oM,l.2.2.2.put (by rw[UL,r.2.1];rfl),RG.below_setCells (by rw[HK.out];omega) _ _ _ l.1⟩
 have HT:Hid (w3.there (k+2) 0 t.size):=by
  rw[r.2.1];exact l.2.2.2.2.2
 have HP:Hid (CrR Q w n G H U (.tuple #[.agg o.toList.toArray,.agg t.toList.toArray]) M):=by
  have kq:∀ {Q:Nat->Prop},Kq Q w M:=Kq.of_below K5.2.2;refine⟨K5.2.2,o,t,rfl,r.1,r.2.1,r.2.2.1,r.2.2.2,?_,?_⟩
  ·rw[<-O.out];exact⟨_,_,_,rfl,L.1.keep kq,L.2.1.keep kq,L.2.2.2.2.keep kq⟩
  ·rw[<-N.out];exact⟨_,_,_,rfl,L.2.2.1.keep kq,L.2.2.2.1.keep kq,L.2.2.2.2.keep kq⟩
 dsimp only[bU,VO,Xn,Xo];simp only[UR,Uu,Uw,Ux];obtain⟨x2,h7⟩:∃x,Hid (U5 t=x):=⟨_,rfl⟩
 rw[p,h7.out];clear hR l p J A E D z;generalize V 0=s0;generalize V 1=s1;generalize V 2=s2;generalize V 3=s3;generalize V 4=s4;generalize V 5=s5;generalize V 6=s6;generalize V 7=s7;generalize V 8=s8;generalize V 9=s9;generalize V 10=s10;generalize V 11=s11;generalize V 12=s12;generalize V 13=s13;generalize V 14=s14;generalize V 15=s15;generalize V 16=s16;generalize V 17=s17;generalize V 18=s18;generalize V 19=s19;generalize V 20=s20;go_wp2_with (first|(refine U3 rfl 133 (.tmp 3) _ rfl (k+2) 0 t ?_ ?_ ?_ ?_ ?_ ?_;rfl;exact h7.symm;exact HT.out;exact HI.2.1;exact r.2.2.2;rw[Y.out])|fail)
 refine UH (qE 2 3 133 133 rfl K5.1 K5.2.1 rfl rfl uGr HI.2.2.1 uGr HI.2.2.2) rfl ?_;exact⟨_,rfl,HP.out⟩
theorem GRq.ar{Q:Nat->Prop}{W:Ut}{v:Uv}{n:Nat}{G H:Nat->List (Nat × Bs)}{U:List (Nat × Bs)}(h:GRq Q W v n G H U):∃e:Array Uv,v=.agg e/\e.size=3/\e.all (·.oneCell')=true:=by
 obtain⟨d,f,b,rfl,⟨k,g,c1,rfl,-⟩,⟨c,l,c2,rfl,-⟩,⟨i,j,rfl,-⟩⟩:=h.ex;exact⟨_,rfl,rfl,kR⟩
structure FgI(w W:Ut)(k x xi:Nat)(vg vh vu:Uv):Prop where
 bl:kZ w W
 r2:Row W k [vg,vh,vu]
 r3:Row W (k+1) (wn x)
 r4:Row W (k+2) [.slice none 0 0,.slice none 0 0,.slice none 0 0]
theorem FgI.grow{w W W':Ut}{k x c:Nat}{e f d:Uv}(h:FgI w W k x c e f d)(b:kZ W W'):FgI w W' k x c e f d:=⟨h.bl.trans (b.mono h.bl.size),h.r2.below b,h.r3.below b,h.r4.below b⟩
theorem FgI.drew{w W:Ut}{k x b:Nat}{d e c:Uv}(h:FgI w W k x b d e c):FgI w W.drew k x b d e c:=h.grow ⟨rfl,rfl,rfl,Uy _,λ_ _=>rfl⟩
theorem Fq(O:Ord N){Q:Nat->Prop}(n c:Nat)(ht:0<n)(G H:Nat->List (Nat × Bs))(U:List (Nat × Bs))(hG:GOk N (n+n) c G H U)(x:Nat)(hx:x<N)(v:Uv)(w:Ut)(hQ:∀g,w.heap.size<=g->Q g)(h0:GRq Q w v (n+n) G H U):
 UK prog 161 #[v,nv x] w (rZ w λe w'=>GRq Q w' e n (lC N (sIn N x) x n G) (lC N x (sIn N x) n H) U):=by
 obtain⟨q,r,i,rfl,P,h4,h5⟩:=h0.ex;have R:sIn N x<N:=V6 _ O.pos;have hi:=λW=>uR O x hx W
 have L:=λ(W:Ut) (f:kZ w W)=>JC O n (by have:=hG.nle;omega) c (by have:=hG.cle;omega) hG.c0 G (sIn N x) x R hx hG.g q W (P.keep (Kq.of_below f))
 have K:=λ(W:Ut) (f:kZ w W)=>JC O n (by have:=hG.nle;omega) c (by have:=hG.cle;omega) hG.c0 H x (sIn N x) hx R hG.h r W (h4.keep (Kq.of_below f))
 generalize lC N (sIn N x) x n G=G' at L⊢;generalize lC N x (sIn N x) n H=H' at K⊢;generalize sIn N x=j at hi L K;have HX:=mk3 hi L K;have HU:=mk2 h5 hQ;obtain⟨k,hk⟩:=hE (w.heap.size);obtain⟨m,s⟩:=hE (w.alloc (.cells #[q,r,i] 133));obtain⟨t,B⟩:=hE (m.alloc (.cells (wn x).toArray 49));obtain⟨w3,F⟩:=hE (t.alloc (.cells #[.slice none 0 0,.slice none 0 0,.slice none 0 0] 133));have D:m.heap.size=k+1:=by rw[<-s.out,UD,hk.out]
 have hj:t.heap.size=k+2:=by rw[<-B.out,UD,D]
 have K3:Hid (FgI w w3 k x j q r i):=by
  have b1:kZ w m:=by rw[<-s.out];exact aC _ _
  have o:kZ m t:=by rw[<-B.out];exact aC _ _
  have l:kZ t w3:=by rw[<-F.out];exact aC _ _
  have C:Row m k [q,r,i]:=by rw[<-s.out,<-hk.out];exact aE w _ _
  have p:Row t (k+1) (wn x):=by rw[<-B.out,<-D];exact aE m _ _
  have A:Row w3 (k+2) [.slice none 0 0,.slice none 0 0,.slice none 0 0]:=by rw[<-F.out,<-hj];exact aE t _ _
  exact⟨(b1.trans (o.mono b1.size)).trans (l.mono (UE b1.size o.size)),(C.below o).below l,p.below l,A⟩
 obtain⟨v0,Y⟩:=hE (U5 #[q,r,i]);obtain⟨vx,A⟩:=hE (nv x);have B1:Hid ((Vh 133 v0).run prog w=.ok (jZ k) m):=by rw[<-Y.out,<-s.out,<-hk.out];exact CN _ _ _ _
 have B2:Hid ((Vh 49 vx).run prog m=.ok (.pointer (some ⟨k+1,0,none⟩)) t):=by rw[<-A.out,<-B.out,<-D];exact boxS x m
 have HZ:=mk1 (hj);obtain⟨d,hr,hm⟩:=UA.1 u40;have HD:=mk2 hr hm;rw[Y.out,A.out];go_enter func161,ntmps161;go_wp2_with (first|(refine aF (u:=v0) (v:=jZ k) (w':=m) rfl 133 (.tmp 0) rfl ?_ ?_ ?_;rfl;exact B1.out)|(refine aF (u:=vx) (v:=.pointer (some ⟨k+1,0,none⟩)) (w':=t) rfl 49 (.tmp 1) rfl ?_ ?_ ?_;rfl;exact B2.out)|(refine fC (v:=.pointer (some ⟨k+2,0,none⟩)) (w':=w3) rfl 133 4 rfl rfl ?_ ?_;(rw[<-F.out,<-HZ.out];kernel_rfl))|(refine ldR 3 K3.r3.2.1 A u40 nSc ?_)|fail)
 rw[<-A.out];refine(HX.1 w3).mono ?_;rintro e w4 ⟨u,rfl,hq,rfl⟩;obtain⟨M,I⟩:=hE (w4.heap.size);obtain⟨w5,h7⟩:=hE (w4.alloc (.cells #[uZ 0,uZ 0,uZ 0,uZ 0] 49));obtain⟨w6,Z⟩:=hE (w5.setCells M 0 (wn j));have F5:Hid (Row w5 M [uZ 0,uZ 0,uZ 0,uZ 0]/\kZ w4 w5):=by rw[<-h7.out,<-I.out];exact⟨aE w4 _ _,aC _ _⟩
 have K6:Hid (FgI w w6 k x j q r i/\Row w6 M (wn j)):=by
  rw[<-Z.out];exact⟨(K3.grow hq).grow (RG.below_setCells (by rw[I.out];exact Uy _) _ _ _ F5.2),F5.1.put rfl⟩
 obtain⟨vi,X⟩:=hE (nv j);rw[X.out];go_wp2_with (first|(refine alR 5 I h7 ?_)|(refine stR 5 Z X F5.1.2.2 nSc (aM j) ?_)|fail)
 refine(gwL [pE (jZ k),pE q,pE (nv j),pE (nv x),pG (λg=>w.heap.size<=g/\g≠k+2) n G',pE (oZ k 1),pE r,pE (nv x),pE (nv j),pG (λg=>w.heap.size<=g/\g≠k+2) n H',pE (oZ k 2),pE i,⟨λv W=>∃x y,v=.agg #[x,y,i]/\GLq (λg=>w.heap.size<=g/\g≠k+2) W x n G'/\GLq (λg=>w.heap.size<=g/\g≠k+2) W y n H',λ_ _ _ l ⟨x,y,h1,S,P⟩=>⟨x,y,h1,S.keep (Kq.of_below l),P.keep (Kq.of_below l)⟩⟩] (λW=>FgI w W k x j q r i/\Row W M (wn j)) (λW W' l h=>⟨h.1.grow l,h.2.below l⟩)).last 13 kR kR kR ⟨
  gO 2 (jZ k),
  fG 129 0 8 k 0 q uGL (λx W h=>h) (λW f=>f.1.r2.2.1 0 _ rfl) (λ_=>rfl),
  iE 49 5 M 0 (wn j) rSc nSc rfl (λW f=>f.2.2.1) (λ_=>rfl),
  iE 49 3 (k+1) 0 (wn x) rSc nSc rfl (λW f=>f.1.r3.2.1) (λ_=>rfl),
  rF 1 9 2 10 3 11 217 (λx y z=>#[x,y,z]) (λa b c W o l p f=>by
   obtain rfl:a=q:=o;obtain rfl:b=nv j:=l;obtain rfl:c=nv x:=p;refine(HX.2.1 W f.1.bl).mono ?_;rintro e W' ⟨u,rfl,l,C⟩;exact⟨_,rfl,l,C.mono λg J=>⟨UE f.1.bl.size J,by have:=f.1.r4.1;omega⟩⟩),
  gP 2 (jZ k) (oZ k 1),
  fG 129 5 13 k 1 r uGL (λx W h=>h) (λW f=>f.1.r2.2.1 1 _ rfl) (λ_=>rfl),
  iE 49 3 (k+1) 0 (wn x) rSc nSc rfl (λW f=>f.1.r3.2.1) (λ_=>rfl),
  iE 49 5 M 0 (wn j) rSc nSc rfl (λW f=>f.2.2.1) (λ_=>rfl),
  rF 6 14 7 15 8 16 217 (λx y z=>#[x,y,z]) (λa b c W o l p f=>by
   obtain rfl:a=r:=o;obtain rfl:b=nv x:=l;obtain rfl:c=nv j:=p;refine(HX.2.2 W f.1.bl).mono ?_;rintro e W' ⟨u,rfl,l,C⟩;exact⟨_,rfl,l,C.mono λg J=>⟨UE f.1.bl.size J,by have:=f.1.r4.1;omega⟩⟩),
  gP 2 (jZ k) (oZ k 2),
  fG 131 10 18 k 2 i AC (λx W h=>h) (λW f=>f.1.r2.2.1 2 _ rfl) (λ_=>rfl),
  bN (λa W C=>by
   have h1:=C.n 4 12 kR kR;have S:=C.n 9 17 kR kR;have P:=C.n 11 19 kR kR;obtain⟨g1,o1,c1,V,-⟩:=id h1;obtain⟨T,o2,c2,E,-⟩:=id S;obtain⟨g3,c3,e3,-⟩:=HU.1;rw[V]at h1;rw[E]at S;refine⟨[(12,.slice (some ⟨g1,o1,none⟩) n c1),(17,.slice (some ⟨T,o2,none⟩) n c2),(19,i)],.agg #[.slice (some ⟨g1,o1,none⟩) n c1,.slice (some ⟨T,o2,none⟩) n c2,i],W,⟨V,E,P,yCm⟩,?_,UT _ _,⟨_,_,rfl,h1,S⟩⟩;rw[e3];kernel_rfl),yCm⟩ ⟨K6.1.drew,K6.2⟩ ?_
 intro V E hR f;obtain⟨p,o,hV,h9,h6⟩:∃x y,V 12=.agg #[x,y,i]/\GLq (λg=>w.heap.size<=g/\g≠k+2) E x n G'/\GLq (λg=>w.heap.size<=g/\g≠k+2) E y n H':=hR 12 dC;have hn:=HU.1.keep (Kq.of_below f.1.bl);have C:∀g,w.heap.size<=g/\g≠k+2->Q g:=λg J=>HU.2 g J.1
 have gr:GRq Q E (.agg #[p,o,i]) n G' H' U:=⟨_,_,_,rfl,h9.mono C,h6.mono C,hn⟩
 obtain⟨e,he,hu,hl⟩:=gr.ar;obtain rfl:#[p,o,i]=e:=by injection he
 obtain⟨w8,h8⟩:=hE (E.setCells (k+2) 0 [p,o,i]);have K8:Hid (kZ w w8/\Row w8 (k+2) [p,o,i]/\GRq Q w8 (.agg #[p,o,i]) n G' H' U):=by
  rw[<-h8.out];have kq:Kq (λg=>w.heap.size<=g/\g≠k+2) E (E.setCells (k+2) 0 [p,o,i]):=Kq.set λg J=>J.2
  have T:kZ w (E.setCells (k+2) 0 [p,o,i]):=RG.below_setCells (by rw[hk.out];omega) _ _ _ f.1.bl;exact⟨T,f.1.r4.put rfl,_,_,_,rfl,(h9.keep kq).mono C,(h6.keep kq).mono C,HU.1.keep (Kq.of_below T)⟩
 have HT:=mk2 f.1.r4.2.2 hl;dsimp only[bU,VO,Xn,Xo];simp only[UR,Uu,Uw,Ux];obtain⟨ve,T⟩:=hE (U5 #[p,o,i]);rw[hV,T.out];go_wp2_with (first|(refine U3 rfl 133 (.tmp 4) _ rfl (k+2) 0 #[p,o,i] ?_ ?_ ?_ ?_ ?_ ?_;rfl;exact T.symm;exact HT.1;exact iGr;exact HT.2;rw[show(#[p,o,i]:Array Uv).toList=[p,o,i] from rfl,h8.out])|fail)
 refine UH (aG 4 133 rfl K8.2.1 rfl uGr iGr) rfl ?_;exact⟨_,rfl,K8.1,K8.2.2⟩
def lgV(r:Nat):Uv:=.agg #[jZ r]
theorem uLg:(prog.underlying 145).map (·.isRow)=some true:=kR
theorem iLg:(prog.info? 145).map (·.size)=some 1:=kR
theorem uLp:(prog.underlying 141).map (·.isRow)=some false:=kR
theorem Nf(r:Nat)(w:Ut):(Vh 145 (lgV r)).run prog w=.ok (jZ w.heap.size) (w.alloc (.cells #[jZ r] 145)):=kR
theorem fF{W:Ut}{r o:Nat}{vs:List Uv}{L:Bs}(h:Holds encB W r 0 L)(k:r≠K):Holds encB (W.setCells K o vs) r 0 L:=λj b=>by
 have e:=aH K vs o W r k;rw[U0 (a:=⟨r,0+j,none⟩) e,VR (a:=⟨r,0+j,none⟩) e];exact h j b
theorem GG(k:ByteArray)(w:Ut)(c:k.size<=1048576):UK prog 144 #[.string k] w (rZ w λe w'=>∃r,e=lgV r/\w.heap.size<=r/\r<w'.heap.size/\Holds encB w' r 0 (newL k.data.toList)):=by
 obtain⟨L,s⟩:=hE (newL k.data.toList);rw[s.out];obtain⟨o,i⟩:=hE (w.alloc (.cells #[.pointer none] 145));have j:Hid (Row o w.heap.size [.pointer none]/\kZ w o):=by rw[<-i.out];exact⟨aE w _ _,aC w _⟩
 go_enter func144,ntmps144;go_wp2_with fail
 rw[i.out];refine(Gq k o c).mono ?_;rintro e q ⟨u,rfl,b,r,rfl,p,n,f⟩;rw[s.out]at f;have t:=Uz j.1.1 p;have g:=mk4 (j.1.below b) (j.2.trans (b.mono j.2.size)) f n;obtain⟨m,d⟩:=hE (q.setCells w.heap.size 0 [jZ r]);have l:Hid (Row m w.heap.size [jZ r]/\kZ w m/\Holds encB m r 0 L/\r<m.heap.size):=by
  rw[<-d.out];exact⟨g.1.put rfl,RG.below_setCells (Uy _) _ _ _ g.2.1,fF g.2.2.1 oM,by rw[setCells_size];exact g.2.2.2⟩
 go_wp2_with (refine bG (v:=.agg #[jZ r]) (w':=q) rfl (.build 145 _) rfl ?_ ?_;kernel_rfl;refine Zq ?_)
 show wpList _ _ _ _ _ _;refine U3 rfl 145 _ _ rfl w.heap.size 0 #[jZ r] ?_ ?_ ?_ ?_ ?_ ?_
 ·kernel_rfl
 ·kernel_rfl
 ·exact g.1.2.2
 ·exact iLg
 ·kernel_rfl
 rw[show(#[jZ r]).toList=[jZ r] from rfl,d.out];go_wp2;refine UH (aG 2 145 rfl l.1 rfl uLg iLg) rfl ?_;exact⟨_,rfl,l.2.1,r,rfl,oM,l.2.2.2,l.2.2.1⟩
theorem yX(O:Ord N)(r:Nat)(L:Bs)(w:Ut)(t:Holds encB w r 0 L)(G:L.size=32):
 UK prog 209 #[.agg #[jZ r]] w (Ret λe w'=>SP.Only r 0 32 w w'/\Holds encB w' r 0 (bB L)/\e=nv (cha N L)):=by
 have q:=Holds.lt t oM;obtain⟨k,c⟩:∃k,Hid ((w.alloc (.cells #[jZ r] 143)).alloc (.cells #[uZ 0,uZ 0,uZ 0,uZ 0] 49)=k):=⟨_,rfl⟩
 have p:Hid (Row k (w.heap.size+1) [uZ 0,uZ 0,uZ 0,uZ 0]/\kZ w k/\Holds encB k r 0 L/\k.rangeAt w.heap.size 0 [jZ r]):=by
  rw[<-c.out];have b:kZ w ((w.alloc (.cells #[jZ r] 143)).alloc (.cells #[uZ 0,uZ 0,uZ 0,uZ 0] 49)):=(aC w _).alloc (by rw[UD];omega) _;have hR:=aE (w.alloc (.cells #[jZ r] 143)) [uZ 0,uZ 0,uZ 0,uZ 0] 49;rw[UD]at hR;exact⟨hR,b,Holds.below t b q,((aE w [jZ r] 143).alloc _).2.1⟩
 clear t;obtain⟨d,i,l⟩:=UA.1 u124;have C:Hid (prog.underlying 143=some d/\d.isRow=true):=⟨i,l⟩
 clear i l;have z:=Dm O r L ⟨#[99,104,97,108,108,101,110,103,101]⟩ k dC p.2.2.1 G;have g:oS N (CQ L (⟨#[99,104,97,108,108,101,110,103,101]⟩:ByteArray).data.toList 64)=cha N L:=rfl;have n:tH L (⟨#[99,104,97,108,108,101,110,103,101]⟩:ByteArray).data.toList=bB L:=rfl;rw[g,n]at z;have u:(bB L).size=32:=bE _ _;have a:=Hid.mk' z;obtain⟨m,B⟩:=hE (cha N L);obtain⟨E,b⟩:=hE (bB L);rw[B.out,b.out]at a;rw[b.out]at u;rw[B.out,b.out];go_enter func209,ntmps209;go_wp2_with (refine U8 rfl 143 _ rfl w.heap.size 0 ?_ [jZ r] d ?_ ?_ ?_ ?_ ?_;kernel_rfl;(rw[c.out];exact p.2.2.2);exact C.1;exact C.2;exact i124;rw[c.out])
 refine a.mono ?_;rintro e F ⟨v,rfl,A,y,rfl⟩;have D:=Holds.lt y oM;have o:=mk3 (p.1.only A oM) ((SP.Only.of_below p.2.1 rfl q).trans A) y;obtain⟨x,j⟩:=hE (F.setCells (w.heap.size+1) 0 (wn m));have s:Hid (Row x (w.heap.size+1) (wn m)/\SP.Only r 0 32 w x/\Holds encB x r 0 E):=by rw[<-j.out];exact⟨o.1.put rfl,dX o.2.1 q oM _,fF o.2.2 oM⟩
 obtain⟨H,f⟩:=hE (nv m);rw[f.out];go_wp2_with (refine U3 rfl 49 _ _ rfl (w.heap.size+1) 0 (wn m).toArray ?_ ?_ ?_ ?_ ?_ ?_;rfl;exact f.symm;exact o.1.2.2;exact i40;exact aM m;rw[show(wn m).toArray.toList=wn m from rfl,j.out])
 refine UH (aG 2 49 rfl s.1 rfl u40 i40) rfl ?_;exact⟨_,rfl,s.2.1,s.2.2,rfl⟩
def chS(N:Nat)(L:Bs):Nat:=tY (cha N L)
theorem FG[NeZero N](d:1<N)(L:Bs)(b:cha N L<N):chS N L=(kO N L).val:=by
 unfold chS kO Mw tY;generalize cha N L=c at b;have hv:(ofF N c).val=c:=UU b;by_cases k:c=0
 ·subst k;rw[yCk rfl,yCk rA];exact(UU d).symm
 ·rw[yCl k,yCl (λe=>k (by rw[<-hv,e];exact YO N)),hv]
theorem yF(O:Ord N)(r:Nat)(L:Bs)(w:Ut)(z:Holds encB w r 0 L)(Q:L.size=32):
 UK prog 147 #[lgV r] w (Ret λe w'=>SP.Only r 0 32 w w'/\Holds encB w' r 0 (bB L)/\e=nv (chS N L)):=by
 have x:=Holds.lt z oM;obtain⟨k,f⟩:∃k,Hid ((w.alloc (.cells #[jZ r] 145)).alloc (.cells #[uZ 0,uZ 0,uZ 0,uZ 0] 49)=k):=⟨_,rfl⟩
 have p:Hid (Row k (w.heap.size+1) [uZ 0,uZ 0,uZ 0,uZ 0]/\kZ w k/\Holds encB k r 0 L/\k.rangeAt w.heap.size 0 [jZ r]):=by
  rw[<-f.out];have b:kZ w ((w.alloc (.cells #[jZ r] 145)).alloc (.cells #[uZ 0,uZ 0,uZ 0,uZ 0] 49)):=(aC w _).alloc (by rw[UD];omega) _;have hR:=aE (w.alloc (.cells #[jZ r] 145)) [uZ 0,uZ 0,uZ 0,uZ 0] 49;rw[UD]at hR;exact⟨hR,b,Holds.below z b x,((aE w [jZ r] 145).alloc _).2.1⟩
 clear z;obtain⟨d,i,o⟩:=UA.1 u124;have I:Hid (prog.underlying 143=some d/\d.isRow=true):=⟨i,o⟩
 clear i o;have M:=yX O r L k p.2.2.1 Q;have t:cha N L<N:=uS O _;have n:=λW=>Ms O t W
 have B:tY (cha N L)=chS N L:=rfl;rw[B]at n;have a:(bB L).size=32:=bE _ _;obtain⟨m,H⟩:=hE (cha N L);obtain⟨q,E⟩:=hE (chS N L);obtain⟨K,b⟩:=hE (bB L);have F:=Hid.mk' M;have C:=Hid.mk' n;rw[H.out,b.out]at F;rw[H.out,E.out]at C;rw[b.out]at a;rw[E.out,b.out];unfold lgV;go_enter func147,ntmps147;go_wp2_with (refine U8 rfl 143 _ rfl w.heap.size 0 ?_ [jZ r] d ?_ ?_ ?_ ?_ ?_;kernel_rfl;(rw[f.out];exact p.2.2.2);exact I.1;exact I.2;exact i124;rw[f.out])
 refine F.mono ?_;rintro e P ⟨v,rfl,G,D,rfl⟩;have l:=Holds.lt D oM;have u:=mk3 (p.1.only G oM) ((SP.Only.of_below p.2.1 rfl x).trans G) D;go_wp2_with fail
 refine(C P).mono ?_;rintro e J ⟨R,rfl,c,rfl⟩;have s:=mk3 (u.1.below c) (u.2.1.trans (SP.Only.of_below c rfl l)) (Holds.below u.2.2 c l);obtain⟨A,j⟩:=hE (J.setCells (w.heap.size+1) 0 (wn q));have y:Hid (Row A (w.heap.size+1) (wn q)/\SP.Only r 0 32 w A/\Holds encB A r 0 K):=by rw[<-j.out];exact⟨s.1.put rfl,dX s.2.1 x oM _,fF s.2.2 oM⟩
 obtain⟨S,g⟩:=hE (nv q);rw[g.out];go_wp2_with (refine U3 rfl 49 _ _ rfl (w.heap.size+1) 0 (wn q).toArray ?_ ?_ ?_ ?_ ?_ ?_;rfl;exact g.symm;exact s.1.2.2;exact i40;exact aM q;rw[show(wn q).toArray.toList=wn q from rfl,j.out])
 refine UH (aG 2 49 rfl y.1 rfl u40 i40) rfl ?_;exact⟨_,rfl,y.2.1,y.2.2,rfl⟩
end
namespace RG
open Go Go.RowKit
variable {P:VD}{ops:Array Vk}{Q:X9->Act->Ut->Prop}{w:Ut}{a0:Act}{F:Flow}
def mZ(k:Array Vk):Nat->Nat->Nat->Bool
 | 0,i,j=>depOn k i j
 | f+1,i,j=>depOn k i j || (VB i).any (λx=>depOn k i x && mZ k f x j)
def nN(k:Array Vk)(n:Nat):Bool:=(VB n).all (λj=>mZ k 5 n j) && (VB k.size).all (λi=>decide (i<=n) || depOn k i (i-1))
theorem yI{n i:Nat}(h:nN ops n=true)(c:n<i)(b:i<ops.size):depOn ops i (i-1)=true:=by
 unfold nN at h;rw[UN]at h;have k:=Va.1 h.2 i (VS.2 b);rw[WV,decide_eq_true_eq]at k;rcases k with k|k
 ·omega
 ·exact k
theorem wO{L:Array Bool}{a:Act}(b:InvF F ops a0 L a w):∀(f i j:Nat),i<ops.size->on L i=true->mZ ops f i j=true->on L j=true
 | 0,i,j,his,hi,h=>by
  have k:=UZ his;unfold mZ depOn at h;rw[k]at h;exact Bc (ho:=k) b h hi
 | f+1,i,j,his,hi,h=>by
  have k:=UZ his;unfold mZ at h;rw[WV]at h;have hd:∀x,depOn ops i x=true->on L x=true:=λx hx=>by
   unfold depOn at hx;rw[k]at hx;exact Bc (ho:=k) b hx hi
  rcases h with h|h
  ·exact hd j h
  ·obtain⟨x,hx,c⟩:=yBb.1 h;rw[UN]at c;exact wO b f x j (by have:=VS.1 hx;omega) (hd x c.1) c.2
theorem zC{n:Nat}(D:∀i,n<i->i<ops.size->depOn ops i (i-1)=true)(v:∀(i:Nat) (o:Vk),ops[i]? = some o->∀e∈o.after,VM .any e=true->e.on<i):∀(c:Nat) (L:Array Bool) (a:Act) (w:Ut) (m:Nat),n<=m->m<=ops.size->L.size=ops.size->(∀j,on L j=true↔j<m)->unl L=c->wpList P ops Q (ops.toList.drop m) a w->wpAny P .any ops Q c L a w:=by
 intro c;induction c with
 | zero =>
  intro L a w m z x t k A h;have q:m=ops.size:=by
   rcases VV m ops.size with d|d
   ·have:=gU A m oM;rw[k]at this;omega
   ·omega
  rw[q,<-UL,ZZ]at h;refine⟨?_,h⟩;apply List.eq_nil_iff_forall_not_mem.2;intro i r;obtain⟨d,o,ho,-⟩:=mem_ready.1 r;have f:=(k i).2 (by rw[q];exact(UY.1 ho).1);unfold on at f;rw[UJ]at d f;cases hh:L[i]? with
  | none=>rw[hh]at d;cases d
  | some b=>rw[hh]at d f;rw[show b=false from d]at f;cases f
 | succ c ih =>
  intro L a w m z x t k A h;have s:∀i,i∈U7 .any ops L->i=m:=λi r=>by
   obtain⟨d,o,ho,p⟩:=mem_ready.1 r;have g:on L i=false:=by
    unfold on;rw[UJ]at d⊢;cases hh:L[i]? with
    | none=>rfl
    | some b=>rw[hh]at d;exact d
   have l:=(UY.1 ho).1;rcases Nat.lt_trichotomy i m with f|f|f
   ·rw[(k i).2 f]at g;cases g
   ·exact f
   ·have:=(k (i-1)).1 (eM ho p (D i oM l));omega
  refine⟨λC=>?_,λi r=>?_⟩
  ·rcases VV m ops.size with d|d
   ·exfalso;have ho:ops[m]? = some ops[m]:=UZ _;have g:on L m=false:=by
     cases u:on L m with
     | false=>rfl
     | true=>have:=(k m).1 u;omega
    have:m∈U7 .any ops L:=mem_ready.2 ⟨?_,_,ho,λe y u=>(k e.on).2 (v m _ ho e y u)⟩
    ·rw[C]at this;cases this
    ·unfold on at g;rw[UJ,UZ (by rw[t];exact d)]at g⊢;exact g
   ·have q:m=ops.size:=oM;rw[q,<-UL,ZZ]at h;exact h
  ·obtain rfl:=s i r;obtain⟨d,o,ho,p⟩:=mem_ready.1 r;have l:=(UY.1 ho).1;have g:ops.toList.drop i=o :: ops.toList.drop (i+1):=by
    rw[List.drop_eq_getElem_cons (by rw[UL];exact l)];have:ops.toList[i]? = some o:=by rw[Array.getElem?_toList];exact ho
    rw[UI (by rw[UL];exact l)]at this;rw[UP.inj this]
   rw[g]at h;have y:wpOp P ops Q i (λu w'=>wpList P ops Q (ops.toList.drop (i+1)) u w') a w:=by
    unfold wpOp;rw[ho];exact h
   refine X8 (λu w' B=>ih _ u w' (i+1) oM oM (by rw[Array.size_setIfInBounds];exact t) (λj=>?_) (by have:=iO d;omega) B) y;rw[dD (by rw[t];omega)];constructor
   ·intro q;rw[WV]at q;rcases q with q|q
    ·have:=(k j).1 q;omega
    ·have:i=j:=by simpa using q
     omega
   ·intro q;by_cases f:j<i
    ·rw[(k j).2 f,Bool.true_or]
    ·rw[show j=i by omega];simp
theorem xU(F:Flow)(n:Nat)(Z:Array Bool->Act->Prop)(T:n<ops.size)(v:nN ops n=true)(S:P.follows .mixedOrders=true)(R:RegF P Q F ops a0 n)(K:∀b,F.B b w.drew)(I:∀L,(∀i,on L i=false)->Z L a0)
 (B:∀(k:Nat) (o:Vk) (L:Array Bool) (a:Act) (w:Ut),k<n->(∀i,on L i=true->i<n)->ops[k]? = some o->on L k=false->(∀e∈o.after,VM .any e=true->on L e.on=true)->InvF F ops a0 L a w->Z L a->wpOp P ops Q k (λy w'=>InvF F ops a0 (L.setIfInBounds k true) y w'/\Z (L.setIfInBounds k true) y) a w)
 (G:∀(V:Nat->Uv) (w':Ut),(∀i,i<n->F.kill i=[]->F.R i (V i) w')->(∀b,F.killB b=[]->F.B b w')->(∃L a,Z L a/\∀i,i<n->on L i=true/\∀d,aX ops i=some d->a.tmps[d]? = some (V i))->wpList P ops Q (ops.toList.drop n) (bU V (ops.toList.take n) 0 a0) w'):(V3 id ops true).wp P Q a0 w:=by
 have C:∀(i:Nat) (o:Vk),ops[i]? = some o->∀e∈o.after,VM .any e=true->e.on<i:=λi o ho=>(R.of ho).1
 have key:∀(g:Nat) (L:Array Bool) (a:Act) (w:Ut),unl L=g->(∀j,n<=j->on L j=false)->InvF F ops a0 L a w->Z L a->wpAny P .any ops Q g L a w:=by
  intro g;induction g with
  | zero =>
   intro L a w H c q E;have:=gU H n (by rw[q.size];omega);rw[c n (Uy _)]at this;cases this
  | succ g ih =>
   intro L a w H c q E;by_cases f:∀j,j<n->on L j=true
   ·have m:∀j,on L j=true↔j<n:=λj=>⟨λp=>(by
     rcases VV j n with h|h
     ·exact h
     ·rw[c j h]at p;cases p),f j⟩
    obtain⟨V,u,D⟩:=q.all;have M:=q.act R oM m u;have t:∀l:List Nat,l=[]->∀x∈l,on L x=false:=λl N x hx=>by rw[N]at hx;cases hx
    have r:=G V w (λj p J=>D j (f j p) (t _ J)) (λb O=>q.base b (t _ O)) ⟨L,a,E,λi A=>⟨f i A,λd hd=>u i d (f i A) hd⟩⟩;rw[<-M]at r;exact zC (λi s z=>yI v s z) C _ L a w n (Uy _) oM q.size m H r
   ·refine⟨λJ=>?_,λi A=>?_⟩
    ·exact absurd (λj p=>q.full R J j oM) f
    ·obtain⟨s,o,ho,m⟩:=mem_ready.1 A;have t:=(UY.1 ho).1;have G:on L i=false:=by
      unfold on;rw[UJ]at s⊢;cases hh:L[i]? with
      | none=>rfl
      | some b=>rw[hh]at s;exact s
     have D:i<n:=by
      rcases VV i n with h|h
      ·exact h
      ·exfalso;rcases VV n i with z|z
       ·have:=eM ho m (yI v z t);rw[c (i-1) oM]at this;cases this
       ·obtain rfl:i=n:=oM;refine f λj p=>?_
        unfold nN at v;rw[UN]at v;have r:=Va.1 v.1 j (VS.2 p);unfold mZ at r;rw[WV]at r;rcases r with r|r
        ·exact eM ho m r
        ·obtain⟨x,hx,u⟩:=yBb.1 r;rw[UN]at u;exact wO q 4 x j (by have:=VS.1 hx;omega) (eM ho m u.1) u.2
     refine X8 (λy w' r=>ih _ y w' (by have:=iO s;omega) (λj p=>?_) r.1 r.2) (B i o L a w D (λj p=>?_) ho G m q E)
     ·rw[dD (by rw[q.size];exact t),c j p];simp only[Bool.false_or,beq_eq_false_iff_ne];omega
     ·rcases VV j n with h|h
      ·exact h
      ·rw[c j h]at p;cases p
 have c:∀i,on (UM ops.size false) i=false:=λi=>by
  unfold on;rw[UJ,Array.getElem?_replicate];by_cases h:i<ops.size
  ·rw[yCk h];rfl
  ·rw[yCl h];rfl
 refine Z5 S (key _ _ a0 _ ?_ (λj _=>c j) ⟨Array.size_replicate,(λi o _ h=>by rw[c]at h;cases h),rfl,rfl,λ_ _=>rfl,⟨λ_=>WJ,λi d h=>(by rw[c]at h;cases h),λi h=>(by rw[c]at h;cases h)⟩,λb _=>K b⟩ (I _ c));unfold unl;rw[Array.toList_replicate,List.countP_replicate];simp
theorem xW(F:Flow)(n:Nat)(r:n<ops.size)(m:nN ops n=true)(p:P.follows .mixedOrders=true)(R:RegF P Q F ops a0 n)(g:∀b,F.B b w.drew)
 (f:∀(V:Nat->Uv) (w':Ut),(∀i,i<n->F.kill i=[]->F.R i (V i) w')->(∀b,F.killB b=[]->F.B b w')->wpList P ops Q (ops.toList.drop n) (bU V (ops.toList.take n) 0 a0) w'):(V3 id ops true).wp P Q a0 w:=
 xU F n (λ_ _=>True) r m p R g (λ_ _=>trivial) (λk o L a w c d e j l q _=>X8 (λ_ _ h=>⟨h,yCm⟩) (BM R c d e j l q)) λV w' c d _=>f V w' c d
theorem Gw.tail2(G:Gw)(n:Nat)(k:(decide (n<ops.size) && nN ops n)=true)(d:P.follows .mixedOrders=true)(b:Bf ops a0.tmps.size=true)(h:iM P Q G.flow ops a0 0 (ops.toList.take n))(f:G.B w.drew)
 (c:∀(V:Nat->Uv) (w':Ut),(∀i,i<n->G.R i (V i) w')->G.B w'->wpList P ops Q (ops.toList.drop n) (bU V (ops.toList.take n) 0 a0) w'):(V3 id ops true).wp P Q a0 w:=by
 rw[UN,decide_eq_true_eq]at k;exact xW G.flow n k.1 k.2 d (Gw.reg b h) (λ_=>f) λV w' g j=>c V w' (λi e=>g i e rfl) (j 0 rfl)
end RG
section
open Go.RowKit Go.Sort Go.Deep
variable {P:Nat}[NeZero P]{N:Nat}
structure CaI(w W:Ut)(k r:Nat)(X Y L:Bs):Prop where
 on:SP.Only r 0 32 w W
 r0:Row W k [jZ r]
 r1:Row W (k+1) (aA X)
 r2:Row W (k+2) (aA Y)
 r3:Row W (k+3) [uZ 0,uZ 0,uZ 0,uZ 0]
 lg:Holds encB W r 0 L
theorem CaI.grow{w W W':Ut}{k r:Nat}{X Y L:Bs}(h:CaI w W k r X Y L)(d:L.size=32)(b:kZ W W'):CaI w W' k r X Y L:=
 have c:=Holds.lt h.lg oM
 ⟨h.on.trans (SP.Only.of_below b rfl c),h.r0.below b,h.r1.below b,h.r2.below b,h.r3.below b,Holds.below h.lg b c⟩
theorem CaI.say{w W W':Ut}{k r:Nat}{X Y L c:Bs}(h:CaI w W k r X Y L)(e:r<k)(b:SP.Only r 0 32 W W')(d:Holds encB W' r 0 c):CaI w W' k r X Y c:=
 ⟨h.on.trans b,h.r0.only b oM,h.r1.only b oM,h.r2.only b oM,h.r3.only b oM,d⟩
theorem sU(O:Ord N)(r:Nat)(L X Y:Bs)(l g:ByteArray)(h1:l.size<=1048576)(h2:g.size<=1048576)(hX:X.size=33)(hY:Y.size=33)(w:Ut)(hL:Holds encB w r 0 L)(hl:L.size=32):
 UK prog 146 #[lgV r,.string l,pvl X,.string g,pvl Y] w (Ret λe w'=>SP.Only r 0 32 w w'/\Holds encB w' r 0 (bB (jY l.data.toList g.data.toList L X Y))/\e=nv (chS N (jY l.data.toList g.data.toList L X Y))):=by
 have hr:=Holds.lt hL oM;obtain⟨G,B⟩:∃G,Hid (uM L l.data.toList X.toList=G):=⟨_,rfl⟩
 have s1:G.size=32:=by rw[<-B.out];exact kQ _ _ _
 obtain⟨a,F⟩:∃a,Hid (uM G g.data.toList Y.toList=a):=⟨_,rfl⟩
 have s2:a.size=32:=by rw[<-F.out];exact kQ _ _ _
 have e2:jY l.data.toList g.data.toList L X Y=a:=by unfold jY;rw[B.out,F.out]
 rw[e2];obtain⟨k,I⟩:∃k,Hid (w.heap.size=k):=⟨_,rfl⟩
 obtain⟨c,s⟩:∃c,Hid (w.alloc (.cells #[jZ r] 145)=c):=⟨_,rfl⟩
 obtain⟨b,n⟩:∃b,Hid (c.alloc (.cells (aA X).toArray 103)=b):=⟨_,rfl⟩
 obtain⟨f,j⟩:∃f,Hid (b.alloc (.cells (aA Y).toArray 103)=f):=⟨_,rfl⟩
 obtain⟨D,H⟩:∃D,Hid (f.alloc (.cells #[uZ 0,uZ 0,uZ 0,uZ 0] 49)=D):=⟨_,rfl⟩
 have z1:c.heap.size=k+1:=by rw[<-s.out,UD,I.out]
 have z2:b.heap.size=k+2:=by rw[<-n.out,UD,z1]
 have z3:f.heap.size=k+3:=by rw[<-j.out,UD,z2]
 have E:r<k:=by rw[<-I.out];exact hr
 have HK:Hid (w.heap.size<=k):=by show _<=_;rw[I.out];exact Uy _
 have K4:Hid (CaI w D k r X Y L):=by
  have b1:kZ w c:=by rw[<-s.out];exact aC _ _
  have p:kZ c b:=by rw[<-n.out];exact aC _ _
  have o:kZ b f:=by rw[<-j.out];exact aC _ _
  have i:kZ f D:=by rw[<-H.out];exact aC _ _
  have A:Row c k [jZ r]:=by rw[<-s.out,<-I.out];exact aE w _ _
  have y:Row b (k+1) (aA X):=by rw[<-n.out,<-z1];exact aE c _ _
  have z:Row f (k+2) (aA Y):=by rw[<-j.out,<-z2];exact aE b _ _
  have C:Row D (k+3) [uZ 0,uZ 0,uZ 0,uZ 0]:=by rw[<-H.out,<-z3];exact aE f _ _
  have t:kZ w D:=((b1.trans (p.mono b1.size)).trans (o.mono (UE b1.size p.size))).trans (i.mono (UE b1.size (UE p.size o.size)));exact⟨SP.Only.of_below t rfl hr,((A.below p).below o).below i,(y.below o).below i,z.below i,C,Holds.below hL t hr⟩
 obtain⟨vl,T⟩:∃v,Hid (lgV r=v):=⟨_,rfl⟩
 obtain⟨vX,J⟩:∃v,Hid (pvl X=v):=⟨_,rfl⟩
 obtain⟨vY,S⟩:∃v,Hid (pvl Y=v):=⟨_,rfl⟩
 have B1:Hid ((Vh 145 vl).run prog w=.ok (jZ k) c):=by rw[<-T.out,<-s.out,<-I.out];exact Nf r w
 have B2:Hid ((Vh 103 vX).run prog c=.ok (.pointer (some ⟨k+1,0,none⟩)) b):=by rw[<-J.out,<-n.out,<-z1];exact rL hX c
 have B3:Hid ((Vh 103 vY).run prog b=.ok (.pointer (some ⟨k+2,0,none⟩)) f):=by rw[<-S.out,<-j.out,<-z2];exact rL hY b
 have HZ:Hid (f.heap.size=k+3):=z3;rw[T.out,J.out,S.out];have M:Hid (Ord N/\l.size<=1048576/\g.size<=1048576/\X.size=33/\Y.size=33):=⟨O,h1,h2,hX,hY⟩
 clear hL z1 z2 z3 s n j I e2 O h1 h2 hX hY;go_enter func146,ntmps146;go_wp2_with (first|(refine aF (u:=vl) (v:=jZ k) (w':=c) rfl 145 (.tmp 0) rfl ?_ ?_ ?_;rfl;exact B1.out)|(refine aF (u:=vX) (v:=.pointer (some ⟨k+1,0,none⟩)) (w':=b) rfl 103 (.tmp 2) rfl ?_ ?_ ?_;rfl;exact B2.out)|(refine aF (u:=vY) (v:=.pointer (some ⟨k+2,0,none⟩)) (w':=f) rfl 103 (.tmp 4) rfl ?_ ?_ ?_;rfl;exact B3.out)|(refine fC (v:=.pointer (some ⟨k+3,0,none⟩)) (w':=D) rfl 49 10 rfl rfl ?_ ?_;(rw[<-H.out,<-HZ.out];kernel_rfl))|fail)
 refine(gwL [pE (jZ k),pE (jZ k),pE (jZ r),pE (.string l),pE (.slice (some ⟨k+1,0,none⟩) 33 33)] (λW=>CaI w W k r X Y L) (λW W' hb h=>h.grow hl hb)).tail2 5 kR kR kR ⟨
  gO 5 (jZ k),
  rE 0 11 (jZ k) (jZ k) (λx W h=>h) (λ_=>rfl),
  fG 141 1 12 k 0 (jZ r) uLp (λx W h=>h) (λW z=>z.r0.2.1 0 _ rfl) (λ_=>rfl),
  gO 1 (.string l),
  gP 7 (.pointer (some ⟨k+1,0,none⟩)) (.slice (some ⟨k+1,0,none⟩) 33 33),yCm⟩ (K4.grow hl ⟨rfl,rfl,rfl,Uy _,λ_ _=>rfl⟩) ?_
 intro V w5 hR z;have i:V 2=jZ r:=hR 2 dC;have p:V 3=.string l:=hR 3 dC;have o:V 4=.slice (some ⟨k+1,0,none⟩) 33 33:=hR 4 dC;dsimp only[bU,VO,Xn,Xo];simp only[UR,Uu,Uw,Ux];rw[i,p,o];have y:=Hid.mk' z;clear hR z i p o K4;generalize V 0=s0;generalize V 1=h3;go_wp2_with fail
 refine(Br r L l (some ⟨k+1,0,none⟩) 33 33 X.toList w5 M.2.1 (OI y.lg) hl (wN M.2.2.2.1 y.r1)).mono ?_;rintro e w6 ⟨rfl,A,t⟩;rw[B.out]at t;have K6:Hid (CaI w w6 k r X Y G):=y.say E A (OH t);clear A t y;go_wp2_with fail
 refine(gwL [pE (jZ k),pE (jZ k),pE (jZ r),pE (.string g),pE (.slice (some ⟨k+2,0,none⟩) 33 33)] (λW=>CaI w W k r X Y G) (λW W' hb h=>h.grow s1 hb)).tail2 5 kR kR kR ⟨
  gO 5 (jZ k),
  rE 0 17 (jZ k) (jZ k) (λx W h=>h) (λ_=>rfl),
  fG 141 1 18 k 0 (jZ r) uLp (λx W h=>h) (λW z=>z.r0.2.1 0 _ rfl) (λ_=>rfl),
  gO 3 (.string g),
  gP 9 (.pointer (some ⟨k+2,0,none⟩)) (.slice (some ⟨k+2,0,none⟩) 33 33),yCm⟩ (K6.grow s1 ⟨rfl,rfl,rfl,Uy _,λ_ _=>rfl⟩) ?_
 intro V w7 hR z;have i:V 2=jZ r:=hR 2 dC;have p:V 3=.string g:=hR 3 dC;have o:V 4=.slice (some ⟨k+2,0,none⟩) 33 33:=hR 4 dC;dsimp only[bU,VO,Xn,Xo];simp only[UR,Uu,Uw,Ux];rw[i,p,o];have y:=Hid.mk' z;clear hR z i p o K6;generalize V 0=h4;generalize V 1=s3;go_wp2_with fail
 refine(Br r G g (some ⟨k+2,0,none⟩) 33 33 Y.toList w7 M.2.2.1 (OI y.lg) s1 (wN M.2.2.2.2 y.r2)).mono ?_;rintro e w8 ⟨rfl,A,t⟩;rw[F.out]at t;have K8:Hid (CaI w w8 k r X Y a):=y.say E A (OH t);clear A t y;have HS:=Hid.mk' (yF M.1 r a w8 K8.lg s2);have h0:(bB a).size=32:=bE _ _;obtain⟨q,hq⟩:∃m,Hid (chS N a=m):=⟨_,rfl⟩
 obtain⟨L3,C⟩:∃m,Hid (bB a=m):=⟨_,rfl⟩
 rw[hq.out,C.out]at HS;rw[C.out]at h0;obtain⟨d,U,K⟩:=UA.1 uLg;have HD:Hid (prog.underlying 145=some d/\d.isRow=true):=⟨U,K⟩
 clear U K;go_wp2_with (first|(refine U8 rfl 145 (.tmp 5) rfl k 0 ?_ [jZ r] d ?_ ?_ ?_ ?_ ?_;rfl;exact K8.r0.2.1;exact HD.1;exact HD.2;exact iLg;skip)|fail)
 refine HS.mono ?_;rintro e w9 ⟨v,rfl,A,t,rfl⟩;have Z:Hid (CaI w w9 k r X Y L3):=K8.say E A t;clear A t K8 HS;obtain⟨P,R⟩:∃P,Hid (w9.setCells (k+3) 0 (wn q)=P):=⟨_,rfl⟩
 have KA:Hid (Row P (k+3) (wn q)/\SP.Only r 0 32 w P/\Holds encB P r 0 L3):=by
  have Q:=HZ.out;rw[<-R.out];exact⟨Z.r3.put rfl,dX Z.on hr (by have:=HK.out;omega) _,fF Z.lg oM⟩
 obtain⟨vm,Q⟩:∃vm,Hid (nv q=vm):=⟨_,rfl⟩
 rw[Q.out];go_wp2_with (refine U3 rfl 49 _ _ rfl (k+3) 0 (wn q).toArray ?_ ?_ ?_ ?_ ?_ ?_;rfl;exact Q.symm;exact Z.r3.2.2;exact nSc;exact aM q;rw[show(wn q).toArray.toList=wn q from rfl,R.out])
 refine UH (aG 10 49 rfl KA.1 rfl rSc nSc) rfl ?_;exact⟨_,rfl,KA.2.1,by rw[C.out];exact KA.2.2,by rw[hq.out];rfl⟩
theorem vZ:prog.underlying 24=some (.slice 23):=kR
theorem Jh:(prog.info? 23).map (λi=>(i.size,i.bytes,i.zero.map λz=>z.cells.size))=some (1,24,some 1):=kR
theorem lI(g o j:Nat):(⟨g,o,none⟩:Wv).add j=⟨g,o+j,none⟩:=by
 unfold Zr;by_cases k:j=0
 ·subst k;rw[yCk rfl];rfl
 ·rw[yCl k]
structure VL(w:Ut)(q:Option Wv)(m:Nat)(ys:List Uv):Prop where
 len:ys.length=m
 nil:q=none->m=0
 cells:ys=[]\/∃b o,q=some ⟨b,o,none⟩/\b<w.heap.size/\∀(j:Nat) u,ys[j]? = some u->w.cell? ⟨b,o+j,none⟩=some u
 one:∀u∈ys,u.oneCell'=true
theorem VL.below{w w':Ut}{m:Nat}(h:VL w q m ys)(k:kZ w w'):VL w' q m ys:=
 ⟨h.len,h.nil,by
  rcases h.cells with g|⟨b,o,f,c,e⟩
  ·exact U6 g
  ·exact U2 ⟨b,o,f,Uz c k.size,λj u d=>by rw[k.cell (p:=⟨b,o+j,none⟩) c];exact e j u d⟩,h.one⟩
structure GLs(w W:Ut)(v:Uv)(xs:List Uv):Prop where
 bl:kZ w W
 ow:W.ownsRow w.heap.size 23 1 v xs.length xs
 nn:v.ownBlock≠none
theorem GLs.lt{w W:Ut}{v:Uv}(h:GLs w W v xs):∃g cap,v=sZ g xs.length cap/\w.heap.size<=g/\g<W.heap.size:=by
 rcases id h.ow with⟨-,⟨rfl,d⟩|⟨g,cap,cur,rfl,c,k,-⟩⟩
 ·exact absurd rfl h.nn
 ·refine⟨g,cap,rfl,c,?_⟩;by_cases b:g<W.heap.size
  ·exact b
  ·rw[Wu oM]at k;cases k
theorem GLs.below{w W W':Ut}{v:Uv}(h:GLs w W v xs)(c:kZ W W'):GLs w W' v xs:=by
 refine⟨h.bl.trans (c.mono h.bl.size),?_,h.nn⟩;rcases h.ow with⟨d,b|⟨g,cap,cur,b,i,k,e⟩⟩
 ·exact⟨d,U6 b⟩
 ·refine⟨d,U2 ⟨g,cap,cur,b,i,?_,e⟩⟩;rw[c.block g (by
   by_cases f:g<W.heap.size
   ·exact f
   ·rw[Wu oM]at k;cases k)]
  exact k
theorem GLs.app2{w W:Ut}{v:Uv}{m c:Nat}(h:GLs w W v xs)(hx:VL W q m ys)(K:xs.length+m<=1000000):
 ∃n W',(Vx #[24,24] 24 #[v,.slice q m c]).run prog W=.ok n W'/\GLs w W' n (xs++ys)/\W.heap.size<=W'.heap.size:=by
 obtain⟨i,t,s⟩:=UA.1 Jh;simp only[We.injEq]at s;obtain⟨C,F,B⟩:=s;obtain⟨z,x,p⟩:=UA.1 B;obtain⟨g,cap,rfl,A,y⟩:=h.lt;cases q with
 | none =>
  have G:=hx.nil rfl;subst G;obtain rfl:ys=[]:=yAo.1 hx.len;rcases id h.ow with⟨-,⟨d,-⟩|⟨E,f,cur,d,I,J,D,H⟩⟩
  ·cases d
  ·injection d with d _ h0'
   injection d with d
   injection d with d
   subst d h0';have r:=YZ (P:=prog) W 24 24 24 23 i vZ t g 0 xs.length cap (.slice none 0 c) 0 [] (yCa (e':=23) _ vZ c) D (λj e=>by cases e) (λj e=>by cases e);refine⟨_,_,r,?_,Uy _⟩;rw[XC];exact h
 | some a =>
  obtain⟨n,W',H,r,d,I⟩:=Yv (P:=prog) W w.heap.size 24 24 23 i z 1 24 vZ t x C F p dC _ xs.length xs h.ow a m c ys (by rw[hx.len];omega)
   (λj u e=>by
    rcases hx.cells with rfl|⟨b,o,D,-,G⟩
    ·cases e
    ·obtain rfl:=UP.inj D;rw[lI];exact G j u e) hx.one (by unfold maxLen;omega) oM h.bl.size
  refine⟨n,W',H,⟨⟨by rw[d.os,h.bl.os],by rw[d.tape,h.bl.tape],by rw[d.output,h.bl.output],UE h.bl.size d.size,λk e=>?_⟩,?_,?_⟩,d.size⟩
  ·rw[d.block k (Uz e h.bl.size) (by simp[V9];omega)];exact h.bl.block k e
  ·rw[UB,hx.len];exact r
  ·rcases r.2 with⟨D,-⟩|⟨E,f,cur,rfl,-⟩
   ·have:=(I.1 D).1;exact absurd this (by simp)
   ·simp[V9]
theorem GLs.app{w W:Ut}{v:Uv}{m c:Nat}(h:GLs w W v xs)(hx:VL W q m ys)(e:xs.length+m<=1000000):
 ∃k W',(Vx #[24,24] 24 #[v,.slice q m c]).run prog W=.ok k W'/\GLs w W' k (xs++ys):=by
 obtain⟨k,W',b,d,-⟩:=h.app2 (c:=c) hx e;exact⟨k,W',b,d⟩
end
section
open Go.RowKit Go.Sort Go.Deep
theorem Hid.mkP{p:Prop}(h:p):Hid p:=h
section
variable {P:VD}{ops:Array Vk}{rest:List Vk}{op:Vk}{a:Act}{w w':Ut}{v:Uv}{Q:X9->Act->Ut->Prop}
theorem aY(k:op.guard=none)(X:Op)(_:op.op=X)(c:(U9 a.eval op).run P w=.ok (.value v) w')(h:wpList P ops Q rest (a.put op.dst v) w'):wpList P ops Q (op :: rest) a w:=
 Xd k λK b=>by
  unfold VT;rw[c];exact b _ _ h
end
theorem aO(w:Ut)(o:Obj):kZ w (w.alloc o):=(UT _ _).alloc (Uy _) _
theorem cZ(w:Ut)(cs:Array Uv)(T:Vb)(j:Nat)(v:Uv)(h:cs[j]? = some v):(w.alloc (.cells cs T)).cell? ⟨w.heap.size,j,none⟩=some v:=by
 unfold World.alloc V1;simp[h]
theorem MM(w:Ut):GLs w (w.alloc (.cells #[] 23)) (sZ w.heap.size 0 0) []:=
 ⟨aO w _,⟨rfl,.inr ⟨w.heap.size,0,#[],rfl,Uy _,Xb,Uy _,Wz _,rfl,rfl⟩⟩,by simp[V9]⟩
theorem Hy(w:Ut)(ys:List Uv)(T:Vb)(b:∀u∈ys,u.oneCell'=true):VL (w.alloc (.cells ys.toArray T)) (some (aZ w.heap.size)) ys.length ys:=
 ⟨rfl,λh=>by(cases h),U2 ⟨w.heap.size,0,rfl,by rw[UD];omega,λj u k=>by rw[UF];exact cZ w _ T j u (by simpa using k)⟩,b⟩
theorem AY{A B qA qB:Option Wv}{c1 z c2 nA cA nB cB:Nat}{k f:List Uv}(w:Ut)(C:VL w A y k)(hR:VL w B z f)(h1:y<=1000)(Y:z<=1000):
 UK prog 46 #[.agg #[.slice A y c1,.slice B z c2,.slice qA nA cA,.slice qB nB cB]] w λe w'=>∃v,e=.returned v/\GLs w w' v (k++f++[.slice qA nA cA,.slice qB nB cB]):=by
 obtain⟨l,n⟩:=hE (w.alloc (.cells #[.slice A y c1,.slice B z c2,.slice qA nA cA,.slice qB nB cB] 26));obtain⟨a,s⟩:=hE (l.alloc (.cells #[] 23));have P:l.heap.size=w.heap.size+1:=by rw[<-n.out,UD]
 have b1:kZ w l:=by rw[<-n.out];exact aO _ _
 have E:GLs l a (sZ l.heap.size 0 0) []:=by rw[<-s.out];exact MM l
 have l1:=C.len;have X:=hR.len;obtain⟨U,J,i,t⟩:=E.app (c:=c1) ((C.below b1).below (by rw[<-s.out];exact aO _ _)) (by rw[WO];omega);rw[List.nil_append]at t;obtain⟨Z,o,b,u⟩:=t.app (c:=c2) ((hR.below b1).below t.bl) oM;obtain⟨D,r⟩:=hE (o.alloc (.cells #[.slice qA nA cA,.slice qB nB cB] 23));have H:kZ o D:=by rw[<-r.out];exact aO _ _
 obtain⟨v6,R,d,x⟩:=(u.below H).app (c:=2) (q:=some (aZ o.heap.size)) (m:=2) (ys:=[.slice qA nA cA,.slice qB nB cB]) (by
  rw[<-r.out];exact Hy o [.slice qA nA cA,.slice qB nB cB] 23 (by simp[yBm])) (by rw[UB];omega)
 have cell:∀(W:Ut) (j:Nat) v,kZ l W->(#[.slice A y c1,.slice B z c2,.slice qA nA cA,.slice qB nB cB]:Array Uv)[j]? = some v->W.cell? ⟨w.heap.size,j,none⟩=some v:=λW j v S M=>by
  rw[S.cell (p:=⟨w.heap.size,j,none⟩) (by show w.heap.size<_;omega),<-n.out];exact cZ w _ _ j v M
 have k0:=cell a 0 _ E.bl rfl;have k1:=cell J 1 _ t.bl rfl;have k2:=cell o 2 _ u.bl rfl;have k3:=cell o 3 _ u.bl rfl;obtain⟨a3,p3,rfl,-⟩:=t.lt;obtain⟨a4,p4,rfl,-⟩:=u.lt;obtain⟨O,p6,rfl,-⟩:=x.lt;have G:Hid (GLs w R (sZ O (k++f++[VA qA nA cA,VA qB nB cB]).length p6) (k++f++[.slice qA nA cA,.slice qB nB cB])):=by
  refine⟨b1.trans (x.bl.mono b1.size),?_,x.nn⟩;rcases x.ow with⟨I,F|⟨g,cap,cur,F,L,K⟩⟩
  ·exact⟨I,U6 F⟩
  ·exact⟨I,U2 ⟨g,cap,cur,F,oM,K⟩⟩
 generalize L:(k++f++[VA qA nA cA,VA qB nB cB]).length=T at d G;generalize K:(k++f).length=V at b d;generalize N:k.length=N3 at i b;have I:=Hid.mkP i;have Q:=Hid.mkP b;have F:=Hid.mkP d;clear i b d cell E t u x b1 H C hR P;go_enter func46,ntmps46;go_wp2_with (first|(refine aY (v:=jZ w.heap.size) (w':=l) rfl (.box 26 (.tmp 0)) rfl ?_ ?_;(rw[<-n.out];kernel_rfl))|(refine aY (v:=sZ l.heap.size 0 0) (w':=a) rfl (.buildSlice 24 0 #[]) rfl ?_ ?_;(rw[<-s.out];kernel_rfl))|(refine aY (v:=sZ o.heap.size 2 2) (w':=D) rfl (.buildSlice 24 2 #[(0,.tmp 14),(1,.tmp 16)]) rfl ?_ ?_;(rw[<-r.out];kernel_rfl))|(at_builtin;refine WG a rfl _ _ _ _ rfl _ _ rfl rfl _ _ I.out ?_)|(at_builtin;refine WG J rfl _ _ _ _ rfl _ _ rfl rfl _ _ Q.out ?_)|(at_builtin;refine WG D rfl _ _ _ _ rfl _ _ rfl rfl _ _ F.out ?_)|fail)
 go_ret;exact⟨_,rfl,G.out⟩
end
section
open Go.RowKit Go.Sort Go.Deep
variable {P:Nat}[NeZero P]{N:Nat}
structure Sv where
 q:Option Wv
 n:Nat
 c:Nat
def Sv.v(s:Sv):Uv:=.slice s.q s.n s.c
def rgC(a b c d e f g l r x y:Sv):List Uv:=[a.v,b.v,c.v,d.v,e.v,f.v,g.v,l.v,r.v,x.v,y.v]
theorem uIn:(prog.underlying 26).map (·.isRow)=some true:=kR
theorem iIn:(prog.info? 26).map (·.size)=some 4:=kR
theorem N9(a b c d e f g l r x y:Sv){i n:List Uv}(w:Ut)(hL:VL w l.q l.n i)(hR:VL w r.q r.n n)(h1:l.n<=1000)(h2:r.n<=1000):
 UK prog 9 #[.agg (rgC a b c d e f g l r x y).toArray] w λe' w'=>∃v,e'=.returned v/\GLs w w' v (i++n++[x.v,y.v]++[a.v,b.v,c.v,d.v,e.v,f.v,g.v]):=by
 obtain⟨J,C,ca⟩:=a;obtain⟨S,F,cb⟩:=b;obtain⟨N,K,cc⟩:=c;obtain⟨T,nd,A⟩:=d;obtain⟨P,ne,ce⟩:=e;obtain⟨G,R,E⟩:=f;obtain⟨D,M,I⟩:=g
 obtain⟨ql,Z,cl⟩:=l;obtain⟨qr,nr,cr⟩:=r;obtain⟨L,nx,z⟩:=x;obtain⟨Q,O,H⟩:=y
 dsimp only[Sv.v,rgC]at *;obtain⟨cs,k⟩:=hE ([.slice J C ca,.slice S F cb,.slice N K cc,.slice T nd A,.slice P ne ce,.slice G R E,.slice D M I,.slice ql Z cl,.slice qr nr cr,.slice L nx z,.slice Q O H]:List Uv);rw[k.out];obtain⟨B,t⟩:=hE (w.alloc (.cells cs.toArray 28));have e1:B.heap.size=w.heap.size+1:=by rw[<-t.out,UD]
 have b1:kZ w B:=by rw[<-t.out];exact aO _ _
 have l1:=hL.len;have l2:=hR.len;have hc:=AY (c1:=cl) (c2:=cr) (qA:=L) (nA:=nx) (cA:=z) (qB:=Q) (nB:=O) (cB:=H) B (hL.below b1) (hR.below b1) h1 h2;have cell:Hid (∀(W:Ut) (j:Nat) v,kZ B W->cs[j]? = some v->W.cell? ⟨w.heap.size,j,none⟩=some v):=λW j v hb hj=>by
  rw[hb.cell (p:=⟨w.heap.size,j,none⟩) (by show w.heap.size<_;omega),<-t.out];exact cZ w _ _ j v (by simpa using hj)
 have h3:Hid (B.rangeAt w.heap.size 7 [.slice ql Z cl,.slice qr nr cr,.slice L nx z,.slice Q O H]):=λj u hj=>by
  refine cell.out B (7+j) u (UT _ _) ?_;rw[<-k.out];match j,hj with
  | 0,h=>exact h
  | 1,h=>exact h
  | 2,h=>exact h
  | 3,h=>exact h
 obtain⟨dI,h4,h0⟩:=UA.1 uIn;have X:=Hid.mkP b1;have HL:Hid (i.length+n.length<=2000):=by show _<=_;omega
 go_enter func9,ntmps9;go_wp2_with (first|(refine aY (v:=jZ w.heap.size) (w':=B) rfl (.box 28 (.tmp 0)) rfl ?_ ?_;(rw[<-t.out,<-k.out];kernel_rfl))|(refine U8 rfl 26 _ rfl w.heap.size 7 ?_ [.slice ql Z cl,.slice qr nr cr,.slice L nx z,.slice Q O H] dI ?_ ?_ ?_ ?_ ?_;rfl;exact h3.out;exact h4;exact h0;exact iIn;skip)|fail)
 refine hc.mono ?_;rintro e' o ⟨v2,rfl,s⟩;have k0:=cell.out o 0 (.slice J C ca) s.bl (by rw[<-k.out];rfl);have k1:=cell.out o 1 (.slice S F cb) s.bl (by rw[<-k.out];rfl);have k2:=cell.out o 2 (.slice N K cc) s.bl (by rw[<-k.out];rfl);have k3:=cell.out o 3 (.slice T nd A) s.bl (by rw[<-k.out];rfl);have k4:=cell.out o 4 (.slice P ne ce) s.bl (by rw[<-k.out];rfl);have k5:=cell.out o 5 (.slice G R E) s.bl (by rw[<-k.out];rfl);have k6:=cell.out o 6 (.slice D M I) s.bl (by rw[<-k.out];rfl);obtain⟨w3,U⟩:=hE (o.alloc (.cells #[.slice J C ca,.slice S F cb,.slice N K cc,.slice T nd A,.slice P ne ce,.slice G R E,.slice D M I] 23));have b3:kZ o w3:=by rw[<-U.out];exact aO _ _
 obtain⟨v4,w4,V,Y⟩:=(s.below b3).app (c:=7) (q:=some (aZ o.heap.size)) (m:=7) (ys:=[.slice J C ca,.slice S F cb,.slice N K cc,.slice T nd A,.slice P ne ce,.slice G R E,.slice D M I]) (by
  rw[<-U.out];exact Hy o [.slice J C ca,.slice S F cb,.slice N K cc,.slice T nd A,.slice P ne ce,.slice G R E,.slice D M I] 23 (by simp[yBm])) (by have:=HL.out;rw[UB,UB];simp only[Vg,WO];omega)
 obtain⟨a2,p2,rfl,-⟩:=s.lt;obtain⟨a4,p4,rfl,-⟩:=Y.lt;have K4:Hid (GLs w w4 (sZ a4 (i++n++[VA L nx z,VA Q O H]++[VA J C ca,VA S F cb,VA N K cc,VA T nd A,VA P ne ce,VA G R E,VA D M I]).length p4) (i++n++[VA L nx z,VA Q O H]++[VA J C ca,VA S F cb,VA N K cc,VA T nd A,VA P ne ce,VA G R E,VA D M I])):=by
  refine⟨X.trans (Y.bl.mono X.size),?_,Y.nn⟩;have:=X.size;rcases Y.ow with⟨x0,x1|⟨g,cap,cur,x1,x2,x3⟩⟩
  ·exact⟨x0,U6 x1⟩
  ·exact⟨x0,U2 ⟨g,cap,cur,x1,oM,x3⟩⟩
 generalize h5:(i++n++[VA L nx z,VA Q O H]++[VA J C ca,VA S F cb,VA N K cc,VA T nd A,VA P ne ce,VA G R E,VA D M I]).length=N4 at V K4;generalize h6:(i++n++[VA L nx z,VA Q O H]).length=N2 at V⊢;have H1:=Hid.mkP V;go_wp2_with (first|(refine aY (v:=sZ o.heap.size 7 7) (w':=w3) rfl (.buildSlice 24 7 #[(0,.tmp 9),(1,.tmp 11),(2,.tmp 13),(3,.tmp 15),(4,.tmp 17),(5,.tmp 19),(6,.tmp 21)]) rfl ?_ ?_;(rw[<-U.out];kernel_rfl))|(at_builtin;refine WG w3 rfl _ _ _ _ rfl _ _ rfl rfl _ _ H1.out ?_)|fail)
 go_ret;exact⟨_,rfl,K4.out⟩
theorem uRg:(prog.underlying 28).map (·.isRow)=some true:=kR
theorem iRg:(prog.info? 28).map (·.size)=some 11:=kR
theorem GLs.cell{w W:Ut}{n c:Nat}(h:GLs w W (sZ g n c) xs)(j:Nat)(u:Uv)(k:xs[j]? = some u):W.cell? ⟨g,j,none⟩=some u:=by
 have:=h.ow.cells (g:=g) rfl j u k;rw[lI,UF]at this;exact this
theorem MI(g n c i:Nat)(k:i<n)(w:Ut):(Vj 24 (sZ g n c) (iZ i)).run prog w=.ok (oZ g i) w:=by
 go_simp
def Pt(W:Ut)(u:Uv)(b:SP.Bs):Prop:=∃q c,u=.slice q (Wt b) c/\(b.size=0\/∃g o,q=some ⟨g,o,none⟩/\g<W.heap.size/\Holds SP.encB W g o b)
theorem Pt.below{W W':Ut}{u:Uv}{b:SP.Bs}(h:Pt W u b)(d:kZ W W'):Pt W' u b:=by
 obtain⟨q,c,e,j|⟨g,o,i,k,f⟩⟩:=h
 ·exact⟨q,c,e,U6 j⟩
 ·exact⟨q,c,e,U2 ⟨g,o,i,Uz k d.size,SP.Holds.below f d k⟩⟩
theorem Pt.conv{W:Ut}{u:Uv}{b:SP.Bs}(h:Pt W u b):(convert 23 9 u).run prog W=.ok (.string ⟨b⟩) W:=by
 obtain⟨q,c,rfl,e|⟨g,o,rfl,f,k⟩⟩:=h
 ·obtain rfl:b=#[]:=ZN e;cases q with
  | none=>exact run_convert_bytes_nil (P:=prog) (w:=W) 23 5 SP.slice22 SP.int5 0 c 9 SP.str9
  | some a=>exact run_convert_bytes_back (P:=prog) W 23 9 5 a c [] SP.slice22 SP.int5 SP.str9 (λj d=>by cases d)
 ·exact SP.conv_str prog 23 9 5 SP.slice22 SP.int5 SP.str9 W g o _ c b k rfl
def inV(l r x y:Sv):List Uv:=[l.v,r.v,x.v,y.v]
theorem eI(w:Ut)(cs:List Uv)(T:Vb):(w.alloc (.cells cs.toArray T)).rangeAt w.heap.size 0 cs:=λj u k=>by rw[UF];exact cZ w _ _ j u (by simpa using k)
theorem range_below{w w':Ut}{b o:Nat}{cs:List Uv}(h:w.rangeAt b o cs)(c:kZ w w')(k:b<w.heap.size):w'.rangeAt b o cs:=λj u d=>by rw[c.cell (p:=⟨b,o+j,none⟩) k];exact h j u d
theorem BR(l r x y l' G I J:Sv){o s n t:List Uv}(w:Ut)(hL:VL w l.q l.n o)(hR:VL w r.q r.n s)(E:VL w l'.q l'.n n)(D:VL w G.q G.n t)(h1:l.n<=1000)(h2:r.n<=1000)(hl:l'.n=l.n)(hr:G.n=r.n)
 (hE:∀(j:Nat),j<l.n+r.n+2->∃u v b,(o++s++[x.v,y.v])[j]? = some u/\(n++t++[I.v,J.v])[j]? = some v/\Pt w u b/\Pt w v b) :
 UK prog 45 #[.agg (inV l r x y).toArray,.agg (inV l' G I J).toArray] w λe' w'=>e'=.returned (.bool true)/\Below w.heap.size w w':=by
 obtain⟨cs,m⟩:∃cs:List Uv,Hid (inV l r x y=cs):=⟨_,rfl⟩
 obtain⟨B,f⟩:∃B:List Uv,Hid (inV l' G I J=B):=⟨_,rfl⟩
 obtain⟨c,C⟩:∃c,Hid (w.alloc (.cells cs.toArray 26)=c):=⟨_,rfl⟩
 obtain⟨k,a⟩:∃k,Hid (c.alloc (.cells B.toArray 26)=k):=⟨_,rfl⟩
 have e1:c.heap.size=w.heap.size+1:=by rw[<-C.out,UD]
 have e2:k.heap.size=c.heap.size+1:=by rw[<-a.out,UD]
 have b1:Below w.heap.size w c:=by rw[<-C.out];exact aO _ _
 have b2:Below c.heap.size c k:=by rw[<-a.out];exact aO _ _
 have g:=b1.trans (b2.mono b1.size);have X:=range_below (w:=c) (by rw[<-C.out];exact eI w cs _) b2 oM;have R:k.rangeAt c.heap.size 0 B:=by rw[<-a.out];exact eI c B _
 have c0:=X 0 l.v (by rw[<-m.out];rfl);have c1:=X 1 r.v (by rw[<-m.out];rfl);have d0:=R 0 l'.v (by rw[<-f.out];rfl);have d1:=R 1 G.v (by rw[<-f.out];rfl);rw[UF]at c0 c1 d0 d1;have len1:Hid (cs.length=4):=by rw[<-m.out];rfl
 have len2:Hid (B.length=4):=by rw[<-f.out];rfl
 have hA:Hid (UK prog 46 #[.agg cs.toArray] k λe w'=>∃v,e=.returned v/\GLs k w' v (o++s++[x.v,y.v])):=by
  rw[<-m.out];exact AY k (hL.below g) (hR.below g) h1 h2
 have hB:Hid (∀d,Below k.heap.size k d->UK prog 46 #[.agg B.toArray] d λe w'=>∃v,e=.returned v/\GLs d w' v (n++t++[I.v,J.v])):=λd Y=>by
  rw[<-f.out];exact AY d ((E.below g).below Y) ((D.below g).below Y) oM oM
 have F:Hid ((o++s++[x.v,y.v]).length=l.n+r.n+2):=by
  show _=_;rw[UB,UB,hL.len,hR.len];rfl
 have A:Hid ((n++t++[I.v,J.v]).length=l.n+r.n+2):=by
  show _=_;rw[UB,UB,E.len,D.len,hl,hr];rfl
 have U:=Hid.mkP hE;generalize o++s++[x.v,y.v]=XS at hA F U;generalize n++t++[I.v,J.v]=ZS at hB A U;have HB:=Hid.mkP g;have O:Hid (∀d,Below k.heap.size k d->d.rangeAt c.heap.size 0 B):=λd Y=>range_below R Y oM
 have h3:=Hid.mkP X;rw[m.out,f.out];obtain⟨ql,nl,cl⟩:=l;obtain⟨qr,nr,cr⟩:=r;obtain⟨h6,h4,h7⟩:=l';obtain⟨h8,h0,ha⟩:=G
 dsimp only[Sv.v]at *;subst hl hr;obtain⟨dI,N,K⟩:=UA.1 uIn;obtain⟨M,hM⟩:∃M,Hid (h4+h0+2=M):=⟨_,rfl⟩
 rw[hM.out]at F A U;have h9:M<=2002:=by have:=hM.out;omega
 clear e1 e2 b1 b2 g X R hL hR E D hE;go_enter func45,ntmps45;go_wp2_with (first|(refine aY (v:=.pointer (some ⟨w.heap.size,0,none⟩)) (w':=c) rfl (.box 26 (.tmp 0)) rfl ?_ ?_;(rw[<-C.out,<-m.out];kernel_rfl))|(refine aY (v:=.pointer (some ⟨c.heap.size,0,none⟩)) (w':=k) rfl (.box 26 (.tmp 1)) rfl ?_ ?_;(rw[<-a.out,<-f.out];kernel_rfl))|(refine U8 rfl 26 _ rfl w.heap.size 0 ?_ cs dI ?_ ?_ ?_ ?_ ?_;rfl;exact h3.out;exact N;exact K;(rw[len1.out];exact iIn);skip)|fail)
 refine hA.mono ?_;rintro e' d ⟨v3,rfl,L⟩;have h5:=Hid.mkP (O d L.bl);have Z:=Hid.mkP (hB d L.bl);obtain⟨S,T,rfl,-⟩:=L.lt;have K3:=Hid.mkP L;clear L hA hB O c0 c1 d0 d1;rw[F.out]at K3⊢;go_wp2_with (first|(refine U8 rfl 26 _ rfl c.heap.size 0 ?_ B dI ?_ ?_ ?_ ?_ ?_;rfl;exact h5.out;exact N;exact K;(rw[len2.out];exact iIn);skip)|fail)
 refine Z.mono ?_;rintro e' w4 ⟨v4,rfl,Q⟩;obtain⟨V,W,rfl,-⟩:=Q.lt;have z:Hid (GLs k w4 (.slice (some ⟨S,0,none⟩) M T) XS/\GLs d w4 (.slice (some ⟨V,0,none⟩) M W) ZS/\Below w.heap.size w w4):=by
  rw[A.out]at Q;have p:=K3.below Q.bl;exact⟨p,Q,HB.trans (p.bl.mono HB.size)⟩
 rw[A.out];go_wp2;go_loopg [7] M (λgk s7 wr=>∃i:Nat,i+gk=M/\s7=.int .i64 i/\Hid (GLs k wr (.slice (some ⟨S,0,none⟩) M T) XS/\GLs d wr (.slice (some ⟨V,0,none⟩) M W) ZS/\Below w.heap.size w wr))
 case atStart=>exact⟨0,oM,rfl,z⟩
 case round =>
  obtain⟨i,hi,rfl,z⟩:=hrel;by_cases H:i<M
  ·have P:=oM;obtain⟨u,v,b,hu,hv,pu,pv⟩:=U.out i H;have p:∀q,Below wr.heap.size wr (wr.drewN q):=λq=>⟨rfl,rfl,rfl,Uy _,λ_ _=>rfl⟩
   have k1:=λq=>((pu.below z.2.2).below (p q)).conv
   have k2:=λq=>((pv.below z.2.2).below (p q)).conv
   have x1:=z.1.cell i u hu;have x2:=z.2.1.cell i v hv;have K5:Hid (∀q,GLs k (wr.drewN q) (.slice (some ⟨S,0,none⟩) M T) XS/\GLs d (wr.drewN q) (.slice (some ⟨V,0,none⟩) M W) ZS/\Below w.heap.size w (wr.drewN q)):=λq=>⟨z.1.below (p q),z.2.1.below (p q),z.2.2.trans ((p q).mono z.2.2.size)⟩
   obtain⟨qu,cu,rfl,-⟩:=pu;obtain⟨qv,cv,rfl,-⟩:=pv;have j1:=MI S M T i H;have j2:=MI V M W i H;go_wp2;go_quiet (fail);go_wp2;go_roundg (gk-1)
   case measure=>omega
   case rel=>exact⟨i+1,oM,rfl,K5.out _⟩
  ·have P:=oM;go_wp2;go_ret;exact⟨rfl,z.2.2⟩
structure Rg where
 a:Sv
 b:Sv
 c:Sv
 d:Sv
 e:Sv
 f:Sv
 g:Sv
 l:Sv
 r:Sv
 x:Sv
 y:Sv
def Rg.cs(p:Rg):List Uv:=rgC p.a p.b p.c p.d p.e p.f p.g p.l p.r p.x p.y
def Rg.all(p:Rg)(b k:List Uv):List Uv:=b++k++[p.x.v,p.y.v]++[p.a.v,p.b.v,p.c.v,p.d.v,p.e.v,p.f.v,p.g.v]
theorem BQ(p k:Rg){m o l r:List Uv}(w:Ut)(hL:VL w p.l.q p.l.n m)(hR:VL w p.r.q p.r.n o)(C:VL w k.l.q k.l.n l)(a:VL w k.r.q k.r.n r)(h1:p.l.n<=1000)(h2:p.r.n<=1000)(hl:k.l.n=p.l.n)(hr:k.r.n=p.r.n)
 (hE:∀(j:Nat),j<p.l.n+p.r.n+9->∃u v b,(p.all m o)[j]? = some u/\(k.all l r)[j]? = some v/\Pt w u b/\Pt w v b) :
 UK prog 7 #[.agg p.cs.toArray,.agg k.cs.toArray] w λe' w'=>e'=.returned (.bool true)/\Below w.heap.size w w':=by
 obtain⟨cs,y⟩:∃cs:List Uv,Hid (p.cs=cs):=⟨_,rfl⟩
 obtain⟨E,t⟩:∃E:List Uv,Hid (k.cs=E):=⟨_,rfl⟩
 obtain⟨g,G⟩:∃g,Hid (w.alloc (.cells cs.toArray 28)=g):=⟨_,rfl⟩
 obtain⟨f,B⟩:∃f,Hid (g.alloc (.cells E.toArray 28)=f):=⟨_,rfl⟩
 have e1:g.heap.size=w.heap.size+1:=by rw[<-G.out,UD]
 have e2:f.heap.size=g.heap.size+1:=by rw[<-B.out,UD]
 have b1:Below w.heap.size w g:=by rw[<-G.out];exact aO _ _
 have b2:Below g.heap.size g f:=by rw[<-B.out];exact aO _ _
 have d:Below w.heap.size w f:=b1.trans (b2.mono b1.size);have r1:f.rangeAt w.heap.size 0 cs:=range_below (w:=g) (by rw[<-G.out];exact eI w cs _) b2 oM;have r2:f.rangeAt g.heap.size 0 E:=by rw[<-B.out];exact eI g E _
 have len1:Hid (cs.length=11):=by rw[<-y.out];rfl
 have len2:Hid (E.length=11):=by rw[<-t.out];rfl
 have i1:Hid (f.rangeAt w.heap.size 7 (inV p.l p.r p.x p.y)):=λj u J=>by
  have:=r1 (7+j) u (by
   rw[<-y.out];match j,J with
   | 0,h=>exact h
   | 1,h=>exact h
   | 2,h=>exact h
   | 3,h=>exact h)
  rw[UF]at this;exact this
 have i2:Hid (f.rangeAt g.heap.size 7 (inV k.l k.r k.x k.y)):=λj u J=>by
  have:=r2 (7+j) u (by
   rw[<-t.out];match j,J with
   | 0,h=>exact h
   | 1,h=>exact h
   | 2,h=>exact h
   | 3,h=>exact h)
  rw[UF]at this;exact this
 have lX:(m++o++[p.x.v,p.y.v]).length=p.l.n+p.r.n+2:=by rw[UB,UB,hL.len,hR.len];rfl
 have lZ:(l++r++[k.x.v,k.y.v]).length=p.l.n+p.r.n+2:=by rw[UB,UB,C.len,a.len,hl,hr];rfl
 have Z:Hid (UK prog 45 #[.agg (inV p.l p.r p.x p.y).toArray,.agg (inV k.l k.r k.x k.y).toArray] f λe' w'=>e'=.returned (.bool true)/\Below f.heap.size f w'):=by
  refine BR p.l p.r p.x p.y k.l k.r k.x k.y f (hL.below d) (hR.below d) (C.below d) (a.below d) h1 h2 hl hr (λj J=>?_);obtain⟨u,v,b,c,n,s,x⟩:=hE j oM;unfold Rg.all at c n;rw[UX (by rw[lX];exact J)]at c;rw[UX (by rw[lZ];exact J)]at n;exact⟨u,v,b,c,n,s.below d,x.below d⟩
 have hA:Hid (∀c,Below f.heap.size f c->UK prog 9 #[.agg cs.toArray] c λe w'=>∃v,e=.returned v/\GLs c w' v (p.all m o)):=λc F=>by
  rw[<-y.out];exact N9 p.a p.b p.c p.d p.e p.f p.g p.l p.r p.x p.y c ((hL.below d).below F) ((hR.below d).below F) h1 h2
 have hB:Hid (∀c,Below f.heap.size f c->UK prog 9 #[.agg E.toArray] c λe w'=>∃v,e=.returned v/\GLs c w' v (k.all l r)):=λc F=>by
  rw[<-t.out];exact N9 k.a k.b k.c k.d k.e k.f k.g k.l k.r k.x k.y c ((C.below d).below F) ((a.below d).below F) oM oM
 have H:Hid ((p.all m o).length=p.l.n+p.r.n+9):=by
  show _=_;unfold Rg.all;rw[UB,lX];rfl
 have D:Hid ((k.all l r).length=p.l.n+p.r.n+9):=by
  show _=_;unfold Rg.all;rw[UB,lZ];rfl
 have HE:=Hid.mkP hE;generalize p.all m o=XS at hA H HE;generalize k.all l r=ZS at hB D HE;have HB:=Hid.mkP d;have R:Hid (∀c,Below f.heap.size f c->c.rangeAt w.heap.size 0 cs):=λc F=>range_below r1 F oM
 have W:Hid (∀c,Below f.heap.size f c->c.rangeAt g.heap.size 0 E):=λc F=>range_below r2 F oM
 rw[y.out,t.out];obtain⟨dI,V,P⟩:=UA.1 uIn;obtain⟨dR,S,O⟩:=UA.1 uRg;obtain⟨M,hM⟩:∃M,Hid (p.l.n+p.r.n+9=M):=⟨_,rfl⟩
 rw[hM.out]at H D HE;have h5:M<=2009:=by have:=hM.out;omega
 obtain⟨iv,U⟩:∃iv,Hid (inV p.l p.r p.x p.y=iv):=⟨_,rfl⟩
 obtain⟨jv,L⟩:∃jv,Hid (inV k.l k.r k.x k.y=jv):=⟨_,rfl⟩
 have h0:Hid (iv.length=4):=by rw[<-U.out];rfl
 have h3:Hid (jv.length=4):=by rw[<-L.out];rfl
 rw[U.out]at i1 Z;rw[L.out]at i2 Z;clear e1 e2 b1 b2 d r1 r2 hL hR C a hE lX lZ hl hr h1 h2;go_enter func7,ntmps7;go_wp2_with (first|(refine aY (v:=.pointer (some ⟨w.heap.size,0,none⟩)) (w':=g) rfl (.box 28 (.tmp 0)) rfl ?_ ?_;(rw[<-G.out,<-y.out];kernel_rfl))|(refine aY (v:=.pointer (some ⟨g.heap.size,0,none⟩)) (w':=f) rfl (.box 28 (.tmp 1)) rfl ?_ ?_;(rw[<-B.out,<-t.out];kernel_rfl))|(refine U8 rfl 26 _ rfl w.heap.size 7 ?_ iv dI ?_ ?_ ?_ ?_ ?_;rfl;exact i1.out;exact V;exact P;(rw[h0.out];exact iIn);skip)|(refine U8 rfl 26 _ rfl g.heap.size 7 ?_ jv dI ?_ ?_ ?_ ?_ ?_;rfl;exact i2.out;exact V;exact P;(rw[h3.out];exact iIn);skip)|fail)
 refine Z.mono ?_;rintro e' x ⟨rfl,z⟩;have Q:=Hid.mkP z;have T:=Hid.mkP (R x z);clear z Z i1 i2;go_wp2_with (first|(refine U8 rfl 28 _ rfl w.heap.size 0 ?_ cs dR ?_ ?_ ?_ ?_ ?_;rfl;exact T.out;exact S;exact O;(rw[len1.out];exact iRg);skip)|fail)
 refine(hA x Q.out).mono ?_;rintro e' c ⟨v3,rfl,g3⟩;have A:Below f.heap.size f c:=Q.trans (g3.bl.mono Q.size);have X:=Hid.mkP (W c A);have N:=Hid.mkP (hB c A);obtain⟨a3,p3,rfl,-⟩:=g3.lt;have K3:=Hid.mkP g3;have h4:=Hid.mkP A;clear g3 A hA hB W R T;rw[H.out]at K3⊢;go_wp2_with (first|(refine U8 rfl 28 _ rfl g.heap.size 0 ?_ E dR ?_ ?_ ?_ ?_ ?_;rfl;exact X.out;exact S;exact O;(rw[len2.out];exact iRg);skip)|fail)
 refine N.mono ?_;rintro e' w4 ⟨v4,rfl,K⟩;obtain⟨a4,p4,rfl,-⟩:=K.lt;have s:Hid (GLs x w4 (.slice (some ⟨a3,0,none⟩) M p3) XS/\GLs c w4 (.slice (some ⟨a4,0,none⟩) M p4) ZS/\Below w.heap.size w w4):=by
  rw[D.out]at K;have n:=HB.trans (Q.mono HB.size);have I:=K3.below K.bl;exact⟨I,K,n.trans (I.bl.mono n.size)⟩
 clear K N K3 X h4 Q;rw[D.out];go_wp2;go_loopg [8] M (λgk s7 wr=>∃i:Nat,i+gk=M/\s7=.int .i64 i/\Hid (GLs x wr (.slice (some ⟨a3,0,none⟩) M p3) XS/\GLs c wr (.slice (some ⟨a4,0,none⟩) M p4) ZS/\Below w.heap.size w wr))
 case atStart=>exact⟨0,oM,rfl,s⟩
 case round =>
  clear s;obtain⟨i,hi,rfl,s⟩:=hrel;by_cases I:i<M
  ·have Y:(i:Int)<(M:Int):=oM;obtain⟨u,v,b,hu,hv,pu,pv⟩:=HE.out i I;have n:∀q,Below wr.heap.size wr (wr.drewN q):=λq=>⟨rfl,rfl,rfl,Uy _,λ_ _=>rfl⟩
   have k1:=λq=>((pu.below s.2.2).below (n q)).conv
   have k2:=λq=>((pv.below s.2.2).below (n q)).conv
   have x1:=s.1.cell i u hu;have x2:=s.2.1.cell i v hv;have K5:Hid (∀q,GLs x (wr.drewN q) (.slice (some ⟨a3,0,none⟩) M p3) XS/\GLs c (wr.drewN q) (.slice (some ⟨a4,0,none⟩) M p4) ZS/\Below w.heap.size w (wr.drewN q)):=λq=>⟨s.1.below (n q),s.2.1.below (n q),s.2.2.trans ((n q).mono s.2.2.size)⟩
   obtain⟨qu,cu,rfl,-⟩:=pu;obtain⟨qv,cv,rfl,-⟩:=pv;generalize Wt b=nb at k1 k2 x1 x2;have j1:=MI a3 M p3 i I;have j2:=MI a4 M p4 i I;clear hu hv n s;go_wp2;go_quiet (fail);go_wp2;go_roundg (gk-1)
   case measure=>omega
   case rel=>exact⟨i+1,oM,rfl,K5.out _⟩
  ·have Y:¬(i:Int)<(M:Int):=oM;go_wp2;go_ret;exact⟨rfl,s.2.2⟩
theorem uB(n c:Nat)(h:c<n):YA n c<=2*n+768:=by
 unfold YA;split
 ·omega
 ·split
  ·omega
  ·simp only[Builtin.growBy];repeat' split
   all_goals omega
theorem wW{w n m size c:Nat}{T:Vb}{i:TypeInfo}{z:Uv}{W W':Ut}{v t:Uv}{f:List Uv}{a:Wv}(D:prog.underlying T=some (.slice e))(H:prog.info? e=some i)(K:i.zero=some z)(E:i.size=size)(G:i.bytes<=1000)
 (b:W.ownsRow w e size v n xs) (s:Src prog size T (.slice (some a) m c) m f W) (k:n+m<=1000000000)
 (p:(Vx #[T,T] T #[v,.slice (some a) m c]).run prog W=.ok t W'):t.ownBlock=v.ownBlock\/t.ownBlock=some W.heap.size:=by
 subst E;have k:∀(q:Option Wv) (cap:Nat) (olds:List Uv),v=.slice q n cap->cap<n+m->(yAw i.size n (.slice q n cap)).run prog W.drew=.ok olds.toArray W.drew->t.ownBlock=v.ownBlock\/t.ownBlock=some W.heap.size:=λq cap olds hv J y=>by
  have C:=uB (n+m) cap J;have B:YA (n+m) cap*i.bytes<=(2*(n+m)+768)*1000:=WP C G;have r:=run_append_grow_src (P:=prog) W T T T e i z D H K q n cap olds y (.slice (some a) m c) m f s J oM (UE B (by clear C B;omega));rw[hv,r]at p;injection p with hr1 o
  right;rw[<-hr1];rfl
 rcases id b with⟨-,⟨rfl,rfl⟩|⟨g,cap,cur,rfl,O,I,R,N,L,Q⟩⟩
 ·by_cases M:m=0
  ·subst M;have F:=p;obtain⟨A,o⟩:∃A,(Vx #[T,T] T #[.slice none 0 0,.slice (some a) 0 c]).run prog W=.ok (.slice none 0 0) A:=by
    rcases s.kind with⟨e',d⟩|d<;>exact⟨_,by simp[Vx,Yn D,Yn d,sizeOf,typeInfo,H,s.len,s.cells];rfl⟩
   rw[o]at p;injection p with hr1 o
   left;rw[<-hr1]
  ·exact k none 0 [] rfl oM (run_firstCells_none W.drew i.size 0 0 0)
 ·by_cases d:n+m<=cap
  ·have r:=YZ (P:=prog) W T T T e i D H g 0 n cap (.slice (some a) m c) m f s d
    (λj A=>by
     have F:n*i.size+j<cur.size:=by
      rw[L];have C:j<m*i.size:=by rw[<-s.newsLen];exact A
      have B:(n+m)*i.size<=cap*i.size:=WX _ d;rw[XH]at B;omega
     simp[V1,I,UF,UZ F])
    (λj A=>by simp[Xe,I])
   rw[r]at p;injection p with hr1 o
   left;rw[<-hr1];rfl
  ·refine k (some (aZ g)) cap xs rfl oM ?_;exact run_firstCells_some W.drew i.size n (aZ g) n cap xs b.1 (λj u A=>by rw[Zc];exact b.cells (g:=g) rfl j u A)
theorem Gp{P:VD}{k:Array Vk}{o:Vk}{a:Act}{w:Ut}{K:Act->Ut->Prop}{Q:X9->Act->Ut->Prop}{E:Prop}(f:o.guard=none)(s x:XM)(t c:Vb)
 (ho:o.op=.call { callee:=.builtin .append,args:=#[s,x],argTypes:=#[t,c] }) (vs d:Uv) (e:a.eval s=vs) (hx:a.eval x=d)
 (b:Uv) (w':Ut) (i:(Vx #[t,c] o.type #[vs,d]).run P w=.ok b w') (h:K (a.put o.dst b) w'):if V5 o (yielded k a.tmps)=true then VT P o a w K Q else E:=by
 have g:V5 o (yielded k a.tmps)=true:=by simp[V5,f]
 rw[yCk g];exact Lib.wp_append_run w s x t c ho vs d e hx b w' i h
theorem H5:prog.underlying 107=some (.slice 112):=kR
theorem Pv:(prog.info? 112).map (λi=>(i.size,i.bytes,i.zero.map λz=>z.cells.size))=some (2,16,some 2):=kR
def pC(x:Wv × Nat):List Uv:=[.pointer (some x.1),iZ (x.2:Int)]
def psC(k:List (Wv × Nat)):List Uv:=k.flatMap pC
theorem nX:∀k:List (Wv × Nat),(psC k).length=k.length*2
 | []=>rfl
 | x :: r=>by
  have:=nX r;unfold psC at *;rw[List.flatMap_cons,UB,this,Vg];show 2+_=_;omega
theorem Mc(a b:List (Wv × Nat)):psC (a++b)=psC a++psC b:=List.flatMap_append
theorem EK:∀(k:List (Wv × Nat)),∀u∈psC k,u.oneCell'=true:=by
 intro k u b;obtain⟨x,-,hx⟩:=List.mem_flatMap.1 b;unfold pC at hx;simp only[V0,U1,or_false]at hx;rcases hx with rfl|rfl<;>rfl
theorem IL:∀(k:List (Wv × Nat)) (j:Nat) (x:Wv × Nat),k[j]? = some x->(psC k)[2*j]? = some (.pointer (some x.1))/\(psC k)[2*j+1]? = some (iZ (x.2:Int))
 | [],j,x,h=>by simp at h
 | y :: r,0,x,h=>by
  obtain rfl:y=x:=by simpa using h
  exact⟨rfl,rfl⟩
 | y :: r,j+1,x,h=>by
  have:=IL r j x (by simpa using h);have e:psC (y :: r)=pC y++psC r:=rfl;rw[e,U4 (by show 2<=_;omega),U4 (by show 2<=_;omega)];show(psC r)[2*(j+1)-2]? = _/\(psC r)[2*(j+1)+1-2]? = _;rw[show 2*(j+1)-2=2*j by omega,show 2*(j+1)+1-2=2*j+1 by omega];exact this
structure PLs(w W:Ut)(v:Uv)(ps:List (Wv × Nat)):Prop where
 bl:kZ w W
 ow:W.ownsRow w.heap.size 112 2 v ps.length (psC ps)
 nn:v.ownBlock≠none
theorem PLs.lt{w W:Ut}{v:Uv}{k:List (Wv × Nat)}(h:PLs w W v k):∃g cap,v=sZ g k.length cap/\w.heap.size<=g/\g<W.heap.size:=by
 rcases id h.ow with⟨-,⟨rfl,e⟩|⟨g,cap,cur,rfl,d,b,-⟩⟩
 ·exact absurd rfl h.nn
 ·refine⟨g,cap,rfl,d,?_⟩;by_cases c:g<W.heap.size
  ·exact c
  ·rw[Wu oM]at b;cases b
theorem PLs.below{w W W':Ut}{v:Uv}{d:List (Wv × Nat)}(h:PLs w W v d)(c:kZ W W'):PLs w W' v d:=by
 refine⟨h.bl.trans (c.mono h.bl.size),?_,h.nn⟩;rcases h.ow with⟨e,b|⟨g,cap,cur,b,j,k,f⟩⟩
 ·exact⟨e,U6 b⟩
 ·refine⟨e,U2 ⟨g,cap,cur,b,j,?_,f⟩⟩;rw[c.block g (by
   by_cases i:g<W.heap.size
   ·exact i
   ·rw[Wu oM]at k;cases k)]
  exact k
theorem PLs.app{w W:Ut}{v:Uv}{f ys:List (Wv × Nat)}{b m c:Nat}(h:PLs w W v f)(hx:W.rangeAt b 0 (psC ys))(n:ys.length=m)(K:f.length+m<=1000000)(D:0<m):
 ∃d W',(Vx #[107,107] 107 #[v,sZ b m c]).run prog W=.ok d W'/\PLs w W' d (f++ys)/\W.grownBy W' v.ownBlock/\(d.ownBlock=v.ownBlock\/d.ownBlock=some W.heap.size):=by
 obtain⟨i,a,s⟩:=UA.1 Pv;simp only[We.injEq]at s;obtain⟨q,G,C⟩:=s;obtain⟨z,p,l⟩:=UA.1 C;obtain⟨g,cap,rfl,B,A⟩:=h.lt;have x:∀(j:Nat) u,(psC ys)[j]? = some u->W.cell? ((⟨b,0,none⟩:Wv).add j)=some u:=λj u E=>by rw[lI];exact hx j u E
 obtain⟨d,W',y,o,e,I⟩:=Yv (P:=prog) W w.heap.size 107 107 112 i z 2 16 H5 a p q G l dC _ f.length (psC f) h.ow (aZ b) m c (psC ys) (by rw[nX,n]) x (EK ys) (by unfold maxLen;omega) oM h.bl.size;have H:=wW (c:=c) H5 a p q oM h.ow (yAN (P:=prog) (size:=2) W H5 (aZ b) m c (psC ys) (by rw[nX,n]) x (EK ys)) oM y;refine⟨d,W',y,⟨⟨by rw[e.os,h.bl.os],by rw[e.tape,h.bl.tape],by rw[e.output,h.bl.output],UE h.bl.size e.size,λk r=>?_⟩,?_,?_⟩,e,H⟩
 ·rw[e.block k (Uz r h.bl.size) (by simp[V9];omega)];exact h.bl.block k r
 ·rw[UB,n,Mc];exact o
 ·rcases o.2 with⟨F,-⟩|⟨J,t,cur,rfl,-⟩
  ·have:=(I.1 F).1;exact absurd this (by simp)
  ·simp[V9]
theorem PLs.at{w W:Ut}{n c:Nat}{b:List (Wv × Nat)}(h:PLs w W (sZ g n c) b)(j:Nat)(x:Wv × Nat)(f:b[j]? = some x):W.rangeAt g (2*j) (pC x):=λk u e=>by
 have d:=IL b j x f;have:=h.ow.cells (g:=g) rfl (2*j+k) u (by
  match k,e with
  | 0,h=>rw[<-h];exact d.1
  | 1,h=>rw[<-h];exact d.2)
 rw[lI,UF]at this;exact this
theorem Ml(w:Ut)(k:List (Wv × Nat))(b:k.length<=1000000):PLs w (w.alloc (.cells (psC k).toArray 112)) (sZ w.heap.size k.length k.length) k:=
 ⟨aO w _,⟨nX k,.inr ⟨w.heap.size,k.length,(psC k).toArray,rfl,Uy _,Xb,Uy _,by unfold maxLen;omega,by rw[VE,nX],by rw[<-nX k];simp⟩⟩,by simp[V9]⟩
def lp(b o n:Nat):List (Wv × Nat):=(VB n).map λj=>((⟨b,o+j,none⟩:Wv),33)
def tD(k:Nat):List (Wv × Nat):=[(⟨k,0,none⟩,33),(⟨k,1,none⟩,33),(⟨k,2,none⟩,33),(⟨k,3,none⟩,33),(⟨k,4,none⟩,32),(⟨k,5,none⟩,32),(⟨k,6,none⟩,32)]
def endP(k:Nat):List (Wv × Nat):=[(⟨k,9,none⟩,32),(⟨k,10,none⟩,32)]
theorem MF(b o n:Nat):lp b o (n+1)=lp b o n++[(⟨b,o+n,none⟩,33)]:=by
 unfold lp;rw[List.range_succ,Wx];rfl
theorem jM(b o n:Nat):(lp b o n).length=n:=by unfold lp;simp
def sQ(k b d c e or f:Nat):Nat->List (Wv × Nat)
 | 0=>tD k
 | 1=>tD k++lp b d c
 | _=>tD k++lp b d c++lp e or f
structure PI(w w1 w2 W:Ut)(v:Uv)(ps:List (Wv × Nat)):Prop where
 pl:PLs w W v ps
 ne:v.ownBlock≠some w1.heap.size
 eq:W.heap[w1.heap.size]? = w2.heap[w1.heap.size]?
 sz:w2.heap.size<=W.heap.size
theorem PI.app{w k d W:Ut}{v:Uv}{f:List (Wv × Nat)}{x:Wv × Nat}(h:PI w k d W v f)(n:k.heap.size<d.heap.size)(t:f.length<=10000):
 ∃b W',(Vx #[107,107] 107 #[v,sZ W.heap.size 1 1]).run prog (W.alloc (.cells (pC x).toArray 112))=.ok b W'/\PI w k d W' b (f++[x]):=by
 have i:=aO W (.cells (pC x).toArray 112);have o:(W.alloc (.cells (pC x).toArray 112)).rangeAt W.heap.size 0 (psC [x]):=by
  have e:psC [x]=pC x:=XC _;rw[e];exact eI W (pC x) _
 obtain⟨b,W',p,j,g,r⟩:=(h.pl.below i).app (m:=1) (c:=1) o rfl oM dC;have s:=h.sz;have l:(W.alloc (.cells (pC x).toArray 112)).heap.size=W.heap.size+1:=UD _ _;refine⟨b,W',p,j,?_,?_,?_⟩
 ·rcases r with e|e
  ·rw[e];exact h.ne
  ·rw[e,l];intro h;have:=UP.inj h;omega
 ·rw[g.block k.heap.size oM (λq=>h.ne q.symm),i.block k.heap.size oM];exact h.eq
 ·have:=g.size;omega
theorem TV(b o n c i:Nat)(d:i<n)(w:Ut):(Vj 24 (.slice (some ⟨b,o,none⟩) n c) (iZ i)).run prog w=.ok (.pointer (some ⟨b,o+i,none⟩)) w:=by
 have e:¬(i:Int)<0:=oM;have f:(i:Int)<(n:Int):=oM;have k:=lI b o i;go_simp
theorem zP(d:Nat)(l r:Sv)(u y z or:Nat)(w:Ut)(H:d<w.heap.size)(h7:w.cell? ⟨d,7,none⟩=some l.v)(h8:w.cell? ⟨d,8,none⟩=some r.v)
 (N:l.n=0\/l.q=some ⟨u,y,none⟩) (M:r.n=0\/r.q=some ⟨z,or,none⟩) (C:l.n<=1000) (E:r.n<=1000) :
 UK prog 55 #[.pointer (some ⟨d,0,none⟩)] w λe w'=>∃v,e=.returned v/\PLs w w' v (tD d++lp u y l.n++lp z or r.n++endP d):=by
 obtain⟨P,s,cl⟩:=l;obtain⟨Q,t,cr⟩:=r;dsimp only[Sv.v]at *;obtain⟨f,F⟩:∃f,Hid ((w.alloc (.cells #[.pointer (some ⟨d,0,none⟩),.int .i64 33,.pointer (some ⟨d,1,none⟩),.int .i64 33,.pointer (some ⟨d,2,none⟩),.int .i64 33,.pointer (some ⟨d,3,none⟩),.int .i64 33,.pointer (some ⟨d,4,none⟩),.int .i64 32,.pointer (some ⟨d,5,none⟩),.int .i64 32,.pointer (some ⟨d,6,none⟩),.int .i64 32] 112)).drew=f):=⟨_,rfl⟩
 obtain⟨a,A⟩:∃a,Hid ((f.alloc (.cells #[.slice P s cl,.slice Q t cr] 24)).drew=a):=⟨_,rfl⟩
 have D:∀W:Ut,Below W.heap.size W W.drew:=λW=>⟨rfl,rfl,rfl,Uy _,λ_ _=>rfl⟩
 have p1:PLs w f (.slice (some ⟨w.heap.size,0,none⟩) 7 7) (tD d):=by
  rw[<-F.out];exact(Ml w (tD d) (by show 7<=_;omega)).below (D _)
 have b2:Below f.heap.size f a:=by
  rw[<-A.out];exact(aO f _).trans ((D _).mono (by rw[UD];omega))
 have p2:=p1.below b2;have c7:f.cell? ⟨d,7,none⟩=some (.slice P s cl):=by rw[p1.bl.cell (p:=⟨d,7,none⟩) H];exact h7
 have c8:f.cell? ⟨d,8,none⟩=some (.slice Q t cr):=by rw[p1.bl.cell (p:=⟨d,8,none⟩) H];exact h8
 have d0:a.cell? ⟨f.heap.size,0,none⟩=some (.slice P s cl):=by rw[<-A.out,Zc];exact cZ f _ _ 0 _ rfl
 have d1:a.cell? ⟨f.heap.size,1,none⟩=some (.slice Q t cr):=by rw[<-A.out,Zc];exact cZ f _ _ 1 _ rfl
 have s2:f.heap.size<a.heap.size:=by rw[<-A.out,yBd,UD];omega
 have T:Hid (PI w f a a (.slice (some ⟨w.heap.size,0,none⟩) 7 7) (sQ d u y s z or t 0)):=⟨p2,by
  have:f.heap.size=w.heap.size+1:=by rw[<-F.out,yBd,UD]
  simp[V9];omega,rfl,Uy _⟩
 have HN:Hid (∀(i:Nat) (W:Ut),i<2->W.heap[f.heap.size]? = a.heap[f.heap.size]?->∃q n c b o,W.cell? ⟨f.heap.size,i,none⟩=some (.slice q n c)/\(n=0\/q=some ⟨b,o,none⟩)/\n<=1000/\sQ d u y s z or t (i+1)=sQ d u y s z or t i++lp b o n/\(sQ d u y s z or t i).length<=1007):=λi W R hW=>by
  have B:∀k,W.cell? ⟨f.heap.size,k,none⟩=a.cell? ⟨f.heap.size,k,none⟩:=λk=>by
   unfold V1;rw[hW]
  match i,R with
  | 0,_=>exact⟨P,s,cl,u,y,by rw[B];exact d0,N,C,rfl,by show 7<=_;omega⟩
  | 1,_=>exact⟨Q,t,cr,z,or,by rw[B];exact d1,M,E,rfl,by show(tD d++lp u y s).length<=_;rw[UB,jM];show 7+s<=_;omega⟩
 have X:=Hid.mkP s2;clear p1 p2 b2 h7 h8 d0 d1 s2 D N M;go_enter func55,ntmps55;go_wp2;go_region
 rw[F.out];go_wp2;go_region
 rw[A.out];go_wp2;go_loopg [4,50] 2 (λgk s4 s50 wr=>∃i:Nat,i+gk=2/\s50=.int .i64 i/\Hid (PI w f a wr s4 (sQ d u y s z or t i)))
 case atStart=>exact⟨0,rfl,rfl,T⟩
 case round =>
  obtain⟨i,R,rfl,K⟩:=hrel;by_cases h2:i<2
  ·obtain⟨q,n,c,b,o,e1,G,e3,e4,e5⟩:=HN.out i wr h2 K.eq;have V:(i:Int)<2:=oM;have h0:∀W:Ut,(Vj 213 (.slice (some ⟨f.heap.size,0,none⟩) 2 2) (.int .i64 i)).run prog W=.ok (.pointer (some ⟨f.heap.size,i,none⟩)) W:=λW=>by
    have C:¬(i:Int)<0:=oM;have B:=lI f.heap.size 0 i;rw[UF]at B;go_simp
   have E2:=Hid.mkP G;have E4:=Hid.mkP e4;have E5:=Hid.mkP e5;clear G e4 e5;obtain⟨g,cap,rfl,-,-⟩:=K.pl.lt;have S:Hid (i+gk=2):=R;clear R;go_wp2;go_loopg [4,56] n (λm s4 s56 wi=>∃j:Nat,j+m=n/\s56=.int .i64 j/\Hid (PI w f a wi s4 (sQ d u y s z or t i++lp b o j)))
   case atStart=>exact⟨0,oM,rfl,by
    have e:lp b o 0=[]:=rfl;rw[e,XC];exact K⟩
   case round =>
    clear K;obtain⟨j,hj,rfl,K⟩:=hrel;obtain⟨g,cap,rfl,-,-⟩:=K.pl.lt;have N:(sQ d u y s z or t i++lp b o j).length<=10000:=by
     have:=E5.out;rw[UB,jM];omega
    by_cases U:j<n
    ·have C:(j:Int)<(n:Int):=oM;obtain rfl:q=some ⟨b,o,none⟩:=by
      rcases E2.out with h|h
      ·omega
      ·exact h
     have h4:=TV b o n c j U;obtain⟨O,I⟩:∃O,Hid (wr.alloc (.cells (pC (⟨b,o+j,none⟩,33)).toArray 112)=O):=⟨_,rfl⟩
     obtain⟨Y,W',E,B⟩:=K.app (x:=(⟨b,o+j,none⟩,33)) X.out N;rw[I.out]at E;obtain⟨g',L,rfl,-,-⟩:=B.pl.lt;generalize (sQ d u y s z or t i++lp b o j++[((⟨b,o+j,none⟩:Wv),33)]).length=N2 at E B;rw[List.append_assoc,<-MF]at B;have J:=Hid.mkP B;have Z:=Hid.mkP E;generalize (sQ d u y s z or t i++lp b o j).length=N1 at Z⊢;clear K E B N;go_wp2_with (first|(refine aY (v:=.slice (some ⟨wr.heap.size,0,none⟩) 1 1) (w':=O) rfl (.buildSlice 107 1 #[(0,.tmp 63)]) rfl ?_ ?_;(rw[<-I.out];kernel_rfl))|(at_builtin;refine WG O rfl _ _ _ _ rfl _ _ rfl rfl _ _ Z.out ?_)|fail)
     go_roundg (gk-1)
     case measure=>omega
     case rel=>exact⟨j+1,oM,rfl,J⟩
    ·have C:¬(j:Int)<(n:Int):=oM;obtain rfl:j=n:=oM;rw[<-E4.out]at K⊢;go_wp2;go_roundg (1-i)
     case measure =>
      have:=S.out;omega
     case rel=>exact⟨i+1,oM,rfl,K⟩
  ·have V:¬(i:Int)<2:=oM;obtain rfl:i=2:=oM;obtain⟨g,cap,rfl,-,-⟩:=K.pl.lt;have I:(sQ d u y s z or t 2).length<=2007:=by
    show(tD d++lp u y s++lp z or t).length<=_;rw[UB,UB,jM,jM];show 7+_+_<=_;omega
   have O:=(aO wr (.cells (psC (endP d)).toArray 112)).trans (⟨rfl,rfl,rfl,Uy _,λ_ _=>rfl⟩:Below wr.heap.size (wr.alloc (.cells (psC (endP d)).toArray 112)) (wr.alloc (.cells (psC (endP d)).toArray 112)).drew);have M:(wr.alloc (.cells (psC (endP d)).toArray 112)).drew.rangeAt wr.heap.size 0 (psC (endP d)):=by
    rw[World.rangeAt_drew];exact eI wr _ _
   obtain⟨Y,W',E,B,-,-⟩:=(K.pl.below O).app (m:=2) (c:=2) M rfl oM dC;have C:Hid ((Vx #[107,107] 107 #[.slice (some ⟨g,0,none⟩) (sQ d u y s z or t 2).length cap,.slice (some ⟨wr.heap.size,0,none⟩) 2 2]).run prog (wr.alloc (.cells #[.pointer (some ⟨d,9,none⟩),.int .i64 32,.pointer (some ⟨d,10,none⟩),.int .i64 32] 112)).drew=.ok Y W'):=E;have J:=Hid.mkP B;obtain⟨g',L,rfl,-,-⟩:=B.lt;have G:sQ d u y s z or t 2++endP d=tD d++lp u y s++lp z or t++endP d:=rfl;rw[G]at J C;generalize (tD d++lp u y s++lp z or t++endP d).length=N2 at J C;generalize (sQ d u y s z or t 2).length=N1 at C⊢;clear K I E B O M G;go_wp2;go_region_law (refine Gp rfl (.tmp 68) (.tmp 77) 107 107 rfl (.slice (some ⟨g,0,none⟩) N1 cap) (.slice (some ⟨wr.heap.size,0,none⟩) 2 2) (by simp[Act.eval,UR]) (by simp[Act.eval,UR]) _ _ C.out ?_)
   go_wp2;go_ret;exact⟨_,rfl,J.out⟩
theorem Jg:(prog.info? 5).map (λi=>(i.size,i.bytes,i.zero.map λz=>z.cells.size))=some (1,1,some 1):=kR
def bC(b:SP.Bs):List Uv:=b.toList.map SP.encB
theorem yR(b:SP.Bs):(bC b).length=b.size:=by unfold bC;simp
theorem Bq(b:SP.Bs):∀u∈bC b,u.oneCell'=true:=by
 intro u k;obtain⟨x,-,rfl⟩:=List.mem_map.1 k;rfl
theorem Qg(a b:SP.Bs):bC (a++b)=bC a++bC b:=by unfold bC;simp
theorem Pt.vl{W:Ut}{n c:Nat}{b:SP.Bs}(h:Pt W (.slice q n c) b):n=b.size/\VL W q n (bC b):=by
 obtain⟨p,r,i,k⟩:=h;injection i with e1 e2 e3
 subst e1 e2;refine⟨rfl,⟨yR b,?_,?_,Bq b⟩⟩
 ·intro d;rcases k with k|⟨g,o,e,-⟩
  ·exact k
  ·rw[d]at e;cases e
 ·rcases k with k|⟨g,o,e,l,m⟩
  ·left;have:(bC b).length=0:=by rw[yR];exact k
   exact yAo.1 this
  ·right;refine⟨g,o,e,l,λj u f=>?_⟩;unfold bC at f;rw[Vy]at f;obtain⟨x,hx,rfl⟩:=UA.1 f;have d:j<b.size:=by
    have:=(UG.1 hx).1;simpa using this
   rw[(m j d).1];rw[getElem!_pos b j d];have:=(UG.1 hx).2;rw[Array.getElem_toList]at this;rw[this]
structure PuI(w w4 W:Ut)(gp gq:Nat)(v:Uv)(b:SP.Bs):Prop where
 bl:kZ w W
 ow:W.ownsRow w.heap.size 5 1 v b.size (bC b)
 nn:v.ownBlock≠none
 n1:v.ownBlock≠some gp
 n2:v.ownBlock≠some gq
 e1:W.heap[gp]? = w4.heap[gp]?
 e2:W.heap[gq]? = w4.heap[gq]?
 sz:w4.heap.size<=W.heap.size
 l1:gp<w4.heap.size
 l2:gq<w4.heap.size
theorem PuI.lt{w e W:Ut}{i f:Nat}{v:Uv}{b:SP.Bs}(h:PuI w e W i f v b):∃g cap,v=sZ g b.size cap/\w.heap.size<=g/\g<W.heap.size:=by
 rcases id h.ow with⟨-,⟨rfl,j⟩|⟨g,cap,cur,rfl,d,k,-⟩⟩
 ·exact absurd rfl h.nn
 ·refine⟨g,cap,rfl,d,?_⟩;by_cases c:g<W.heap.size
  ·exact c
  ·rw[Wu oM]at k;cases k
theorem PuI.below{w j W W':Ut}{f e:Nat}{v:Uv}{b:SP.Bs}(h:PuI w j W f e v b)(k:kZ W W'):PuI w j W' f e v b:=by
 have l:=h.sz;refine⟨h.bl.trans (k.mono h.bl.size),?_,h.nn,h.n1,h.n2,by rw[k.block f (by have:=h.l1;omega)];exact h.e1,by rw[k.block e (by have:=h.l2;omega)];exact h.e2,UE l k.size,h.l1,h.l2⟩;rcases h.ow with⟨i,d|⟨g,cap,cur,d,o,c,n⟩⟩
 ·exact⟨i,U6 d⟩
 ·refine⟨i,U2 ⟨g,cap,cur,d,o,?_,n⟩⟩;rw[k.block g (by
   by_cases m:g<W.heap.size
   ·exact m
   ·rw[Wu oM]at c;cases c)]
  exact c
theorem zB:prog.underlying 23=some (.slice 5):=kR
theorem PuI.app{w t W:Ut}{n m:Nat}{v:Uv}{b x:SP.Bs}{c:Nat}(h:PuI w t W n m v b)(hx:VL W q x.size (bC x))(O:b.size+x.size<=1000000):
 ∃l W',(Vx #[23,23] 23 #[v,.slice q x.size c]).run prog W=.ok l W'/\PuI w t W' n m l (b++x):=by
 obtain⟨i,y,C⟩:=UA.1 Jg;simp only[We.injEq]at C;obtain⟨B,L,K⟩:=C;obtain⟨z,A,r⟩:=UA.1 K;obtain⟨g,cap,rfl,J,I⟩:=h.lt;have H:=h.sz;cases q with
 | none =>
  have E:=hx.nil rfl;obtain rfl:x=#[]:=ZN E;rcases id h.ow with⟨-,⟨d,-⟩|⟨N,s,cur,d,G,M,D,F⟩⟩
  ·cases d
  ·injection d with d _ h0'
   injection d with d
   injection d with d
   subst d h0';have p:=YZ (P:=prog) W 23 23 23 5 i zB y g 0 b.size cap (.slice none 0 c) 0 [] (yCa (e':=5) _ zB c) D (λj f=>by cases f) (λj f=>by cases f);refine⟨_,_,p,?_⟩;rw[Array.append_empty];exact h
 | some a =>
  have p:∀(j:Nat) u,(bC x)[j]? = some u->W.cell? (a.add j)=some u:=λj u f=>by
   rcases hx.cells with d|⟨b,o,s,-,p⟩
   ·rw[d]at f;cases f
   ·obtain rfl:=UP.inj s;rw[lI];exact p j u f
  obtain⟨l,W',D,G,d,M⟩:=Yv (P:=prog) W w.heap.size 23 23 5 i z 1 1 zB y A B L r dC _ b.size (bC b) h.ow a x.size c (bC x) (by rw[yR];omega) p (Bq x) (by unfold maxLen;omega) oM h.bl.size;have E:=wW (c:=c) zB y A B oM h.ow (yAN (P:=prog) (size:=1) W zB a x.size c (bC x) (by rw[yR];omega) p (Bq x)) oM D;have F:∀k,k<t.heap.size->l.ownBlock≠some k\/(sZ g b.size cap).ownBlock=some k:=λk s=>by
   rcases E with e|e
   ·by_cases hh:(sZ g b.size cap).ownBlock=some k
    ·exact U2 hh
    ·left;rw[e];exact hh
   ·left;rw[e];intro hh;have:=UP.inj hh;omega
  refine⟨l,W',D,⟨⟨by rw[d.os,h.bl.os],by rw[d.tape,h.bl.tape],by rw[d.output,h.bl.output],UE h.bl.size d.size,λk s=>?_⟩,?_,?_,?_,?_,?_,?_,?_,h.l1,h.l2⟩⟩
  ·rw[d.block k (Uz s h.bl.size) (by simp[V9];omega)];exact h.bl.block k s
  ·rw[Array.size_append,Qg];exact G
  ·rcases E with e|e<;>rw[e]
   ·simp[V9]
   ·simp
  ·rcases F n h.l1 with e|e
   ·exact e
   ·exact absurd e h.n1
  ·rcases F m h.l2 with e|e
   ·exact e
   ·exact absurd e h.n2
  ·rw[d.block n (by have:=h.l1;omega) (λe=>h.n1 e.symm)];exact h.e1
  ·rw[d.block m (by have:=h.l2;omega) (λe=>h.n2 e.symm)];exact h.e2
  ·exact UE H d.size
theorem DD{w n m size c:Nat}{T:Vb}{i:TypeInfo}{z:Uv}{W W':Ut}{v t:Uv}{o:List Uv}{a:Wv}(D:prog.underlying T=some (.slice e))(H:prog.info? e=some i)(K:i.zero=some z)(E:i.size=size)(G:i.bytes<=1000)
 (b:W.ownsRow w e size v n xs) (s:Src prog size T (.slice (some a) m c) m o W) (k:n+m<=1000000000)
 (p:(Vx #[T,T] T #[v,.slice (some a) m c]).run prog W=.ok t W'):t.ownBlock=v.ownBlock\/(t.ownBlock=some W.heap.size/\kZ W W'):=by
 subst E;have k:∀(q:Option Wv) (cap:Nat) (olds:List Uv),v=.slice q n cap->cap<n+m->(yAw i.size n (.slice q n cap)).run prog W.drew=.ok olds.toArray W.drew->t.ownBlock=v.ownBlock\/(t.ownBlock=some W.heap.size/\kZ W W'):=λq cap olds hv J y=>by
  have C:=uB (n+m) cap J;have B:YA (n+m) cap*i.bytes<=(2*(n+m)+768)*1000:=WP C G;have r:=run_append_grow_src (P:=prog) W T T T e i z D H K q n cap olds y (.slice (some a) m c) m o s J (by omega) (UE B (by clear C B;omega));rw[hv,r]at p;injection p with hr1 f
  right;refine⟨by rw[<-hr1];rfl,?_⟩;rw[<-f];exact(⟨rfl,rfl,rfl,Uy _,λ_ _=>rfl⟩:kZ W W.drew).trans (aO W.drew _)
 rcases id b with⟨-,⟨rfl,rfl⟩|⟨g,cap,cur,rfl,O,I,R,N,L,Q⟩⟩
 ·by_cases M:m=0
  ·subst M;have F:=p;obtain⟨A,f⟩:∃A,(Vx #[T,T] T #[.slice none 0 0,.slice (some a) 0 c]).run prog W=.ok (.slice none 0 0) A:=by
    rcases s.kind with⟨e',d⟩|d<;>exact⟨_,by simp[Vx,Yn D,Yn d,sizeOf,typeInfo,H,s.len,s.cells];rfl⟩
   rw[f]at p;injection p with hr1 f
   left;rw[<-hr1]
  ·exact k none 0 [] rfl (by omega) (run_firstCells_none W.drew i.size 0 0 0)
 ·by_cases d:n+m<=cap
  ·have r:=YZ (P:=prog) W T T T e i D H g 0 n cap (.slice (some a) m c) m o s d
    (λj A=>by
     have F:n*i.size+j<cur.size:=by
      rw[L];have C:j<m*i.size:=by rw[<-s.newsLen];exact A
      have B:(n+m)*i.size<=cap*i.size:=WX _ d;rw[XH]at B;omega
     simp[V1,I,UF,UZ F])
    (λj A=>by simp[Xe,I])
   rw[r]at p;injection p with hr1 f
   left;rw[<-hr1];rfl
  ·refine k (some (aZ g)) cap xs rfl (by omega) ?_;exact run_firstCells_some W.drew i.size n (aZ g) n cap xs b.1 (λj u A=>by rw[Zc];exact b.cells (g:=g) rfl j u A)
structure Ap1(W W':Ut)(v v':Uv):Prop where
 os:W'.os=W.os
 tape:W'.tape=W.tape
 output:W'.output=W.output
 size:W.heap.size<=W'.heap.size
 keep:∀g,g<W.heap.size->v.ownBlock≠some g->W'.heap[g]? = W.heap[g]?
 mv:v'.ownBlock=v.ownBlock\/((∃g,v'.ownBlock=some g/\W.heap.size<=g)/\∀g,g<W.heap.size->W'.heap[g]? = W.heap[g]?)
theorem bZ{W W':Ut}{b n k:Nat}{v:Uv}(h:W.ownsRow b e k v n xs)(i:∀g,v.ownBlock=some g->W'.heap[g]? = W.heap[g]?):W'.ownsRow b e k v n xs:=by
 rcases h with⟨c,f|⟨g,cap,cur,rfl,l,d,j⟩⟩
 ·exact⟨c,U6 f⟩
 ·exact⟨c,U2 ⟨g,cap,cur,rfl,l,by rw[i g rfl];exact d,j⟩⟩
theorem jI{W:Ut}{b n k:Nat}{v:Uv}(h:W.ownsRow b e k v n xs)(c:v.ownBlock=some g):b<=g/\g<W.heap.size/\∃cur,W.heap[g]? = some (.cells cur e (0,0)):=by
 rcases h with⟨l,⟨rfl,-⟩|⟨f,cap,cur,rfl,i,d,j⟩⟩
 ·cases c
 ·obtain rfl:f=g:=UP.inj c;refine⟨i,?_,cur,d⟩;by_cases c:f<W.heap.size
  ·exact c
  ·rw[Wu (by omega)]at d;cases d
theorem DC{W:Ut}{B c:Nat}{b:SP.Bs}(h:W.ownsRow B 5 1 (sZ g b.size c) b.size (bC b)):Holds SP.encB W g 0 b:=λk d=>by
 obtain⟨-,-,cur,f⟩:=jI h (g:=g) rfl;refine⟨?_,by simp[Xe,f]⟩;have e:=h.cells (g:=g) rfl k (SP.encB b[k]!) (by
  unfold bC;rw[Vy,UI (by simpa using d),Option.map_some,getElem!_pos b k d];simp)
 rw[lI]at e;exact e
theorem FW{k n:Nat}{W:Ut}{v x:Uv}(b:W.ownsRow k 23 1 v n xs)(hx:x.oneCell'=true)(d:W.cell? ⟨ga,0,none⟩=some x)(I:n<=1000)(G:k<=W.heap.size):
 ∃e W',(Vx #[24,24] 24 #[v,sZ ga 1 1]).run prog W=.ok e W'/\W'.ownsRow k 23 1 e (n+1) (xs++[x])/\Ap1 W W' v e:=by
 obtain⟨i,B,w⟩:=UA.1 Jh;simp only[We.injEq]at w;obtain⟨s,F,D⟩:=w;obtain⟨z,r,q⟩:=UA.1 D;have y:∀(j:Nat) u,[x][j]? = some u->W.cell? ((⟨ga,0,none⟩:Wv).add j)=some u:=λj u t=>by
  rw[lI,UF];have f:j=0:=by have:=(UG.1 t).1;simp at this;omega
  subst f;obtain rfl:x=u:=by simpa using t
  exact d
 have m:∀u∈[x],u.oneCell'=true:=λu H=>by
  obtain rfl:u=x:=by simpa using H
  exact hx
 obtain⟨e,W',A,C,f,-⟩:=Yv (P:=prog) W k 24 24 23 i z 1 24 vZ B r s F q dC v n xs b (aZ ga) 1 1 [x] rfl y m (by unfold maxLen;omega) oM G;have E:=DD (c:=1) vZ B r s oM b (yAN (P:=prog) (size:=1) W vZ (aZ ga) 1 1 [x] rfl y m) oM A;refine⟨e,W',A,C,f.os,f.tape,f.output,f.size,λg o hv=>f.block g o (λh=>hv h.symm),?_⟩;rcases E with h|⟨h,p⟩
 ·exact U6 h
 ·exact U2 ⟨⟨_,h,Uy _⟩,λg o=>p.block g o⟩
section
variable {Q Q':Nat->Prop}{W:Ut}{v:Uv}{n:Nat}
theorem SmQ.mono2(h:SmQ Q W v l)(b:∀g,g<W.heap.size->Q g->Q' g):SmQ Q' W v l:=by
 obtain⟨g,c,f,i,e,k,d⟩:=h;exact⟨g,c,f,i,b g k e,k,d⟩
theorem SLq.mono2{a:Nat->Nat}(h:SLq Q W v n a)(b:∀g,g<W.heap.size->Q g->Q' g):SLq Q' W v n a:=by
 obtain⟨g,o,c,f,i,e,k,d⟩:=h;exact⟨g,o,c,f,i,b g k e,k,d⟩
theorem GLq.mono2{T:Nat->List (Nat × Bs)}(h:GLq Q W v n T)(b:∀g,g<W.heap.size->Q g->Q' g):GLq Q' W v n T:=by
 obtain⟨g,o,c,m,p,l,k,e⟩:=h;refine⟨g,o,c,m,p,b g k l,k,λj f=>?_⟩;obtain⟨x,i,d⟩:=e j f;exact⟨x,i,d.mono2 b⟩
theorem GRq.mono2{G H:Nat->List (Nat × Bs)}{U:List (Nat × Bs)}(h:GRq Q W v n G H U)(k:∀g,g<W.heap.size->Q g->Q' g):GRq Q' W v n G H U:=by
 obtain⟨d,e,c,i,j,f,b⟩:=h.ex;exact⟨d,e,c,i,j.mono2 k,f.mono2 k,b.mono2 k⟩
end
def ElQ(Q:Nat->Prop)(m:Nat)(W:Ut)(x:Uv)(b:Bs):Prop:=∃k c,x=sZ k m c/\m<=c/\b.size=m/\Q k/\k<W.heap.size/\Holds encB W k 0 b
section
variable {Q Q':Nat->Prop}{W W':Ut}{x:Uv}{m:Nat}{b:Bs}
theorem ElQ.keep(h:ElQ Q m W x b)(g:Kq Q W W'):ElQ Q m W' x b:=by
 obtain⟨k,c,n,p,l,d,f,o⟩:=h;refine⟨k,c,n,p,l,d,Uz f g.size,λj i=>?_⟩;have e:=g.block k d f;rw[U0 (a:=⟨k,0+j,none⟩) e,VR (a:=⟨k,0+j,none⟩) e];exact o j i
theorem ElQ.mono2(h:ElQ Q m W x b)(f:∀g,g<W.heap.size->Q g->Q' g):ElQ Q' m W x b:=by
 obtain⟨k,c,l,n,j,e,d,i⟩:=h;exact⟨k,c,l,n,j,f k d e,d,i⟩
theorem ElQ.one(h:ElQ Q m W x b):x.cells=#[x]/\x.oneCell'=true:=by
 obtain⟨k,c,rfl,-⟩:=h;exact⟨rfl,rfl⟩
theorem ElQ.arg(h:ElQ Q 33 W x b):Arg33 W x b:=by
 obtain⟨k,c,rfl,g,e,-,d,f⟩:=h;exact⟨_,33,c,rfl,e,λ_=>⟨k,0,rfl,g,d,f⟩⟩
end
def r33(g:Nat):Uv:=sZ g 33 33
def r32(g:Nat):Uv:=sZ g 32 32
theorem gA{a:Bs}(i:a.size=33)(w:Ut):UK prog 142 #[pvl a] w (rZ w λe w'=>ElQ (w.heap.size<=·) 33 w' e a/\∃g,e=r33 g):=by
 have f:=Hid.mk' (rL i w);obtain⟨c,b⟩:=hE (w.alloc (.cells (aA a).toArray 103));rw[b.out]at f;have K:Hid (Row c w.heap.size (aA a)/\kZ w c):=by rw[<-b.out];exact⟨aE w _ _,aC w _⟩
 obtain⟨va,k⟩:=hE (pvl a);have d:Hid ((Vh 103 va).run prog w=.ok (jZ w.heap.size) c):=by rw[<-k.out];exact f
 rw[k.out];have j:=QO w.heap.size;go_enter func142,ntmps142;go_wp2_with (first|(refine aF (u:=va) (v:=jZ w.heap.size) (w':=c) rfl 103 (.tmp 0) rfl ?_ ?_ ?_;rfl;exact d.out))
 go_ret;exact⟨_,rfl,K.2,⟨w.heap.size,33,rfl,oM,i,Uy _,K.1.1,row_holds K.1⟩,_,rfl⟩
structure TlL(Q:Nat->Prop)(base i:Nat)(W:Ut)(v:Uv)(B:Nat->Bs):Prop where
 ex:∃xs,W.ownsRow base 23 1 v i xs/\∀j,j<i->∃x,xs[j]? = some x/\ElQ Q 33 W x (B j)
def QH(r k:Nat)(c b:Uv)(g:Nat):Prop:=g≠r/\(g<k\/k+4<=g)/\c.ownBlock≠some g/\b.ownBlock≠some g
def Dj(W:Ut)(B i j:Nat)(v u:Uv):Prop:=∃l m:List Nat,(l++m).Nodup/\W.ownsRow 0 23 1 v i (l.map r33)/\W.ownsRow 0 23 1 u j (m.map r33)/\∀g,g∈l++m->B<=g/\g<W.heap.size
theorem Pi{l m:List Nat}(h:(l++m).Nodup)(k:g ∉ l++m):(l++[g]++m).Nodup:=by
 simp only[Za,Ww,not_or,WT,X1,U1,not_false_eq_true,yBy,and_true,true_and]at *;grind
theorem MC{l m:List Nat}(h:(l++m).Nodup):(m++l).Nodup:=by
 simp only[Za]at *;grind
theorem IU{W:Ut}{b f n:Nat}{T:Vb}{v:Uv}(k:W.ownsRow b T 1 v n xs)(c:W.ownsRow f T 1 v n ys):xs=ys:=by
 have m:=k.1;have i:=c.1;rcases id k with⟨-,⟨-,d⟩|⟨g,cap,cur,rfl,-⟩⟩
 ·subst d;rw[ZV (by omega:xs.length=0),ZV (by omega:ys.length=0)]
 ·refine List.ext_getElem? λj=>?_
  by_cases l:j<n
  ·have e:=k.cells (g:=g) rfl j xs[j] (UI oM);have a2:=c.cells (g:=g) rfl j ys[j] (UI oM);rw[e]at a2;rw[UI (by omega:j<xs.length),UI (by omega:j<ys.length)];exact a2
  ·rw[WE oM,WE oM]
section
variable {W W' W1:Ut}{B i j:Nat}{v u:Uv}
theorem Dj.keep(h:Dj W B i j v u)(c:W.heap.size<=W'.heap.size)(hv:∀g,v.ownBlock=some g->W'.heap[g]? = W.heap[g]?)(e:∀g,u.ownBlock=some g->W'.heap[g]? = W.heap[g]?):Dj W' B i j v u:=by
 obtain⟨l,m,f,n,d,k⟩:=h;exact⟨l,m,f,bZ n hv,bZ d e,λg b=>⟨(k g b).1,Uz (k g b).2 c⟩⟩
theorem Dj.swap(h:Dj W B i j v u):Dj W B j i u v:=by
 obtain⟨l,m,d,e,c,b⟩:=h;exact⟨m,l,MC d,c,e,λg k=>b g (by rw[Ww]at k⊢;exact k.symm)⟩
theorem Dj.app{n:Uv}{b:Nat}(h:Dj W B i j v u)(o:B<=g/\W.heap.size<=g/\g<W'.heap.size)(t:W.heap.size<=W'.heap.size)(hx:W1.ownsRow b 23 1 v i xs)(hv:∀g,v.ownBlock=some g->W1.heap[g]? = W.heap[g]?)(w:∀g,u.ownBlock=some g->W'.heap[g]? = W.heap[g]?)(f:W'.ownsRow b 23 1 n (i+1) (xs++[r33 g])):Dj W' B (i+1) j n u:=by
 obtain⟨l,m,d,s,c,q⟩:=h;rw[IU hx (bZ s hv)]at f;refine⟨l++[g],m,Pi d λe=>by have:=(q g e).2;omega,?_,bZ c w,λr k=>?_⟩
 ·rw[Wx];rcases f with⟨p,d|⟨g,cap,cur,rfl,s,c⟩⟩
  ·exact⟨p,U6 d⟩
  ·exact⟨p,U2 ⟨g,cap,cur,rfl,Wz _,c⟩⟩
 ·by_cases e:r=g
  ·rw[e];exact⟨o.1,o.2.2⟩
  ·have p:=q r (by simp only[Ww,WT]at k⊢;grind);exact⟨p.1,Uz p.2 t⟩
end
def R3(W:Ut)(K:Nat)(x y:Uv):Prop:=K<W.heap.size/\∃k,k.length=2/\Row W K (x :: y :: k)
theorem R3.same{W W':Ut}{x y:Uv}(h:R3 W K x y)(k:W.heap.size<=W'.heap.size)(e:W'.heap[K]? = W.heap[K]?):R3 W' K x y:=by
 obtain⟨d,b,f,c⟩:=h;exact⟨Uz d k,b,f,aV c k e⟩
structure Ph(w W:Ut)(r k iL iR n:Nat)(cL cR vL vR v va vb:Uv)(Lb Rb:Nat->Bs)(L:Bs)(a b:Nat->Nat)(G H:Nat->List (Nat × Bs))(U:List (Nat × Bs)):Prop where
 on:SP.Only r 0 32 w W
 rk:r<k
 wk:w.heap.size=k
 r0:Row W k [jZ r]
 r1:∃e:Array Uv,v=.agg e/\e.size=3/\e.all (·.oneCell')=true/\Row W (k+1) e.toList
 r2:Row W (k+2) [.slice none 0 0,.slice none 0 0,.slice none 0 0,.slice none 0 0]
 r3:R3 W (k+3) cL cR
 tL:TlL (QH r k vL vR) (k+4) iL W vL Lb
 tR:TlL (QH r k vL vR) (k+4) iR W vR Rb
 ne:∀g,vL.ownBlock=some g->vR.ownBlock≠some g
 la:SLq (QH r k vL vR) W va n a
 lb:SLq (QH r k vL vR) W vb n b
 gr:GRq (QH r k vL vR) W v n G H U
 lg:Holds encB W r 0 L
 ls:L.size=32
 dj:Dj W (k+4) iL iR vL vR
section
variable {w W W' W1:Ut}{r k iL iR n:Nat}{cL cR vL vR v va vb:Uv}{Lb Rb:Nat->Bs}{L:Bs}{a b:Nat->Nat}{G H:Nat->List (Nat × Bs)}{U:List (Nat × Bs)}
theorem TlL.lt{Q:Nat->Prop}{k i:Nat}{B:Nat->Bs}(h:TlL Q k i W v B)(b:v.ownBlock=some g):k<=g/\g<W.heap.size:=by
 obtain⟨xs,c,-⟩:=h.ex;have:=jI c b;exact⟨this.1,this.2.1⟩
theorem TlL.keep{Q:Nat->Prop}{k i:Nat}{B:Nat->Bs}(h:TlL Q k i W v B)(c:Kq Q W W')(ho:∀g,v.ownBlock=some g->W'.heap[g]? = W.heap[g]?):TlL Q k i W' v B:=by
 obtain⟨xs,f,l⟩:=h.ex;refine⟨xs,bZ f ho,λj d=>?_⟩;obtain⟨x,e,b⟩:=l j d;exact⟨x,e,b.keep c⟩
theorem TlL.mono2{Q Q':Nat->Prop}{k i:Nat}{B:Nat->Bs}(h:TlL Q k i W v B)(c:∀g,g<W.heap.size->Q g->Q' g):TlL Q' k i W v B:=by
 obtain⟨xs,f,l⟩:=h.ex;refine⟨xs,f,λj d=>?_⟩;obtain⟨x,e,b⟩:=l j d;exact⟨x,e,b.mono2 c⟩
theorem Ph.qn(h:Ph w W r k iL iR n cL cR vL vR v va vb Lb Rb L a b G H U):∀g,W.heap.size<=g->QH r k vL vR g:=λg c =>
 ⟨by have:=h.rk;have:=h.r0.1;omega,U2 (by have:=h.r3.1;omega),λe=>by have:=h.tL.lt e;omega,λe=>by have:=h.tR.lt e;omega⟩
theorem Ph.any(h:Ph w W r k iL iR n cL cR vL vR v va vb Lb Rb L a b G H U)(o:SP.Only r 0 32 w W')(kq:Kq (QH r k vL vR) W W')(c:∀g,k<=g->g<k+4->W'.heap[g]? = W.heap[g]?)(i:∀g,vL.ownBlock=some g->W'.heap[g]? = W.heap[g]?)(j:∀g,vR.ownBlock=some g->W'.heap[g]? = W.heap[g]?){f:Bs}(q:Holds encB W' r 0 f)(d:f.size=32):Ph w W' r k iL iR n cL cR vL vR v va vb Lb Rb f a b G H U:=by
 obtain⟨e,m,l,e3,p⟩:=h.r1;exact⟨o,h.rk,h.wk,aV h.r0 kq.size (c k oM oM),⟨e,m,l,e3,aV p kq.size (c _ oM oM)⟩,aV h.r2 kq.size (c _ oM oM),h.r3.same kq.size (c _ oM oM),h.tL.keep kq i,h.tR.keep kq j,h.ne,h.la.keep kq,h.lb.keep kq,h.gr.keep kq,q,d,h.dj.keep kq.size i j⟩
theorem Ph.grow(h:Ph w W r k iL iR n cL cR vL vR v va vb Lb Rb L a b G H U)(c:kZ W W'):Ph w W' r k iL iR n cL cR vL vR v va vb Lb Rb L a b G H U:=by
 have e:=Holds.lt h.lg (by rw[h.ls];decide);exact h.any (h.on.trans (SP.Only.of_below c rfl e)) (Kq.of_below c) (λg f i=>c.block g (by have:=h.r3.1;omega)) (λg d=>c.block g (h.tL.lt d).2) (λg d=>c.block g (h.tR.lt d).2) (Holds.below h.lg c e) h.ls
theorem Ph.drew(h:Ph w W r k iL iR n cL cR vL vR v va vb Lb Rb L a b G H U):Ph w W.drew r k iL iR n cL cR vL vR v va vb Lb Rb L a b G H U:=h.grow ⟨rfl,rfl,rfl,Uy _,λ_ _=>rfl⟩
theorem Ph.say{e:Bs}(h:Ph w W r k iL iR n cL cR vL vR v va vb Lb Rb L a b G H U)(d:SP.Only r 0 32 W W')(j:Holds encB W' r 0 e)(f:e.size=32):Ph w W' r k iL iR n cL cR vL vR v va vb Lb Rb e a b G H U:=by
 have i:=h.rk;exact h.any (h.on.trans d) (Kq.of_only d λg c=>c.1) (λg l m=>d.block g (by have:=h.r3.1;omega) oM) (λg c=>d.block g (h.tL.lt c).2 (by have:=(h.tL.lt c).1;omega)) (λg c=>d.block g (h.tR.lt c).2 (by have:=(h.tR.lt c).1;omega)) j f
theorem FX{m n:Uv}{k:Nat}(b:SP.Only r 0 32 w W)(c:Ap1 W W' m n)(q:w.heap.size=k)(i:r<k)(hv:∀g,m.ownBlock=some g->k+4<=g):SP.Only r 0 32 w W':=by
 have p:=b.size;have d:∀j,j<k->W'.heap[j]? = W.heap[j]?:=λj l=>c.keep j oM λe=>by have:=hv j e;omega
 exact⟨c.os.trans b.os,c.tape.trans b.tape,c.output.trans b.output,UE b.size c.size,λj l f=>(d j oM).trans (b.block j l f),λo ho=>by rw[U0 (a:=⟨r,o,none⟩) (d r i)];exact b.cell o ho,λo=>by rw[VR (a:=⟨r,o,none⟩) (d r i)];exact b.froz o⟩
theorem jO{W W':Ut}{r:Nat}{L:Bs}(h:Holds encB W r 0 L)(e:W'.heap[r]? = W.heap[r]?):Holds encB W' r 0 L:=λj k=>by
 rw[U0 (a:=⟨r,0+j,none⟩) e,VR (a:=⟨r,0+j,none⟩) e];exact h j k
theorem TlL.app{Q Q':Nat->Prop}{k i:Nat}{B:Nat->Bs}{d x:Uv}(c:∀j,j<i->∃x,xs[j]? = some x/\ElQ Q 33 W x (B j))(b:xs.length=i)(ho:W'.ownsRow k 23 1 d (i+1) (xs++[x]))(hx:ElQ Q 33 W x (B i))(f:∀g,g<W.heap.size->Q g->Q' g)(kq:Kq Q' W W'):TlL Q' k (i+1) W' d B:=by
 refine⟨_,ho,λj n=>?_⟩;by_cases e:j=i
 ·subst e;exact⟨x,by rw[U4 oM,b];simp,(hx.mono2 f).keep kq⟩
 ·obtain⟨y,l,m⟩:=c j oM;exact⟨y,by rw[UX oM];exact l,(m.mono2 f).keep kq⟩
theorem Ph.appL{gx:Nat}(l:Ph w W1 r k iL iR n cL cR vL vR v va vb Lb Rb L a b G H U)(i:kZ W1 W)(p:ElQ (W1.heap.size<=·) 33 W (r33 gx) (Lb iL))(I:W.cell? ⟨ga,0,none⟩=some (r33 gx))(R:iL<=900):
 ∃j W',(Vx #[24,24] 24 #[vL,sZ ga 1 1]).run prog W=.ok j W'/\Ph w W' r k (iL+1) iR n cL cR j vR v va vb Lb Rb L a b G H U/\Ap1 W W' vL j:=by
 have h:=l.grow i;have hx:=p.mono2 λg _ c=>l.qn g c
 obtain⟨xs,s,E⟩:=h.tL.ex;obtain⟨j,W',K,t,A⟩:=FW s hx.one.2 I oM (by have:=h.r3.1;omega);have o:∀g,g<W.heap.size->QH r k vL vR g->QH r k j vR g:=λg c q=>⟨q.1,q.2.1,λe=>by
  rcases A.mv with m|⟨⟨D,m,F⟩,-⟩
  ·rw[m]at e;exact q.2.2.1 e
  ·rw[m]at e;have:=UP.inj e;omega,q.2.2.2⟩
 have kq:Kq (QH r k j vR) W W':=⟨A.size,λg q c=>by
  rcases A.mv with m|⟨-,m⟩
  ·exact A.keep g c (by rw[<-m];exact q.2.2.1)
  ·exact m g c⟩
 have d:∀g,vL.ownBlock=some g->k+4<=g:=λg c=>(h.tL.lt c).1
 have z:=h.on.size;have C:=h.wk;have y:=h.rk;have f:∀g,k<=g->g<k+4->W'.heap[g]? = W.heap[g]?:=λg O P=>A.keep g (by have:=h.r3.1;omega) λe=>by have:=d g e;omega
 obtain⟨e,J,u,e3,M⟩:=h.r1;refine⟨j,W',K,⟨FX h.on A h.wk h.rk d,h.rk,h.wk,aV h.r0 A.size (f k oM oM),⟨e,J,u,e3,aV M A.size (f _ oM oM)⟩,aV h.r2 A.size (f _ oM oM),h.r3.same A.size (f _ oM oM),TlL.app E (by have:=s.1;omega) t hx o kq,(h.tR.mono2 o).keep kq λg c=>A.keep g (h.tR.lt c).2 λe=>h.ne g e c,λg c e=>?_,(h.la.mono2 o).keep kq,(h.lb.mono2 o).keep kq,(h.gr.mono2 o).keep kq,jO h.lg (A.keep r oM λe=>by have:=d r e;omega),h.ls,(by
  obtain⟨x,Q,e,-,-,B,N,-⟩:=p;have e:=congrArg V9 e;obtain rfl:gx=x:=UP.inj e;exact(l.dj.app ⟨by have:=l.r3.1;omega,B,Uz N A.size⟩ (UE i.size A.size) s (λg c=>i.block g (l.tL.lt c).2) (λg c=>(A.keep g (h.tR.lt c).2 λe=>h.ne g e c).trans (i.block g (l.tR.lt c).2)) t))⟩,A⟩
 rcases A.mv with m|⟨⟨D,m,F⟩,-⟩
 ·rw[m]at c;exact h.ne g c e
 ·rw[m]at c;have:=UP.inj c;have:=(h.tR.lt e).2;omega
theorem Ph.appR{gx:Nat}(l:Ph w W1 r k iL iR n cL cR vL vR v va vb Lb Rb L a b G H U)(i:kZ W1 W)(p:ElQ (W1.heap.size<=·) 33 W (r33 gx) (Rb iR))(I:W.cell? ⟨ga,0,none⟩=some (r33 gx))(R:iR<=900):
 ∃j W',(Vx #[24,24] 24 #[vR,sZ ga 1 1]).run prog W=.ok j W'/\Ph w W' r k iL (iR+1) n cL cR vL j v va vb Lb Rb L a b G H U/\Ap1 W W' vR j:=by
 have h:=l.grow i;have hx:=p.mono2 λg _ c=>l.qn g c
 obtain⟨xs,s,E⟩:=h.tR.ex;obtain⟨j,W',K,t,A⟩:=FW s hx.one.2 I oM (by have:=h.r3.1;omega);have o:∀g,g<W.heap.size->QH r k vL vR g->QH r k vL j g:=λg c q=>⟨q.1,q.2.1,q.2.2.1,λe=>by
  rcases A.mv with m|⟨⟨D,m,F⟩,-⟩
  ·rw[m]at e;exact q.2.2.2 e
  ·rw[m]at e;have:=UP.inj e;omega⟩
 have kq:Kq (QH r k vL j) W W':=⟨A.size,λg q c=>by
  rcases A.mv with m|⟨-,m⟩
  ·exact A.keep g c (by rw[<-m];exact q.2.2.2)
  ·exact m g c⟩
 have d:∀g,vR.ownBlock=some g->k+4<=g:=λg c=>(h.tR.lt c).1
 have z:=h.on.size;have C:=h.wk;have y:=h.rk;have f:∀g,k<=g->g<k+4->W'.heap[g]? = W.heap[g]?:=λg O P=>A.keep g (by have:=h.r3.1;omega) λe=>by have:=d g e;omega
 obtain⟨e,J,u,e3,M⟩:=h.r1;refine⟨j,W',K,⟨FX h.on A h.wk h.rk d,h.rk,h.wk,aV h.r0 A.size (f k oM oM),⟨e,J,u,e3,aV M A.size (f _ oM oM)⟩,aV h.r2 A.size (f _ oM oM),h.r3.same A.size (f _ oM oM),(h.tL.mono2 o).keep kq λg c=>A.keep g (h.tL.lt c).2 λe=>h.ne g c e,TlL.app E (by have:=s.1;omega) t hx o kq,λg c e=>?_,(h.la.mono2 o).keep kq,(h.lb.mono2 o).keep kq,(h.gr.mono2 o).keep kq,jO h.lg (A.keep r oM λe=>by have:=d r e;omega),h.ls,(by
  obtain⟨x,Q,e,-,-,B,N,-⟩:=p;have e:=congrArg V9 e;obtain rfl:gx=x:=UP.inj e;exact(l.dj.swap.app ⟨by have:=l.r3.1;omega,B,Uz N A.size⟩ (UE i.size A.size) s (λg c=>i.block g (l.tR.lt c).2) (λg c=>(A.keep g (h.tL.lt c).2 λe=>h.ne g c e).trans (i.block g (l.tL.lt c).2)) t).swap)⟩,A⟩
 rcases A.mv with m|⟨⟨D,m,F⟩,-⟩
 ·rw[m]at e;exact h.ne g c e
 ·rw[m]at e;have:=UP.inj e;have:=(h.tL.lt c).2;omega
theorem kS{W:Ut}{o:Nat}{vs:List Uv}{x:Uv}(h:Row W K vs)(ho:o<vs.length):Row (W.setCells K o [x]) K (vs.set o x):=by
 have c:W.there K o 1:=λt c=>by
  have k:t=0:=oM;subst k;have:=h.2.2 o ho;rwa[UF]at this
 refine⟨by rw[setCells_size];exact h.1,λj u b=>?_,by rw[yBj];exact V7 h.2.2 _ _ _⟩;rw[List.getElem?_set]at b;by_cases e:o=j
 ·subst e;rw[yCk rfl,yCk ho]at b;obtain rfl:x=u:=by simpa using b
  have:=VZ W K o [x] c 0 x rfl;rw[UF];exact this
 ·rw[yCl e]at b;have f:W.rangeAt K j [u]:=λt y d=>by
   have k:t=0:=by have:=(UG.1 d).1;simp at this;omega
   subst k;obtain rfl:u=y:=by simpa using d
   have:=h.2.1 j u b;rw[UF]at this;exact this
  have:=Vq f K o [x] (U2 (by simp;omega)) 0 u rfl;rw[UF];exact this
theorem jH{k o:Nat}{vs:List Uv}(h:SP.Only r 0 32 w W)(c:w.heap.size=k)(d:r<k)(b:k<=K):SP.Only r 0 32 w (W.setCells K o vs):=dX h oM oM _
theorem Ph.put(h:Ph w W r k iL iR n cL cR vL vR v va vb Lb Rb L a b G H U):Ph w ((W.setCells (k+3) 0 [vL]).setCells (k+3) 1 [vR]) r k iL iR n vL vR vL vR v va vb Lb Rb L a b G H U:=by
 have m:=h.rk;have c:∀g,g≠k+3->((W.setCells (k+3) 0 [vL]).setCells (k+3) 1 [vR]).heap[g]? = W.heap[g]?:=λg f=>(aH (k+3) [vR] 1 _ g f).trans (aH (k+3) [vL] 0 W g f)
 have d:W.heap.size<=((W.setCells (k+3) 0 [vL]).setCells (k+3) 1 [vR]).heap.size:=by rw[setCells_size,setCells_size];exact Uy _
 have kq:Kq (QH r k vL vR) W ((W.setCells (k+3) 0 [vL]).setCells (k+3) 1 [vR]):=⟨d,λg q _=>c g (by have:=q.2.1;omega)⟩
 obtain⟨e,l,i,e3,o⟩:=h.r1;exact⟨jH (jH h.on h.wk h.rk oM) h.wk h.rk oM,h.rk,h.wk,aV h.r0 d (c _ oM),⟨e,l,i,e3,aV o d (c _ oM)⟩,aV h.r2 d (c _ oM),(by
  obtain⟨s,j,t,p⟩:=h.r3;exact⟨Uz s d,j,t,kS (kS p (Zd _)) (yBg (Zd _))⟩),h.tL.keep kq λg f=>c g (by have:=(h.tL.lt f).1;omega),h.tR.keep kq λg f=>c g (by have:=(h.tR.lt f).1;omega),h.ne,h.la.keep kq,h.lb.keep kq,h.gr.keep kq,jO h.lg (c r oM),h.ls,h.dj.keep d (λg f=>c g (by have:=(h.tL.lt f).1;omega)) (λg f=>c g (by have:=(h.tR.lt f).1;omega))⟩
theorem Ph.putA{o:Nat}{x:Uv}(h:Ph w W r k iL iR n cL cR vL vR v va vb Lb Rb L a b G H U)(ho:o<2):Ph w (W.setCells (k+3) (o+2) [x]) r k iL iR n cL cR vL vR v va vb Lb Rb L a b G H U:=by
 have p:=h.rk;have c:∀g,g≠k+3->(W.setCells (k+3) (o+2) [x]).heap[g]? = W.heap[g]?:=λg f=>aH (k+3) [x] _ _ g f
 have d:W.heap.size<=(W.setCells (k+3) (o+2) [x]).heap.size:=by rw[setCells_size];exact Uy _
 have kq:Kq (QH r k vL vR) W (W.setCells (k+3) (o+2) [x]):=⟨d,λg q _=>c g (by have:=q.2.1;omega)⟩
 obtain⟨e,t,i,e3,u⟩:=h.r1;exact⟨jH h.on h.wk h.rk oM,h.rk,h.wk,aV h.r0 d (c _ oM),⟨e,t,i,e3,aV u d (c _ oM)⟩,aV h.r2 d (c _ oM),(by
  obtain⟨m,j,s,l⟩:=h.r3;exact⟨Uz m d,j.set o x,by rw[yBj,s],kS (o:=o+2) l (by simp;omega)⟩),h.tL.keep kq λg f=>c g (by have:=(h.tL.lt f).1;omega),h.tR.keep kq λg f=>c g (by have:=(h.tR.lt f).1;omega),h.ne,h.la.keep kq,h.lb.keep kq,h.gr.keep kq,jO h.lg (c r oM),h.ls,h.dj.keep d (λg f=>c g (by have:=(h.tL.lt f).1;omega)) (λg f=>c g (by have:=(h.tR.lt f).1;omega))⟩
theorem Ph.next{m:Nat}{j i:Uv}{e':Array Uv}{p t:Nat->Nat}{o s:Nat->List (Nat × Bs)}(h:Ph w W r k iL iR n cL cR vL vR v va vb Lb Rb L a b G H U)(z:SLq (QH r k vL vR) W j m p)(A:SLq (QH r k vL vR) W i m t)(d:GRq (QH r k vL vR) W (.agg e') m o s U):Ph w (W.setCells (k+1) 0 e'.toList) r k iL iR m cL cR vL vR (.agg e') j i Lb Rb L p t o s U:=by
 have y:=h.rk;have c:∀g,g≠k+1->(W.setCells (k+1) 0 e'.toList).heap[g]? = W.heap[g]?:=λg d=>aH (k+1) _ 0 W g d
 have f:W.heap.size<=(W.setCells (k+1) 0 e'.toList).heap.size:=by rw[setCells_size];exact Uy _
 have kq:Kq (QH r k vL vR) W (W.setCells (k+1) 0 e'.toList):=⟨f,λg q _=>c g (by have:=q.2.1;omega)⟩
 obtain⟨e,D,u,e3,C⟩:=h.r1;obtain⟨l,x,f2,B⟩:=d.ar;obtain rfl:e'=l:=by injection x
 exact⟨jH h.on h.wk h.rk oM,h.rk,h.wk,aV h.r0 f (c _ oM),⟨e',rfl,f2,B,C.put (by rw[UL,UL,f2,u])⟩,aV h.r2 f (c _ oM),h.r3.same f (c _ oM),h.tL.keep kq λg d=>c g (by have:=(h.tL.lt d).1;omega),h.tR.keep kq λg d=>c g (by have:=(h.tR.lt d).1;omega),h.ne,z.keep kq,A.keep kq,d.keep kq,jO h.lg (c r oM),h.ls,h.dj.keep f (λg d=>c g (by have:=(h.tL.lt d).1;omega)) (λg d=>c g (by have:=(h.tR.lt d).1;omega))⟩
end
end
section
open Go.RowKit Go.Sort Go.Deep SPA
variable {P:Nat}[NeZero P]{N:Nat}[NeZero N]
abbrev wP{P:Nat}[NeZero P](X:OnP P):Bs:=wr X.1
theorem kG(a b:Nat->Fin N):∀n,prS N (λi=>(a i).val) (λi=>(b i).val) n=(Md.pr a b n).val
 | 0=>(YO N).symm
 | n+1=>by
  show sPl N (prS N _ _ n) (sTi N (b n).val (a n).val)=(Md.pr a b n+a n*b n).val;rw[kG a b n,mA,fM];unfold sTi;rw[Vv]
omit [NeZero N] in
theorem Cw(x y:Fin N)(n:Nat)(a:Nat->Fin N)(i:Nat):nK N x.val y.val n (λi=>(a i).val) i=(Md.fS x y n a i).val:=by
 show sPl N (sTi N (a i).val x.val) (sTi N (a (n+i)).val y.val)=(x*a i+y*a (n+i)).val;rw[mA,fM,fM];unfold sTi;rw[Vv (a i).val,Vv (a (n+i)).val]
omit [NeZero N] in
theorem sM{n c:Nat}{G H:Nat->List (Nat × Bs)}{U:List (Nat × Bs)}{g h:Nat->OnP P}{u:OnP P}(m:0<n)(e:0<c)(b:c*n<=64)(hG:Gd N n c G g)(d:Gd N n c H h)(f:Tl N U u)(l:0<U.length)(j:U.length<=16):GOk N n c G H U:=
 ⟨m,e,b,λi k=>⟨(hG.tl i k).ok,hG.len i k⟩,λi k=>⟨(d.tl i k).ok,d.len i k⟩,f.ok,l,j⟩
omit [NeZero N] in
theorem Tl.point(C:Fld P)(O:Ord N)(k:∀r:EC.Pt P,On r->mul N r=none){X:OnP P}(b:Tl N l X)(d:0<l.length)(c:l.length<=512){w:Ut}{v:Uv}(h:Sm 0 w v l):
 UK prog 67 #[v] w (rZ w λe w'=>e=pvl (wr X.1)):=by
 have:=h.point C O k d c b.lt b.pts;rw[b.sum]at this;exact this
theorem iCP:(prog.info? 103).map (·.size)=some 33:=kR
theorem Is(C:Fld P)(O:Ord N)(k:∀r:EC.Pt P,On r->mul N r=none){Q:Nat->Prop}{m c:Nat}{G H:Nat->List (Nat × Bs)}{U:List (Nat × Bs)}{g h:Nat->OnP P}{u:OnP P}(B:0<m)(A:0<c)(j:c*m<=64)(hG:Gd N m c G g)(p:Gd N m c H h)(q:Tl N U u)(w:0<U.length)(y:U.length<=16)(a b:Nat->Fin N):
 ∃l,(∀(W:Ut) (v va f:Uv),GRq Q W v m G H U->SLq Q W va m (λi=>(a i).val)->SLq Q W f m (λi=>(b i).val)->UK prog 158 #[v,va,f] W (rZ W λe w'=>Sm W.heap.size w' e l)) /\
  (∀(W:Ut) (v:Uv),Sm 0 W v l->UK prog 67 #[v] W (rZ W λe w'=>e=pvl (wr ((aD C k).hd a b g h u m).1))):=by
 have x:=sM B A j hG p q w y;obtain⟨o,n⟩:=Jl C k hG p q (d:=U.length) rfl a b;rw[<-kG]at o n;refine⟨_,λW v va f t z s=>Fg O m c G H U x _ _ (λi _=>(a i).isLt) (λi _=>(b i).isLt) v va f W t z s,λW v hv=>o.point C O k (by rw[n];omega) (by rw[n];omega) hv⟩
end
section
open Go Go.RowKit
section
variable {P:VD}{ops:Array Vk}{Q:X9->Act->Ut->Prop}{S:Array Bool->Ut->Prop}
theorem bI{o:Vk}(k:o.guard=none)(t:Array Uv):V5 o (yielded ops t)=true:=by
 unfold V5;rw[k]
def anyS(P:VD)(k:Array Vk)(Q:X9->Act->Ut->Prop)(S:Array Bool->Ut->Prop):Nat->Array Bool->Act->Ut->Prop
 | 0,listed,a,w=>U7 .any k listed=[]/\Q .normal a w
 | fuel+1,listed,a,w=>(U7 .any k listed=[]->Q .normal a w) /\
  ∀i∈U7 .any k listed,wpOp P k Q i (λb w'=>S (listed.setIfInBounds i true) w'/\anyS P k Q S fuel (listed.setIfInBounds i true) b w') a w
theorem anyS.any:∀(b:Nat) (k:Array Bool) (a:Act) (w:Ut),anyS P ops Q S b k a w->wpAny P .any ops Q b k a w
 | 0,_,_,_,h=>h
 | b+1,_,_,_,h=>⟨h.1,λi e=>X8 (λc w' d=>anyS.any b _ c w' d.2) (h.2 i e)⟩
def Bef(S:Array Bool->Ut->Prop)(p:Nat)(w:Ut):Prop:=∃l:Array Bool,l.getD p false=false/\S l w
theorem anyS.first{p i:Nat}{y op:Vk}{v:Uv}(V:ops[i]? = some y)(hp:ops[p]? = some op)(N:∃e∈op.after,VM .any e=true/\e.on=i)(I:p≠i)(T:∀l w,S (Yg l i true) w->S l w)
 (s:∀(j:Nat) (o:Vk) cs b,ops[j]? = some o->o.op≠.select cs b) (hQ:∀c a w,Q (.panic c) (a.put y.dst v) w->Q (.panic c) a w) :
 ∀(g:Nat) (d:Array Bool) (a:Act) (w:Ut),d.getD p false=false ->
  (∀j t,ops[j]? = some t->j≠i->d.getD j true=false->(∀e∈t.after,VM .any e=true->e.on≠i)->y.apart ops t=true) ->
  i∈U7 .any ops d->YieldsIf P ops (Bef S p) y v a->Bef S p w->S (d.setIfInBounds i true) w ->
  anyS P ops Q S g (d.setIfInBounds i true) (a.put y.dst v) w->anyS P ops Q S (g+1) d a w:=by
 intro g;induction g with
 | zero =>
  intro d a w _ _ A G O u H;refine⟨λh=>absurd A (by rw[h];exact U1),λj F=>?_⟩;by_cases f:j=i
  ·subst f;exact G.wpOp V O ⟨u,H⟩
  ·exact absurd (ready_mono F f) (by rw[H.1];exact U1)
 | succ g ih =>
  intro d a w Y n A G O u H;refine⟨λh=>absurd A (by rw[h];exact U1),λj F=>?_⟩;by_cases f:j=i
  ·subst f;exact G.wpOp V O ⟨u,H⟩
  ·obtain⟨q,t,m,z⟩:=mem_ready.1 F;have r:∀e∈t.after,VM .any e=true->e.on≠i:=λe M U J=>by
    have x:=z e M U;have C:=(mem_ready.1 A).1;rw[J]at x;rcases VV i d.size with B|B
    ·simp[B]at C x;rw[C]at x;cases x
    ·simp[Wu B]at x
   have D:j≠p:=by
    intro h;subst h;rw[hp]at m;obtain⟨e,M,U,x⟩:=N;injection m with m
    subst m;exact r e M U x
   have h2:=wpOp_putIf m (n j t m f q r) (λcs b=>s i y cs b V) (λcs b=>s j t cs b m) hQ G (H.2 j (ready_mono F f));have L:(d.setIfInBounds j true).getD p false=false:=by rw[XW false D];exact Y
   refine X8 (λZ w' E=>?_) h2;have X:(d.setIfInBounds i true).setIfInBounds j true=(d.setIfInBounds j true).setIfInBounds i true:=(Array.setIfInBounds_comm _ _ (YL f))
   have x:=E.2.1;rw[X]at x;have R:Bef S p w':=⟨_,by rw[XW false D,XW false (YL I)];exact Y,E.2.1⟩
   refine⟨T _ _ x,ih (d.setIfInBounds j true) Z w' L (λk ok hk W B K=>?_) (ready_mono A (YL f)) E.1 R x ?_⟩
   ·refine n k ok hk W ?_ K;by_cases C:j=k
    ·subst C;exact q
    ·rw[XW true C]at B;exact B
   ·rw[<-X];exact E.2.2
theorem anyS.take{p i:Nat}{f:Vk}{v:Uv}{b:Nat}{k:Array Bool}{a:Act}{w:Ut}(o:ops[i]? = some f)(j:∀l w,S (Yg l i true) w->S l w)(x:YieldsIf P ops (Bef S p) f v a)(u:Bef S p w)(g:S (k.setIfInBounds i true) w)
 (h:anyS P ops Q S b (k.setIfInBounds i true) (a.put f.dst v) w) (d:waits ops p i=true:=by kernel_rfl) (q:XQ ops=true:=by kernel_rfl)
 (m:(k.getD p false || p == i)=false:=by kernel_rfl) (hf:YX .any ops k i=true:=by kernel_rfl) (r:(U7 .any ops k).contains i=true:=by kernel_rfl)
 (t:∀c a w,Q (.panic c) (a.put f.dst v) w->Q (.panic c) a w:=by exact λ_ _ _ h=>h):anyS P ops Q S (b+1) k a w:=by
 rw[Bool.or_eq_false_iff]at m;unfold waits at d;cases ho:ops[p]? with
 | none=>rw[ho]at d;cases d
 | some op =>
  rw[ho]at d;obtain⟨e,s,n⟩:=Array.any_eq_true'.1 d;simp only[UN,beq_iff_eq]at n;exact anyS.first o ho ⟨e,s,n.1,n.2⟩ (by simpa using m.2) j (Region.noSelect_spec q) t b k a w m.1 (Region.free_spec o hf) (by simpa using r) x u g h
theorem anyS.step{i:Nat}{o:Vk}{b:Nat}{k:Array Bool}{a:Act}{w:Ut}(ho:ops[i]? = some o)(d:U7 .any ops k=[i])
 (h:∀c:Act->Ut->Prop,Shut (∀a w,S (k.setIfInBounds i true) w->anyS P ops Q S b (k.setIfInBounds i true) a w->c a w) ->
  if V5 o (yielded ops a.tmps)=true then VT P o a w c Q else c (a.put o.dst WJ) w):anyS P ops Q S (b+1) k a w:=by
 refine⟨λf=>(by rw[d]at f;cases f),λj e=>?_⟩;rw[d,WT]at e;subst e;exact wpOp_step ho (λc g=>h c (λa w l m=>g a w ⟨l,m⟩))
theorem anyS.done{k:Array Bool}{a:Act}{w:Ut}(c:U7 .any ops k=[])(h:Q .normal a w):∀b,anyS P ops Q S b k a w
 | 0=>⟨c,h⟩
 | _+1=>⟨λ_=>h,by rw[c];intro i d;cases d⟩
theorem anyS.begin{a:Act}{w:Ut}(S:Array Bool->Ut->Prop)(k:P.follows .mixedOrders=true)(h:anyS P ops Q S ops.size (UM ops.size false) a w.drew):(V3 id ops true).wp P Q a w:=
 Z5 k (anyS.any _ _ _ _ h)
section
variable {i p fuel:Nat}{o:Vk}{listed:Array Bool}{a:Act}{w w':Ut}{v:Uv}
theorem anyS.ins{d:Option WF}(ho:ops[i]? = some o)(hx:I.run P w=.ok v w')(c:S (listed.setIfInBounds i true) w')(h:anyS P ops Q S fuel (listed.setIfInBounds i true) (a.put d v) w')
 (e:U7 .any ops listed=[i]:=by kernel_rfl) (b:o.guard=none:=by rfl) (f:U9 a.eval o=I >>= λv=>pure (Xq v):=by kernel_rfl) (hd:o.dst=d:=by kernel_rfl):anyS P ops Q S (fuel+1) listed a w:=by
 subst hd;exact anyS.step ho e λK k=>by
  rw[yCk (bI b _)];unfold VT;rw[f,UW,hx];exact k.out _ _ c h
theorem anyS.cal{d:Option WF}(ho:ops[i]? = some o)(k:UK P f args w (Ret R))(h:∀v w',R v w'->S (listed.setIfInBounds i true) w'/\anyS P ops Q S fuel (listed.setIfInBounds i true) (a.put d v) w')
 (g:U7 .any ops listed=[i]:=by kernel_rfl) (c:o.guard=none:=by rfl) (hx:(U9 a.eval o).run P w=.ok (.enter f args) w:=by kernel_rfl) (hd:o.dst=d:=by kernel_rfl):anyS P ops Q S (fuel+1) listed a w:=by
 subst hd;exact anyS.step ho g λK b=>by
  rw[yCk (bI c _)];unfold VT;rw[hx,Oper.upon_enter];refine k.mono ?_;rintro e w' ⟨v,rfl,hR⟩;exact b.out _ _ (h v w' hR).1 (h v w' hR).2
theorem anyS.sto{d:Option WF}(ho:ops[i]? = some o)(k:Vb)(x y:XM)(f:o.op=.store k x y)(b off:Nat)(u:Uv)(hv:u.cells=#[u])(l:u.oneCell'=true)(m:w.there b off 1)(p:(P.info? k).map (·.size)=some 1)
 (n:S (listed.setIfInBounds i true) (w.setCells b off [u])) (h:anyS P ops Q S fuel (listed.setIfInBounds i true) (a.put d WJ) (w.setCells b off [u])) (hx:a.eval x=oZ b off:=by kernel_rfl) (q:a.eval y=u:=by kernel_rfl)
 (c:U7 .any ops listed=[i]:=by kernel_rfl) (j:o.guard=none:=by rfl) (hd:o.dst=d:=by kernel_rfl):anyS P ops Q S (fuel+1) listed a w:=by
 subst hd;exact anyS.step ho c λK g=>by
  rw[yCk (bI j _)];have c:=yAf (P:=P) w b off k #[u] m p (by simp[l]);have e:storeVar k ⟨b,off,none⟩ u=storeVar k ⟨b,off,none⟩ (.agg #[u]):=by
   unfold storeVar;rw[hv];rfl
  unfold VT U9;simp only[f,hx,q,Y6,Yy,UW,WA,Vr,e,c];exact g.out _ _ n h
theorem anyS.cel{d:Option WF}{x:Uv}(ho:ops[i]? = some o)(p:Nat)(e:∀l w,S (Yg l i true) w->S l w)(T:Vb)(t:WF)(b off:Nat)(f:o.op=.load T (.tmp t))(y:(P.underlying T).map (·.isRow)=some false)(u:∀w,Bef S p w->w.cell? ⟨b,off,none⟩=some x)(s:Bef S p w)(k:S (listed.setIfInBounds i true) w)
 (h:anyS P ops Q S fuel (listed.setIfInBounds i true) (a.put d x) w) (hx:a.eval (.tmp t)=oZ b off:=by kernel_rfl) (m:o.guard=none:=by rfl) (n:waits ops p i=true:=by kernel_rfl) (j:XQ ops=true:=by kernel_rfl)
 (v:(listed.getD p false || p == i)=false:=by kernel_rfl) (hf:YX .any ops listed i=true:=by kernel_rfl) (q:(U7 .any ops listed).contains i=true:=by kernel_rfl)
 (r:∀c a w,Q (.panic c) (a.put o.dst x) w->Q (.panic c) a w:=by exact λ_ _ _ h=>h) (hd:o.dst=d:=by kernel_rfl):anyS P ops Q S (fuel+1) listed a w:=by
 subst hd;exact anyS.take (p:=p) ho e (U6 ⟨bI m _,λw g=>by
  unfold U9;rw[f];dsimp only;rw[hx,UW,fE (u w g) y];rfl⟩) s k h n j v hf q r
theorem anyS.row{d:Option WF}{cs:List Uv}(ho:ops[i]? = some o)(p:Nat)(f:∀l w,S (Yg l i true) w->S l w)(T:Vb)(t:WF)(b off:Nat)(e:TypeDesc)(g:o.op=.load T (.tmp t))(z:P.underlying T=some e)(j:e.isRow=true)(y:(P.info? T).map (·.size)=some cs.length)(v:∀w,Bef S p w->w.rangeAt b off cs)(u:Bef S p w)(k:S (listed.setIfInBounds i true) w)
 (h:anyS P ops Q S fuel (listed.setIfInBounds i true) (a.put d (.agg cs.toArray)) w) (hx:a.eval (.tmp t)=oZ b off:=by kernel_rfl) (n:o.guard=none:=by rfl) (q:waits ops p i=true:=by kernel_rfl) (m:XQ ops=true:=by kernel_rfl)
 (x:(listed.getD p false || p == i)=false:=by kernel_rfl) (hf:YX .any ops listed i=true:=by kernel_rfl) (r:(U7 .any ops listed).contains i=true:=by kernel_rfl)
 (s:∀c a w,Q (.panic c) (a.put o.dst (.agg cs.toArray)) w->Q (.panic c) a w:=by exact λ_ _ _ h=>h) (hd:o.dst=d:=by kernel_rfl):anyS P ops Q S (fuel+1) listed a w:=by
 subst hd;exact anyS.take (p:=p) ho f (yieldsIf_load_mid (bI n _) T (.tmp t) g b off hx cs e v z j y) u k h q m x hf r s
theorem anyS.val{d:Option WF}{x:Uv}(ho:ops[i]? = some o)(p:Nat)(b:∀l w,S (Yg l i true) w->S l w)(n:Bef S p w)(k:S (listed.setIfInBounds i true) w)(h:anyS P ops Q S fuel (listed.setIfInBounds i true) (a.put d x) w)(hv:∀w,(U9 a.eval o).run P w=.ok (.value x) w:=by intro _;kernel_rfl)(f:o.guard=none:=by rfl)(g:waits ops p i=true:=by kernel_rfl)(e:XQ ops=true:=by kernel_rfl)
 (q:(listed.getD p false || p == i)=false:=by kernel_rfl) (hf:YX .any ops listed i=true:=by kernel_rfl) (j:(U7 .any ops listed).contains i=true:=by kernel_rfl)
 (m:∀c a w,Q (.panic c) (a.put o.dst x) w->Q (.panic c) a w:=by exact λ_ _ _ h=>h) (hd:o.dst=d:=by kernel_rfl):anyS P ops Q S (fuel+1) listed a w:=by
 subst hd;exact anyS.take (p:=p) ho b (U6 ⟨bI f _,λw _=>hv w⟩) n k h g e q hf j m
theorem anyS.nxt{d:Option WF}{x:Uv}(ho:ops[i]? = some o)(c:S (listed.setIfInBounds i true) w)(h:anyS P ops Q S fuel (listed.setIfInBounds i true) (a.put d x) w)(hv:(U9 a.eval o).run P w=.ok (.value x) w:=by kernel_rfl)(e:U7 .any ops listed=[i]:=by kernel_rfl)(b:o.guard=none:=by rfl)(hd:o.dst=d:=by kernel_rfl):anyS P ops Q S (fuel+1) listed a w:=by
 subst hd;exact anyS.step ho e λK k=>by
  rw[yCk (bI b _)];unfold VT;rw[hv];exact k.out _ _ c h
end
end
end
section
open Go.RowKit Go.Sort Go.Deep SPA
variable {P:Nat}[NeZero P]{N:Nat}[NeZero N]
theorem Li:(prog.underlying 26).map (·.isRow)=some true:=kR
theorem Ji:(prog.info? 26).map (·.size)=some 4:=kR
def DjF(B:Nat)(W:Ut)(t:Nat)(e c d f:Uv):Prop:=∃b k l m,d=r32 b/\f=r32 k/\(b :: k :: (l++m)).Nodup/\W.ownsRow 0 23 1 e t (l.map r33)/\W.ownsRow 0 23 1 c t (m.map r33)/\∀g,g∈b :: k :: (l++m)->B<=g/\g<W.heap.size
theorem DjF.keep{B e t:Nat}{W W':Ut}{b k d i:Uv}(h:DjF B W t b k d i)(q:e<=B)(j:W.heap.size<=W'.heap.size)(hv:∀g,b.ownBlock=some g->W'.heap[g]? = W.heap[g]?)(w:∀g,k.ownBlock=some g->W'.heap[g]? = W.heap[g]?):DjF e W' t b k d i:=by
 obtain⟨r,s,l,m,v,n,p,u,o,f⟩:=h;exact⟨r,s,l,m,v,n,p,bZ u hv,bZ o w,λg c=>⟨UE q (f g c).1,Uz (f g c).2 j⟩⟩
theorem DjF.of{B t b c:Nat}{W W':Ut}{v u:Uv}(h:Dj W B t t v u)(o:W.heap.size<=W'.heap.size)(hv:∀g,v.ownBlock=some g->W'.heap[g]? = W.heap[g]?)(n:∀g,u.ownBlock=some g->W'.heap[g]? = W.heap[g]?)(r:B<=W.heap.size)(q:W.heap.size<=b)(s:b<c)(p:c<W'.heap.size):DjF B W' t v u (r32 b) (r32 c):=by
 obtain⟨l,m,f,i,j,d⟩:=h;refine⟨b,c,l,m,rfl,rfl,?_,bZ i hv,bZ j n,λg k=>?_⟩
 ·rw[X1,X1];refine⟨λe=>?_,λe=>?_,f⟩
  ·rcases V0.1 e with e|e
   ·omega
   ·have:=(d _ e).2;omega
  ·have:=(d _ e).2;omega
 ·rcases V0.1 k with rfl|k
  ·exact⟨oM,oM⟩
  ·rcases V0.1 k with rfl|k
   ·exact⟨oM,oM⟩
   ·have:=d _ k;exact⟨this.1,oM⟩
structure PhR(w:Ut)(r t:Nat)(Lb Rb:Nat->Bs)(L:Bs)(A B:Bs)(e:Uv)(w':Ut):Prop where
 on:SP.Only r 0 32 w w'
 ex:∃vL vR vA vB,e=.agg #[vL,vR,vA,vB]/\TlL (λ_=>True) w.heap.size t w' vL Lb/\TlL (λ_=>True) w.heap.size t w' vR Rb/\ElQ (w.heap.size<=·) 32 w' vA A/\ElQ (w.heap.size<=·) 32 w' vB B
 lg:Holds encB w' r 0 L
 dj:∀vL vR vA vB,e=.agg #[vL,vR,vA,vB]->DjF w.heap.size w' t vL vR vA vB
theorem uLL:(prog.underlying 24).map (·.isRow)=some false:=kR
theorem iLL:(prog.info? 24).map (·.size)=some 1:=kR
theorem Uf(k:Nat)(n c:Nat)(w:Ut):(VF 24 1 #[(0,sZ k n c)]).run prog w=.ok (sZ w.heap.size 1 1) (w.alloc (.cells #[sZ k n c] 23)):=kR
theorem SL{Q:Nat->Prop}{W:Ut}{x:Uv}{b:Bs}(h:ElQ Q 33 W x b)(w:Ut):(VF 24 1 #[(0,x)]).run prog w=.ok (sZ w.heap.size 1 1) (w.alloc (.cells #[x] 23)):=by
 obtain⟨k,c,rfl,-⟩:=h;exact Uf k 33 c w
theorem TlL.one{Q:Nat->Prop}{k i:Nat}{W:Ut}{v:Uv}{B:Nat->Bs}(h:TlL Q k i W v B):v.cells=#[v]/\v.oneCell'=true:=by
 obtain⟨xs,⟨-,⟨rfl,-⟩|⟨g,cap,cur,rfl,-⟩⟩,-⟩:=h.ex<;>exact⟨rfl,rfl⟩
theorem Ph.put'{w W W':Ut}{r k f i n:Nat}{l m d c v va g:Uv}{j Rb:Nat->Bs}{L:Bs}{a b:Nat->Nat}{G H:Nat->List (Nat × Bs)}{U:List (Nat × Bs)}(h:Ph w W r k f i n l m d c v va g j Rb L a b G H U)(e:W'=(W.setCells (k+3) 0 [d]).setCells (k+3) 1 [c]):Ph w W' r k f i n d c d c v va g j Rb L a b G H U:=e ▸ h.put
theorem anyS.fin{P:VD}{c:Array Vk}{Q:X9->Act->Ut->Prop}{S:Array Bool->Ut->Prop}{k:Array Bool}{a:Act}{w:Ut}(d:U7 .any c k=[])(h:∀W,W=w->Q .normal a W)(b:Nat):anyS P c Q S b k a w:=anyS.done d (h w rfl) b
theorem JU(O:Ord N)(g:IsP N)(r:Nat)(L:Bs)(A B:OnP P)(X Y:Bs)(j:X=wP A)(n:Y=wP B):∃(s:Bs) (c:Fin N),Hid (chF N L A B=(s,c)/\s.size=32)/\Hid (∀W:Ut,Holds encB W r 0 L->L.size=32->UK prog 146 #[lgV r,.string ⟨#[108,101,102,116]⟩,pvl X,.string ⟨#[114,105,103,104,116]⟩,pvl Y] W (Ret λe w'=>SP.Only r 0 32 W w'/\Holds encB w' r 0 s/\e=nv c.val)):=by
 subst j n;have e:chF N L A B=(bB (jY [108,101,102,116] [114,105,103,104,116] L (wP A) (wP B)),kO N (jY [108,101,102,116] [114,105,103,104,116] L (wP A) (wP B))):=by unfold chF;dsimp only
 have f:=aT A.1;have l:=aT B.1;refine⟨_,_,⟨e,bE _ _⟩,λW i m=>?_⟩;have k:=sU O r L (wP A) (wP B) ⟨#[108,101,102,116]⟩ ⟨#[114,105,103,104,116]⟩ dC dC f l W i m;have d:jY (⟨#[108,101,102,116]⟩:ByteArray).data.toList (⟨#[114,105,103,104,116]⟩:ByteArray).data.toList L (wP A) (wP B)=jY [108,101,102,116] [114,105,103,104,116] L (wP A) (wP B):=rfl;rw[d]at k;have b:∀M,cha N M<N:=λM=>uS O _
 generalize jY [108,101,102,116] [114,105,103,104,116] L (wP A) (wP B)=M at k;rw[FG g.1 M (b M)]at k;exact k
theorem own_base{W:Ut}{c b n k:Nat}{v:Uv}(h:W.ownsRow c e k v n xs)(f:b<=c):W.ownsRow b e k v n xs:=by
 rcases h with⟨d,j|⟨g,cap,cur,rfl,l,i⟩⟩
 ·exact⟨d,U6 j⟩
 ·exact⟨d,U2 ⟨g,cap,cur,rfl,UE f l,i⟩⟩
theorem Ph.fin{w W:Ut}{r k t n:Nat}{i f v va F l m:Uv}{z Rb:Nat->Bs}{L A B:Bs}{a b:Nat->Nat}{G H:Nat->List (Nat × Bs)}{U:List (Nat × Bs)}(h:Ph w W r k t t n i f i f v va F z Rb L a b G H U)(J:ElQ (k+4<=·) 32 W l A)(I:ElQ (k+4<=·) 32 W m B)(hd:DjF (k+4) W t i f l m):
 Row W (k+2) [.slice none 0 0,.slice none 0 0,.slice none 0 0,.slice none 0 0]/\Row (W.setCells (k+2) 0 [i,f,l,m]) (k+2) [i,f,l,m]/\PhR w r t z Rb L A B (.agg #[i,f,l,m]) (W.setCells (k+2) 0 [i,f,l,m]):=by
 have E:=h.rk;have K:=h.wk;have j:∀g,g≠k+2->(W.setCells (k+2) 0 [i,f,l,m]).heap[g]? = W.heap[g]?:=λg u=>aH (k+2) _ 0 _ g u
 have p:W.heap.size<=(W.setCells (k+2) 0 [i,f,l,m]).heap.size:=by rw[setCells_size];exact Uy _
 have kq:Kq (QH r k i f) W (W.setCells (k+2) 0 [i,f,l,m]):=⟨p,λg q _=>j g (by have:=q.2.1;omega)⟩
 have s:Kq (k+4<=·) W (W.setCells (k+2) 0 [i,f,l,m]):=⟨p,λg q _=>j g oM⟩
 have x:∀ {y:Uv}{B:Nat->Bs},TlL (QH r k i f) (k+4) t W y B->TlL (λ_=>True) w.heap.size t (W.setCells (k+2) 0 [i,f,l,m]) y B:=λhx=>by
  have D:=(hx.keep kq λg o=>j g (by have:=(hx.lt o).1;omega)).mono2 (Q':=λ_=>True) λ_ _ _=>trivial
  obtain⟨xs,u,C⟩:=D.ex;exact⟨xs,own_base u oM,C⟩
 exact⟨h.r2,h.r2.put rfl,jH h.on h.wk h.rk oM,⟨_,_,_,_,rfl,x h.tL,x h.tR,(J.keep s).mono2 λg _ o=>oM,(I.keep s).mono2 λg _ o=>oM⟩,jO h.lg (j r oM),λa b c d e=>by
  injection e with e
  simp only[Array.mk.injEq,List.cons.injEq,and_true]at e;obtain⟨rfl,rfl,rfl,rfl⟩:=e;exact hd.keep oM p (λg o=>j g (by have:=(h.tL.lt o).1;omega)) (λg o=>j g (by have:=(h.tR.lt o).1;omega))⟩
omit [NeZero N] in
theorem fX(O:Ord N){a:Nat}(c:a<N)(w:Ut):UK prog 141 #[nv a] w (rZ w λe w'=>ElQ (w.heap.size<=·) 32 w' e (bx a)/\∃g,e=r32 g):=by
 refine(qN O c w).mono ?_;rintro e w' ⟨v,rfl,k,b,rfl⟩;exact⟨_,rfl,b.bel,⟨k,32,rfl,Uy _,eE a,b.le,b.lt,cb_holds b.range b.there⟩,k,rfl⟩
theorem iB1:(prog.info? 23).map (·.size)=some 1:=kR
theorem hvI{P:VD}{c:Sem Next}{x:Uv}(k:∀w,I.run P w=.ok x w)(b:c=I >>= λv=>pure (Xq v)):∀w,c.run P w=.ok (.value x) w:=λw=>by rw[b,UW,k w,Vr,WA]
theorem nfB{b:Bool}(h:b=true):¬b=false:=λe=>by rw[h]at e;cases e
theorem TE(m:Nat):((m+m:Nat):Int).tdiv 2=(m:Int):=by rw[Yd oM];omega
theorem Mf(C:Fld P)(O:Ord N)(f:∀r:EC.Pt P,On r->mul N r=none)(hP:IsP N)(t:Nat)(ht:t<=6)(q:Md.Ps Bs (Fin N) (OnP P))(u:OnP P)(G0 H0:Nat->List (Nat × Bs))(U:List (Nat × Bs))(f9:Gd N (2^t) 1 G0 q.g)(du:Gd N (2^t) 1 H0 q.h)(hU:Tl N U u)(ed:0<U.length)(dy:U.length<=16)
 (Lb Rb:Nat->Bs) (gn:∀j,Lb j=wP ((aD C f).pLi (chF N) ivF u t q j)) (gv:∀j,Rb j=wP ((aD C f).pTi (chF N) ivF u t q j)) (r:Nat) (v0 cn cq:Uv) (w:Ut) (hL:Holds encB w r 0 q.s) (d3:q.s.size=32) (hv:GRq (·≠r) w v0 (2^t) G0 H0 U) (ha:SLq (·≠r) w cn (2^t) (λi=>(q.a i).val)) (K:SLq (·≠r) w cq (2^t) (λi=>(q.b i).val)) :
 UK prog 83 #[lgV r,v0,cn,cq] w (Ret (PhR w r t Lb Rb ((aD C f).pst (chF N) ivF u t q t).s (bx (((aD C f).pst (chF N) ivF u t q t).a 0).val) (bx (((aD C f).pst (chF N) ivF u t q t).b 0).val))):=by
 have hr:=Holds.lt hL (by rw[d3];decide);obtain⟨k,hk⟩:∃k,Hid (w.heap.size=k):=⟨_,rfl⟩
 obtain⟨e0,gs,et,dl⟩:=hv.ar;subst gs;obtain⟨w1,kg⟩:=hE (w.alloc (.cells #[jZ r] 145));obtain⟨w2,kd⟩:=hE (w1.alloc (.cells e0 133));obtain⟨w3,kn⟩:=hE (w2.alloc (.cells #[.slice none 0 0,.slice none 0 0,.slice none 0 0,.slice none 0 0] 26));obtain⟨w4,be⟩:∃w4,Hid (w3.alloc (.cells #[.slice none 0 0,.slice none 0 0,.slice none 0 0,.slice none 0 0] 26)=w4):=⟨_,rfl⟩
 have z1:w1.heap.size=k+1:=by rw[<-kg.out,UD,hk.out]
 have z2:w2.heap.size=k+2:=by rw[<-kd.out,UD,z1]
 have z3:w3.heap.size=k+3:=by rw[<-kn.out,UD,z2]
 have g0:r<k:=by rw[<-hk.out];exact hr
 have K4:Hid (∃G H,Gd N (2^(t-0)) (2^0) G ((aD C f).pst (chF N) ivF u t q 0).g/\Gd N (2^(t-0)) (2^0) H ((aD C f).pst (chF N) ivF u t q 0).h/\Ph w w4 r k 0 0 (2^(t-0)) (.slice none 0 0) (.slice none 0 0) (.slice none 0 0) (.slice none 0 0) (.agg e0) cn cq Lb Rb ((aD C f).pst (chF N) ivF u t q 0).s (λi=>(((aD C f).pst (chF N) ivF u t q 0).a i).val) (λi=>(((aD C f).pst (chF N) ivF u t q 0).b i).val) G H U):=by
  have b1:kZ w w1:=by rw[<-kg.out];exact aC _ _
  have D:kZ w1 w2:=by rw[<-kd.out];exact aC _ _
  have E:kZ w2 w3:=by rw[<-kn.out];exact aC _ _
  have F:kZ w3 w4:=by rw[<-be.out];exact aC _ _
  have S:Row w1 k [jZ r]:=by rw[<-kg.out,<-hk.out];exact aE w _ _
  have T:Row w2 (k+1) e0.toList:=by rw[<-kd.out,<-z1];exact aE w1 e0.toList 133
  have V:Row w3 (k+2) [.slice none 0 0,.slice none 0 0,.slice none 0 0,.slice none 0 0]:=by rw[<-kn.out,<-z2];exact aE w2 _ _
  have R:Row w4 (k+3) [.slice none 0 0,.slice none 0 0,.slice none 0 0,.slice none 0 0]:=by rw[<-be.out,<-z3];exact aE w3 _ _
  have bb:kZ w w4:=((b1.trans (D.mono b1.size)).trans (E.mono (UE b1.size D.size))).trans (F.mono (UE b1.size (UE D.size E.size)));have J:∀g,g<w.heap.size->g≠r->QH r k (.slice none 0 0) (.slice none 0 0) g:=λg M L=>⟨L,U6 (by rw[<-hk.out];exact M),(λe=>by cases e),(λe=>by cases e)⟩
  have A:∀(B:Nat->Bs) (Q:Nat->Prop),TlL Q (k+4) 0 w4 (.slice none 0 0) B:=λB Q=>⟨[],⟨rfl,U6 ⟨rfl,rfl⟩⟩,λj hj=>absurd hj (Ys _)⟩
  have kq:∀ {Q:Nat->Prop},Kq Q w w4:=Kq.of_below bb;exact⟨G0,H0,f9,du,SP.Only.of_below bb rfl hr,g0,hk.out,((S.below D).below E).below F,⟨e0,rfl,et,dl,(T.below E).below F⟩,V.below F,⟨R.1,[.slice none 0 0,.slice none 0 0],rfl,R⟩,A _ _,A _ _,(λg e=>by cases e),(ha.mono2 J).keep kq,(K.mono2 J).keep kq,(hv.mono2 J).keep kq,Holds.below hL bb hr,d3,⟨[],[],yBy,⟨rfl,U6 ⟨rfl,rfl⟩⟩,⟨rfl,U6 ⟨rfl,rfl⟩⟩,λg M=>absurd M U1⟩⟩
 obtain⟨vl,b8⟩:=hE (lgV r);obtain⟨vG,b9⟩:=hE (U5 e0);have B1:Hid ((Vh 145 vl).run prog w=.ok (jZ k) w1):=by rw[<-b8.out,<-kg.out,<-hk.out];exact Nf r w
 have B2:Hid ((Vh 133 vG).run prog w1=.ok (.pointer (some ⟨k+1,0,none⟩)) w2):=by
  obtain⟨a1,a2,a3,ea⟩:∃a b c,e0=#[a,b,c]:=by
   obtain⟨D,E,A,e,-⟩:=hv.ex;injection e with e
   exact⟨D,E,A,e⟩
  rw[<-b9.out,<-kd.out,<-z1,ea];exact CN a1 a2 a3 w1
 have HZ:=mk3 z2 z3 hk.out;have ei:=mk2 gn gv;have HF:Hid (Fld P/\Ord N/\IsP N/\Tl N U u/\0<U.length/\U.length<=16/\t<=6):=⟨C,O,hP,hU,ed,dy,ht⟩
 obtain⟨d,fl,dp⟩:=UA.1 uGr;have HD:=mk2 fl dp;rw[b9.out]at K4;rw[b8.out,b9.out];clear fl dp z1 z2 z3 kg kd hk hL d3 hv ha K f9 du hU ed dy et dl hr O hP b9;go_enter func83,ntmps83;go_wp2_with (first|(refine aF (u:=vl) (v:=jZ k) (w':=w1) rfl 145 (.tmp 0) rfl ?_ ?_ ?_;rfl;exact B1.out)|(refine aF (u:=vG) (v:=.pointer (some ⟨k+1,0,none⟩)) (w':=w2) rfl 133 (.tmp 1) rfl ?_ ?_ ?_;rfl;exact B2.out)|(refine fC (v:=.pointer (some ⟨k+2,0,none⟩)) (w':=w3) rfl 26 8 rfl rfl ?_ ?_;(rw[<-kn.out,<-HZ.1];kernel_rfl))|(refine fC (v:=.pointer (some ⟨k+3,0,none⟩)) (w':=w4) rfl 26 9 rfl rfl ?_ ?_;(rw[<-be.out,<-HZ.2.1];kernel_rfl))|fail)
 clear B1 B2 kn be;simp only[UR,Uu,Uw,Ux];go_loopg [2,3] t (λm s2 s3 W=>∃i:Nat,i+m=t/\Hid (∃F E v G H,Gd N (2^(t-i)) (2^i) G ((aD C f).pst (chF N) ivF u t q i).g/\Gd N (2^(t-i)) (2^i) H ((aD C f).pst (chF N) ivF u t q i).h/\Ph w W r k i i (2^(t-i)) F E F E v s2 s3 Lb Rb ((aD C f).pst (chF N) ivF u t q i).s (λj=>(((aD C f).pst (chF N) ivF u t q i).a j).val) (λj=>(((aD C f).pst (chF N) ivF u t q i).b j).val) G H U))
 case atStart=>exact⟨0,oM,_,_,_,K4.out⟩
 case round =>
  obtain⟨i,i1,KM⟩:=hrel;by_cases hi:i<t
  ·obtain⟨F,E,v,G,H,hG,hH,h0⟩:=KM.out;clear KM;have HI:=Hid.mk' hi;obtain⟨m,hm⟩:∃m,m=2^(t-(i+1)):=⟨_,rfl⟩
   have kz:2^(t-i)=m+m:=by rw[hm,show t-i=t-(i+1)+1 by omega,V8];omega
   have bf:0<m:=by rw[hm];exact X6 dC
   obtain⟨c,hc⟩:∃c,c=2^i:=⟨_,rfl⟩
   have k6:0<c:=by rw[hc];exact X6 dC
   have f4:c*(m+m)<=64:=by
    rw[<-kz,hc,<-Nat.pow_add,show i+(t-i)=t by omega];exact UE (Nat.pow_le_pow_right dC HF.2.2.2.2.2.2) dC
   have k0:c*m<=64:=by have:=XU c (show m<=m+m by omega);omega
   have dz:m<=64:=by have:=WX m k6;omega
   have eS:(aD C f).pst (chF N) ivF u t q (i+1)=(aD C f).qS (chF N) ivF u m ((aD C f).pst (chF N) ivF u t q i):=by rw[hm];rfl
   have eL:(aD C f).pLi (chF N) ivF u t q i=(aD C f).pL u m ((aD C f).pst (chF N) ivF u t q i):=by rw[hm];rfl
   have eT:(aD C f).pTi (chF N) ivF u t q i=(aD C f).pT u m ((aD C f).pst (chF N) ivF u t q i):=by rw[hm];rfl
   have HE:Hid (2^(t-(i+1))=m/\2^(i+1)=c+c):=⟨hm.symm,by rw[V8,hc];omega⟩
   rw[kz,<-hc]at hG hH;rw[kz]at h0;clear hm kz hc;generalize (aD C f).pst (chF N) ivF u t q i=L at hG hH h0 eS eL eT;have HS:Hid ((aD C f).pst (chF N) ivF u t q (i+1)=(aD C f).qS (chF N) ivF u m L/\(aD C f).pLi (chF N) ivF u t q i=(aD C f).pL u m L/\(aD C f).pTi (chF N) ivF u t q i=(aD C f).pT u m L):=⟨eS,eL,eT⟩
   clear eS eL eT;obtain⟨ga,oa,ca,rfl,fp,-⟩:=id h0.la;obtain⟨Z,ob,J,rfl,fg,-⟩:=id h0.lb;have sG:=Hid.mk' (V4 hG (V4 hH (V4 bf (V4 k6 (V4 f4 (V4 dz k0))))));obtain⟨l1,ej,ec⟩:=Is (Q:=QH r k F E) C HF.2.1 f bf k6 k0 hG.high hH.low HF.2.2.2.1 HF.2.2.2.2.1 HF.2.2.2.2.2.1 L.a (λj=>L.b (m+j));obtain⟨l2,fk,fd⟩:=Is (Q:=QH r k F E) C HF.2.1 f bf k6 k0 hG.low hH.high HF.2.2.2.1 HF.2.2.2.2.1 HF.2.2.2.2.2.1 (λj=>L.a (m+j)) L.b;obtain⟨X,hX⟩:∃X,X=wP ((aD C f).pL u m L):=⟨_,rfl⟩
   obtain⟨Y,hY⟩:∃Y,Y=wP ((aD C f).pT u m L):=⟨_,rfl⟩
   have sX:X.size=33:=by rw[hX];exact aT _
   have sY:Y.size=33:=by rw[hY];exact aT _
   have c4:∀(W:Ut) (v:Uv),Sm 0 W v l1->UK prog 67 #[v] W (rZ W λe w'=>e=pvl X):=by rw[hX];exact ec
   have c6:∀(W:Ut) (v:Uv),Sm 0 W v l2->UK prog 67 #[v] W (rZ W λe w'=>e=pvl Y):=by rw[hY];exact fd
   clear ec fd;obtain⟨PH,h5⟩:∃PH:Ut->Prop,Hid (∀W,PH W↔Ph w W r k i i (m+m) F E F E v (.slice (some ⟨ga,oa,none⟩) (m+m) ca) (.slice (some ⟨Z,ob,none⟩) (m+m) J) Lb Rb L.s (λj=>(L.a j).val) (λj=>(L.b j).val) G H U):=⟨_,λ_=>Iff.rfl⟩
   have k5:Hid (∀W W':Ut,kZ W W'->PH W->PH W'):=λW W' K h=>(h5 W').2 (((h5 W).1 h).grow K)
   have K0:Hid (PH wr):=(h5 wr).2 h0;have gc:Hid (∀W,PH W->UK prog 157 #[v] W (Ret (CrR (QH r k F E) W m G H U))):=λW h=>GQ m bf oM G H U v W ((h5 W).1 h).gr
   have cS:Hid ((∀W (x:Uv),PH W->GRq (QH r k F E) W x m (λi=>G (m+i)) H U->UK prog 158 #[x,.slice (some ⟨ga,oa,none⟩) m ca,.slice (some ⟨Z,ob+m*4,none⟩) m (J-m)] W (rZ W λe w'=>Sm W.heap.size w' e l1))/\(∀W (x:Uv),PH W->GRq (QH r k F E) W x m G (λi=>H (m+i)) U->UK prog 158 #[x,.slice (some ⟨ga,oa+m*4,none⟩) m (ca-m),.slice (some ⟨Z,ob,none⟩) m J] W (rZ W λe w'=>Sm W.heap.size w' e l2))):=
    ⟨λW x h hx=>ej W x _ _ hx ((h5 W).1 h).la.low ((h5 W).1 h).lb.high,λW x h hx=>fk W x _ _ hx ((h5 W).1 h).la.high ((h5 W).1 h).lb.low⟩
   have cP:Hid ((∀(W:Ut) (v:Uv),Sm 0 W v l1->UK prog 67 #[v] W (rZ W λe w'=>e=pvl X))/\(∀(W:Ut) (v:Uv),Sm 0 W v l2->UK prog 67 #[v] W (rZ W λe w'=>e=pvl Y))):=⟨c4,c6⟩
   have bi:=Dl ga oa (m+m) ca m oM;have ko:=Dk Z ob (m+m) J m oM fg;have kc:=Dk ga oa (m+m) ca m oM fp;have bs:=Dl Z ob (m+m) J m oM;rw[yAX]at ko kc;have h7:=mk4 sX sY hX hY;obtain⟨sx,cx,fa,f0⟩:∃(s:Bs) (c:Fin N),Hid (chF N L.s ((aD C f).pL u m L) ((aD C f).pT u m L)=(s,c)/\s.size=32)/\Hid (∀W:Ut,Holds encB W r 0 L.s->L.s.size=32->UK prog 146 #[lgV r,.string ⟨#[108,101,102,116]⟩,pvl X,.string ⟨#[114,105,103,104,116]⟩,pvl Y] W (Ret λe w'=>SP.Only r 0 32 W w'/\Holds encB w' r 0 s/\e=nv c.val)):=JU HF.2.1 HF.2.2.1 r L.s _ _ X Y hX hY;obtain⟨e1,f7,kh,c9,bn⟩:=h0.r1;have HV:=mk3 f7 kh c9;have R1:Hid (wr.rangeAt (k+1) 0 e1.toList/\(prog.info? 133).map (·.size)=some e1.toList.length):=⟨bn.2.1,by rw[UL,kh];exact iGr⟩
   obtain⟨n,hn⟩:=hE (m+m);have hq:(n:Int).tdiv 2=(m:Int):=by rw[<-hn.out];exact TE m
   have gz:(1:Int)<(n:Int):=by rw[<-hn.out];omega
   rw[hn.out]at bi ko kc bs;rw[hn.out];clear h0 ej fk c4 c6 sX sY hX hY f7 kh c9 bn hG hH f4 k0 fp fg k6 hi;go_wp2_with (first|(refine U8 rfl 133 (.tmp 5) rfl (k+1) 0 ?_ e1.toList d ?_ ?_ ?_ ?_ ?_;rfl;exact R1.1;exact HD.1;exact HD.2;exact R1.2;rw[show U5 e1.toList.toArray=v from HV.1.symm])|fail)
   refine(gc wr K0.out).mono ?_;rintro e W1 ⟨uu,rfl,gj,f1,f2,rfl,cd,ck,gp,fy,g4,gg⟩;have K1:=mk1 (k5 wr W1 gj K0.out);obtain⟨b1,h8⟩:∃b,Hid (W1.heap.size=b):=⟨_,rfl⟩
   obtain⟨W2,kx⟩:∃W,Hid (W1.alloc (.cells #[.slice none 0 0,.slice none 0 0,.slice none 0 0] 133)=W):=⟨_,rfl⟩
   obtain⟨W3,co⟩:∃W,Hid (W2.alloc (.cells #[.slice none 0 0,.slice none 0 0,.slice none 0 0] 133)=W):=⟨_,rfl⟩
   obtain⟨W4,ez⟩:∃W,Hid (W3.setCells b1 0 f1.toList=W):=⟨_,rfl⟩
   obtain⟨W5,dw⟩:∃W,Hid (W4.setCells (b1+1) 0 f2.toList=W):=⟨_,rfl⟩
   have zz:W2.heap.size=b1+1:=by rw[<-kx.out,UD,h8.out]
   have bv:f1.toList.length=3:=by rw[UL];exact cd
   have bt:f2.toList.length=3:=by rw[UL];exact ck
   have F3:kZ W1 W3/\Row W3 b1 [.slice none 0 0,.slice none 0 0,.slice none 0 0]/\Row W3 (b1+1) [.slice none 0 0,.slice none 0 0,.slice none 0 0]:=by
    have bA:kZ W1 W2:=by rw[<-kx.out];exact aC _ _
    have A:kZ W2 W3:=by rw[<-co.out];exact aC _ _
    have D:Row W2 b1 [.slice none 0 0,.slice none 0 0,.slice none 0 0]:=by rw[<-kx.out,<-h8.out];exact aE W1 _ _
    have R:Row W3 (b1+1) [.slice none 0 0,.slice none 0 0,.slice none 0 0]:=by rw[<-co.out,<-zz];exact aE W2 _ _
    exact⟨bA.trans (A.mono bA.size),D.below A,R⟩
   have F4:kZ W1 W4/\Row W4 b1 f1.toList/\Row W4 (b1+1) [.slice none 0 0,.slice none 0 0,.slice none 0 0]:=by
    rw[<-ez.out];exact⟨RG.below_setCells (by rw[h8.out];exact Uy _) _ _ _ F3.1,F3.2.1.put (by rw[bv];rfl),aR F3.2.2 oM⟩
   have F5:kZ W1 W5/\Row W5 b1 f1.toList/\Row W5 (b1+1) f2.toList:=by
    rw[<-dw.out];exact⟨RG.below_setCells (by rw[h8.out];omega) _ _ _ F4.1,aR F4.2.1 oM,F4.2.2.put (by rw[bt];rfl)⟩
   have K5:=mk5 (k5 W1 W5 F5.1 K1.out) F5.2.1 F5.2.2 (g4.keep (Kq.of_below F5.1)) (gg.keep (Kq.of_below F5.1));have HT:Hid ((W2.heap.size=b1+1/\W3.there b1 0 f1.size/\W4.there (b1+1) 0 f2.size)/\f1.all (·.oneCell')=true/\f2.all (·.oneCell')=true/\(prog.info? 133).map (·.size)=some f1.size/\(prog.info? 133).map (·.size)=some f2.size/\(prog.info? 133).map (·.size)=some f1.toList.length/\(prog.info? 133).map (·.size)=some f2.toList.length):=⟨⟨zz,by rw[cd];exact F3.2.1.2.2,by rw[ck];exact F4.2.2.2.2⟩,gp,fy,by rw[cd];exact iGr,by rw[ck];exact iGr,by rw[bv];exact iGr,by rw[bt];exact iGr⟩
   obtain⟨y1,fh⟩:=hE (U5 f1);obtain⟨y2,f8⟩:=hE (U5 f2);rw[fh.out,f8.out];go_wp2_with (first|(refine alR 11 h8 kx ?_)|(refine fC (v:=.pointer (some ⟨b1+1,0,none⟩)) (w':=W3) rfl 133 12 rfl rfl ?_ ?_;(rw[<-co.out,<-HT.1.1];kernel_rfl))|(refine U3 rfl 133 (.tmp 11) _ rfl b1 0 f1 ?_ ?_ ?_ ?_ ?_ ?_;rfl;exact fh.symm;exact HT.1.2.1;exact HT.2.2.2.1;exact HT.2.1;rw[ez.out])|(refine U3 rfl 133 (.tmp 12) _ rfl (b1+1) 0 f2 ?_ ?_ ?_ ?_ ?_ ?_;rfl;exact f8.symm;exact HT.1.2.2;exact HT.2.2.2.2.1;exact HT.2.2.1;rw[dw.out])|fail)
   refine(gwL [pE (.agg f1.toList.toArray),pE (.slice (some ⟨ga,oa,none⟩) n ca),pE (iZ m),pE (.slice (some ⟨ga,oa,none⟩) m ca),pE (.slice (some ⟨Z,ob,none⟩) n J),pE (iZ m),pE (.slice (some ⟨Z,ob+m*4,none⟩) m (J-m)),pM (λ_=>True) l1,pE (pvl X),RG.pN W5.heap.size z33] (λW=>kZ W5 W) (λW W' K h=>h.trans (K.mono h.size))).tail2 10 kR kR kR ⟨
    iE 133 11 b1 0 f1.toList uGr HT.2.2.2.2.2.1 rfl (λW S=>RG.range_below K5.2.1.2.1 S K5.2.1.1) (λ_=>rfl),
    gO 2 (.slice (some ⟨ga,oa,none⟩) n ca),
    gO 10 (iZ m),
    RG.gX 1 29 2 30 bi,
    gO 3 (.slice (some ⟨Z,ob,none⟩) n J),
    gO 10 (iZ m),
    RG.gX 4 32 5 33 ko,
    rF 0 28 3 31 6 34 158 (λx y z=>#[x,y,z]) (λx y z W hx A hz S=>by
     obtain rfl:x=.agg f1.toList.toArray:=hx;obtain rfl:y=(.slice (some ⟨ga,oa,none⟩) m ca):=A;obtain rfl:z=(.slice (some ⟨Z,ob+m*4,none⟩) m (J-m)):=hz;refine(cS.1 W _ (k5 W5 W S K5.1) (K5.2.2.2.1.keep (Kq.of_below S))).mono ?_;rintro e W' ⟨uu,rfl,K,hs⟩;exact⟨_,rfl,K,hs.q.mono λ_ _=>trivial⟩),
    oW 7 35 67 (λx=>#[x]) (λx W hx S=>by
     have hx:=hx;refine(cP.1 W x hx.sm).mono ?_;rintro e W' ⟨uu,rfl,K,rfl⟩;exact⟨_,rfl,K,rfl⟩),
    xO z33 103 (λW W' hR S=>⟨_,rfl,S.size,hR⟩),yCm⟩ (UT _ _).drew ?_
   intro V cf hR S;have d5:=hR 8 dC;obtain⟨D,d8,h4,kb⟩:∃k,V 9=jZ k/\W5.heap.size<=k/\Row cf k z33:=hR 9 dC;obtain⟨W7,cv⟩:=hE (cf.setCells D 0 (aA X));have k9:=aB h7.1;have df:kZ W5 W7:=by rw[<-cv.out];exact RG.below_setCells h4 _ _ _ S
   have g5:Row W7 D (aA X):=by rw[<-cv.out];exact kb.put (by rw[k9];rfl)
   have bu:Hid (cf.there D 0 (aA X).toArray.size/\(prog.info? 103).map (·.size)=some (aA X).toArray.size):=by
    rw[VE,k9];exact⟨kb.2.2,iCP⟩
   dsimp only[bU,VO,Xn,Xo];simp only[UR,Uu,Uw,Ux];obtain⟨gw,bq⟩:=hE (pvl X);rw[d5,d8,bq.out];have eo:=mk1 (Uz ((h5 W5).1 K5.1).r3.1 h4);have bl:Hid (∀g,F.ownBlock=some g\/E.ownBlock=some g->g<D):=λg M=>by
    have h:=(h5 W5).1 K5.1;rcases M with M|M
    ·exact Uz (h.tL.lt M).2 h4
    ·exact Uz (h.tR.lt M).2 h4
   have K7:=mk4 (k5 W5 W7 df K5.1) (K5.2.2.1.below df) (K5.2.2.2.2.keep (Kq.of_below df)) g5;go_wp2_with (first|(refine stR 13 cv bq bu.1 bu.2 (bW X) ?_)|fail)
   refine(gwL [pE (.agg f2.toList.toArray),pE (.slice (some ⟨ga,oa,none⟩) n ca),pE (iZ m),pE (.slice (some ⟨ga,oa+m*4,none⟩) m (ca-m)),pE (.slice (some ⟨Z,ob,none⟩) n J),pE (iZ m),pE (.slice (some ⟨Z,ob,none⟩) m J),pM (λ_=>True) l2,pE (pvl Y),RG.pN W7.heap.size z33] (λW=>kZ W7 W) (λW W' K h=>h.trans (K.mono h.size))).tail2 10 kR kR kR ⟨
    iE 133 12 (b1+1) 0 f2.toList uGr HT.2.2.2.2.2.2 rfl (λW S=>RG.range_below K7.2.1.2.1 S K7.2.1.1) (λ_=>rfl),
    gO 2 (.slice (some ⟨ga,oa,none⟩) n ca),
    gO 10 (iZ m),
    RG.gX 1 38 2 39 kc,
    gO 3 (.slice (some ⟨Z,ob,none⟩) n J),
    gO 10 (iZ m),
    RG.gX 4 41 5 42 bs,
    rF 0 37 3 40 6 43 158 (λx y z=>#[x,y,z]) (λx y z W hx A hz S=>by
     obtain rfl:x=.agg f2.toList.toArray:=hx;obtain rfl:y=(.slice (some ⟨ga,oa+m*4,none⟩) m (ca-m)):=A;obtain rfl:z=(.slice (some ⟨Z,ob,none⟩) m J):=hz;refine(cS.2 W _ (k5 W7 W S K7.1) (K7.2.2.1.keep (Kq.of_below S))).mono ?_;rintro e W' ⟨uu,rfl,K,hs⟩;exact⟨_,rfl,K,hs.q.mono λ_ _=>trivial⟩),
    oW 7 44 67 (λx=>#[x]) (λx W hx S=>by
     have hx:=hx;refine(cP.2 W x hx.sm).mono ?_;rintro e W' ⟨uu,rfl,K,rfl⟩;exact⟨_,rfl,K,rfl⟩),
    xO z33 103 (λW W' hR S=>⟨_,rfl,S.size,hR⟩),yCm⟩ (UT _ _).drew ?_
   intro V cg hR S;have d5:=hR 8 dC;obtain⟨A,d8,h4,kb⟩:∃k,V 9=jZ k/\W7.heap.size<=k/\Row cg k z33:=hR 9 dC;obtain⟨W9,d0⟩:∃W,Hid (cg.setCells A 0 (aA Y)=W):=⟨_,rfl⟩
   have k9:=aB h7.2.1;have em:kZ W7 W9:=by rw[<-d0.out];exact RG.below_setCells h4 _ _ _ S
   have g3:Row W9 A (aA Y):=by rw[<-d0.out];exact kb.put (by rw[k9];rfl)
   have c5:Hid (cg.there A 0 (aA Y).toArray.size/\(prog.info? 103).map (·.size)=some (aA Y).toArray.size):=by
    rw[VE,k9];exact⟨kb.2.2,iCP⟩
   dsimp only[bU,VO,Xn,Xo];simp only[UR,Uu,Uw,Ux];obtain⟨i0,br⟩:=hE (pvl Y);rw[d5,d8,br.out];have K9:Hid (PH W9/\Row W9 D (aA X)/\Row W9 A (aA Y)/\W9.heap.size<=W9.heap.size):=⟨k5.out W7 W9 em K7.1,K7.2.2.2.below em,g3,Uy _⟩
   have fe:=mk2 eo.out (Uz ((h5 W7).1 K7.1).r3.1 h4);have c3:Hid (∀g,F.ownBlock=some g\/E.ownBlock=some g->g<A):=λg M=>by
    have h:=(h5 W7).1 K7.1;rcases M with M|M
    ·exact Uz (h.tL.lt M).2 h4
    ·exact Uz (h.tR.lt M).2 h4
   go_wp2_with (first|(refine stR 14 d0 br c5.1 c5.2 (bW Y) ?_)|fail)
   obtain⟨dP,k2,hw⟩:=UA.1 uCP;have kf:(prog.info? 103).map (·.size)=some (aA X).length:=by rw[aB h7.1];exact iCP
   have kk:(prog.info? 103).map (·.size)=some (aA Y).length:=by rw[aB h7.2.1];exact iCP
   have ka:∀W W':Ut,kZ W W'->k+3<W.heap.size->D<W.heap.size->A<W.heap.size->(W.cell? ⟨k+3,0,none⟩=some F/\W.cell? ⟨k+3,1,none⟩=some E/\W.rangeAt D 0 (aA X)/\W.rangeAt A 0 (aA Y))->(W'.cell? ⟨k+3,0,none⟩=some F/\W'.cell? ⟨k+3,1,none⟩=some E/\W'.rangeAt D 0 (aA X)/\W'.rangeAt A 0 (aA Y)):=λW W' K h3 fu kv h=>⟨by rw[K.cell (p:=⟨k+3,0,none⟩) h3];exact h.1,by rw[K.cell (p:=⟨k+3,1,none⟩) h3];exact h.2.1,RG.range_below h.2.2.1 K fu,RG.range_below h.2.2.2 K kv⟩
   have d7:∀W W':Ut,W'.heap[k+3]? = W.heap[k+3]?->W'.heap[D]? = W.heap[D]?->W'.heap[A]? = W.heap[A]?->(W.cell? ⟨k+3,0,none⟩=some F/\W.cell? ⟨k+3,1,none⟩=some E/\W.rangeAt D 0 (aA X)/\W.rangeAt A 0 (aA Y))->(W'.cell? ⟨k+3,0,none⟩=some F/\W'.cell? ⟨k+3,1,none⟩=some E/\W'.rangeAt D 0 (aA X)/\W'.rangeAt A 0 (aA Y)):=λW W' e3 gm fz h=>⟨by rw[U0 (a:=⟨k+3,0,none⟩) e3];exact h.1,by rw[U0 (a:=⟨k+3,1,none⟩) e3];exact h.2.1,λj u hj=>by rw[U0 (a:=⟨D,0+j,none⟩) gm];exact h.2.2.1 j u hj,λj u hj=>by rw[U0 (a:=⟨A,0+j,none⟩) fz];exact h.2.2.2 j u hj⟩
   have P9:=(h5 W9).1 K9.1;have gh:=P9.r3.1;obtain⟨-,i3,-,eh⟩:=P9.r3;have S9:W9.drew.cell? ⟨k+3,0,none⟩=some F/\W9.drew.cell? ⟨k+3,1,none⟩=some E/\W9.drew.rangeAt D 0 (aA X)/\W9.drew.rangeAt A 0 (aA Y):=⟨eh.2.1 0 _ rfl,eh.2.1 1 _ rfl,K9.2.1.2.1,K9.2.2.1.2.1⟩
   have z9:k+3<W9.drew.heap.size/\D<W9.drew.heap.size/\A<W9.drew.heap.size:=⟨P9.r3.1,K9.2.1.1,K9.2.2.1.1⟩
   have P9:=P9.drew;have ew:Lb i=X:=by rw[ei.1 i,HS.2.1];exact h7.2.2.1.symm
   have fr:Rb i=Y:=by rw[ei.2 i,HS.2.2];exact h7.2.2.2.symm
   have h9:∀(i:Nat),i≠13->i≠15->∀(l:Array Bool) (W:Ut),(((l.setIfInBounds i true).getD 13 false=false->W.cell? ⟨k+3,0,none⟩=some F)/\((l.setIfInBounds i true).getD 15 false=false->W.cell? ⟨k+3,1,none⟩=some E)/\W.rangeAt D 0 (aA X)/\W.rangeAt A 0 (aA Y))->((l.getD 13 false=false->W.cell? ⟨k+3,0,none⟩=some F)/\(l.getD 15 false=false->W.cell? ⟨k+3,1,none⟩=some E)/\W.rangeAt D 0 (aA X)/\W.rangeAt A 0 (aA Y)):=λi h1 h2 l W h=>⟨λe=>h.1 (by rw[XW false h1];exact e),λe=>h.2.1 (by rw[XW false h2];exact e),h.2.2⟩
   have mS:∀(l:Array Bool) (W:Ut),(W.cell? ⟨k+3,0,none⟩=some F/\W.cell? ⟨k+3,1,none⟩=some E/\W.rangeAt D 0 (aA X)/\W.rangeAt A 0 (aA Y))->((l.getD 13 false=false->W.cell? ⟨k+3,0,none⟩=some F)/\(l.getD 15 false=false->W.cell? ⟨k+3,1,none⟩=some E)/\W.rangeAt D 0 (aA X)/\W.rangeAt A 0 (aA Y)):=λl W h=>⟨λ_=>h.1,λ_=>h.2.1,h.2.2⟩
   refine anyS.begin (λl W=>(l.getD 13 false=false->W.cell? ⟨k+3,0,none⟩=some F)/\(l.getD 15 false=false->W.cell? ⟨k+3,1,none⟩=some E)/\W.rangeAt D 0 (aA X)/\W.rangeAt A 0 (aA Y)) kR ?_;have bS:∀(p:Nat),Bef (λl W=>(yBU l 13 false=false->V1 W ⟨k+3,0,none⟩=some F)/\(yBU l 15 false=false->V1 W ⟨k+3,1,none⟩=some E)/\Y5 W D 0 (aA X)/\Y5 W A 0 (aA Y)) p W9.drew:=λp=>⟨#[],by simp,mS _ _ S9⟩
   refine anyS.val (i:=0) (d:=some 46) (x:=.pointer (some ⟨k+3,0,none⟩)) rfl 13 (h9 0 dC dC) (bS 13) (mS _ _ S9) ?_;refine anyS.cel (i:=1) (d:=some 47) (x:=F) rfl 13 (h9 1 dC dC) 24 46 (k+3) 0 rfl uLL (λW ⟨l,e,h⟩=>h.1 e) (bS 13) (mS _ _ S9) ?_;refine anyS.row (i:=2) (d:=some 48) (cs:=aA X) rfl 13 (h9 2 dC dC) 103 13 D 0 dP rfl k2 hw kf (λW ⟨l,e,h⟩=>h.2.2.1) (bS 13) (mS _ _ S9) ?_;refine anyS.val (i:=6) (d:=some 52) (x:=.pointer (some ⟨k+3,1,none⟩)) rfl 13 (h9 6 dC dC) (bS 13) (mS _ _ S9) ?_;refine anyS.cel (i:=7) (d:=some 53) (x:=E) rfl 15 (h9 7 dC dC) 24 52 (k+3) 1 rfl uLL (λW ⟨l,e,h⟩=>h.2.1 e) (bS 15) (mS _ _ S9) ?_;refine anyS.row (i:=8) (d:=some 54) (cs:=aA Y) rfl 14 (h9 8 dC dC) 103 14 A 0 dP rfl k2 hw kk (λW ⟨l,e,h⟩=>h.2.2.2) (bS 14) (mS _ _ S9) ?_;refine anyS.cal (i:=3) (d:=some 49) rfl (gA h7.1 W9.drew) (λxa Wa hp=>?_);have Pa:=P9.grow hp.1;have Sa:=ka _ _ hp.1 z9.1 z9.2.1 z9.2.2 S9;have za:k+3<Wa.heap.size/\D<Wa.heap.size/\A<Wa.heap.size:=by have:=hp.1.size;omega
   obtain⟨gx,rfl⟩:=hp.2.2;have Ea:=hp.2.1.mono2 λg _ M=>P9.qn g M
   have d6:=mk2 hp.1 hp.2.1;refine⟨mS _ _ Sa,?_⟩;have bb:=aC Wa (.cells #[r33 gx] 23);have gu:=SL Ea Wa;have Pb:=Pa.grow bb;have Sb:=ka _ _ bb za.1 za.2.1 za.2.2 Sa;have zb:k+3<(Wa.alloc (.cells #[r33 gx] 23)).heap.size/\D<(Wa.alloc (.cells #[r33 gx] 23)).heap.size/\A<(Wa.alloc (.cells #[r33 gx] 23)).heap.size:=by have:=bb.size;omega
   have g9:=(aE Wa [r33 gx] 23).2.1 0 _ rfl;refine anyS.ins (i:=4) (d:=some 50) (v:=sZ Wa.heap.size 1 1) (w':=Wa.alloc (.cells #[r33 gx] 23)) (I:=VF 24 1 #[(0,r33 gx)]) rfl gu (mS _ _ Sb) ?_;obtain⟨R,Wc,ge,Pc,A1⟩:=P9.appL (ga:=Wa.heap.size) (gx:=gx) (d6.1.trans (bb.mono d6.1.size)) (by rw[ew];exact d6.2.keep (Kq.of_below bb)) g9 oM;have Sc:=d7 _ _ (A1.keep (k+3) zb.1 λe=>by have:=(Pb.tL.lt e).1;omega) (A1.keep D zb.2.1 λe=>by have:=bl.out _ (U6 e);omega) (A1.keep A zb.2.2 λe=>by have:=c3.out _ (U6 e);omega) Sb;have zc:k+3<Wc.heap.size/\D<Wc.heap.size/\A<Wc.heap.size:=by have:=A1.size;omega
   refine anyS.ins (i:=5) (d:=some 51) (v:=R) (w':=Wc) (I:=Vx #[24,24] 24 #[F,sZ Wa.heap.size 1 1]) rfl ge (mS _ _ Sc) ?_;refine anyS.val (i:=12) (d:=some 58) (x:=.pointer (some ⟨k+3,0,none⟩)) rfl 13 (h9 12 dC dC) ⟨#[],by simp,mS _ _ Sc⟩ (mS _ _ Sc) ?_;refine anyS.cal (i:=9) (d:=some 55) rfl (gA h7.2.1 Wc) (λxd Wd hu=>?_);have Pd:=Pc.grow hu.1;have Sd:=ka _ _ hu.1 zc.1 zc.2.1 zc.2.2 Sc;have zd:k+3<Wd.heap.size/\D<Wd.heap.size/\A<Wd.heap.size:=by have:=hu.1.size;omega
   obtain⟨gy,rfl⟩:=hu.2.2;have Ed:=hu.2.1.mono2 λg _ M=>Pc.qn g M
   have ci:=mk2 hu.1 hu.2.1;refine⟨mS _ _ Sd,?_⟩;have bd:=aC Wd (.cells #[r33 gy] 23);have dx:=SL Ed Wd;have Pe:=Pd.grow bd;have Se:=ka _ _ bd zd.1 zd.2.1 zd.2.2 Sd;have ze:k+3<(Wd.alloc (.cells #[r33 gy] 23)).heap.size/\D<(Wd.alloc (.cells #[r33 gy] 23)).heap.size/\A<(Wd.alloc (.cells #[r33 gy] 23)).heap.size:=by have:=bd.size;omega
   have gt:(Wd.alloc (.cells #[r33 gy] 23)).cell? ⟨Wd.heap.size,0,none⟩=some (r33 gy):=(aE Wd [r33 gy] 23).2.1 0 _ rfl;refine anyS.ins (i:=10) (d:=some 56) (v:=sZ Wd.heap.size 1 1) (w':=Wd.alloc (.cells #[r33 gy] 23)) (I:=VF 24 1 #[(0,r33 gy)]) rfl dx (mS _ _ Se) ?_;have g8:ElQ (Wc.heap.size<=·) 33 (Wd.alloc (.cells #[r33 gy] 23)) (r33 gy) (Rb i):=by rw[fr];exact ci.2.keep (Kq.of_below bd)
   have g6:i<=900:=oM;have dm:=Pc.appR (ga:=Wd.heap.size) (gx:=gy) (ci.1.trans (bd.mono ci.1.size)) g8 gt g6;obtain⟨T,Wf,gq,Pf,A2⟩:=dm;have Sf:=d7 _ _ (A2.keep (k+3) ze.1 λe=>by have:=(Pe.tR.lt e).1;omega) (A2.keep D ze.2.1 λe=>by have:=bl.out _ (U2 e);omega) (A2.keep A ze.2.2 λe=>by have:=c3.out _ (U2 e);omega) Se;have zf:D<Wf.heap.size/\A<Wf.heap.size:=by have:=A2.size;omega
   refine anyS.ins (i:=11) (d:=some 57) (v:=T) (w':=Wf) (I:=Vx #[24,24] 24 #[E,sZ Wd.heap.size 1 1]) rfl gq (mS _ _ Sf) ?_;have ki:=Pf.tL.one;have kp:=Pf.tR.one;obtain⟨-,i2,-,d9⟩:=Pf.r3;have ex:Wf.there (k+3) 0 1:=λj hj=>d9.2.2 j (Uz hj (Nat.succ_le_succ (Wz _)))
   have fn:Wf.there (k+3) 1 1:=λj hj=>by
    have kr:j=0:=oM;subst kr;exact d9.2.2 1 (yBg (Zd _))
   have g7:D≠k+3:=by have:=fe.1;omega
   have gr:A≠k+3:=by have:=fe.2;omega
   have rg:∀(o:Nat) (x:Uv) (W:Ut),W.rangeAt D 0 (aA X)/\W.rangeAt A 0 (aA Y)->(W.setCells (k+3) o [x]).rangeAt D 0 (aA X)/\(W.setCells (k+3) o [x]).rangeAt A 0 (aA Y):=λo x W h=>⟨Vq h.1 _ _ _ (U6 g7),Vq h.2 _ _ _ (U6 gr)⟩
   have cu:=(kS (x:=R) (o:=0) d9 (Zd _)).2.1 1 _ rfl;refine anyS.sto (i:=13) (d:=none) rfl 24 (.tmp 58) (.tmp 51) rfl (k+3) 0 R ki.1 ki.2 ex iLL ⟨λe=>absurd e (nfB kR),λ_=>cu,rg _ _ _ Sf.2.2⟩ ?_;refine anyS.nxt (i:=14) (d:=some 59) (x:=.pointer (some ⟨k+3,1,none⟩)) rfl ⟨λe=>absurd e (nfB kR),λ_=>cu,rg _ _ _ Sf.2.2⟩ ?_;refine anyS.sto (i:=15) (d:=none) rfl 24 (.tmp 59) (.tmp 57) rfl (k+3) 1 T kp.1 kp.2 (V7 fn _ _ _) iLL ⟨λe=>absurd e (nfB kR),λe=>absurd e (nfB kR),rg _ _ _ (rg _ _ _ Sf.2.2)⟩ ?_;simp only[UR,Uu,Uw,Ux];refine anyS.fin kR (λWg eg=>?_) _;have Pg:=Pf.put' eg;have ek:Wg.rangeAt D 0 (aA X)/\Wg.rangeAt A 0 (aA Y):=by rw[eg];exact rg 1 T _ (rg 0 R _ Sf.2.2)
   have zg:D<Wg.heap.size/\A<Wg.heap.size:=by rw[eg,setCells_size,setCells_size];exact zf
   clear Pf Sf ki kp ex fn rg cu zf mS h9 S9 P9 z9 ka d7 eg;have KG:=Hid.mk' (V4 Pg (V4 ek zg));clear Pg ek zg;obtain⟨dL,c8,bp⟩:=UA.1 uLg;have ct:Hid ((prog.underlying 145=some dL/\dL.isRow=true)/\prog.underlying 103=some dP/\dP.isRow=true):=⟨⟨c8,bp⟩,k2,hw⟩
   have k8:Hid ((prog.info? 103).map (·.size)=some (aA X).length/\(prog.info? 103).map (·.size)=some (aA Y).length):=⟨kf,kk⟩
   clear c8 bp k2 hw kf kk ew fr gh;obtain⟨pX,fs⟩:∃v,Hid (pvl X=v):=⟨_,rfl⟩
   obtain⟨pY,e5⟩:∃v,Hid (pvl Y=v):=⟨_,rfl⟩
   have ds:Hid (UK prog 146 #[vl,.string ⟨#[108,101,102,116]⟩,pX,.string ⟨#[114,105,103,104,116]⟩,pY] Wg (Ret λe w'=>SP.Only r 0 32 Wg w'/\Holds encB w' r 0 sx/\e=nv cx.val)):=by
    rw[<-b8.out,<-fs.out,<-e5.out];exact f0.out Wg KG.1.lg KG.1.ls
   go_wp2_with (first|(refine U8 rfl 145 (.tmp 4) rfl k 0 ?_ [jZ r] dL ?_ ?_ ?_ ?_ ?_;rfl;exact KG.1.r0.2.1;exact ct.1.1;exact ct.1.2;exact iLg;rw[show U5 [jZ r].toArray=vl from b8.out])|(refine ldR 13 KG.2.1.1 fs uCP k8.1 ?_)|(refine ldR 14 KG.2.1.2 e5 uCP k8.2 ?_)|fail)
   refine ds.mono ?_;rintro e Wh ⟨uu,rfl,e8,f6,rfl⟩;have e6:Hid (Ph w Wh r k (i+1) (i+1) (m+m) R T R T v (.slice (some ⟨ga,oa,none⟩) (m+m) ca) (.slice (some ⟨Z,ob,none⟩) (m+m) J) Lb Rb sx (λj=>(L.a j).val) (λj=>(L.b j).val) G H U):=KG.1.say e8 f6 fa.2;clear e8 f6 ds KG ct k8 f0;obtain⟨x,he⟩:∃x,Hid (cx.val=x):=⟨_,rfl⟩
   obtain⟨xi,h6⟩:∃x,Hid ((ivF cx).val=x):=⟨_,rfl⟩
   have e4:Hid (∀W:Ut,UK prog 159 #[nv x] W (rZ W λe w'=>e=nv xi)):=by
    rw[<-he.out,<-h6.out];exact λW=>uR HF.2.1 cx.val cx.isLt W
   rw[he.out];obtain⟨b5,bc⟩:∃b,Hid (Wh.heap.size=b):=⟨_,rfl⟩
   obtain⟨Wi,dd⟩:∃W,Hid (Wh.alloc (.cells #[uZ 0,uZ 0,uZ 0,uZ 0] 49)=W):=⟨_,rfl⟩
   obtain⟨Wj,kw⟩:∃W,Hid (Wi.setCells b5 0 (wn x)=W):=⟨_,rfl⟩
   have Fi:Hid (Row Wi b5 [uZ 0,uZ 0,uZ 0,uZ 0]/\kZ Wh Wi):=by rw[<-dd.out,<-bc.out];exact⟨aE Wh _ _,aC _ _⟩
   have bj:kZ Wh Wj:=by rw[<-kw.out];exact RG.below_setCells (by rw[bc.out];exact Uy _) _ _ _ Fi.2
   have Kj:Hid (Ph w Wj r k (i+1) (i+1) (m+m) R T R T v (.slice (some ⟨ga,oa,none⟩) (m+m) ca) (.slice (some ⟨Z,ob,none⟩) (m+m) J) Lb Rb sx (λj=>(L.a j).val) (λj=>(L.b j).val) G H U/\Row Wj b5 (wn x)):=⟨e6.grow bj,by rw[<-kw.out];exact Fi.1.put rfl⟩
   obtain⟨vx,ba⟩:∃v,Hid (nv x=v):=⟨_,rfl⟩
   have bg:Hid (∀W:Ut,UK prog 159 #[vx] W (rZ W λe w'=>e=nv xi)):=by rw[<-ba.out];exact e4.out
   rw[ba.out];clear bj e6 e4;go_wp2_with (first|(refine alR 15 bc dd ?_)|(refine stR 15 kw ba Fi.1.2.2 nSc (aM x) ?_)|(refine ldR 15 Kj.2.2.1 ba rSc nSc ?_)|fail)
   refine(bg Wj).mono ?_;rintro e Wk ⟨uu,rfl,h4,rfl⟩;obtain⟨b6,b7⟩:∃b,Hid (Wk.heap.size=b):=⟨_,rfl⟩
   obtain⟨Wl,d4⟩:∃W,Hid (Wk.alloc (.cells #[uZ 0,uZ 0,uZ 0,uZ 0] 49)=W):=⟨_,rfl⟩
   obtain⟨Wm,ku⟩:∃W,Hid (Wl.setCells b6 0 (wn xi)=W):=⟨_,rfl⟩
   have Fl:Hid (Row Wl b6 [uZ 0,uZ 0,uZ 0,uZ 0]/\kZ Wk Wl):=by rw[<-d4.out,<-b7.out];exact⟨aE Wk _ _,aC _ _⟩
   have bm:kZ Wj Wm:=by
    have:kZ Wk Wm:=by rw[<-ku.out];exact RG.below_setCells (by rw[b7.out];exact Uy _) _ _ _ Fl.2
    exact h4.trans (this.mono h4.size)
   have Km:Hid (Ph w Wm r k (i+1) (i+1) (m+m) R T R T v (.slice (some ⟨ga,oa,none⟩) (m+m) ca) (.slice (some ⟨Z,ob,none⟩) (m+m) J) Lb Rb sx (λj=>(L.a j).val) (λj=>(L.b j).val) G H U/\Row Wm b5 (wn x)/\Row Wm b6 (wn xi)):=⟨Kj.1.grow bm,Kj.2.below bm,by rw[<-ku.out];exact Fl.1.put rfl⟩
   obtain⟨vi,dq⟩:∃v,Hid (nv xi=v):=⟨_,rfl⟩
   rw[dq.out];clear bm h4 Kj Fi bg dd kw bc;go_wp2_with (first|(refine alR 16 b7 d4 ?_)|(refine stR 16 ku dq Fl.1.2.2 nSc (aM xi) ?_)|fail)
   clear Fl d4 ku b7;simp only[UR,Uu,Uw,Ux];have ky:x<N:=by rw[<-he.out];exact cx.isLt
   have kj:xi<N:=by rw[<-h6.out];exact(ivF cx).isLt
   have eu:sIn N x=xi:=by rw[<-he.out,<-h6.out];rfl
   have fq:GOk N (m+m) c G H U:=sM (by have:=sG.2.2.1;omega) sG.2.2.2.1 sG.2.2.2.2.1 sG.1 sG.2.1 HF.2.2.2.1 HF.2.2.2.2.1 HF.2.2.2.2.2.1;have PW:Hid (∀W,kZ Wm W->Ph w W r k (i+1) (i+1) (m+m) R T R T v (.slice (some ⟨ga,oa,none⟩) (m+m) ca) (.slice (some ⟨Z,ob,none⟩) (m+m) J) Lb Rb sx (λj=>(L.a j).val) (λj=>(L.b j).val) G H U):=λW K=>Km.1.grow K
   have cF:Hid ((∀W,kZ Wm W->UK prog 160 #[.slice (some ⟨ga,oa,none⟩) n ca,nv x,nv xi] W (rZ W λe w'=>SLq (QH r k R T) w' e m (nK N x xi m (λj=>(L.a j).val))))/\(∀W,kZ Wm W->UK prog 160 #[.slice (some ⟨Z,ob,none⟩) n J,nv xi,nv x] W (rZ W λe w'=>SLq (QH r k R T) w' e m (nK N xi x m (λj=>(L.b j).val))))/\(∀W,kZ Wm W->UK prog 161 #[v,nv x] W (rZ W λe w'=>GRq (QH r k R T) w' e m (lC N xi x m G) (lC N x xi m H) U))):=by
    rw[<-hn.out];refine⟨λW K=>?_,λW K=>?_,λW K=>?_⟩
    ·refine(JB HF.2.1 m (by have:=sG.2.2.2.2.2.1;omega) _ x xi ky kj (λj _=>(L.a j).isLt) _ W (PW W K).la).mono ?_;rintro e w' ⟨uu,rfl,h1,h2⟩;exact⟨_,rfl,h1,h2.mono λg M=>(PW W K).qn g M⟩
    ·refine(JB HF.2.1 m (by have:=sG.2.2.2.2.2.1;omega) _ xi x kj ky (λj _=>(L.b j).isLt) _ W (PW W K).lb).mono ?_;rintro e w' ⟨uu,rfl,h1,h2⟩;exact⟨_,rfl,h1,h2.mono λg M=>(PW W K).qn g M⟩
    ·have:=Fq HF.2.1 m c sG.2.2.1 G H U fq x ky v W (PW W K).qn (PW W K).gr;rw[eu]at this;exact this
   obtain⟨ev,e9,kl,f3,bk⟩:=Km.1.r1;have k4:Hid (v=.agg ev/\Row Wm (k+1) ev.toList/\(prog.info? 133).map (·.size)=some ev.toList.length/\ev.size=3):=⟨e9,bk,by rw[UL,kl];exact iGr,kl⟩
   clear e9 kl f3 bk ky kj eu fq;refine(gwL [pE (.slice (some ⟨ga,oa,none⟩) n ca),pE (nv x),pE (nv xi),RG.pS (QH r k R T) m (nK N x xi m (λj=>(L.a j).val)),pE (.slice (some ⟨Z,ob,none⟩) n J),pE (nv xi),pE (nv x),RG.pS (QH r k R T) m (nK N xi x m (λj=>(L.b j).val)),pE (.agg ev.toList.toArray),pE (nv x),pR (QH r k R T) m (lC N xi x m G) (lC N x xi m H) U] (λW=>kZ Wm W) (λW W' K h=>h.trans (K.mono h.size))).tail2 11 kR kR kR ⟨
    gO 2 (.slice (some ⟨ga,oa,none⟩) n ca),
    gLo 15 (λW S=>RG.range_below Km.2.1.2.1 S Km.2.1.1) rSc nSc,
    gLo 16 (λW S=>RG.range_below Km.2.2.2.1 S Km.2.2.1) rSc nSc,
    rF 0 66 1 67 2 68 160 (λx y z=>#[x,y,z]) (λa1 a2 a3 W h1 h2 h3 S=>by
     obtain rfl:a1=(.slice (some ⟨ga,oa,none⟩) n ca):=h1;obtain rfl:a2=nv x:=h2;obtain rfl:a3=nv xi:=h3;refine(cF.1 W S).mono ?_;rintro e W' ⟨uu,rfl,K,hs⟩;exact⟨_,rfl,K,hs⟩),
    gO 3 (.slice (some ⟨Z,ob,none⟩) n J),
    gLo 16 (λW S=>RG.range_below Km.2.2.2.1 S Km.2.2.1) rSc nSc,
    gLo 15 (λW S=>RG.range_below Km.2.1.2.1 S Km.2.1.1) rSc nSc,
    rF 4 70 5 71 6 72 160 (λx y z=>#[x,y,z]) (λa1 a2 a3 W h1 h2 h3 S=>by
     obtain rfl:a1=(.slice (some ⟨Z,ob,none⟩) n J):=h1;obtain rfl:a2=nv xi:=h2;obtain rfl:a3=nv x:=h3;refine(cF.2.1 W S).mono ?_;rintro e W' ⟨uu,rfl,K,hs⟩;exact⟨_,rfl,K,hs⟩),
    iE 133 5 (k+1) 0 ev.toList uGr k4.2.2.1 kR (λW S=>RG.range_below k4.2.1.2.1 S k4.2.1.1) (λ_=>rfl),
    gLo 15 (λW S=>RG.range_below Km.2.1.2.1 S Km.2.1.1) rSc nSc,
    eD 8 74 9 75 161 (λx y=>#[x,y]) (λa1 a2 W h1 h2 S=>by
     obtain rfl:a1=v:=(show a1=.agg ev.toList.toArray from h1).trans k4.1.symm;obtain rfl:a2=nv x:=h2;refine(cF.2.2 W S).mono ?_;rintro e W' ⟨uu,rfl,K,hs⟩;exact⟨_,rfl,K,hs⟩),yCm⟩ (UT _ _).drew ?_
   intro V Wn hR S;have cz:SLq (QH r k R T) Wn (V 3) m (nK N x xi m (λj=>(L.a j).val)):=hR 3 dC;have d2:SLq (QH r k R T) Wn (V 7) m (nK N xi x m (λj=>(L.b j).val)):=hR 7 dC;have k3:GRq (QH r k R T) Wn (V 10) m (lC N xi x m G) (lC N x xi m H) U:=hR 10 dC;obtain⟨ef,de,km,bo⟩:=k3.ar;rw[de]at k3;dsimp only[bU,VO,Xn,Xo];simp only[UR,Uu,Uw,Ux];rw[de];generalize V 3=na at cz⊢;generalize V 7=nb at d2⊢;have Pn:=(PW Wn S).next cz d2 k3;obtain⟨Wo,ft⟩:∃W,Hid (Wn.setCells (k+1) 0 ef.toList=W):=⟨_,rfl⟩
   rw[ft.out]at Pn;have cy:Hid (Wn.there (k+1) 0 ef.size/\(prog.info? 133).map (·.size)=some ef.size/\ef.all (·.oneCell')=true):=by
    refine⟨?_,by rw[km];exact iGr,bo⟩;rw[km];have:=(k4.2.1.below S).2.2;rw[UL,k4.2.2.2]at this;exact this
   have bz:(aD C f).qS (chF N) ivF u m L=⟨sx,Md.fS cx (ivF cx) m L.a,Md.fS (ivF cx) cx m L.b,(aD C f).fP (ivF cx) cx m L.g,(aD C f).fP cx (ivF cx) m L.h⟩:=by
    unfold Md.qS;rw[fa.1]
   have ff:Hid (∃F E v G H,Gd N (2^(t-(i+1))) (2^(i+1)) G ((aD C f).pst (chF N) ivF u t q (i+1)).g/\Gd N (2^(t-(i+1))) (2^(i+1)) H ((aD C f).pst (chF N) ivF u t q (i+1)).h/\Ph w Wo r k (i+1) (i+1) (2^(t-(i+1))) F E F E v na nb Lb Rb ((aD C f).pst (chF N) ivF u t q (i+1)).s (λj=>(((aD C f).pst (chF N) ivF u t q (i+1)).a j).val) (λj=>(((aD C f).pst (chF N) ivF u t q (i+1)).b j).val) G H U):=by
    show ∃F E v G H,_;rw[HS.1,bz,HE.1,HE.2];have ea:nK N x xi m (λj=>(L.a j).val)=λj=>(Md.fS cx (ivF cx) m L.a j).val:=by
     rw[<-he.out,<-h6.out];funext j;exact Cw cx (ivF cx) m L.a j
    have eb:nK N xi x m (λj=>(L.b j).val)=λj=>(Md.fS (ivF cx) cx m L.b j).val:=by
     rw[<-he.out,<-h6.out];funext j;exact Cw (ivF cx) cx m L.b j
    rw[ea,eb]at Pn;have g1:=sG.1.fold C f (ivF cx) cx;have g2:=sG.2.1.fold C f cx (ivF cx);rw[he.out,h6.out]at g1 g2;exact⟨_,_,_,_,_,g1,g2,Pn⟩
   obtain⟨vf,fm⟩:∃v,Hid (U5 ef=v):=⟨_,rfl⟩
   rw[fm.out];clear hR S cz d2 k3 de km bo Pn bz cF PW Km;generalize V 0=q0;generalize V 1=q1;generalize V 2=q2;generalize V 4=q4;generalize V 5=q5;generalize V 6=q6;generalize V 8=q8;generalize V 9=q9;go_wp2_with (first|(refine U3 rfl 133 (.tmp 5) _ rfl (k+1) 0 ef ?_ ?_ ?_ ?_ ?_ ?_;rfl;exact fm.symm;exact cy.1;exact cy.2.1;exact cy.2.2;rw[ft.out])|fail)
   go_roundg (gk-1)
   case measure=>have:=HI.out;omega
   case rel=>exact⟨i+1,by have:=HI.out;omega,ff⟩
  ·have fx:i=t:=oM;subst fx;obtain⟨F,E,v,G,H,-,-,h0⟩:=KM.out;clear KM;rw[Nat.sub_self,Nat.pow_zero]at h0;obtain⟨ga,oa,ca,rfl,-,qa,en,X⟩:=id h0.la;obtain⟨Z,ob,J,rfl,-,qb,ee,V⟩:=id h0.lb;have X:=X 0 dC;have V:=V 0 dC;obtain⟨a0,cp⟩:∃a,Hid ((((aD C f).pst (chF N) ivF u i q i).a 0).val=a):=⟨_,rfl⟩
   obtain⟨b0,da⟩:∃a,Hid ((((aD C f).pst (chF N) ivF u i q i).b 0).val=a):=⟨_,rfl⟩
   have X:wr.rangeAt ga (oa+4*0) (wn a0):=by rw[<-cp.out];exact X
   have V:wr.rangeAt Z (ob+4*0) (wn b0):=by rw[<-da.out];exact V
   have ep:Hid (a0<N/\b0<N):=⟨by rw[<-cp.out];exact Fin.isLt _,by rw[<-da.out];exact Fin.isLt _⟩
   have KP:=Hid.mk' h0;have KR:Hid (wr.rangeAt ga (oa+4*0) (wn a0)/\wr.rangeAt Z (ob+4*0) (wn b0)/\ga<wr.heap.size/\Z<wr.heap.size):=⟨X,V,en,ee⟩
   have hz:k+4<=wr.heap.size:=h0.r3.1;have d1:=Hid.mk' hz;obtain⟨dS,k7,Y⟩:=UA.1 rSc;have na:ga≠k+3:=by have:=qa.2.1;omega
   have nb:Z≠k+3:=by have:=qb.2.1;omega
   have L:∀W,kZ wr W->W.rangeAt ga (oa+4*0) (wn a0)/\W.rangeAt Z (ob+4*0) (wn b0):=λW K=>⟨RG.range_below X K en,RG.range_below V K ee⟩
   have cj:∀(o:Nat) (x:Uv) (W:Ut),W.rangeAt ga (oa+4*0) (wn a0)/\W.rangeAt Z (ob+4*0) (wn b0)->(W.setCells (k+3) o [x]).rangeAt ga (oa+4*0) (wn a0)/\(W.setCells (k+3) o [x]).rangeAt Z (ob+4*0) (wn b0):=λo x W h=>⟨Vq h.1 _ _ _ (U6 na),Vq h.2 _ _ _ (U6 nb)⟩
   have bd:kZ wr wr.drew:=(UT _ _).drew;clear h0 hz hi;go_wp2_with fail
   refine anyS.begin (λ_ W=>W.rangeAt ga (oa+4*0) (wn a0)/\W.rangeAt Z (ob+4*0) (wn b0)) kR ?_;have bS:Bef (λ_ W=>Y5 W ga (oa+4*0) (wn a0)/\Y5 W Z (ob+4*0) (wn b0)) 11 wr.drew:=⟨#[],by simp,L _ bd⟩
   refine anyS.val (i:=0) (d:=some 77) (x:=.slice (some ⟨ga,oa,none⟩) 1 ca) rfl 11 (λ_ _ h=>h) bS (L _ bd) ?_;simp only[UR,Uu,Uw,Ux];refine anyS.val (i:=1) (d:=some 78) (x:=.pointer (some ⟨ga,oa+4*0,none⟩)) rfl 11 (λ_ _ h=>h) bS (L _ bd) ?_ (hv:=hvI (lH ga oa 1 ca 0 dC) kR);simp only[UR,Uu,Uw,Ux];refine anyS.row (i:=2) (d:=some 79) (cs:=wn a0) rfl 11 (λ_ _ h=>h) 49 78 ga (oa+4*0) dS rfl k7 Y nSc (λW ⟨l,e,h⟩=>h.1) bS (L _ bd) ?_;simp only[UR,Uu,Uw,Ux];refine anyS.val (i:=4) (d:=some 81) (x:=(.slice (some ⟨Z,ob,none⟩) 1 J)) rfl 11 (λ_ _ h=>h) bS (L _ bd) ?_;simp only[UR,Uu,Uw,Ux];refine anyS.val (i:=5) (d:=some 82) (x:=.pointer (some ⟨Z,ob+4*0,none⟩)) rfl 11 (λ_ _ h=>h) bS (L _ bd) ?_ (hv:=hvI (lH Z ob 1 J 0 dC) kR);simp only[UR,Uu,Uw,Ux];refine anyS.row (i:=6) (d:=some 83) (cs:=wn b0) rfl 11 (λ_ _ h=>h) 49 82 Z (ob+4*0) dS rfl k7 Y nSc (λW ⟨l,e,h⟩=>h.2) bS (L _ bd) ?_;simp only[UR,Uu,Uw,Ux];clear bS;refine anyS.cal (i:=3) (d:=some 80) rfl (fX HF.2.1 ep.1 wr.drew) (λxA W1 ke=>?_);obtain⟨D,rfl⟩:=ke.2.2;have bA:kZ wr W1:=bd.trans ke.1;refine⟨L _ bA,?_⟩;simp only[UR,Uu,Uw,Ux];refine anyS.val (i:=8) (d:=some 85) (x:=.pointer (some ⟨k+3,2,none⟩)) rfl 11 (λ_ _ h=>h) ⟨#[],by simp,L _ bA⟩ (L _ bA) ?_;simp only[UR,Uu,Uw,Ux];have P1:=KP.grow bA;have lA:wr.heap.size<=D/\D<W1.heap.size:=by
    obtain⟨k1,c1,e1,-,-,q1,l1,-⟩:=ke.2.1;obtain rfl:D=k1:=UP.inj (congrArg V9 e1);exact⟨q1,l1⟩
   have e7:ElQ (k+4<=·) 32 W1 (r32 D) (bx a0):=ke.2.1.mono2 λg _ M=>UE d1.out M
   have R:∀(W:Ut) (o:Nat) (x:Uv),Kq (k+4<=·) W (W.setCells (k+3) o [x]):=λW o x=>Kq.set λg M e=>oM
   have S:∀g,F.ownBlock=some g->g<wr.heap.size/\g≠k+3:=λg M=>⟨(KP.tL.lt M).2,by have:=(KP.tL.lt M).1;omega⟩
   have T:∀g,E.ownBlock=some g->g<wr.heap.size/\g≠k+3:=λg M=>⟨(KP.tR.lt M).2,by have:=(KP.tR.lt M).1;omega⟩
   have key:∀(W:Ut),(∀g,g<wr.heap.size->g≠k+3->W.heap[g]? = wr.heap[g]?)->wr.heap.size<=W.heap.size->∀A,D<A->A<W.heap.size->DjF (k+4) W i F E (r32 D) (r32 A):=λW hk hs A h1 h2=>DjF.of KP.dj hs (λg M=>hk g (S g M).1 (S g M).2) (λg M=>hk g (T g M).1 (T g M).2) d1.out lA.1 h1 h2
   have dk:∀ {W:Ut},R3 W (k+3) F E->∃z,Row (W.setCells (k+3) 2 [r32 D]) (k+3) [F,E,r32 D,z]/\W.there (k+3) 2 1:=λh=>by
    obtain⟨-,rs,hl,hr⟩:=h;match rs,hl,hr with
    | [x,z],_,hr =>
     refine⟨z,kS (x:=r32 D) (o:=2) hr (YB rfl),λj hj=>?_⟩;have kr:j=0:=oM;subst kr;exact hr.2.2 2 (YB rfl)
   obtain⟨PH,p1,pF⟩:∃PH:Ut->Prop,(∀W W',kZ W1 W->W'=W.setCells (k+3) 2 [r32 D]->PH W'/\R3 W (k+3) F E)/\(∀W A,PH W->ElQ (k+4<=·) 32 (W.setCells (k+3) 3 [r32 A]) (r32 D) (bx a0)->ElQ (k+4<=·) 32 (W.setCells (k+3) 3 [r32 A]) (r32 A) (bx b0)->DjF (k+4) (W.setCells (k+3) 3 [r32 A]) i F E (r32 D) (r32 A)->Row (W.setCells (k+3) 3 [r32 A]) (k+2) [.slice none 0 0,.slice none 0 0,.slice none 0 0,.slice none 0 0]/\Row ((W.setCells (k+3) 3 [r32 A]).setCells (k+2) 0 [F,E,r32 D,r32 A]) (k+2) [F,E,r32 D,r32 A]/\PhR w r i Lb Rb ((aD C f).pst (chF N) ivF u i q i).s (bx a0) (bx b0) (.agg #[F,E,r32 D,r32 A]) ((W.setCells (k+3) 3 [r32 A]).setCells (k+2) 0 [F,E,r32 D,r32 A])):=⟨λW=>Ph w W r k i i 1 F E F E v (.slice (some ⟨ga,oa,none⟩) 1 ca) (.slice (some ⟨Z,ob,none⟩) 1 J) Lb Rb ((aD C f).pst (chF N) ivF u i q i).s (λj=>(((aD C f).pst (chF N) ivF u i q i).a j).val) (λj=>(((aD C f).pst (chF N) ivF u i q i).b j).val) G H U,λW W' K e=>by rw[e];exact⟨(P1.grow K).putA (o:=0) dC,(P1.grow K).r3⟩,λW A h e1 e2 e3=>(h.putA (o:=1) dC).fin e1 e2 e3⟩
   have lB:∀ {W W':Ut}{A:Nat}{b:Bs},ElQ (W.heap.size<=·) 32 W' (r32 A) b->W.heap.size<=A/\A<W'.heap.size:=λh=>by
    obtain⟨k1,c1,e1,-,-,q1,l1,-⟩:=h;obtain rfl:=UP.inj (congrArg V9 e1);exact⟨q1,l1⟩
   have kv:k+4<=W1.heap.size:=UE d1.out bA.size;refine anyS.cal (i:=7) (d:=some 84) rfl (fX HF.2.1 ep.2 W1) ?_;rintro v W' ⟨kt,db,A,rfl⟩;have bw:=bA.trans (kt.mono bA.size);obtain⟨ph,c0⟩:=p1 W' _ kt rfl;obtain⟨z,hz,ey⟩:=dk c0;have l2:=lB db;have e1:=(e7.keep (Kq.of_below kt)).keep (R W' 2 (r32 D));have e2:=(db.mono2 (Q':=(k+4<=·)) λg _ M=>UE kv M).keep (R W' 2 (r32 D));have e3:=key (W'.setCells (k+3) 2 [r32 D]) (λg h1 h2=>(aH (k+3) _ _ _ g h2).trans (bw.block g h1)) (by rw[setCells_size];exact bw.size) A (Uz lA.2 l2.1) (by rw[setCells_size];exact l2.2);have rr:=cj 2 (r32 D) _ (L _ bw);refine⟨L _ bw,?_⟩;simp only[UR,Uu,Uw,Ux];refine anyS.sto (i:=9) (d:=none) rfl 23 (.tmp 85) (.tmp 80) rfl (k+3) 2 (r32 D) rfl rfl ey iB1 rr ?_;simp only[UR,Uu,Uw,Ux];generalize W'.setCells (k+3) 2 [r32 D]=W at ph hz e1 e2 e3 rr⊢;have KF:=pF W A ph (e1.keep (R _ _ _)) (e2.keep (R _ _ _)) (e3.keep (Uy _) (by rw[setCells_size];exact Uy _) (λg M=>aH (k+3) _ _ _ g (S g M).2) (λg M=>aH (k+3) _ _ _ g (T g M).2));have dh:Row (W.setCells (k+3) 3 [r32 A]) (k+3) [F,E,r32 D,r32 A]:=kS (x:=r32 A) (o:=3) hz (YB rfl);have fj:W.there (k+3) 3 1:=λj hj=>by
    have kr:j=0:=oM;subst kr;exact hz.2.2 3 (YB rfl)
   refine anyS.nxt (i:=10) (d:=some 86) (x:=.pointer (some ⟨k+3,3,none⟩)) rfl rr ?_;simp only[UR,Uu,Uw,Ux];refine anyS.sto (i:=11) (d:=none) rfl 23 (.tmp 86) (.tmp 84) rfl (k+3) 3 (r32 A) rfl rfl fj iB1 (cj _ _ _ rr) ?_;simp only[UR,Uu,Uw,Ux];refine anyS.fin kR ?_ _;intro WZ fb;rw[<-fb]at KF dh;obtain⟨Wd,es⟩:=hE (WZ.setCells (k+2) 0 [F,E,r32 D,r32 A]);rw[es.out]at KF;have ON:Hid ((#[F,E,r32 D,r32 A]:Array Uv).all (·.oneCell')=true):=by show _=_;simp[KP.tL.one.2,KP.tR.one.2,e1.one.2,e2.one.2]
   have KF:=mk2 KF dh;obtain⟨dI,bh,c7⟩:=UA.1 Li;have er:=mk2 bh c7;obtain⟨vO,f5⟩:=hE (U5 #[F,E,r32 D,r32 A]);clear L cj bd KP P1 fb rr ph kt db bw dh ey l2 c0 e1 e2 e3 hz fj pF p1 key dk e7 R S T ke kv lA bh c7 k7 Y na nb qa qb;go_wp2_with (first|(refine U8 rfl 26 (.tmp 9) rfl (k+3) 0 ?_ [F,E,r32 D,r32 A] dI ?_ ?_ ?_ ?_ ?_;rfl;exact KF.2.2.1;exact er.1;exact er.2;exact Ji;rw[show U5 [F,E,r32 D,r32 A].toArray=vO from f5.out])|(refine U3 rfl 26 (.tmp 8) _ rfl (k+2) 0 #[F,E,r32 D,r32 A] ?_ ?_ ?_ ?_ ?_ ?_;rfl;exact f5.symm;exact KF.1.1.2.2;exact Ji;exact ON.out;rw[show(#[F,E,r32 D,r32 A]:Array Uv).toList=[F,E,r32 D,r32 A] from rfl,es.out])|fail)
   refine UH (aG 8 26 rfl KF.1.2.1 rfl Li Ji) rfl ?_;refine⟨_,rfl,?_⟩;have:=KF.1.2.2;rw[<-cp.out,<-da.out]at this;exact this
end
section
open Go.RowKit Go.Sort Go.Deep SPA
variable {P:Nat}[NeZero P]{N:Nat}
def hvA(n:Nat):Uv:=if n=1 then .tuple #[iZ 0,.bool true] else if n=2 then .tuple #[iZ 1,.bool true] else if n=4 then .tuple #[iZ 2,.bool true] else if n=8 then .tuple #[iZ 3,.bool true] else if n=16 then .tuple #[iZ 4,.bool true] else if n=32 then .tuple #[iZ 5,.bool true] else if n=64 then .tuple #[iZ 6,.bool true] else .tuple #[iZ 0,.bool false]
theorem PC(n:Nat)(d:n=1\/n=2\/n=4\/n=8\/n=16\/n=32\/n=64\/n=128)(w:Ut):UK prog 57 #[iZ n] w (rZ w λe w'=>e=hvA n):=by
 obtain⟨b,k⟩:∃b,b=n:=⟨_,rfl⟩
 rcases d with rfl|rfl|rfl|rfl|rfl|rfl|rfl|rfl
 all_goals
  go_enter func57,ntmps57;go_wp2;go_loopg [5] 7 (λm s5 W=>W=w/\((m=7/\s5=iZ 0)\/(m=6/\s5=iZ 1/\1<b)\/(m=5/\s5=iZ 2/\2<b)\/(m=4/\s5=iZ 3/\4<b)\/(m=3/\s5=iZ 4/\8<b)\/(m=2/\s5=iZ 5/\16<b)\/(m=1/\s5=iZ 6/\32<b)\/(m=0/\s5=iZ 7/\64<b)))
  case atStart=>exact⟨rfl,U6 ⟨rfl,rfl⟩⟩
  case round =>
   obtain⟨rfl,h⟩:=hrel;rcases h with⟨rfl,rfl⟩|⟨rfl,rfl,c⟩|⟨rfl,rfl,c⟩|⟨rfl,rfl,c⟩|⟨rfl,rfl,c⟩|⟨rfl,rfl,c⟩|⟨rfl,rfl,c⟩|⟨rfl,rfl,c⟩
   all_goals
    first
     | (exfalso;omega)
     | skip
   all_goals
    go_wp2;first
     | (go_ret2;exact⟨_,rfl,UT _ _,rfl⟩)
     | (go_roundg 6;(case measure=>omega);(case rel=>exact⟨rfl,by simp[k]⟩))
     | (go_roundg 5;(case measure=>omega);(case rel=>exact⟨rfl,by simp[k]⟩))
     | (go_roundg 4;(case measure=>omega);(case rel=>exact⟨rfl,by simp[k]⟩))
     | (go_roundg 3;(case measure=>omega);(case rel=>exact⟨rfl,by simp[k]⟩))
     | (go_roundg 2;(case measure=>omega);(case rel=>exact⟨rfl,by simp[k]⟩))
     | (go_roundg 1;(case measure=>omega);(case rel=>exact⟨rfl,by simp[k]⟩))
     | (go_roundg 0;(case measure=>omega);(case rel=>exact⟨rfl,by simp[k]⟩))
end
section
open Go.RowKit Go.Sort Go.Deep SPA
variable {P:Nat}[NeZero P]{N:Nat}[NeZero N]
noncomputable def gPt (C:Fld P) (lb:ByteArray) (i:Nat):OnP P:=⟨.some (hpt P lb (iC i).toList),AZ C lb _⟩
noncomputable def lPt (C:Fld P) (lb:ByteArray) (x:List UInt8):OnP P:=⟨.some (hpt P lb x),AZ C lb x⟩
noncomputable def uPt (C:Fld P):OnP P:=lPt C ⟨#[105,110,110,101,114]⟩ []
omit [NeZero N] in
theorem Nx(C:Fld P)(k:1<N)(lb:ByteArray)(i:Nat):Tl N [(1,hpN P lb i)] (gPt C lb i):=Tl.one C k (gPt C lb i)
omit [NeZero N] in
theorem QJ(C:Fld P)(k:1<N)(lb:ByteArray)(x:List UInt8):Tl N [(1,wr (.some (hpt P lb x):EC.Pt P))] (lPt C lb x):=Tl.one C k (lPt C lb x)
omit [NeZero N] in
theorem uY(C:Fld P)(k:1<N)(n:Nat):Gd N n 1 (gGT P) (gPt C ⟨#[108,101,102,116]⟩):=⟨λi _=>Nx C k _ i,λ_ _=>rfl⟩
omit [NeZero N] in
theorem nJ(C:Fld P)(k:1<N)(n:Nat):Gd N n 1 (hGT P) (gPt C ⟨#[114,105,103,104,116]⟩):=⟨λi _=>Nx C k _ i,λ_ _=>rfl⟩
omit [NeZero N] in
theorem mQ(C:Fld P)(k:1<N):Tl N (uGT P) (uPt C):=QJ C k _ _
omit [NeZero N] in
theorem Ki(O:Ord N)(n cap:Nat)(p:n<=512)(q:Option Wv)(L:Nat->Bs)(a:Nat->Nat)(w:Ut)(o:Args w q n L)(f:∀j,j<n->rq N (L j)=some (a j)):UK prog 121 #[(.func (.func 16) #[] #[]),.slice q n cap] w (rZ w λe w'=>∃k,e=.tuple #[sZ k n n,.bool true]/\SLq (w.heap.size<=·) w' (sZ k n n) n a):=by
 refine(Np O n cap p q L w o).mono ?_;rintro e w' ⟨v,rfl,h⟩;rcases h with⟨⟨j,l,g⟩,-⟩|⟨-,k,r,b,hR,rfl⟩
 ·rw[f j l]at g;cases g
 ·refine⟨_,rfl,b.bel,k,rfl,k,0,n,rfl,Uy _,b.le,b.lt,λj d t u i=>?_⟩;have m:=(UG.1 i).1;have c:=hR.row j t d m;rw[f j d]at c;have:=b.range (4*j+t) u (by rw[c];exact i);rw[show 0+(4*j+t)=0+4*j+t by omega]at this;exact this
theorem Pw(t:Nat)(k:t<=6):hvA (2^t)=.tuple #[iZ t,.bool true]:=by
 match t,k with
 | 0,_=>rfl
 | 1,_=>rfl
 | 2,_=>rfl
 | 3,_=>rfl
 | 4,_=>rfl
 | 5,_=>rfl
 | 6,_=>rfl
 | n+7,h=>omega
theorem OV(t:Nat)(k:t<=6):2^t=1\/2^t=2\/2^t=4\/2^t=8\/2^t=16\/2^t=32\/2^t=64\/2^t=128:=by
 match t,k with
 | 0,_=>decide
 | 1,_=>decide
 | 2,_=>decide
 | 3,_=>decide
 | 4,_=>decide
 | 5,_=>decide
 | 6,_=>decide
 | n+7,h=>omega
theorem anyS.sta{P:VD}{c:Array Vk}{Q:X9->Act->Ut->Prop}{S:Array Bool->Ut->Prop}{i e:Nat}{o:Vk}{k:Array Bool}{a:Act}{w:Ut}{d:Option WF}(ho:c[i]? = some o)(g:Vb)(x y:XM)(j:o.op=.store g x y)(b off:Nat)(us:Array Uv)(n:us.all (·.oneCell')=true)(p:w.there b off us.size)(s:(P.info? g).map (·.size)=some us.size)
 (q:S (k.setIfInBounds i true) (w.setCells b off us.toList)) (h:anyS P c Q S e (k.setIfInBounds i true) (a.put d WJ) (w.setCells b off us.toList)) (hx:a.eval x=oZ b off:=by kernel_rfl) (r:a.eval y=.agg us:=by kernel_rfl)
 (f:U7 .any c k=[i]:=by kernel_rfl) (m:o.guard=none:=by rfl) (hd:o.dst=d:=by kernel_rfl):anyS P c Q S (e+1) k a w:=by
 subst hd;exact anyS.step ho f λK l=>by
  rw[yCk (bI m _)];have f:=yAf (P:=P) w b off g us p s n;unfold VT U9;simp only[j,hx,r,Y6,Yy,UW,WA,Vr,f];exact l.out _ _ q h
theorem ElQ.off{Q:Nat->Prop}{m k:Nat}{W:Ut}{x:Uv}{b:Bs}{vs:List Uv}(h:ElQ Q m W x b)(q:0<m)(l:Row W k (.slice none 0 0 :: vs)):ElQ (·≠k) m W x b:=by
 obtain⟨g,c,j,o,i,p,n,f⟩:=h;refine⟨g,c,j,o,i,?_,n,f⟩;rintro rfl;have d:=(f 0 oM).1;have e:=l.2.1 0 _ rfl;rw[show(0+0:Nat)=0 from rfl]at d e;rw[e]at d;cases d
theorem wX{w W:Ut}{r o m B:Nat}(h:SP.Only r o m w W)(c:B<=w.heap.size)(b:B<=r):Below B w W:=⟨h.os,h.tape,h.output,h.size,λg k=>h.block g oM oM⟩
end
section
open Go Go.RowKit
structure Iv where
 p:Ut->Prop
 gr:∀W W',kZ W W'->p W->p W'
 b:Bool
abbrev Iv.bel(k:Ut):Iv:=⟨λW=>kZ k W,λ_ _ b h=>h.trans (b.mono h.size),true⟩
abbrev Iv.only{r:Nat}{k:Ut}(b:r<k.heap.size):Iv:=⟨λW=>SP.Only r 0 32 k W,λ_ _ c h=>h.trans (SP.Only.of_below c rfl (Uz b h.size)),false⟩
section
variable {P:VD}{ops:Array Vk}{Q:X9->Act->Ut->Prop}{p r:Nat}{J:Iv}{W:Ut}
def Sa(p r:Nat)(J:Iv)(l:Array Bool)(W:Ut):Prop:=(J.b=true/\l.getD p false=true/\l.getD r false=true)\/J.p W
theorem Sa.back{i:Nat}(h:p≠i)(b:r≠i)(l:Array Bool)(W:Ut)(k:Sa p r J (l.setIfInBounds i true) W):Sa p r J l W:=by
 rcases k with k|k
 ·rw[XW false (YL h),XW false (YL b)]at k;exact U6 k
 ·exact U2 k
def qw(k:Array Vk)(b:Bool)(p r i:Nat):Nat:=bif b then bif waits k p i then p else r else((VB k.size).find? λj=>waits k j i).getD 0
theorem Sa.bel{i:Nat}(h:Bef (Sa p r J) (qw ops J.b p r i) W):J.p W:=by
 obtain⟨l,k,⟨d,b⟩|b⟩:=h
 ·exfalso;unfold qw at k;rw[d]at k;cases c:waits ops p i with
  | true=>rw[c]at k;exact YG (k.symm.trans b.1)
  | false=>rw[c]at k;exact YG (k.symm.trans b.2)
 ·exact b
theorem Sa.bef{q:Nat}(h:J.p W):Bef (Sa p r J) q W:=⟨#[],by simp,U2 h⟩
def AW(P:VD)(c:Array Vk)(Q:X9->Act->Ut->Prop)(p r:Nat)(J:Iv)(b:Nat)(k:Array Bool)(a:Act)(w:Ut):Prop:=J.p w->anyS P c Q (Sa p r J) b k a w
theorem AW.beg{a:Act}{w:Ut}(p r:Nat)(J:Iv)(k:J.p w.drew)(h:AW P ops Q p r J ops.size (UM ops.size false) a w.drew)(b:P.follows .mixedOrders=true:=by kernel_rfl):(V3 id ops true).wp P Q a w:=anyS.begin (Sa p r J) b (h k)
theorem AW.begin{a:Act}{w:Ut}(p r:Nat)(h:AW P ops Q p r (Iv.bel w) ops.size (UM ops.size false) a w.drew)(k:P.follows .mixedOrders=true:=by kernel_rfl):(V3 id ops true).wp P Q a w:=AW.beg p r (Iv.bel w) (UT _ w).drew h k
def aw1(b:Array Vk)(p r q i:Nat)(k:Array Bool):Bool:=waits b q i && XQ b && !(k.getD q false || q == i) && YX .any b k i && (U7 .any b k).contains i && !(p == i) && !(r == i)
def fw(k:Array Vk)(i:Nat):Nat:=((VB k.size).find? λj=>waits k j i).getD 0
variable {i fuel:Nat}{o:Vk}{listed:Array Bool}{a a':Act}{w w':Ut}{d:Option WF}{x v:Uv}{t:WF}{T:Vb}{b off:Nat}{cs:List Uv}
theorem AW.take(i q:Nat)(ho:ops[i]? = some o)(hd:o.dst=d)(u:YieldsIf P ops (Bef (Sa p r J) q) o x a)(n:a.put d x=a')(b:aw1 ops p r q i listed=true)(l:∀c a w,Q (.panic c) (a.put o.dst x) w->Q (.panic c) a w)(h:AW P ops Q p r J fuel (listed.setIfInBounds i true) a' w):AW P ops Q p r J (fuel+1) listed a w:=λk=>by
 subst n hd;simp only[aw1,UN,Bool.not_eq_true']at b;obtain⟨⟨⟨⟨⟨⟨g,s⟩,f⟩,j⟩,m⟩,t⟩,e⟩:=b;exact anyS.take (p:=q) ho (Sa.back (by simpa using t) (by simpa using e)) u (Sa.bef k) (U2 k) (h k) g s f j m l
theorem AW.va(i:Nat)(x:Uv)(h:AW P ops Q p r J fuel (listed.setIfInBounds i true) a' w)(ho:ops[i]? = some o:=by(simp only[Vm,Vf,Vl])<;>rfl)(hd:o.dst=d:=by rfl)(k:o.guard=none:=by rfl)(hv:∀w,(U9 a.eval o).run P w=.ok (.value x) w:=by intro _;kernel_rfl)
 (f:a.put d x=a':=by(simp only[UR,Uu,Uw,Ux])<;>rfl) (e:aw1 ops p r (fw ops i) i listed=true:=by kernel_rfl) (b:∀c a w,Q (.panic c) (a.put o.dst x) w->Q (.panic c) a w:=by exact λ_ _ _ h=>h):AW P ops Q p r J (fuel+1) listed a w:=
 AW.take i (fw ops i) ho hd (U6 ⟨bI k _,λw _=>hv w⟩) f e b h
theorem AW.iv(i:Nat)(k:∀w,I.run P w=.ok x w)(h:AW P ops Q p r J fuel (listed.setIfInBounds i true) a' w)(ho:ops[i]? = some o:=by(simp only[Vm,Vf,Vl])<;>rfl)(hd:o.dst=d:=by rfl)(b:o.guard=none:=by rfl)(j:U9 a.eval o=I >>= λv=>pure (Xq v):=by kernel_rfl)
 (g:a.put d x=a':=by(simp only[UR,Uu,Uw,Ux])<;>rfl) (e:aw1 ops p r (fw ops i) i listed=true:=by kernel_rfl) (f:∀c a w,Q (.panic c) (a.put o.dst x) w->Q (.panic c) a w:=by exact λ_ _ _ h=>h):AW P ops Q p r J (fuel+1) listed a w:=
 AW.take i (fw ops i) ho hd (U6 ⟨bI b _,λw _=>by rw[j,UW,k w];rfl⟩) g e f h
theorem P8{c:Array Vb}{s t k:WF}{y:Uv}(hf:∀args W,(callFunc f args).run P W=.ok (.enter f args) W)(ho:o.op=.call ⟨.value (.tmp s),#[.tmp t,.tmp k],c⟩)(b:a.eval (.tmp s)=.func (.func f) #[] #[])(hx:a.eval (.tmp t)=x)(d:a.eval (.tmp k)=y):(U9 a.eval o).run P w=.ok (.enter f #[x,y]) w:=by
 unfold U9;rw[ho];have e:(#[yBn t,yBn k].map a.eval)=#[x,y]:=by simp[hx,d]
 simp only[resolve,b,Deferred.ofValue,UW,WA,Vr,invoke,e];exact hf _ w
theorem AW.mv(i:Nat)(h:AW P ops Q p r J fuel (listed.setIfInBounds i true) a' w)(ho:ops[i]? = some o:=by(simp only[Vm,Vf,Vl])<;>rfl)(hd:o.dst=d:=by rfl)(b:o.guard=none:=by rfl)(k:o.op=.move (.tmp t):=by rfl)(hx:a.eval (.tmp t)=x:=by(conv=>lhs;whnf)<;>rfl)
 (g:a.put d x=a':=by(simp only[UR,Uu,Uw,Ux])<;>rfl) (f:aw1 ops p r (fw ops i) i listed=true:=by kernel_rfl) (e:∀c a w,Q (.panic c) (a.put o.dst x) w->Q (.panic c) a w:=by exact λ_ _ _ h=>h):AW P ops Q p r J (fuel+1) listed a w:=
 AW.take i (fw ops i) ho hd (U6 ⟨bI b _,λw _=>by unfold U9;rw[k];dsimp only;rw[hx];rfl⟩) g f e h
theorem AW.ce(i:Nat)(n:(P.underlying T).map (·.isRow)=some false)(f:∀W,J.p W->W.cell? ⟨b,off,none⟩=some x)(h:AW P ops Q p r J fuel (listed.setIfInBounds i true) a' w)(ho:ops[i]? = some o:=by(simp only[Vm,Vf,Vl])<;>rfl)(hd:o.dst=d:=by rfl)(g:o.guard=none:=by rfl)(k:o.op=.load T (.tmp t):=by rfl)(hx:a.eval (.tmp t)=oZ b off:=by rfl)
 (m:a.put d x=a':=by(simp only[UR,Uu,Uw,Ux])<;>rfl) (l:aw1 ops p r (qw ops J.b p r i) i listed=true:=by kernel_rfl) (j:∀c a w,Q (.panic c) (a.put o.dst x) w->Q (.panic c) a w:=by exact λ_ _ _ h=>h):AW P ops Q p r J (fuel+1) listed a w:=
 AW.take i (qw ops J.b p r i) ho hd (U6 ⟨bI g _,λw e=>by
  unfold U9;rw[k];dsimp only;rw[hx,UW,fE (f w (Sa.bel e)) n];rfl⟩) m l j h
theorem AW.ro(i:Nat)(s:∀W,J.p W->W.rangeAt b off cs)(hv:Hid (.agg cs.toArray=x))(v:(P.underlying T).map (·.isRow)=some true)(u:(P.info? T).map (·.size)=some cs.length)(h:AW P ops Q p r J fuel (listed.setIfInBounds i true) a' w)(ho:ops[i]? = some o:=by(simp only[Vm,Vf,Vl])<;>rfl)(hd:o.dst=d:=by rfl)(e:o.guard=none:=by rfl)(k:o.op=.load T (.tmp t):=by rfl)(hx:a.eval (.tmp t)=oZ b off:=by rfl)
 (n:a.put d x=a':=by(simp only[UR,Uu,Uw,Ux])<;>rfl) (j:aw1 ops p r (qw ops J.b p r i) i listed=true:=by kernel_rfl) (m:∀c a w,Q (.panic c) (a.put o.dst x) w->Q (.panic c) a w:=by exact λ_ _ _ h=>h):AW P ops Q p r J (fuel+1) listed a w:=by
 obtain rfl:=hv.out;obtain⟨l,g,q⟩:=UA.1 v;exact AW.take i (qw ops J.b p r i) ho hd (yieldsIf_load_mid (bI e _) T (.tmp t) k b off hx cs l (λw f=>s w (Sa.bel f)) g q u) n j m h
theorem AW.ca(i:Nat)(g:J.p w->UK P f args w (Ret R))(hR:∀e w',R e w'->kZ w w')(h:∀e w',R e w'->AW P ops Q p r J fuel (listed.setIfInBounds i true) (a.put d e) w')(ho:ops[i]? = some o:=by(simp only[Vm,Vf,Vl])<;>rfl)(hd:o.dst=d:=by rfl)(j:o.guard=none:=by rfl)(hx:(U9 a.eval o).run P w=.ok (.enter f args) w:=by kernel_rfl)(b:U7 .any ops listed=[i]:=by kernel_rfl):AW P ops Q p r J (fuel+1) listed a w:=λc =>
 anyS.cal ho (g c) (λe w' b=>by
  have k:=J.gr w w' (hR e w' b) c;exact⟨U2 k,h e w' b k⟩) b j hx hd
theorem AW.cw(i:Nat)(c:J.p w->UK P f args w (Ret R))(hR:∀e w',J.p w->R e w'->J.p w')(h:∀e w',R e w'->AW P ops Q p r J fuel (listed.setIfInBounds i true) (a.put d e) w')(ho:ops[i]? = some o:=by(simp only[Vm,Vf,Vl])<;>rfl)(hd:o.dst=d:=by rfl)(g:o.guard=none:=by rfl)(hx:(U9 a.eval o).run P w=.ok (.enter f args) w:=by kernel_rfl)(k:U7 .any ops listed=[i]:=by kernel_rfl):AW P ops Q p r J (fuel+1) listed a w:=λb =>
 anyS.cal ho (c b) (λe w' k=>⟨U2 (hR e w' b k),h e w' k (hR e w' b k)⟩) k g hx hd
theorem AW.gi(i:Nat)(k:J.p w->UK P f args w (rZ w λe w'=>e=x))(h:∀w',kZ w w'->AW P ops Q p r J fuel (listed.setIfInBounds i true) a' w')(ho:ops[i]? = some o:=by(simp only[Vm,Vf,Vl])<;>rfl)(hd:o.dst=d:=by rfl)(b:o.guard=none:=by rfl)(hx:(U9 a.eval o).run P w=.ok (.enter f args) w:=by kernel_rfl)
 (g:a.put d x=a':=by(simp only[UR,Uu,Uw,Ux])<;>rfl) (c:U7 .any ops listed=[i]:=by kernel_rfl):AW P ops Q p r J (fuel+1) listed a w:=AW.ca i k (λe w' h=>h.1) (λe w' hR=>by
 obtain⟨j,rfl⟩:=hR;subst g;exact h w' j) ho hd b hx c
theorem AW.ns(i:Nat)(hx:I.run P w=.ok x w')(b:kZ w w')(h:AW P ops Q p r J fuel (listed.setIfInBounds i true) a' w')(ho:ops[i]? = some o:=by(simp only[Vm,Vf,Vl])<;>rfl)(hd:o.dst=d:=by rfl)(c:o.guard=none:=by rfl)(g:U9 a.eval o=I >>= λv=>pure (Xq v):=by kernel_rfl)
 (j:a.put d x=a':=by(simp only[UR,Uu,Uw,Ux])<;>rfl) (e:U7 .any ops listed=[i]:=by kernel_rfl):AW P ops Q p r J (fuel+1) listed a w:=λf=>by
 subst j;have k:=J.gr w w' b f;exact anyS.ins ho hx (U2 k) (h k) e c g hd
theorem AW.nx(i:Nat)(x:Uv)(h:AW P ops Q p r J fuel (listed.setIfInBounds i true) a' w)(ho:ops[i]? = some o:=by(simp only[Vm,Vf,Vl])<;>rfl)(hd:o.dst=d:=by rfl)(b:o.guard=none:=by rfl)(hv:(U9 a.eval o).run P w=.ok (.value x) w:=by kernel_rfl)
 (e:a.put d x=a':=by(simp only[UR,Uu,Uw,Ux])<;>rfl) (c:U7 .any ops listed=[i]:=by kernel_rfl):AW P ops Q p r J (fuel+1) listed a w:=λk=>by
 subst e;exact anyS.nxt ho (U2 k) (h k) hv c b hd
theorem AW.dn(h:J.p w->Q .normal a w)(b:U7 .any ops listed=[]:=by kernel_rfl):AW P ops Q p r J fuel listed a w:=λk=>anyS.done b (h k) _
theorem AW.fi{k off:Nat}(hv:Hid (.agg us.toArray=v))(l:us.toArray.all (·.oneCell')=true)(j:(P.info? T).map (·.size)=some us.length)(h:J.p w->w.there k off us.length/\Q .normal a' (w.setCells k off us))(ho:ops[p]? = some o:=by(simp only[Vm,Vf,Vl])<;>rfl)(hd:o.dst=none:=by rfl)(d:o.guard=none:=by rfl){y:XM}(c:o.op=.store T (.tmp t) y:=by rfl)(hx:a.eval (.tmp t)=oZ k off:=by rfl)(m:a.eval y=v:=by rfl)
 (f:a.put none WJ=a':=by(simp only[UR])<;>rfl) (b:(U7 .any ops listed,U7 .any ops (listed.setIfInBounds p true),J.b,(listed.setIfInBounds p true).getD p false,(listed.setIfInBounds p true).getD r false)=([p],[],true,true,true):=by kernel_rfl):AW P ops Q p r J (fuel+1) listed a w:=λi=>by
 simp only[We.injEq]at b;obtain⟨e,g⟩:=h i;subst f;exact anyS.sta ho T (.tmp t) y c k off us.toArray l e j (U6 b.2.2) (anyS.done b.2.1 g _) hx (m.trans hv.out.symm) b.1 d hd
theorem AW.ss(i:Nat){k off:Nat}(hv:Hid (.agg us.toArray=v))(m:us.toArray.all (·.oneCell')=true)(l:(P.info? T).map (·.size)=some us.length)(n:Hid (w.setCells k off us=w'))(h:J.p w->w.there k off us.length/\J.p w')(s:AW P ops Q p r J fuel (listed.setIfInBounds i true) a' w')(ho:ops[i]? = some o:=by(simp only[Vm,Vf,Vl])<;>rfl)(hd:o.dst=none:=by rfl)(d:o.guard=none:=by rfl){y:XM}(b:o.op=.store T (.tmp t) y:=by rfl)(hx:a.eval (.tmp t)=oZ k off:=by rfl)(q:a.eval y=v:=by rfl)
 (g:a.put none WJ=a':=by(simp only[UR])<;>rfl) (f:U7 .any ops listed=[i]:=by kernel_rfl):AW P ops Q p r J (fuel+1) listed a w:=λj=>by
 obtain⟨e,c⟩:=h j;obtain rfl:=n.out;subst g;exact anyS.sta ho T (.tmp t) y b k off us.toArray m e l (U2 c) (s c) hx (q.trans hv.out.symm) f d hd
theorem AW.f2{us':List Uv}{k c:Nat}{A:Uv}{j:Vb}(hv:Hid (.agg us.toArray=v))(l:Hid (.agg us'.toArray=A))(U:us.toArray.all (·.oneCell')=true)(S:(P.info? T).map (·.size)=some us.length)(g:us'.toArray.all (·.oneCell')=true)(m:(P.info? j).map (·.size)=some us'.length)(h:J.p w->w.there k 0 us.length/\(w.setCells k 0 us).there c 0 us'.length/\Q .normal a' ((w.setCells k 0 us).setCells c 0 us'))(ho:ops[p]? = some o:=by(simp only[Vm,Vf,Vl])<;>rfl)(hd:o.dst=none:=by rfl)(D:o.guard=none:=by rfl){y:XM}(x:o.op=.store T (.tmp t) y:=by rfl)(hx:a.eval (.tmp t)=jZ k:=by rfl)(V:a.eval y=v:=by rfl)
 (K:a.put none WJ=a':=by(simp only[UR])<;>rfl){d:Vk}{u:XM}{q:WF}(s:ops[p+1]? = some d:=by(simp only[Vm,Vf,Vl])<;>rfl) (n:d.dst=none:=by rfl) (f:d.guard=none:=by rfl) (b:d.op=.store j (.tmp q) u:=by rfl) (e:a'.eval (.tmp q)=jZ c:=by rfl) (z:a'.eval u=A:=by rfl) (i:a'.put none WJ=a':=by rfl)
 (B:(U7 .any ops listed,U7 .any ops (listed.setIfInBounds p true),U7 .any ops ((listed.setIfInBounds p true).setIfInBounds (p+1) true),J.b,(listed.setIfInBounds p true).getD p false,(listed.setIfInBounds p true).getD r false,((listed.setIfInBounds p true).setIfInBounds (p+1) true).getD p false,((listed.setIfInBounds p true).setIfInBounds (p+1) true).getD r false)=([p],[p+1],[],true,true,true,true,true):=by kernel_rfl):AW P ops Q p r J (fuel+2) listed a w:=λO=>by
 simp only[We.injEq]at B;obtain⟨N,C,H,d,R,L,G,I⟩:=B;obtain⟨F,M,E⟩:=h O;subst K;exact anyS.sta ho T (.tmp t) y x k 0 us.toArray U F S (U6 ⟨d,R,L⟩) (anyS.sta s j (.tmp q) u b c 0 us'.toArray g M m (U6 ⟨d,G,I⟩) (anyS.done H (by rw[i];exact E) _) e (z.trans l.out.symm) C f n) hx (V.trans hv.out.symm) N D hd
end
end
section
open Go.RowKit Go.Sort Go.Deep
variable {P:Nat}[NeZero P]{N:Nat}
theorem uBy:(prog.underlying 23).map (·.isRow)=some false:=kR
theorem Uc(q:Option Wv)(n c k:Nat)(w:Ut):(VF 24 2 #[(0,.slice q n c),(1,sZ k 4 4)]).run prog w=.ok (sZ w.heap.size 2 2) (w.alloc (.cells #[.slice q n c,sZ k 4 4] 23)):=kR
theorem OZ{w:Ut}{u v:Uv}{x y:List UInt8}(d:PartOk w u x)(e:PartOk w v y)(T:Vb):PartsOk (w.alloc (.cells #[u,v] T)) (some (aZ w.heap.size)) [x,y]:=by
 have b:=aC w (.cells #[u,v] T);refine U2 ⟨_,_,rfl,λj k=>?_⟩;have c:=(aE w [u,v] T).2.1 j;match j,k with
 | 0,_=>exact⟨u,c u rfl,d.below b⟩
 | 1,_=>exact⟨v,c v rfl,e.below b⟩
theorem P4(O:Ord N)(b:ByteArray)(a:b.size<=1000)(j:List UInt8)(q:Option Wv)(n c i s l:Nat)(J:i<4294967296)(w:Ut)(A:s<w.heap.size)(B:l<w.heap.size)(c1:w.cell? ⟨s,0,none⟩=some (.string b))(c2:w.cell? ⟨l,0,none⟩=some (.slice q n c))(F:PartOk w (.slice q n c) j):
 UK prog 199 #[iZ i,jZ s,jZ l] w (rZ w λe w'=>e=nv (chL N b.data.toList [j,(iC i).toList])):=by
 obtain⟨k,u⟩:=hE (w.heap.size);obtain⟨H,d⟩:=hE (w.alloc (.cells (RG.z 4).toArray 49));have f:=aN u d;have y:=λ(W:Ut) (z:Option Wv) (h:PartsOk W z [j,(iC i).toList])=>CE O b z 2 2 [j,(iC i).toList] W oM rfl dC h
 generalize chL N b.data.toList [j,(iC i).toList]=x at y⊢;have C:=mk1 y;obtain⟨K,o⟩:=hE (nv x);rw[o.out]at C;clear y;go_enter func199,ntmps199;go_wp2_with (first|(refine alR 4 u d ?_)|fail)
 refine AW.begin 6 6 ?_;refine AW.ce 0 u9s (λW g=>by rw[g.cell (p:=⟨s,0,none⟩) (Uz A f.1.size),f.1.cell (p:=⟨s,0,none⟩) A];exact c1) ?_;refine AW.ce 1 uBy (λW g=>by rw[g.cell (p:=⟨l,0,none⟩) (Uz B f.1.size),f.1.cell (p:=⟨l,0,none⟩) B];exact c2) ?_;refine AW.mv 2 ?_;refine AW.ca 3 (λ_=>xB i J _) (λe w' h=>h.1) ?_;rintro e G ⟨t,r,rfl,I,v⟩;simp only[UR,Uu,Uw,Ux];refine AW.ns 4 (Uc q n c r G) (aC _ _) ?_;refine AW.gi 5 (λg=>C _ _ (OZ (F.below (f.1.trans (((UT _ H).drew.trans t).mono f.1.size))) (IP v) _)) ?_;intro D E;refine AW.fi (us:=wn x) o (aM x) i40 (λg=>?_);obtain⟨L,m⟩:=hE (D.setCells k 0 (wn x));have R:=rT u d g m;rw[m.out];refine⟨R.1,?_⟩;go_wp2_with fail
 refine UH (aG 4 49 rfl R.2.2 rfl u40 i40) rfl ?_;exact⟨_,rfl,R.2.1,rfl⟩
theorem SD(O:Ord N)(k:ByteArray)(f:k.size<=1000)(o:List UInt8)(q:Option Wv)(n c m:Nat)(B:m<=64)(w:Ut)(z:PartOk w (.slice q n c) o):
 UK prog 133 #[.string k,iZ m,.slice q n c] w (rZ w λe w'=>SLq (w.heap.size<=·) w' e m (λi=>chL N k.data.toList [o,(iC i).toList])):=by
 obtain⟨a,l⟩:=hE ((w.alloc (.cells #[.string k] 9)).alloc (.cells #[.slice q n c] 23));have b1:=aC w (.cells #[.string k] 9);have t:=aC (w.alloc (.cells #[.string k] 9)) (.cells #[.slice q n c] 23);have p:=(aE w [.string k] 9).below t;have d:=aE (w.alloc (.cells #[.string k] 9)) [.slice q n c] 23;have b:=b1.trans (t.mono b1.size);rw[UD]at d;simp only[l.out]at p d b;have x:=mk1 (jD m (by omega) 199 #[jZ w.heap.size,.pointer (some ⟨w.heap.size+1,0,none⟩)] (λ_ _=>kR) (λi=>chL N k.data.toList [o,(iC i).toList]) a (λi W C j=>P4 O k f o q n c i _ _ (by omega) W (Uz p.1 j.size) (Uz d.1 j.size) ((p.below j).2.1 0 _ rfl) ((d.below j).2.1 0 _ rfl) ((z.below b).below j)));have r:=mk1 b;clear b1 t p d b;go_enter func133,ntmps133;go_wp2_with fail
 rw[l.out];refine x.mono ?_;rintro e A ⟨v,rfl,s,hG⟩;have y:=mk2 (r.trans (s.mono r.size)) (hG.mono λg u=>UE r.size u);go_wp2;go_ret;exact⟨_,rfl,y.out⟩
end
section
open Go.RowKit Go.Sort Go.Deep
variable {N:Nat}
theorem uLi:(prog.underlying 126).map (·.isRow)=some true:=kR
theorem iLi:(prog.info? 126).map (·.size)=some 2:=kR
structure Ln(Q:Nat->Prop)(W:Ut)(v:Uv)(n:Nat)(a b:Nat->Nat):Prop where
 ex:∃x y,v=.agg #[x,y]/\SLq Q W x n a/\SLq Q W y n b
section
variable {Q Q':Nat->Prop}{W W':Ut}{v:Uv}{n:Nat}{a b:Nat->Nat}
theorem Ln.keep(h:Ln Q W v n a b)(k:Kq Q W W'):Ln Q W' v n a b:=by
 obtain⟨x,y,d,e,c⟩:=h.ex;exact⟨x,y,d,e.keep k,c.keep k⟩
theorem Ln.mono(h:Ln Q W v n a b)(k:∀g,Q g->Q' g):Ln Q' W v n a b:=by
 obtain⟨x,y,d,e,c⟩:=h.ex;exact⟨x,y,d,e.mono k,c.mono k⟩
end
theorem bY{Q:Nat->Prop}{W:Ut}{x:Uv}{n:Nat}{a:Nat->Nat}(h:SLq Q W x n a):x.oneCell'=true/\∃g o c,x=.slice (some ⟨g,o,none⟩) n c:=by
 obtain⟨g,o,c,rfl,-⟩:=h;exact⟨rfl,_,_,_,rfl⟩
theorem RL(O:Ord N)(v:Nat)(hv:v<18446744073709551616)(m:Nat)(hm:m<=64)(z:List UInt8)(q:Option Wv)(n c:Nat)(w:Ut)(hp:PartOk w (.slice q n c) z):
 UK prog 61 #[uZ v,iZ m,.slice q n c] w (rZ w λe w'=>∃x y,e=.tuple #[x,y]/\Ln (w.heap.size<=·) w' x m (λi=>v/2^i%2) (λi=>chL N [115,108] [z,(iC i).toList])/\Ln (w.heap.size<=·) w' y m (λi=>sMi N (v/2^i%2) 1) (λi=>chL N [115,114] [z,(iC i).toList])):=by
 obtain⟨vf,d⟩:=hE (Zv (.func 129) #[] #[jZ w.heap.size]);obtain⟨k,J⟩:=hE (w.heap.size);obtain⟨wa,U⟩:=hE (w.alloc (.cells [uZ v].toArray 22));obtain⟨X,D⟩:=hE (wa.heap.size);obtain⟨wb,T⟩:=hE (wa.alloc (.cells [.slice none 0 0,.slice none 0 0].toArray 126));obtain⟨K,C⟩:=hE (wb.heap.size);obtain⟨wc,P⟩:=hE (wb.alloc (.cells [.slice none 0 0,.slice none 0 0].toArray 126));obtain⟨r,t⟩:=hE (wc.heap.size);obtain⟨wd,E⟩:=hE (wc.alloc (.cells [.nilFunc].toArray 219));obtain⟨s,R⟩:=hE (wd.setCells r 0 [vf]);have Fa:=aN J U;have Z:=aN D T;have Y:=aN C P;have Fe:=EU t E R rfl;rw[J.out]at d;have bc:=Z.1.trans (Y.1.mono Z.1.size);have be:=bc.trans (Fe.2.1.mono bc.size);have b:=mk6 (Fa.1.trans (be.mono Fa.1.size)) (Fa.2.below be) (Z.2.below (Y.1.trans (Fe.2.1.mono Y.1.size))) (Y.2.below Fe.2.1) Fe.2.2 (show k<X/\X<K/\K<r from⟨by rw[<-D.out];exact Fa.2.1,by rw[<-C.out];exact Z.2.1,by rw[<-t.out];exact Y.2.1⟩);have h5:∀(fn:Fn) (first cap:Array Uv) (w:Ut),(YV fn first cap).run prog w=.ok (.func fn first cap) w:=λ_ _ _ _=>rfl
 have h2:=mk1 (aN t E).2.2.2;have h6:s.cell? ⟨r,0,none⟩=some vf:=b.2.2.2.2.1.2.1 0 _ rfl;have H1:Hid (∀W,kZ s W->UK prog 132 #[iZ m,vf] W (rZ W λe w'=>SLq (W.heap.size<=·) w' e m (λi=>v/2^i%2))):=λW u=>by
  rw[<-d.out];exact jD m (by omega) 129 #[jZ k] (λ_ _=>kR) _ W λi V j f=>Je v i k hv (by omega) V (Uz b.2.1.1 (UE u.size f.size)) (((b.2.1.below u).below f).2.1 0 _ rfl)
 have H2:Hid (∀W,kZ s W->UK prog 132 #[iZ m,.func (.func 130) #[] #[jZ r]] W (rZ W λe w'=>SLq (W.heap.size<=·) w' e m (λi=>sMi N (v/2^i%2) 1))):=λW u =>
  jD m (by omega) 130 #[jZ r] (λ_ _=>kR) _ W λi V j f=>Pp O v i k r hv (by omega) V (Uz b.2.1.1 (UE u.size f.size)) (Uz b.2.2.2.2.1.1 (UE u.size f.size)) (((b.2.1.below u).below f).2.1 0 _ rfl) (by rw[((b.2.2.2.2.1.below u).below f).2.1 0 _ rfl,d.out])
 have HC:Hid (∀(l:ByteArray) W,l.size<=1000->kZ s W->UK prog 133 #[.string l,iZ m,.slice q n c] W (rZ W λe w'=>SLq (W.heap.size<=·) w' e m (λi=>chL N l.data.toList [z,(iC i).toList]))):=λl W hl u=>SD O l hl z q n c m hm W ((hp.below b.1).below u)
 go_enter func61,ntmps61;go_wp2_with (first|(refine alR 3 J U ?_)|(refine alR 6 D T ?_)|(refine alR 7 C P ?_)|(refine alR 8 t E ?_)|(refine fW rfl 219 _ _ rfl r 0 vf ?_ ?_ ?_ ?_ h2.out kR ?_;rfl;exact d.out;(rw[<-d.out];rfl);(rw[<-d.out];rfl);rw[R.out])|fail)
 refine(H1 s (UT _ _)).mono ?_;rintro e w1 ⟨x1,rfl,o,A⟩;go_wp2_with fail
 refine(HC _ w1 dC o).mono ?_;rintro e w2 ⟨x2,rfl,j,G⟩;have b2:=o.trans (j.mono o.size);obtain⟨-,g1,o1,c1,e1⟩:=bY A;obtain⟨-,g2,o2,c2,e2⟩:=bY G;subst e1 e2;go_wp2_with fail
 refine(H2 w2 b2).mono ?_;rintro e w3 ⟨x3,rfl,f,B⟩;have b3:=b2.trans (f.mono b2.size);go_wp2_with fail
 refine(HC _ w3 dC b3).mono ?_;rintro e w4 ⟨x4,rfl,p,F⟩;have b4:=b3.trans (p.mono b3.size);obtain⟨-,g3,o3,c3,e3⟩:=bY B;obtain⟨-,g4,o4,c4,e4⟩:=bY F;subst e3 e4;obtain⟨w5,S⟩:=hE (w4.setCells X 0 [.slice (some ⟨g1,o1,none⟩) m c1,.slice (some ⟨g2,o2,none⟩) m c2]);obtain⟨I,Q⟩:=hE (w5.setCells K 0 [.slice (some ⟨g3,o3,none⟩) m c3,.slice (some ⟨g4,o4,none⟩) m c4]);obtain⟨h1,h3,h4⟩:=b.2.2.2.2.2;have h0:=b.2.2.2.2.1.1;have s1:=o.size;have s2:=j.size;have s3:=f.size;have R4:=mk2 (b.2.2.1.below b4) (b.2.2.2.1.below b4);have M:Hid (kZ w I/\Row I X [.slice (some ⟨g1,o1,none⟩) m c1,.slice (some ⟨g2,o2,none⟩) m c2]/\Row I K [.slice (some ⟨g3,o3,none⟩) m c3,.slice (some ⟨g4,o4,none⟩) m c4]/\w5.there K 0 2/\Kq (r < ·) w4 I):=by
  rw[<-Q.out,<-S.out];have H:Row (w4.setCells X 0 [.slice (some ⟨g1,o1,none⟩) m c1,.slice (some ⟨g2,o2,none⟩) m c2]) K _:=aR R4.2 (by omega);refine⟨RG.below_setCells (by rw[J.out];omega) _ _ _ (RG.below_setCells (by rw[J.out];omega) _ _ _ (b.1.trans (b4.mono b.1.size))),aR (R4.1.put rfl) (by omega),H.put rfl,H.2.2,?_⟩;exact⟨by rw[setCells_size,setCells_size];exact Uy _,λg hg _=>by rw[aH _ _ _ _ g (by omega),aH _ _ _ _ g (by omega)]⟩
 have L:∀ {W:Ut}{x:Uv}{a:Nat->Nat},s.heap.size<=W.heap.size->SLq (W.heap.size<=·) w4 x m a->SLq (w.heap.size<=·) I x m a:=λhW h=>((h.mono (Q':=(r < ·)) λg hg=>by omega).keep M.2.2.2.2).mono λg hg=>by rw[J.out];omega
 have H:=f.trans (p.mono f.size);have V:=j.trans (H.mono j.size);have KR:Hid (Ln (w.heap.size<=·) I (.agg #[.slice (some ⟨g1,o1,none⟩) m c1,.slice (some ⟨g2,o2,none⟩) m c2]) m (λi=>v/2^i%2) (λi=>chL N [115,108] [z,(iC i).toList])/\Ln (w.heap.size<=·) I (.agg #[.slice (some ⟨g3,o3,none⟩) m c3,.slice (some ⟨g4,o4,none⟩) m c4]) m (λi=>sMi N (v/2^i%2) 1) (λi=>chL N [115,114] [z,(iC i).toList])):=
  ⟨⟨_,_,rfl,L (Uy _) (A.keep (Kq.of_below V)),L s1 (G.keep (Kq.of_below H))⟩,⟨_,_,rfl,L (by omega) (B.keep (Kq.of_below p)),L (by omega) F⟩⟩
 clear L H V A G B F s1 s2 s3 h1 h3 h4 h0 o j f p b2 b3 b4 H1 H2 HC;go_wp2_with (first|(refine stR 6 S (Hid.mk' rfl) R4.1.2.2 iLi kR ?_)|(refine stR 7 Q (Hid.mk' rfl) M.2.2.2.1 iLi kR ?_)|fail)
 refine UH (qE 6 7 126 126 rfl M.2.1 M.2.2.1 rfl rfl uLi iLi uLi iLi) rfl ?_;exact⟨_,rfl,M.1,_,_,rfl,KR.out⟩
theorem uF2:(prog.underlying 237).map (·.isRow)=some false:=kR
theorem uSl:(prog.underlying 124).map (·.isRow)=some false:=kR
theorem Eb{w c W:Ut}{k:Nat}{x:Uv}(b:kZ w c)(d:k<w.heap.size)(e:w.cell? ⟨k,0,none⟩=some x)(f:kZ c W):W.cell? ⟨k,0,none⟩=some x:=by
 rw[f.cell (p:=⟨k,0,none⟩) (Uz d b.size),b.cell (p:=⟨k,0,none⟩) d];exact e
theorem row_of{w c W:Ut}{k o:Nat}{cs:List Uv}(b:kZ w c)(d:k<w.heap.size)(e:w.rangeAt k o cs)(f:kZ c W):W.rangeAt k o cs:=RG.range_below (RG.range_below e b d) f (Uz d b.size)
theorem O1(f:Xl)(hf:∀args W,(callFunc f args).run prog W=.ok (.enter f args) W)(x y z:Nat)(A:Gives f #[nv x,nv y] (nv z))(i p q s n u t c1 o v a c2:Nat)(G:i<t)(L:i<a)(w:Ut)(lf:p<w.heap.size)(K:q<w.heap.size)(I:s<w.heap.size)(E:n<w.heap.size)(H:o<w.heap.size)(M:w.cell? ⟨p,0,none⟩=some (.func (.func f) #[] #[]))(N:w.cell? ⟨q,0,none⟩=some (.slice (some ⟨n,u,none⟩) t c1))(B:w.cell? ⟨s,0,none⟩=some (.slice (some ⟨o,v,none⟩) a c2))(O:w.rangeAt n (u+4*i) (wn x))(C:w.rangeAt o (v+4*i) (wn y)):
 UK prog 212 #[iZ i,jZ p,jZ q,jZ s] w (rZ w λe w'=>e=nv z):=by
 obtain⟨k,r⟩:=hE (w.heap.size);obtain⟨S,c⟩:=hE (w.alloc (.cells (RG.z 4).toArray 49));have d:=aN r c;obtain⟨P,m⟩:=hE (nv x);obtain⟨T,l⟩:=hE (nv y);obtain⟨Q,g⟩:=hE (nv z);rw[m.out,l.out,g.out]at A;have J:=mk1 A;go_enter func212,ntmps212;go_wp2_with (first|(refine alR 5 r c ?_)|fail)
 refine AW.begin 10 10 ?_;refine AW.ce 0 uF2 (λW b=>Eb d.1 lf M b) ?_;refine AW.ce 1 uSl (λW b=>Eb d.1 K N b) ?_;refine AW.mv 2 ?_;refine AW.iv 3 (lH n u t c1 i G) ?_;refine AW.ro 4 (λW b=>row_of d.1 E O b) m rSc nSc ?_;refine AW.ce 5 uSl (λW b=>Eb d.1 I B b) ?_;refine AW.mv 6 ?_;refine AW.iv 7 (lH o v a c2 i L) ?_;refine AW.ro 8 (λW b=>row_of d.1 H C b) l rSc nSc ?_;refine AW.gi 9 (λ_=>J _) ?_ (hx:=P8 hf rfl rfl rfl rfl);intro D F;refine AW.fi (us:=wn z) g (aM z) i40 (λb=>?_);obtain⟨U,j⟩:=hE (D.setCells k 0 (wn z));have R:=rT r c b j;rw[j.out];refine⟨R.1,?_⟩;go_wp2_with fail
 refine UH (aG 5 49 rfl R.2.2 rfl u40 i40) rfl ?_;exact⟨_,rfl,R.2.1,rfl⟩
theorem Ng{w g f k:Ut}{n l m:Nat}{x y:List Uv}{T U V:Vb}(j:Hid (w.heap.size=n))(p:Hid (w.alloc (.cells x.toArray T)=g))(i:Hid (g.heap.size=l))(q:Hid (g.alloc (.cells y.toArray U)=f))(e:Hid (f.heap.size=m))(o:Hid (f.alloc (.cells z.toArray V)=k)):Hid (kZ w k/\Row k n x/\Row k l y/\Row k m z):=by
 have a:=(aN j p).out;have b:=(aN i q).out;have c:=(aN e o).out;have d:=b.1.trans (c.1.mono b.1.size);exact⟨a.1.trans (d.mono a.1.size),a.2.below d,b.2.below c.1,c.2⟩
theorem NE{Q:Nat->Prop}(f:Xl)(hf:∀args W,(callFunc f args).run prog W=.ok (.enter f args) W)(F:Nat->Nat->Nat)(n:Nat)(hn:n<=64)(a b:Nat->Nat)(Z:∀i,i<n->Gives f #[nv (a i),nv (b i)] (nv (F (a i) (b i))))(va D:Uv)(w:Ut)(O:SLq Q w va n a)(V:SLq Q w D n b):
 UK prog 151 #[.func (.func f) #[] #[],va,D] w (rZ w λe w'=>SLq (w.heap.size<=·) w' e n (λi=>F (a i) (b i))):=by
 obtain⟨y,A,c1,rfl,-,-,S,Y⟩:=O;obtain⟨J,K,c2,rfl,-,-,R,L⟩:=V;obtain⟨vf,k⟩:=hE (Zv (.func f) #[] #[]);obtain⟨t,p⟩:=hE (w.heap.size);obtain⟨r,d⟩:=hE (w.alloc (.cells [vf].toArray 237));obtain⟨z,o⟩:=hE (r.heap.size);obtain⟨E,m⟩:=hE (r.alloc (.cells [.slice (some ⟨y,A,none⟩) n c1].toArray 124));obtain⟨H,l⟩:=hE (E.heap.size);obtain⟨G,j⟩:=hE (E.alloc (.cells [.slice (some ⟨J,K,none⟩) n c2].toArray 124));have B:=Ng p d o m l j;have C:Hid ((Vh 237 vf).run prog w=.ok (jZ t) r):=by rw[<-d.out,<-p.out,<-k.out];exact Hid.mk' (by kernel_rfl)
 have T:G.cell? ⟨z,0,none⟩=some (.slice (some ⟨y,A,none⟩) n c1):=B.2.2.1.2.1 0 _ rfl;have P:=mk1 (jD n (by omega) 212 #[jZ t,jZ z,jZ H] (λ_ _=>kR) (λi=>F (a i) (b i)) G λi W q c=>by
  have x:=B.1.trans (c.mono B.1.size);have s:=x.size;exact O1 f hf (a i) (b i) _ (Z i q) i t z H y A n c1 J K n c2 q q W (B.2.1.below c).1 (B.2.2.1.below c).1 (B.2.2.2.below c).1 (by omega) (by omega) (by rw[(B.2.1.below c).2.1 0 _ rfl,k.out]) ((B.2.2.1.below c).2.1 0 _ rfl) ((B.2.2.2.below c).2.1 0 _ rfl) (RG.range_below (Y i q) x S) (RG.range_below (L i q) x R))
 have X:∀(I:Fn) (first cap:Array Uv) (w:Ut),(YV I first cap).run prog w=.ok (.func I first cap) w:=λ_ _ _ _=>rfl
 rw[k.out];go_enter func151,ntmps151;go_wp2_with (first|(refine aF (u:=vf) (v:=jZ t) (w':=r) rfl _ (.tmp 0) rfl ?_ ?_ ?_;rfl;exact C.out)|(refine alR 4 o m ?_)|(refine alR 5 l j ?_)|fail)
 refine P.mono ?_;rintro e w4 ⟨v,rfl,x,U⟩;have N:=mk2 (B.1.trans (x.mono B.1.size)) (U.mono λg M=>UE B.1.size M);go_wp2;go_ret;exact⟨_,rfl,N.out⟩
theorem SLq.set{W:Ut}{B k o n:Nat}{vs:List Uv}{x:Uv}{a:Nat->Nat}(h:SLq (B<=·) W x n a)(c:k<B):SLq (B<=·) (W.setCells k o vs) x n a:=h.keep (Kq.set λg b=>by omega)
section
variable {Q:Nat->Prop}{w:Ut}{n:Nat}{v u:Uv}{a b c:Nat->Nat}
theorem E0(x y:Uv)(hx:x.oneCell'=true)(m:y.oneCell'=true)(w:Ut):∃k b i d,Hid (w.heap.size=k)/\Hid (w.alloc (.cells [x,y].toArray 126)=b)/\Hid (b.heap.size=i)/\Hid (b.alloc (.cells [.slice none 0 0,.slice none 0 0].toArray 126)=d)/\Hid (kZ w d/\Row d k [x,y]/\Row d i [.slice none 0 0,.slice none 0 0]/\k<i):=by
 obtain⟨k,l⟩:=hE (w.heap.size);obtain⟨b,j⟩:=hE (w.alloc (.cells [x,y].toArray 126));obtain⟨i,c⟩:=hE (b.heap.size);obtain⟨d,e⟩:=hE (b.alloc (.cells [.slice none 0 0,.slice none 0 0].toArray 126));have f:=(aN l j).out;have g:=(aN c e).out;exact⟨k,b,i,d,l,j,c,e,f.1.trans (g.1.mono f.1.size),f.2.below g.1,g.2,by rw[<-c.out];exact f.2.1⟩
theorem NG(O:Ord N)(Y:n<=64)(T:∀i,i<n->a i<N)(V:∀i,i<n->c i<N)(h:Ln Q w v n a b)(X:SLq Q w u n c):
 UK prog 72 #[v,u] w (rZ w λe w'=>Ln (λg=>Q g\/w.heap.size<=g) w' e n (λi=>sPl N (a i) (c i)) b):=by
 obtain⟨x,y,rfl,hx,J⟩:=h.ex;obtain⟨S,Z,o1,c1,rfl⟩:=bY hx;obtain⟨U,j,o,c2,rfl⟩:=bY J;obtain⟨k,w1,s,w2,D,B,q,r,F⟩:=E0 _ _ S U w;have M:=mk1 (λ(W:Ut) (d:kZ w W)=>NE (Q:=λ_=>True) 80 (λ_ _=>kR) (sPl N) n Y a c (λi I=>mX O _ _ (T i I) (V i I)) _ _ W ((hx.keep (Kq.of_below d)).mono λ_ _=>trivial) ((X.keep (Kq.of_below d)).mono λ_ _=>trivial));go_enter func72,ntmps72;go_wp2_with (first|(refine alR 2 D B ?_)|(refine alR 4 q r ?_)|fail)
 refine AW.begin 7 7 ?_;refine AW.va 0 (jZ k) ?_;refine AW.ce 1 uSl (λW d=>(F.2.1.below d).2.1 0 _ rfl) ?_;refine AW.mv 2 ?_;refine AW.va 4 (oZ k 1) ?_;refine AW.ce 5 uSl (λW d=>(F.2.1.below d).2.1 1 _ rfl) ?_;refine AW.ca 3 (λd=>M _ (F.1.trans (d.mono F.1.size))) (λe w' h=>h.1) ?_;rintro e C ⟨L,E⟩;simp only[UR,Uu,Uw,Ux];obtain⟨h5,f,l,m,rfl⟩:=bY E;refine AW.va 6 (.agg #[.slice (some ⟨f,l,none⟩) n m,.slice (some ⟨j,o,none⟩) n c2]) ?_;refine AW.fi (us:=[.slice (some ⟨f,l,none⟩) n m,.slice (some ⟨j,o,none⟩) n c2]) (Hid.mk' rfl) kR iLi (λd=>?_);have H:=F.2.2.1.below d;refine⟨H.2.2,?_⟩;obtain⟨z,p⟩:=hE (C.setCells s 0 [.slice (some ⟨f,l,none⟩) n m,.slice (some ⟨j,o,none⟩) n c2]);have R:Hid (kZ w z/\Row z s [.slice (some ⟨f,l,none⟩) n m,.slice (some ⟨j,o,none⟩) n c2]/\Ln (λg=>Q g\/w.heap.size<=g) z (.agg #[.slice (some ⟨f,l,none⟩) n m,.slice (some ⟨j,o,none⟩) n c2]) n (λi=>sPl N (a i) (c i)) b):=by
  have P:=F.1.trans (d.mono F.1.size);have t:w.heap.size<=s:=by rw[D.out];exact XN F.2.2.2
  have G:=RG.below_setCells t [.slice (some ⟨f,l,none⟩) n m,.slice (some ⟨j,o,none⟩) n c2] 0 C P;rw[<-p.out];exact⟨G,H.put rfl,_,_,rfl,(E.set F.2.2.1.1).mono λg K=>U2 (UE F.1.size K),(J.keep (Kq.of_below G)).mono λ_ h=>U6 h⟩
 rw[p.out];go_wp2_with fail
 refine UH (aG 4 126 rfl R.2.1 rfl uLi iLi) rfl ?_;exact⟨_,rfl,R.1,R.2.2⟩
theorem RI(O:Ord N)(hn:n<=64)(D:∀i,i<n->a i<N)(d:∀i,i<n->b i<N)(Y:∀i,i<n->c i<N)(h:Ln Q w v n a b)(Z:SLq Q w u n c):
 UK prog 73 #[v,u] w (rZ w λe w'=>Ln (w.heap.size<=·) w' e n (λi=>sTi N (a i) (c i)) (λi=>sTi N (b i) (c i))):=by
 obtain⟨x,y,rfl,hx,S⟩:=h.ex;obtain⟨V,g1,o1,c1,rfl⟩:=bY hx;obtain⟨X,g2,o2,c2,rfl⟩:=bY S;obtain⟨k,w1,E,w2,K,I,B,C,F⟩:=E0 _ _ V X w;have J:=mk1 (λ(x:Uv) (a:Nat->Nat) (D:∀i,i<n->a i<N) (hx:SLq Q w x n a) (W:Ut) (d:kZ w W)=>NE (Q:=λ_=>True) 79 (λ_ _=>kR) (sTi N) n hn a c (λi P=>iJ O _ _ (D i P) (Y i P)) _ _ W ((hx.keep (Kq.of_below d)).mono λ_ _=>trivial) ((Z.keep (Kq.of_below d)).mono λ_ _=>trivial));go_enter func73,ntmps73;go_wp2_with (first|(refine alR 2 K I ?_)|(refine alR 4 B C ?_)|fail)
 refine AW.begin 9 9 ?_;refine AW.va 0 (jZ k) ?_;refine AW.ce 1 uSl (λW d=>(F.2.1.below d).2.1 0 _ rfl) ?_;refine AW.mv 2 ?_;refine AW.va 4 (oZ k 1) ?_;refine AW.ce 5 uSl (λW d=>(F.2.1.below d).2.1 1 _ rfl) ?_;refine AW.mv 6 ?_;refine AW.ca 3 (λd=>J _ a D hx _ (F.1.trans (d.mono F.1.size))) (λe w' h=>h.1) ?_;rintro e W3 ⟨f,L⟩;simp only[UR,Uu,Uw,Ux];obtain⟨h5,o,q,r,rfl⟩:=bY L;refine AW.ca 7 (λt=>J _ b d S _ (F.1.trans (t.mono F.1.size))) (λe w' h=>h.1) ?_;rintro e T ⟨A,l⟩;simp only[UR,Uu,Uw,Ux];obtain⟨h6,p,j,s,rfl⟩:=bY l;refine AW.va 8 (.agg #[.slice (some ⟨o,q,none⟩) n r,.slice (some ⟨p,j,none⟩) n s]) ?_;refine AW.fi (us:=[.slice (some ⟨o,q,none⟩) n r,.slice (some ⟨p,j,none⟩) n s]) (Hid.mk' rfl) kR iLi (λd=>?_);have M:=F.2.2.1.below d;refine⟨M.2.2,?_⟩;obtain⟨H,m⟩:=hE (T.setCells E 0 [.slice (some ⟨o,q,none⟩) n r,.slice (some ⟨p,j,none⟩) n s]);have R:Hid (kZ w H/\Row H E [.slice (some ⟨o,q,none⟩) n r,.slice (some ⟨p,j,none⟩) n s]/\Ln (w.heap.size<=·) H (.agg #[.slice (some ⟨o,q,none⟩) n r,.slice (some ⟨p,j,none⟩) n s]) n (λi=>sTi N (a i) (c i)) (λi=>sTi N (b i) (c i))):=by
  have U:=F.1.trans (d.mono F.1.size);have G:w.heap.size<=E:=by rw[K.out];exact XN F.2.2.2
  rw[<-m.out];exact⟨RG.below_setCells G _ _ _ U,M.put rfl,_,_,rfl,((L.keep (Kq.of_below A)).set F.2.2.1.1).mono λg z=>UE F.1.size z,(l.set (Uz F.2.2.1.1 f.size)).mono λg z=>UE F.1.size (UE f.size z)⟩
 rw[m.out];go_wp2_with fail
 refine UH (aG 4 126 rfl R.2.1 rfl uLi iLi) rfl ?_;exact⟨_,rfl,R.1,R.2.2⟩
end
end
end Go.Proofs.YtdoammpgchejcaaGreat
