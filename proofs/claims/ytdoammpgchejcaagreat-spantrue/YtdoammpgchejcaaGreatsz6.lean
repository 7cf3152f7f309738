import Derived.Lib.AppendZeros
import Derived.Deep.MidRow
import Derived.BigQuiet
import Derived.Lib.ConvBytes
import Derived.BigRegion
import Derived.Deep.RegionLaw
import Derived.Laws.OwnMore
import Derived.ArgAppend
import Derived.Laws.IdiomCopy
import Derived.Lib.SlBuf
import Derived.Test.YtdoammpgchejcaaGreatsz5
set_option linter.unusedVariables false
set_option linter.constructorNameAsVariable false
set_option linter.unusedSimpArgs false
set_option maxRecDepth 1000000
set_option maxHeartbeats 4000000
namespace Go.Proofs.YtdoammpgchejcaaGreat
open EC NT RG SP
open _root_.And renaming intro->V0
open _root_.Array renaming eq_empty_of_size_eq_zero->ZG,getD->yBQ,getElem?_eq_getElem->UZ,getElem?_eq_none->WM,getElem?_push_size->WT,getElem?_setIfInBounds->WA,length_toList->UJ,replicate->UI,setIfInBounds->X5,size->V2
open _root_.Bool renaming and_eq_true->UK,noConfusion->Yx,or_eq_true->Xu
open _root_.Go renaming Addr->Wt,Calls->UG,Exit->Yo,FuncId->Xp,Oper->Vj,Operand->XF,Program->VC,Tmp->WB,TypeId->U7,Value->Us,World->Uq,bodyPost_ret->UD,execOp->U4,getD_set_ne->XP,run_append_own->Y1,run_append_room_src->Y6,run_storeVar_mid->ZA,run_underlying->XX,undef->WO,wpList_load_mid->U5,wpList_plain->Xf,wpList_store_mid->U1,wpOp_mono->Zz
open _root_.Go.Act renaming eval->yAC,put->UM
open _root_.Go.Builtin renaming append_->Vr,copy_->XY,firstCells->Zh,nextslicecap->Ys
open _root_.Go.Code renaming region->V3
open _root_.Go.Instr renaming box->Vd,buildSlice->Vx,indexAt->Vk,makeFunc->Yn,storeAt->Yw,sureAddr->X4
open _root_.Go.IntKind renaming i64->VR,u64->Vn,wrap_i64->Yj,wrap_u64->XT
open _root_.Go.Lib renaming wpList_append_run->WH
open _root_.Go.Next renaming value->Xo
open _root_.Go.Oper renaming wp->VS
open _root_.Go.Operand renaming tmp->yBg
open _root_.Go.Region renaming binds->VO,free->YL,noSelect->XK,ready->U6,wanted->V1
open _root_.Go.Result renaming andThen_ok->Vl
open _root_.Go.RowKit.Below renaming refl->UQ
open _root_.Go.Sem renaming run_bind->UU,run_pure->Wq
open _root_.Go.Src renaming ofSlice->yAB
open _root_.Go.Value renaming agg->U2,func->Z0,oneCell'->yBf,ownBlock->V8,slice->Vv
open _root_.Go.World renaming cell?->VX,cell?_drew->YY,cell?_of_block->UV,frozen?->WV,frozen?_of_block->VT,rangeAt->YS,rangeAt_setCells_apart->Vg,rangeAt_setCells_same->VN,size_alloc->UA,size_drew->yA6,there_setCells->VV
open _root_.List renaming all_toArray->Ya,append_assoc->Vw,append_nil->Xt,drop->Xl,eq_nil_of_length_eq_zero->ZN,getElem?_append_left->US,getElem?_append_right->U0,getElem?_cons_succ->U8,getElem?_cons_zero->Ve,getElem?_eq_getElem->UF,getElem?_eq_none->Ww,getElem?_eq_some_iff->UE,getElem?_map->Vy,getElem?_toArray->Vf,length_append->Uz,length_cons->Vh,length_nil->WF,length_set->yBc,map_append->V9,mem_append->Wy,mem_cons->VW,mem_map->Vm,mem_singleton->WL,nodup_append->YW,nodup_cons->XR,nodup_nil->yBr,not_mem_nil->UX,range->VF,setIfInBounds_toArray->Ur,set_cons_succ->Ut,set_cons_zero->Uu,size_toArray->VB,take->Xk
open _root_.Nat renaming add_assoc->WQ,add_mul->XE,add_zero->XA,le_of_eq->YO,le_of_lt->XJ,le_refl->Uv,le_trans->UB,lt_of_lt_of_le->Uw,lt_of_sub_eq_succ->Yt,min->XO,min_le_left->Z7,min_le_right->ZX,mod_eq_of_lt->UR,mod_lt->V4,mul_comm->Vu,mul_le_mul->WP,mul_le_mul_right->Xr,not_lt_zero->Ym,pow_pos->XH,pow_succ->V6,reduceAdd->VJ,sub_zero->YT,succ_lt_succ->yA9,zero_add->UC,zero_le->Wx,zero_lt_succ->Y0
open _root_.Ne renaming symm->YB
open _root_.Option renaming isSome_iff_exists->Vq,map_eq_some_iff->Ux,some->UN
open _root_.Or renaming inl->U3,inr->UW
open _root_.Prod renaming mk->V5
open Go.Proofs.Tryz
open Go.RowKit Go.Sort Go.Deep
section
theorem Hid.mkP{p:Prop}(h:p):Hid p:=h
section
variable {P:VC}{ops:Array Vj}{rest:List Vj}{op:Vj}{a:Act}{w w':Uq}{v:Us}{Q:Yo->Act->Uq->Prop}
theorem aY(k:op.guard=none)(X:Op)(_:op.op=X)(c:(U4 a.eval op).run P w=.ok (.value v) w')(h:wpList P ops Q rest (a.put op.dst v) w'):wpList P ops Q (op :: rest) a w:=
 Xf k λK b=>by
  unfold VS;rw[c];exact b _ _ h
end
theorem aO(w:Uq)(o:Obj):kZ w (w.alloc o):=(UQ _ _).alloc (Uv _) _
theorem cZ(w:Uq)(cs:Array Us)(T:U7)(j:Nat)(v:Us)(h:cs[j]? = some v):(w.alloc (.cells cs T)).cell? ⟨w.heap.size,j,none⟩=some v:=by
 unfold World.alloc VX;simp[h]
theorem MJ(w:Uq):GLs w (w.alloc (.cells #[] 23)) (sZ w.heap.size 0 0) []:=
 ⟨aO w _,⟨rfl,.inr ⟨w.heap.size,0,#[],rfl,Uv _,WT,Uv _,Wx _,rfl,rfl⟩⟩,by simp[V8]⟩
theorem Hw(w:Uq)(ys:List Us)(T:U7)(b:∀u∈ys,u.oneCell'=true):VL (w.alloc (.cells ys.toArray T)) (some (aZ w.heap.size)) ys.length ys:=
 ⟨rfl,λh=>by(cases h),UW ⟨w.heap.size,0,rfl,by rw[UA];omega,λj u k=>by rw[UC];exact cZ w _ T j u (by simpa using k)⟩,b⟩
theorem AX{B a qA qB:Option Wt}{x c1 z c2 nA cA nB cB:Nat}{k f:List Us}(w:Uq)(E:VL w B x k)(hR:VL w a z f)(h1:x<=1000)(h2:z<=1000):
 UG prog 46 #[.agg #[.slice B x c1,.slice a z c2,.slice qA nA cA,.slice qB nB cB]] w λe w'=>∃v,e=.returned v/\GLs w w' v (k++f++[.slice qA nA cA,.slice qB nB cB]):=by
 obtain⟨l,n⟩:=hE (w.alloc (.cells #[.slice B x c1,.slice a z c2,.slice qA nA cA,.slice qB nB cB] 26));obtain⟨A,r⟩:=hE (l.alloc (.cells #[] 23));have P:l.heap.size=w.heap.size+1:=by rw[<-n.out,UA]
 have b1:kZ w l:=by rw[<-n.out];exact aO _ _
 have F:GLs l A (sZ l.heap.size 0 0) []:=by rw[<-r.out];exact MJ l
 have l1:=E.len;have l2:=hR.len;obtain⟨v3,J,i,t⟩:=F.app (c:=c1) ((E.below b1).below (by rw[<-r.out];exact aO _ _)) (by rw[WF];omega);rw[List.nil_append]at t;obtain⟨X,o,b,y⟩:=t.app (c:=c2) ((hR.below b1).below t.bl) oM;obtain⟨C,s⟩:=hE (o.alloc (.cells #[.slice qA nA cA,.slice qB nB cB] 23));have H:kZ o C:=by rw[<-s.out];exact aO _ _
 obtain⟨Y,Q,d,u⟩:=(y.below H).app (c:=2) (q:=some (aZ o.heap.size)) (m:=2) (ys:=[.slice qA nA cA,.slice qB nB cB]) (by
  rw[<-s.out];exact Hw o [.slice qA nA cA,.slice qB nB cB] 23 (by simp[yBf])) (by rw[Uz];omega)
 have cell:∀(W:Uq) (j:Nat) v,kZ l W->(#[.slice B x c1,.slice a z c2,.slice qA nA cA,.slice qB nB cB]:Array Us)[j]? = some v->W.cell? ⟨w.heap.size,j,none⟩=some v:=λW j v L N=>by
  rw[L.cell (p:=⟨w.heap.size,j,none⟩) (by show w.heap.size<_;omega),<-n.out];exact cZ w _ _ j v N
 have k0:=cell A 0 _ F.bl rfl;have k1:=cell J 1 _ t.bl rfl;have k2:=cell o 2 _ y.bl rfl;have V:=cell o 3 _ y.bl rfl;obtain⟨U,T,rfl,-⟩:=t.lt;obtain⟨a4,Z,rfl,-⟩:=y.lt;obtain⟨M,p6,rfl,-⟩:=u.lt;have I:Hid (GLs w Q (sZ M (k++f++[Vv qA nA cA,Vv qB nB cB]).length p6) (k++f++[.slice qA nA cA,.slice qB nB cB])):=by
  refine⟨b1.trans (u.bl.mono b1.size),?_,u.nn⟩;rcases u.ow with⟨G,D|⟨g,cap,cur,D,O,K⟩⟩
  ·exact⟨G,U3 D⟩
  ·exact⟨G,UW ⟨g,cap,cur,D,oM,K⟩⟩
 generalize R:(k++f++[Vv qA nA cA,Vv qB nB cB]).length=N6 at d I;generalize G:(k++f).length=N4 at b d;generalize K:k.length=N3 at i b;have S:=Hid.mkP i;have D:=Hid.mkP b;have O:=Hid.mkP d;clear i b d cell F t y u b1 H E hR P;go_enter func46,ntmps46;go_wp2_with (first|(refine aY (v:=jZ w.heap.size) (w':=l) rfl (.box 26 (.tmp 0)) rfl ?_ ?_;(rw[<-n.out];kernel_rfl))|(refine aY (v:=sZ l.heap.size 0 0) (w':=A) rfl (.buildSlice 24 0 #[]) rfl ?_ ?_;(rw[<-r.out];kernel_rfl))|(refine aY (v:=sZ o.heap.size 2 2) (w':=C) rfl (.buildSlice 24 2 #[(0,.tmp 14),(1,.tmp 16)]) rfl ?_ ?_;(rw[<-s.out];kernel_rfl))|(at_builtin;refine WH A rfl _ _ _ _ rfl _ _ rfl rfl _ _ S.out ?_)|(at_builtin;refine WH J rfl _ _ _ _ rfl _ _ rfl rfl _ _ D.out ?_)|(at_builtin;refine WH C rfl _ _ _ _ rfl _ _ rfl rfl _ _ O.out ?_)|fail)
 go_ret;exact⟨_,rfl,I.out⟩
end
section
variable {P:Nat}[NeZero P]{N:Nat}
structure Sv where
 q:Option Wt
 n:Nat
 c:Nat
def Sv.v(s:Sv):Us:=.slice s.q s.n s.c
def rgC(a b c d e f g l r x y:Sv):List Us:=[a.v,b.v,c.v,d.v,e.v,f.v,g.v,l.v,r.v,x.v,y.v]
theorem uIn:(prog.underlying 26).map (·.isRow)=some true:=kR
theorem iIn:(prog.info? 26).map (·.size)=some 4:=kR
theorem N5(a b c d e f g l r x y:Sv){n i:List Us}(w:Uq)(hL:VL w l.q l.n n)(hR:VL w r.q r.n i)(h1:l.n<=1000)(h2:r.n<=1000):
 UG prog 9 #[.agg (rgC a b c d e f g l r x y).toArray] w λe' w'=>∃v,e'=.returned v/\GLs w w' v (n++i++[x.v,y.v]++[a.v,b.v,c.v,d.v,e.v,f.v,g.v]):=by
 obtain⟨R,H,ca⟩:=a;obtain⟨N,T,cb⟩:=b;obtain⟨F,P,cc⟩:=c;obtain⟨J,nd,Q⟩:=d;obtain⟨C,ne,ce⟩:=e;obtain⟨L,G,M⟩:=f;obtain⟨A,D,E⟩:=g
 obtain⟨ql,nl,cl⟩:=l;obtain⟨Z,nr,cr⟩:=r;obtain⟨S,nx,O⟩:=x;obtain⟨z,I,B⟩:=y
 dsimp only[Sv.v,rgC]at *;obtain⟨cs,k⟩:=hE ([.slice R H ca,.slice N T cb,.slice F P cc,.slice J nd Q,.slice C ne ce,.slice L G M,.slice A D E,.slice ql nl cl,.slice Z nr cr,.slice S nx O,.slice z I B]:List Us);rw[k.out];obtain⟨K,s⟩:=hE (w.alloc (.cells cs.toArray 28));have e1:K.heap.size=w.heap.size+1:=by rw[<-s.out,UA]
 have b1:kZ w K:=by rw[<-s.out];exact aO _ _
 have l1:=hL.len;have l2:=hR.len;have hc:=AX (c1:=cl) (c2:=cr) (qA:=S) (nA:=nx) (cA:=O) (qB:=z) (nB:=I) (cB:=B) K (hL.below b1) (hR.below b1) h1 h2;have cell:Hid (∀(W:Uq) (j:Nat) v,kZ K W->cs[j]? = some v->W.cell? ⟨w.heap.size,j,none⟩=some v):=λW j v hb hj=>by
  rw[hb.cell (p:=⟨w.heap.size,j,none⟩) (by show w.heap.size<_;omega),<-s.out];exact cZ w _ _ j v (by simpa using hj)
 have h0:Hid (K.rangeAt w.heap.size 7 [.slice ql nl cl,.slice Z nr cr,.slice S nx O,.slice z I B]):=λj u hj=>by
  refine cell.out K (7+j) u (UQ _ _) ?_;rw[<-k.out];match j,hj with
  | 0,h=>exact h
  | 1,h=>exact h
  | 2,h=>exact h
  | 3,h=>exact h
 obtain⟨dI,h4,h3⟩:=Ux.1 uIn;have V:=Hid.mkP b1;have HL:Hid (n.length+i.length<=2000):=by show _<=_;omega
 go_enter func9,ntmps9;go_wp2_with (first|(refine aY (v:=jZ w.heap.size) (w':=K) rfl (.box 28 (.tmp 0)) rfl ?_ ?_;(rw[<-s.out,<-k.out];kernel_rfl))|(refine U5 rfl 26 _ rfl w.heap.size 7 ?_ [.slice ql nl cl,.slice Z nr cr,.slice S nx O,.slice z I B] dI ?_ ?_ ?_ ?_ ?_;rfl;exact h0.out;exact h4;exact h3;exact iIn;skip)|fail)
 refine hc.mono ?_;rintro e' o ⟨v2,rfl,t⟩;have k0:=cell.out o 0 (.slice R H ca) t.bl (by rw[<-k.out];rfl);have k1:=cell.out o 1 (.slice N T cb) t.bl (by rw[<-k.out];rfl);have k2:=cell.out o 2 (.slice F P cc) t.bl (by rw[<-k.out];rfl);have k3:=cell.out o 3 (.slice J nd Q) t.bl (by rw[<-k.out];rfl);have k4:=cell.out o 4 (.slice C ne ce) t.bl (by rw[<-k.out];rfl);have k5:=cell.out o 5 (.slice L G M) t.bl (by rw[<-k.out];rfl);have k6:=cell.out o 6 (.slice A D E) t.bl (by rw[<-k.out];rfl);obtain⟨w3,U⟩:=hE (o.alloc (.cells #[.slice R H ca,.slice N T cb,.slice F P cc,.slice J nd Q,.slice C ne ce,.slice L G M,.slice A D E] 23));have b3:kZ o w3:=by rw[<-U.out];exact aO _ _
 obtain⟨v4,w4,X,Y⟩:=(t.below b3).app (c:=7) (q:=some (aZ o.heap.size)) (m:=7) (ys:=[.slice R H ca,.slice N T cb,.slice F P cc,.slice J nd Q,.slice C ne ce,.slice L G M,.slice A D E]) (by
  rw[<-U.out];exact Hw o [.slice R H ca,.slice N T cb,.slice F P cc,.slice J nd Q,.slice C ne ce,.slice L G M,.slice A D E] 23 (by simp[yBf])) (by have:=HL.out;rw[Uz,Uz];simp only[Vh,WF];omega)
 obtain⟨a2,p2,rfl,-⟩:=t.lt;obtain⟨a4,p4,rfl,-⟩:=Y.lt;have K4:Hid (GLs w w4 (sZ a4 (n++i++[Vv S nx O,Vv z I B]++[Vv R H ca,Vv N T cb,Vv F P cc,Vv J nd Q,Vv C ne ce,Vv L G M,Vv A D E]).length p4) (n++i++[Vv S nx O,Vv z I B]++[Vv R H ca,Vv N T cb,Vv F P cc,Vv J nd Q,Vv C ne ce,Vv L G M,Vv A D E])):=by
  refine⟨V.trans (Y.bl.mono V.size),?_,Y.nn⟩;have:=V.size;rcases Y.ow with⟨x0,x1|⟨g,cap,cur,x1,x2,x3⟩⟩
  ·exact⟨x0,U3 x1⟩
  ·exact⟨x0,UW ⟨g,cap,cur,x1,oM,x3⟩⟩
 generalize h5:(n++i++[Vv S nx O,Vv z I B]++[Vv R H ca,Vv N T cb,Vv F P cc,Vv J nd Q,Vv C ne ce,Vv L G M,Vv A D E]).length=N4 at X K4;generalize h6:(n++i++[Vv S nx O,Vv z I B]).length=N2 at X⊢;have H1:=Hid.mkP X;go_wp2_with (first|(refine aY (v:=sZ o.heap.size 7 7) (w':=w3) rfl (.buildSlice 24 7 #[(0,.tmp 9),(1,.tmp 11),(2,.tmp 13),(3,.tmp 15),(4,.tmp 17),(5,.tmp 19),(6,.tmp 21)]) rfl ?_ ?_;(rw[<-U.out];kernel_rfl))|(at_builtin;refine WH w3 rfl _ _ _ _ rfl _ _ rfl rfl _ _ H1.out ?_)|fail)
 go_ret;exact⟨_,rfl,K4.out⟩
theorem uRg:(prog.underlying 28).map (·.isRow)=some true:=kR
theorem iRg:(prog.info? 28).map (·.size)=some 11:=kR
theorem GLs.cell{w W:Uq}{g n c:Nat}{xs:List Us}(h:GLs w W (sZ g n c) xs)(j:Nat)(u:Us)(k:xs[j]? = some u):W.cell? ⟨g,j,none⟩=some u:=by
 have:=h.ow.cells (g:=g) rfl j u k;rw[lH,UC]at this;exact this
theorem MF(g n c i:Nat)(k:i<n)(w:Uq):(Vk 24 (sZ g n c) (iZ i)).run prog w=.ok (oZ g i) w:=by
 go_simp
def Pt(W:Uq)(u:Us)(b:SP.Bs):Prop:=∃q c,u=.slice q (V2 b) c/\(b.size=0\/∃g o,q=some ⟨g,o,none⟩/\g<W.heap.size/\Holds SP.encB W g o b)
theorem Pt.below{W W':Uq}{u:Us}{b:SP.Bs}(h:Pt W u b)(k:kZ W W'):Pt W' u b:=by
 obtain⟨q,c,d,f|⟨g,o,j,e,i⟩⟩:=h
 ·exact⟨q,c,d,U3 f⟩
 ·exact⟨q,c,d,UW ⟨g,o,j,Uw e k.size,SP.Holds.below i k e⟩⟩
theorem Pt.conv{W:Uq}{u:Us}{b:SP.Bs}(h:Pt W u b):(convert 23 9 u).run prog W=.ok (.string ⟨b⟩) W:=by
 obtain⟨q,c,rfl,k|⟨g,o,rfl,f,e⟩⟩:=h
 ·obtain rfl:b=#[]:=ZG k;cases q with
  | none=>exact run_convert_bytes_nil (P:=prog) (w:=W) 23 5 SP.slice22 SP.int5 0 c 9 SP.str9
  | some a=>exact run_convert_bytes_back (P:=prog) W 23 9 5 a c [] SP.slice22 SP.int5 SP.str9 (λj d=>by cases d)
 ·exact SP.conv_str prog 23 9 5 SP.slice22 SP.int5 SP.str9 W g o _ c b e rfl
def inV(l r x y:Sv):List Us:=[l.v,r.v,x.v,y.v]
theorem eI(w:Uq)(cs:List Us)(T:U7):(w.alloc (.cells cs.toArray T)).rangeAt w.heap.size 0 cs:=λj u k=>by rw[UC];exact cZ w _ _ j u (by simpa using k)
theorem range_below{w w':Uq}{b o:Nat}{cs:List Us}(h:w.rangeAt b o cs)(c:kZ w w')(k:b<w.heap.size):w'.rangeAt b o cs:=λj u d=>by rw[c.cell (p:=⟨b,o+j,none⟩) k];exact h j u d
theorem BO(l r x y l' E I J:Sv){s p n z:List Us}(w:Uq)(hL:VL w l.q l.n s)(hR:VL w r.q r.n p)(G:VL w l'.q l'.n n)(H:VL w E.q E.n z)(h1:l.n<=1000)(h2:r.n<=1000)(hl:l'.n=l.n)(hr:E.n=r.n)
 (hE:∀(j:Nat),j<l.n+r.n+2->∃u v b,(s++p++[x.v,y.v])[j]? = some u/\(n++z++[I.v,J.v])[j]? = some v/\Pt w u b/\Pt w v b) :
 UG prog 45 #[.agg (inV l r x y).toArray,.agg (inV l' E I J).toArray] w λe' w'=>e'=.returned (.bool true)/\Below w.heap.size w w':=by
 obtain⟨cs,m⟩:∃cs:List Us,Hid (inV l r x y=cs):=⟨_,rfl⟩
 obtain⟨a,f⟩:∃a:List Us,Hid (inV l' E I J=a):=⟨_,rfl⟩
 obtain⟨d,A⟩:∃d,Hid (w.alloc (.cells cs.toArray 26)=d):=⟨_,rfl⟩
 obtain⟨k,C⟩:∃k,Hid (d.alloc (.cells a.toArray 26)=k):=⟨_,rfl⟩
 have e1:d.heap.size=w.heap.size+1:=by rw[<-A.out,UA]
 have e2:k.heap.size=d.heap.size+1:=by rw[<-C.out,UA]
 have b1:Below w.heap.size w d:=by rw[<-A.out];exact aO _ _
 have b2:Below d.heap.size d k:=by rw[<-C.out];exact aO _ _
 have g:=b1.trans (b2.mono b1.size);have V:=range_below (w:=d) (by rw[<-A.out];exact eI w cs _) b2 oM;have U:k.rangeAt d.heap.size 0 a:=by rw[<-C.out];exact eI d a _
 have c0:=V 0 l.v (by rw[<-m.out];rfl);have c1:=V 1 r.v (by rw[<-m.out];rfl);have d0:=U 0 l'.v (by rw[<-f.out];rfl);have d1:=U 1 E.v (by rw[<-f.out];rfl);rw[UC]at c0 c1 d0 d1;have len1:Hid (cs.length=4):=by rw[<-m.out];rfl
 have len2:Hid (a.length=4):=by rw[<-f.out];rfl
 have hA:Hid (UG prog 46 #[.agg cs.toArray] k λe w'=>∃v,e=.returned v/\GLs k w' v (s++p++[x.v,y.v])):=by
  rw[<-m.out];exact AX k (hL.below g) (hR.below g) h1 h2
 have hB:Hid (∀c,Below k.heap.size k c->UG prog 46 #[.agg a.toArray] c λe w'=>∃v,e=.returned v/\GLs c w' v (n++z++[I.v,J.v])):=λc T=>by
  rw[<-f.out];exact AX c ((G.below g).below T) ((H.below g).below T) oM oM
 have D:Hid ((s++p++[x.v,y.v]).length=l.n+r.n+2):=by
  show _=_;rw[Uz,Uz,hL.len,hR.len];rfl
 have B:Hid ((n++z++[I.v,J.v]).length=l.n+r.n+2):=by
  show _=_;rw[Uz,Uz,G.len,H.len,hl,hr];rfl
 have X:=Hid.mkP hE;generalize s++p++[x.v,y.v]=XS at hA D X;generalize n++z++[I.v,J.v]=ZS at hB B X;have HB:=Hid.mkP g;have K:Hid (∀c,Below k.heap.size k c->c.rangeAt d.heap.size 0 a):=λc T=>range_below U T oM
 have h5:=Hid.mkP V;rw[m.out,f.out];obtain⟨ql,nl,cl⟩:=l;obtain⟨qr,nr,cr⟩:=r;obtain⟨h7,h3,ha⟩:=l';obtain⟨h8,h4,h9⟩:=E
 dsimp only[Sv.v]at *;subst hl hr;obtain⟨dI,P,O⟩:=Ux.1 uIn;obtain⟨M,hM⟩:∃M,Hid (h3+h4+2=M):=⟨_,rfl⟩
 rw[hM.out]at D B X;have h6:M<=2002:=by have:=hM.out;omega
 clear e1 e2 b1 b2 g V U hL hR G H hE;go_enter func45,ntmps45;go_wp2_with (first|(refine aY (v:=.pointer (some ⟨w.heap.size,0,none⟩)) (w':=d) rfl (.box 26 (.tmp 0)) rfl ?_ ?_;(rw[<-A.out,<-m.out];kernel_rfl))|(refine aY (v:=.pointer (some ⟨d.heap.size,0,none⟩)) (w':=k) rfl (.box 26 (.tmp 1)) rfl ?_ ?_;(rw[<-C.out,<-f.out];kernel_rfl))|(refine U5 rfl 26 _ rfl w.heap.size 0 ?_ cs dI ?_ ?_ ?_ ?_ ?_;rfl;exact h5.out;exact P;exact O;(rw[len1.out];exact iIn);skip)|fail)
 refine hA.mono ?_;rintro e' c ⟨v3,rfl,N⟩;have Z:=Hid.mkP (K c N.bl);have h0:=Hid.mkP (hB c N.bl);obtain⟨R,Q,rfl,-⟩:=N.lt;have K3:=Hid.mkP N;clear N hA hB K c0 c1 d0 d1;rw[D.out]at K3⊢;go_wp2_with (first|(refine U5 rfl 26 _ rfl d.heap.size 0 ?_ a dI ?_ ?_ ?_ ?_ ?_;rfl;exact Z.out;exact P;exact O;(rw[len2.out];exact iIn);skip)|fail)
 refine h0.mono ?_;rintro e' w4 ⟨v4,rfl,W⟩;obtain⟨Y,S,rfl,-⟩:=W.lt;have o:Hid (GLs k w4 (.slice (some ⟨R,0,none⟩) M Q) XS/\GLs c w4 (.slice (some ⟨Y,0,none⟩) M S) ZS/\Below w.heap.size w w4):=by
  rw[B.out]at W;have t:=K3.below W.bl;exact⟨t,W,HB.trans (t.bl.mono HB.size)⟩
 rw[B.out];go_wp2;go_loopg [7] M (λgk s7 wr=>∃i:Nat,i+gk=M/\s7=.int .i64 i/\Hid (GLs k wr (.slice (some ⟨R,0,none⟩) M Q) XS/\GLs c wr (.slice (some ⟨Y,0,none⟩) M S) ZS/\Below w.heap.size w wr))
 case atStart=>exact⟨0,oM,rfl,o⟩
 case round =>
  obtain⟨i,hi,rfl,o⟩:=hrel;by_cases F:i<M
  ·have L:=oM;obtain⟨u,v,b,hu,hv,pu,pv⟩:=X.out i F;have t:∀q,Below wr.heap.size wr (wr.drewN q):=λq=>⟨rfl,rfl,rfl,Uv _,λ_ _=>rfl⟩
   have k1:=λq=>((pu.below o.2.2).below (t q)).conv
   have k2:=λq=>((pv.below o.2.2).below (t q)).conv
   have x1:=o.1.cell i u hu;have x2:=o.2.1.cell i v hv;have K5:Hid (∀q,GLs k (wr.drewN q) (.slice (some ⟨R,0,none⟩) M Q) XS/\GLs c (wr.drewN q) (.slice (some ⟨Y,0,none⟩) M S) ZS/\Below w.heap.size w (wr.drewN q)):=λq=>⟨o.1.below (t q),o.2.1.below (t q),o.2.2.trans ((t q).mono o.2.2.size)⟩
   obtain⟨qu,cu,rfl,-⟩:=pu;obtain⟨qv,cv,rfl,-⟩:=pv;have j1:=MF R M Q i F;have j2:=MF Y M S i F;go_wp2;go_quiet (fail);go_wp2;go_roundg (gk-1)
   case measure=>omega
   case rel=>exact⟨i+1,oM,rfl,K5.out _⟩
  ·have L:=oM;go_wp2;go_ret;exact⟨rfl,o.2.2⟩
structure Rg where
 a:Sv
 b:Sv
 c:Sv
 d:Sv
 e:Sv
 f:Sv
 g:Sv
 l:Sv
 r:Sv
 x:Sv
 y:Sv
def Rg.cs(p:Rg):List Us:=rgC p.a p.b p.c p.d p.e p.f p.g p.l p.r p.x p.y
def Rg.all(p:Rg)(b k:List Us):List Us:=b++k++[p.x.v,p.y.v]++[p.a.v,p.b.v,p.c.v,p.d.v,p.e.v,p.f.v,p.g.v]
theorem BN(p k:Rg){o n l s:List Us}(w:Uq)(hL:VL w p.l.q p.l.n o)(hR:VL w p.r.q p.r.n n)(F:VL w k.l.q k.l.n l)(G:VL w k.r.q k.r.n s)(h1:p.l.n<=1000)(h2:p.r.n<=1000)(hl:k.l.n=p.l.n)(hr:k.r.n=p.r.n)
 (hE:∀(j:Nat),j<p.l.n+p.r.n+9->∃u v b,(p.all o n)[j]? = some u/\(k.all l s)[j]? = some v/\Pt w u b/\Pt w v b) :
 UG prog 7 #[.agg p.cs.toArray,.agg k.cs.toArray] w λe' w'=>e'=.returned (.bool true)/\Below w.heap.size w w':=by
 obtain⟨cs,z⟩:∃cs:List Us,Hid (p.cs=cs):=⟨_,rfl⟩
 obtain⟨a,t⟩:∃a:List Us,Hid (k.cs=a):=⟨_,rfl⟩
 obtain⟨g,B⟩:∃g,Hid (w.alloc (.cells cs.toArray 28)=g):=⟨_,rfl⟩
 obtain⟨f,E⟩:∃f,Hid (g.alloc (.cells a.toArray 28)=f):=⟨_,rfl⟩
 have e1:g.heap.size=w.heap.size+1:=by rw[<-B.out,UA]
 have e2:f.heap.size=g.heap.size+1:=by rw[<-E.out,UA]
 have b1:Below w.heap.size w g:=by rw[<-B.out];exact aO _ _
 have b2:Below g.heap.size g f:=by rw[<-E.out];exact aO _ _
 have d:Below w.heap.size w f:=b1.trans (b2.mono b1.size);have r1:f.rangeAt w.heap.size 0 cs:=range_below (w:=g) (by rw[<-B.out];exact eI w cs _) b2 oM;have r2:f.rangeAt g.heap.size 0 a:=by rw[<-E.out];exact eI g a _
 have len1:Hid (cs.length=11):=by rw[<-z.out];rfl
 have len2:Hid (a.length=11):=by rw[<-t.out];rfl
 have i1:Hid (f.rangeAt w.heap.size 7 (inV p.l p.r p.x p.y)):=λj u J=>by
  have:=r1 (7+j) u (by
   rw[<-z.out];match j,J with
   | 0,h=>exact h
   | 1,h=>exact h
   | 2,h=>exact h
   | 3,h=>exact h)
  rw[UC]at this;exact this
 have i2:Hid (f.rangeAt g.heap.size 7 (inV k.l k.r k.x k.y)):=λj u J=>by
  have:=r2 (7+j) u (by
   rw[<-t.out];match j,J with
   | 0,h=>exact h
   | 1,h=>exact h
   | 2,h=>exact h
   | 3,h=>exact h)
  rw[UC]at this;exact this
 have lX:(o++n++[p.x.v,p.y.v]).length=p.l.n+p.r.n+2:=by rw[Uz,Uz,hL.len,hR.len];rfl
 have lZ:(l++s++[k.x.v,k.y.v]).length=p.l.n+p.r.n+2:=by rw[Uz,Uz,F.len,G.len,hl,hr];rfl
 have hI:Hid (UG prog 45 #[.agg (inV p.l p.r p.x p.y).toArray,.agg (inV k.l k.r k.x k.y).toArray] f λe' w'=>e'=.returned (.bool true)/\Below f.heap.size f w'):=by
  refine BO p.l p.r p.x p.y k.l k.r k.x k.y f (hL.below d) (hR.below d) (F.below d) (G.below d) h1 h2 hl hr (λj J=>?_);obtain⟨u,v,b,m,c,r,x⟩:=hE j oM;unfold Rg.all at m c;rw[US (by rw[lX];exact J)]at m;rw[US (by rw[lZ];exact J)]at c;exact⟨u,v,b,m,c,r.below d,x.below d⟩
 have hA:Hid (∀c,Below f.heap.size f c->UG prog 9 #[.agg cs.toArray] c λe w'=>∃v,e=.returned v/\GLs c w' v (p.all o n)):=λc C=>by
  rw[<-z.out];exact N5 p.a p.b p.c p.d p.e p.f p.g p.l p.r p.x p.y c ((hL.below d).below C) ((hR.below d).below C) h1 h2
 have hB:Hid (∀c,Below f.heap.size f c->UG prog 9 #[.agg a.toArray] c λe w'=>∃v,e=.returned v/\GLs c w' v (k.all l s)):=λc C=>by
  rw[<-t.out];exact N5 k.a k.b k.c k.d k.e k.f k.g k.l k.r k.x k.y c ((F.below d).below C) ((G.below d).below C) oM oM
 have H:Hid ((p.all o n).length=p.l.n+p.r.n+9):=by
  show _=_;unfold Rg.all;rw[Uz,lX];rfl
 have D:Hid ((k.all l s).length=p.l.n+p.r.n+9):=by
  show _=_;unfold Rg.all;rw[Uz,lZ];rfl
 have HE:=Hid.mkP hE;generalize p.all o n=XS at hA H HE;generalize k.all l s=ZS at hB D HE;have HB:=Hid.mkP d;have X:Hid (∀c,Below f.heap.size f c->c.rangeAt w.heap.size 0 cs):=λc C=>range_below r1 C oM
 have N:Hid (∀c,Below f.heap.size f c->c.rangeAt g.heap.size 0 a):=λc C=>range_below r2 C oM
 rw[z.out,t.out];obtain⟨dI,Y,S⟩:=Ux.1 uIn;obtain⟨dR,R,T⟩:=Ux.1 uRg;obtain⟨M,hM⟩:∃M,Hid (p.l.n+p.r.n+9=M):=⟨_,rfl⟩
 rw[hM.out]at H D HE;have h5:M<=2009:=by have:=hM.out;omega
 obtain⟨iv,P⟩:∃iv,Hid (inV p.l p.r p.x p.y=iv):=⟨_,rfl⟩
 obtain⟨jv,L⟩:∃jv,Hid (inV k.l k.r k.x k.y=jv):=⟨_,rfl⟩
 have h0:Hid (iv.length=4):=by rw[<-P.out];rfl
 have h4:Hid (jv.length=4):=by rw[<-L.out];rfl
 rw[P.out]at i1 hI;rw[L.out]at i2 hI;clear e1 e2 b1 b2 d r1 r2 hL hR F G hE lX lZ hl hr h1 h2;go_enter func7,ntmps7;go_wp2_with (first|(refine aY (v:=.pointer (some ⟨w.heap.size,0,none⟩)) (w':=g) rfl (.box 28 (.tmp 0)) rfl ?_ ?_;(rw[<-B.out,<-z.out];kernel_rfl))|(refine aY (v:=.pointer (some ⟨g.heap.size,0,none⟩)) (w':=f) rfl (.box 28 (.tmp 1)) rfl ?_ ?_;(rw[<-E.out,<-t.out];kernel_rfl))|(refine U5 rfl 26 _ rfl w.heap.size 7 ?_ iv dI ?_ ?_ ?_ ?_ ?_;rfl;exact i1.out;exact Y;exact S;(rw[h0.out];exact iIn);skip)|(refine U5 rfl 26 _ rfl g.heap.size 7 ?_ jv dI ?_ ?_ ?_ ?_ ?_;rfl;exact i2.out;exact Y;exact S;(rw[h4.out];exact iIn);skip)|fail)
 refine hI.mono ?_;rintro e' y ⟨rfl,x⟩;have V:=Hid.mkP x;have W:=Hid.mkP (X y x);clear x hI i1 i2;go_wp2_with (first|(refine U5 rfl 28 _ rfl w.heap.size 0 ?_ cs dR ?_ ?_ ?_ ?_ ?_;rfl;exact W.out;exact R;exact T;(rw[len1.out];exact iRg);skip)|fail)
 refine(hA y V.out).mono ?_;rintro e' c ⟨v3,rfl,g3⟩;have A:Below f.heap.size f c:=V.trans (g3.bl.mono V.size);have K:=Hid.mkP (N c A);have Q:=Hid.mkP (hB c A);obtain⟨a3,Z,rfl,-⟩:=g3.lt;have K3:=Hid.mkP g3;have h3:=Hid.mkP A;clear g3 A hA hB N X W;rw[H.out]at K3⊢;go_wp2_with (first|(refine U5 rfl 28 _ rfl g.heap.size 0 ?_ a dR ?_ ?_ ?_ ?_ ?_;rfl;exact K.out;exact R;exact T;(rw[len2.out];exact iRg);skip)|fail)
 refine Q.mono ?_;rintro e' w4 ⟨v4,rfl,U⟩;obtain⟨a4,p4,rfl,-⟩:=U.lt;have m:Hid (GLs y w4 (.slice (some ⟨a3,0,none⟩) M Z) XS/\GLs c w4 (.slice (some ⟨a4,0,none⟩) M p4) ZS/\Below w.heap.size w w4):=by
  rw[D.out]at U;have r:=HB.trans (V.mono HB.size);have I:=K3.below U.bl;exact⟨I,U,r.trans (I.bl.mono r.size)⟩
 clear U Q K3 K h3 V;rw[D.out];go_wp2;go_loopg [8] M (λgk s7 wr=>∃i:Nat,i+gk=M/\s7=.int .i64 i/\Hid (GLs y wr (.slice (some ⟨a3,0,none⟩) M Z) XS/\GLs c wr (.slice (some ⟨a4,0,none⟩) M p4) ZS/\Below w.heap.size w wr))
 case atStart=>exact⟨0,oM,rfl,m⟩
 case round =>
  clear m;obtain⟨i,hi,rfl,m⟩:=hrel;by_cases I:i<M
  ·have O:(i:Int)<(M:Int):=oM;obtain⟨u,v,b,hu,hv,pu,pv⟩:=HE.out i I;have r:∀q,Below wr.heap.size wr (wr.drewN q):=λq=>⟨rfl,rfl,rfl,Uv _,λ_ _=>rfl⟩
   have k1:=λq=>((pu.below m.2.2).below (r q)).conv
   have k2:=λq=>((pv.below m.2.2).below (r q)).conv
   have x1:=m.1.cell i u hu;have x2:=m.2.1.cell i v hv;have K5:Hid (∀q,GLs y (wr.drewN q) (.slice (some ⟨a3,0,none⟩) M Z) XS/\GLs c (wr.drewN q) (.slice (some ⟨a4,0,none⟩) M p4) ZS/\Below w.heap.size w (wr.drewN q)):=λq=>⟨m.1.below (r q),m.2.1.below (r q),m.2.2.trans ((r q).mono m.2.2.size)⟩
   obtain⟨qu,cu,rfl,-⟩:=pu;obtain⟨qv,cv,rfl,-⟩:=pv;generalize V2 b=nb at k1 k2 x1 x2;have j1:=MF a3 M Z i I;have j2:=MF a4 M p4 i I;clear hu hv r m;go_wp2;go_quiet (fail);go_wp2;go_roundg (gk-1)
   case measure=>omega
   case rel=>exact⟨i+1,oM,rfl,K5.out _⟩
  ·have O:¬(i:Int)<(M:Int):=oM;go_wp2;go_ret;exact⟨rfl,m.2.2⟩
theorem uC(n c:Nat)(h:c<n):Ys n c<=2*n+768:=by
 unfold Ys;split
 ·omega
 ·split
  ·omega
  ·simp only[Builtin.growBy];repeat' split
   all_goals omega
theorem wX{t n m size c:Nat}{T e:U7}{i:TypeInfo}{z:Us}{W W':Uq}{v w:Us}{xs f:List Us}{a:Wt}(G:prog.underlying T=some (.slice e))(F:prog.info? e=some i)(L:i.zero=some z)(C:i.size=size)(D:i.bytes<=1000)
 (k:W.ownsRow t e size v n xs) (s:Src prog size T (.slice (some a) m c) m f W) (b:n+m<=1000000000)
 (p:(Vr #[T,T] T #[v,.slice (some a) m c]).run prog W=.ok w W'):w.ownBlock=v.ownBlock\/w.ownBlock=some W.heap.size:=by
 subst C;have b:∀(q:Option Wt) (cap:Nat) (olds:List Us),v=.slice q n cap->cap<n+m->(Zh i.size n (.slice q n cap)).run prog W.drew=.ok olds.toArray W.drew->w.ownBlock=v.ownBlock\/w.ownBlock=some W.heap.size:=λq cap olds hv J y=>by
  have H:=uC (n+m) cap J;have B:Ys (n+m) cap*i.bytes<=(2*(n+m)+768)*1000:=WP H D;have r:=run_append_grow_src (P:=prog) W T T T e i z G F L q n cap olds y (.slice (some a) m c) m f s J oM (UB B (by clear H B;omega));rw[hv,r]at p;injection p with hr1 o
  right;rw[<-hr1];rfl
 rcases id k with⟨-,⟨rfl,rfl⟩|⟨g,cap,cur,rfl,N,I,O,Q,K,R⟩⟩
 ·by_cases E:m=0
  ·subst E;have M:=p;obtain⟨d,o⟩:∃d,(Vr #[T,T] T #[.slice none 0 0,.slice (some a) 0 c]).run prog W=.ok (.slice none 0 0) d:=by
    rcases s.kind with⟨e',A⟩|A<;>exact⟨_,by simp[Vr,XX G,XX A,sizeOf,typeInfo,F,s.len,s.cells];rfl⟩
   rw[o]at p;injection p with hr1 o
   left;rw[<-hr1]
  ·exact b none 0 [] rfl oM (run_firstCells_none W.drew i.size 0 0 0)
 ·by_cases d:n+m<=cap
  ·have r:=Y6 (P:=prog) W T T T e i G F g 0 n cap (.slice (some a) m c) m f s d
    (λj A=>by
     have E:n*i.size+j<cur.size:=by
      rw[K];have H:j<m*i.size:=by rw[<-s.newsLen];exact A
      have B:(n+m)*i.size<=cap*i.size:=Xr _ d;rw[XE]at B;omega
     simp[VX,I,UC,UZ E])
    (λj A=>by simp[WV,I])
   rw[r]at p;injection p with hr1 o
   left;rw[<-hr1];rfl
  ·refine b (some (aZ g)) cap xs rfl oM ?_;exact run_firstCells_some W.drew i.size n (aZ g) n cap xs k.1 (λj u A=>by rw[YY];exact k.cells (g:=g) rfl j u A)
theorem Gn{P:VC}{k:Array Vj}{o:Vj}{a:Act}{w:Uq}{K:Act->Uq->Prop}{Q:Yo->Act->Uq->Prop}{E:Prop}(i:o.guard=none)(s x:XF)(t c:U7)
 (ho:o.op=.call { callee:=.builtin .append,args:=#[s,x],argTypes:=#[t,c] }) (vs b:Us) (f:a.eval s=vs) (hx:a.eval x=b)
 (d:Us) (w':Uq) (g:(Vr #[t,c] o.type #[vs,b]).run P w=.ok d w') (h:K (a.put o.dst d) w'):if V1 o (yielded k a.tmps)=true then VS P o a w K Q else E:=by
 have e:V1 o (yielded k a.tmps)=true:=by simp[V1,i]
 rw[yCj e];exact Lib.wp_append_run w s x t c ho vs b f hx d w' g h
theorem Hy:prog.underlying 107=some (.slice 112):=kR
theorem Pr:(prog.info? 112).map (λi=>(i.size,i.bytes,i.zero.map λz=>z.cells.size))=some (2,16,some 2):=kR
def pC(x:Wt × Nat):List Us:=[.pointer (some x.1),iZ (x.2:Int)]
def psC(k:List (Wt × Nat)):List Us:=k.flatMap pC
theorem nX:∀k:List (Wt × Nat),(psC k).length=k.length*2
 | []=>rfl
 | x :: r=>by
  have:=nX r;unfold psC at *;rw[List.flatMap_cons,Uz,this,Vh];show 2+_=_;omega
theorem LZ(a b:List (Wt × Nat)):psC (a++b)=psC a++psC b:=List.flatMap_append
theorem EI:∀(k:List (Wt × Nat)),∀u∈psC k,u.oneCell'=true:=by
 intro k u b;obtain⟨x,-,hx⟩:=List.mem_flatMap.1 b;unfold pC at hx;simp only[VW,UX,or_false]at hx;rcases hx with rfl|rfl<;>rfl
theorem II:∀(k:List (Wt × Nat)) (j:Nat) (x:Wt × Nat),k[j]? = some x->(psC k)[2*j]? = some (.pointer (some x.1))/\(psC k)[2*j+1]? = some (iZ (x.2:Int))
 | [],j,x,h=>by simp at h
 | y :: r,0,x,h=>by
  obtain rfl:y=x:=by simpa using h
  exact⟨rfl,rfl⟩
 | y :: r,j+1,x,h=>by
  have:=II r j x (by simpa using h);have e:psC (y :: r)=pC y++psC r:=rfl;rw[e,U0 (by show 2<=_;omega),U0 (by show 2<=_;omega)];show(psC r)[2*(j+1)-2]? = _/\(psC r)[2*(j+1)+1-2]? = _;rw[show 2*(j+1)-2=2*j by omega,show 2*(j+1)+1-2=2*j+1 by omega];exact this
structure PLs(w W:Uq)(v:Us)(ps:List (Wt × Nat)):Prop where
 bl:kZ w W
 ow:W.ownsRow w.heap.size 112 2 v ps.length (psC ps)
 nn:v.ownBlock≠none
theorem PLs.lt{w W:Uq}{v:Us}{b:List (Wt × Nat)}(h:PLs w W v b):∃g cap,v=sZ g b.length cap/\w.heap.size<=g/\g<W.heap.size:=by
 rcases id h.ow with⟨-,⟨rfl,e⟩|⟨g,cap,cur,rfl,d,k,-⟩⟩
 ·exact absurd rfl h.nn
 ·refine⟨g,cap,rfl,d,?_⟩;by_cases c:g<W.heap.size
  ·exact c
  ·rw[WM oM]at k;cases k
theorem PLs.below{w W W':Uq}{v:Us}{d:List (Wt × Nat)}(h:PLs w W v d)(c:kZ W W'):PLs w W' v d:=by
 refine⟨h.bl.trans (c.mono h.bl.size),?_,h.nn⟩;rcases h.ow with⟨e,b|⟨g,cap,cur,b,i,k,j⟩⟩
 ·exact⟨e,U3 b⟩
 ·refine⟨e,UW ⟨g,cap,cur,b,i,?_,j⟩⟩;rw[c.block g (by
   by_cases f:g<W.heap.size
   ·exact f
   ·rw[WM oM]at k;cases k)]
  exact k
theorem PLs.app{w W:Uq}{v:Us}{f ys:List (Wt × Nat)}{b m c:Nat}(h:PLs w W v f)(hx:W.rangeAt b 0 (psC ys))(n:ys.length=m)(J:f.length+m<=1000000)(H:0<m):
 ∃d W',(Vr #[107,107] 107 #[v,sZ b m c]).run prog W=.ok d W'/\PLs w W' d (f++ys)/\W.grownBy W' v.ownBlock/\(d.ownBlock=v.ownBlock\/d.ownBlock=some W.heap.size):=by
 obtain⟨i,x,q⟩:=Ux.1 Pr;simp only[V5.injEq]at q;obtain⟨a,E,G⟩:=q;obtain⟨z,s,l⟩:=Ux.1 G;obtain⟨g,cap,rfl,D,C⟩:=h.lt;have y:∀(j:Nat) u,(psC ys)[j]? = some u->W.cell? ((⟨b,0,none⟩:Wt).add j)=some u:=λj u B=>by rw[lH];exact hx j u B
 obtain⟨d,W',o,t,e,F⟩:=Y1 (P:=prog) W w.heap.size 107 107 112 i z 2 16 Hy x s a E l dC _ f.length (psC f) h.ow (aZ b) m c (psC ys) (by rw[nX,n]) y (EI ys) (by unfold maxLen;omega) oM h.bl.size;have A:=wX (c:=c) Hy x s a oM h.ow (yAB (P:=prog) (size:=2) W Hy (aZ b) m c (psC ys) (by rw[nX,n]) y (EI ys)) oM o;refine⟨d,W',o,⟨⟨by rw[e.os,h.bl.os],by rw[e.tape,h.bl.tape],by rw[e.output,h.bl.output],UB h.bl.size e.size,λk r=>?_⟩,?_,?_⟩,e,A⟩
 ·rw[e.block k (Uw r h.bl.size) (by simp[V8];omega)];exact h.bl.block k r
 ·rw[Uz,n,LZ];exact t
 ·rcases t.2 with⟨I,-⟩|⟨K,p,cur,rfl,-⟩
  ·have:=(F.1 I).1;exact absurd this (by simp)
  ·simp[V8]
theorem PLs.at{w W:Uq}{g n c:Nat}{b:List (Wt × Nat)}(h:PLs w W (sZ g n c) b)(j:Nat)(x:Wt × Nat)(f:b[j]? = some x):W.rangeAt g (2*j) (pC x):=λk u e=>by
 have d:=II b j x f;have:=h.ow.cells (g:=g) rfl (2*j+k) u (by
  match k,e with
  | 0,h=>rw[<-h];exact d.1
  | 1,h=>rw[<-h];exact d.2)
 rw[lH,UC]at this;exact this
theorem Mi(w:Uq)(k:List (Wt × Nat))(b:k.length<=1000000):PLs w (w.alloc (.cells (psC k).toArray 112)) (sZ w.heap.size k.length k.length) k:=
 ⟨aO w _,⟨nX k,.inr ⟨w.heap.size,k.length,(psC k).toArray,rfl,Uv _,WT,Uv _,by unfold maxLen;omega,by rw[VB,nX],by rw[<-nX k];simp⟩⟩,by simp[V8]⟩
def lp(b o n:Nat):List (Wt × Nat):=(VF n).map λj=>((⟨b,o+j,none⟩:Wt),33)
def tH(k:Nat):List (Wt × Nat):=[(⟨k,0,none⟩,33),(⟨k,1,none⟩,33),(⟨k,2,none⟩,33),(⟨k,3,none⟩,33),(⟨k,4,none⟩,32),(⟨k,5,none⟩,32),(⟨k,6,none⟩,32)]
def endP(k:Nat):List (Wt × Nat):=[(⟨k,9,none⟩,32),(⟨k,10,none⟩,32)]
theorem MC(b o n:Nat):lp b o (n+1)=lp b o n++[(⟨b,o+n,none⟩,33)]:=by
 unfold lp;rw[List.range_succ,V9];rfl
theorem jK(b o n:Nat):(lp b o n).length=n:=by unfold lp;simp
def sU(k c d b e or f:Nat):Nat->List (Wt × Nat)
 | 0=>tH k
 | 1=>tH k++lp c d b
 | _=>tH k++lp c d b++lp e or f
structure PI(w w1 w2 W:Uq)(v:Us)(ps:List (Wt × Nat)):Prop where
 pl:PLs w W v ps
 ne:v.ownBlock≠some w1.heap.size
 eq:W.heap[w1.heap.size]? = w2.heap[w1.heap.size]?
 sz:w2.heap.size<=W.heap.size
theorem PI.app{w k d W:Uq}{v:Us}{f:List (Wt × Nat)}{x:Wt × Nat}(h:PI w k d W v f)(r:k.heap.size<d.heap.size)(t:f.length<=10000):
 ∃b W',(Vr #[107,107] 107 #[v,sZ W.heap.size 1 1]).run prog (W.alloc (.cells (pC x).toArray 112))=.ok b W'/\PI w k d W' b (f++[x]):=by
 have g:=aO W (.cells (pC x).toArray 112);have l:(W.alloc (.cells (pC x).toArray 112)).rangeAt W.heap.size 0 (psC [x]):=by
  have e:psC [x]=pC x:=Xt _;rw[e];exact eI W (pC x) _
 obtain⟨b,W',j,q,i,o⟩:=(h.pl.below g).app (m:=1) (c:=1) l rfl oM dC;have s:=h.sz;have p:(W.alloc (.cells (pC x).toArray 112)).heap.size=W.heap.size+1:=UA _ _;refine⟨b,W',j,q,?_,?_,?_⟩
 ·rcases o with e|e
  ·rw[e];exact h.ne
  ·rw[e,p];intro h;have:=UN.inj h;omega
 ·rw[i.block k.heap.size oM (λn=>h.ne n.symm),g.block k.heap.size oM];exact h.eq
 ·have:=i.size;omega
theorem TS(b o n c i:Nat)(k:i<n)(w:Uq):(Vk 24 (.slice (some ⟨b,o,none⟩) n c) (iZ i)).run prog w=.ok (.pointer (some ⟨b,o+i,none⟩)) w:=by
 have e:¬(i:Int)<0:=oM;have d:(i:Int)<(n:Int):=oM;have f:=lH b o i;go_simp
theorem zP(d:Nat)(l r:Sv)(u y z or:Nat)(w:Uq)(N:d<w.heap.size)(h7:w.cell? ⟨d,7,none⟩=some l.v)(h8:w.cell? ⟨d,8,none⟩=some r.v)
 (M:l.n=0\/l.q=some ⟨u,y,none⟩) (G:r.n=0\/r.q=some ⟨z,or,none⟩) (C:l.n<=1000) (E:r.n<=1000) :
 UG prog 55 #[.pointer (some ⟨d,0,none⟩)] w λe w'=>∃v,e=.returned v/\PLs w w' v (tH d++lp u y l.n++lp z or r.n++endP d):=by
 obtain⟨Q,s,cl⟩:=l;obtain⟨O,t,cr⟩:=r;dsimp only[Sv.v]at *;obtain⟨f,D⟩:∃f,Hid ((w.alloc (.cells #[.pointer (some ⟨d,0,none⟩),.int .i64 33,.pointer (some ⟨d,1,none⟩),.int .i64 33,.pointer (some ⟨d,2,none⟩),.int .i64 33,.pointer (some ⟨d,3,none⟩),.int .i64 33,.pointer (some ⟨d,4,none⟩),.int .i64 32,.pointer (some ⟨d,5,none⟩),.int .i64 32,.pointer (some ⟨d,6,none⟩),.int .i64 32] 112)).drew=f):=⟨_,rfl⟩
 obtain⟨a,A⟩:∃a,Hid ((f.alloc (.cells #[.slice Q s cl,.slice O t cr] 24)).drew=a):=⟨_,rfl⟩
 have F:∀W:Uq,Below W.heap.size W W.drew:=λW=>⟨rfl,rfl,rfl,Uv _,λ_ _=>rfl⟩
 have p1:PLs w f (.slice (some ⟨w.heap.size,0,none⟩) 7 7) (tH d):=by
  rw[<-D.out];exact(Mi w (tH d) (by show 7<=_;omega)).below (F _)
 have Y:Below f.heap.size f a:=by
  rw[<-A.out];exact(aO f _).trans ((F _).mono (by rw[UA];omega))
 have p2:=p1.below Y;have c7:f.cell? ⟨d,7,none⟩=some (.slice Q s cl):=by rw[p1.bl.cell (p:=⟨d,7,none⟩) N];exact h7
 have c8:f.cell? ⟨d,8,none⟩=some (.slice O t cr):=by rw[p1.bl.cell (p:=⟨d,8,none⟩) N];exact h8
 have Z:a.cell? ⟨f.heap.size,0,none⟩=some (.slice Q s cl):=by rw[<-A.out,YY];exact cZ f _ _ 0 _ rfl
 have d1:a.cell? ⟨f.heap.size,1,none⟩=some (.slice O t cr):=by rw[<-A.out,YY];exact cZ f _ _ 1 _ rfl
 have s2:f.heap.size<a.heap.size:=by rw[<-A.out,yA6,UA];omega
 have T:Hid (PI w f a a (.slice (some ⟨w.heap.size,0,none⟩) 7 7) (sU d u y s z or t 0)):=⟨p2,by
  have:f.heap.size=w.heap.size+1:=by rw[<-D.out,yA6,UA]
  simp[V8];omega,rfl,Uv _⟩
 have HN:Hid (∀(i:Nat) (W:Uq),i<2->W.heap[f.heap.size]? = a.heap[f.heap.size]?->∃q n c b o,W.cell? ⟨f.heap.size,i,none⟩=some (.slice q n c)/\(n=0\/q=some ⟨b,o,none⟩)/\n<=1000/\sU d u y s z or t (i+1)=sU d u y s z or t i++lp b o n/\(sU d u y s z or t i).length<=1007):=λi W P hW=>by
  have B:∀k,W.cell? ⟨f.heap.size,k,none⟩=a.cell? ⟨f.heap.size,k,none⟩:=λk=>by
   unfold VX;rw[hW]
  match i,P with
  | 0,_=>exact⟨Q,s,cl,u,y,by rw[B];exact Z,M,C,rfl,by show 7<=_;omega⟩
  | 1,_=>exact⟨O,t,cr,z,or,by rw[B];exact d1,G,E,rfl,by show(tH d++lp u y s).length<=_;rw[Uz,jK];show 7+s<=_;omega⟩
 have S:=Hid.mkP s2;clear p1 p2 Y h7 h8 Z d1 s2 F M G;go_enter func55,ntmps55;go_wp2;go_region
 rw[D.out];go_wp2;go_region
 rw[A.out];go_wp2;go_loopg [4,50] 2 (λgk s4 s50 wr=>∃i:Nat,i+gk=2/\s50=.int .i64 i/\Hid (PI w f a wr s4 (sU d u y s z or t i)))
 case atStart=>exact⟨0,rfl,rfl,T⟩
 case round =>
  obtain⟨i,P,rfl,K⟩:=hrel;by_cases h2:i<2
  ·obtain⟨q,n,c,b,o,e1,L,e3,e4,e5⟩:=HN.out i wr h2 K.eq;have U:(i:Int)<2:=oM;have h0:∀W:Uq,(Vk 213 (.slice (some ⟨f.heap.size,0,none⟩) 2 2) (.int .i64 i)).run prog W=.ok (.pointer (some ⟨f.heap.size,i,none⟩)) W:=λW=>by
    have C:¬(i:Int)<0:=oM;have B:=lH f.heap.size 0 i;rw[UC]at B;go_simp
   have E2:=Hid.mkP L;have E4:=Hid.mkP e4;have E5:=Hid.mkP e5;clear L e4 e5;obtain⟨g,cap,rfl,-,-⟩:=K.pl.lt;have V:Hid (i+gk=2):=P;clear P;go_wp2;go_loopg [4,56] n (λm s4 s56 wi=>∃j:Nat,j+m=n/\s56=.int .i64 j/\Hid (PI w f a wi s4 (sU d u y s z or t i++lp b o j)))
   case atStart=>exact⟨0,oM,rfl,by
    have e:lp b o 0=[]:=rfl;rw[e,Xt];exact K⟩
   case round =>
    clear K;obtain⟨j,hj,rfl,K⟩:=hrel;obtain⟨g,cap,rfl,-,-⟩:=K.pl.lt;have M:(sU d u y s z or t i++lp b o j).length<=10000:=by
     have:=E5.out;rw[Uz,jK];omega
    by_cases X:j<n
    ·have H:(j:Int)<(n:Int):=oM;obtain rfl:q=some ⟨b,o,none⟩:=by
      rcases E2.out with h|h
      ·omega
      ·exact h
     have h4:=TS b o n c j X;obtain⟨R,C⟩:∃R,Hid (wr.alloc (.cells (pC (⟨b,o+j,none⟩,33)).toArray 112)=R):=⟨_,rfl⟩
     obtain⟨v',W',E,B⟩:=K.app (x:=(⟨b,o+j,none⟩,33)) S.out M;rw[C.out]at E;obtain⟨g',I,rfl,-,-⟩:=B.pl.lt;generalize (sU d u y s z or t i++lp b o j++[((⟨b,o+j,none⟩:Wt),33)]).length=N2 at E B;rw[Vw,<-MC]at B;have J:=Hid.mkP B;have R1:=Hid.mkP E;generalize (sU d u y s z or t i++lp b o j).length=N1 at R1⊢;clear K E B M;go_wp2_with (first|(refine aY (v:=.slice (some ⟨wr.heap.size,0,none⟩) 1 1) (w':=R) rfl (.buildSlice 107 1 #[(0,.tmp 63)]) rfl ?_ ?_;(rw[<-C.out];kernel_rfl))|(at_builtin;refine WH R rfl _ _ _ _ rfl _ _ rfl rfl _ _ R1.out ?_)|fail)
     go_roundg (gk-1)
     case measure=>omega
     case rel=>exact⟨j+1,oM,rfl,J⟩
    ·have H:¬(j:Int)<(n:Int):=oM;obtain rfl:j=n:=oM;rw[<-E4.out]at K⊢;go_wp2;go_roundg (1-i)
     case measure =>
      have:=V.out;omega
     case rel=>exact⟨i+1,oM,rfl,K⟩
  ·have U:¬(i:Int)<2:=oM;obtain rfl:i=2:=oM;obtain⟨g,cap,rfl,-,-⟩:=K.pl.lt;have H:(sU d u y s z or t 2).length<=2007:=by
    show(tH d++lp u y s++lp z or t).length<=_;rw[Uz,Uz,jK,jK];show 7+_+_<=_;omega
   have R:=(aO wr (.cells (psC (endP d)).toArray 112)).trans (⟨rfl,rfl,rfl,Uv _,λ_ _=>rfl⟩:Below wr.heap.size (wr.alloc (.cells (psC (endP d)).toArray 112)) (wr.alloc (.cells (psC (endP d)).toArray 112)).drew);have G:(wr.alloc (.cells (psC (endP d)).toArray 112)).drew.rangeAt wr.heap.size 0 (psC (endP d)):=by
    rw[World.rangeAt_drew];exact eI wr _ _
   obtain⟨v',W',E,B,-,-⟩:=(K.pl.below R).app (m:=2) (c:=2) G rfl oM dC;have C:Hid ((Vr #[107,107] 107 #[.slice (some ⟨g,0,none⟩) (sU d u y s z or t 2).length cap,.slice (some ⟨wr.heap.size,0,none⟩) 2 2]).run prog (wr.alloc (.cells #[.pointer (some ⟨d,9,none⟩),.int .i64 32,.pointer (some ⟨d,10,none⟩),.int .i64 32] 112)).drew=.ok v' W'):=E;have J:=Hid.mkP B;obtain⟨g',I,rfl,-,-⟩:=B.lt;have L:sU d u y s z or t 2++endP d=tH d++lp u y s++lp z or t++endP d:=rfl;rw[L]at J C;generalize (tH d++lp u y s++lp z or t++endP d).length=N2 at J C;generalize (sU d u y s z or t 2).length=N1 at C⊢;clear K H E B R G L;go_wp2;go_region_law (refine Gn rfl (.tmp 68) (.tmp 77) 107 107 rfl (.slice (some ⟨g,0,none⟩) N1 cap) (.slice (some ⟨wr.heap.size,0,none⟩) 2 2) (by simp[yAC,UM]) (by simp[yAC,UM]) _ _ C.out ?_)
   go_wp2;go_ret;exact⟨_,rfl,J.out⟩
theorem Jd:(prog.info? 5).map (λi=>(i.size,i.bytes,i.zero.map λz=>z.cells.size))=some (1,1,some 1):=kR
def bC(b:SP.Bs):List Us:=b.toList.map SP.encB
theorem yR(b:SP.Bs):(bC b).length=b.size:=by unfold bC;simp
theorem Bp(b:SP.Bs):∀u∈bC b,u.oneCell'=true:=by
 intro u k;obtain⟨x,-,rfl⟩:=Vm.1 k;rfl
theorem Qe(a b:SP.Bs):bC (a++b)=bC a++bC b:=by unfold bC;simp
theorem Pt.vl{W:Uq}{q:Option Wt}{n c:Nat}{b:SP.Bs}(h:Pt W (.slice q n c) b):n=b.size/\VL W q n (bC b):=by
 obtain⟨r,p,m,k⟩:=h;injection m with e1 e2 e3
 subst e1 e2;refine⟨rfl,⟨yR b,?_,?_,Bp b⟩⟩
 ·intro d;rcases k with k|⟨g,o,e,-⟩
  ·exact k
  ·rw[d]at e;cases e
 ·rcases k with k|⟨g,o,e,i,l⟩
  ·left;have:(bC b).length=0:=by rw[yR];exact k
   exact List.length_eq_zero_iff.1 this
  ·right;refine⟨g,o,e,i,λj u f=>?_⟩;unfold bC at f;rw[Vy]at f;obtain⟨x,hx,rfl⟩:=Ux.1 f;have d:j<b.size:=by
    have:=(UE.1 hx).1;simpa using this
   rw[(l j d).1];rw[getElem!_pos b j d];have:=(UE.1 hx).2;rw[Array.getElem_toList]at this;rw[this]
structure PuI(w w4 W:Uq)(gp gq:Nat)(v:Us)(b:SP.Bs):Prop where
 bl:kZ w W
 ow:W.ownsRow w.heap.size 5 1 v b.size (bC b)
 nn:v.ownBlock≠none
 n1:v.ownBlock≠some gp
 n2:v.ownBlock≠some gq
 e1:W.heap[gp]? = w4.heap[gp]?
 e2:W.heap[gq]? = w4.heap[gq]?
 sz:w4.heap.size<=W.heap.size
 l1:gp<w4.heap.size
 l2:gq<w4.heap.size
theorem PuI.lt{w d W:Uq}{c i:Nat}{v:Us}{b:SP.Bs}(h:PuI w d W c i v b):∃g cap,v=sZ g b.size cap/\w.heap.size<=g/\g<W.heap.size:=by
 rcases id h.ow with⟨-,⟨rfl,j⟩|⟨g,cap,cur,rfl,f,k,-⟩⟩
 ·exact absurd rfl h.nn
 ·refine⟨g,cap,rfl,f,?_⟩;by_cases e:g<W.heap.size
  ·exact e
  ·rw[WM oM]at k;cases k
theorem PuI.below{w j W W':Uq}{d c:Nat}{v:Us}{b:SP.Bs}(h:PuI w j W d c v b)(k:kZ W W'):PuI w j W' d c v b:=by
 have l:=h.sz;refine⟨h.bl.trans (k.mono h.bl.size),?_,h.nn,h.n1,h.n2,by rw[k.block d (by have:=h.l1;omega)];exact h.e1,by rw[k.block c (by have:=h.l2;omega)];exact h.e2,UB l k.size,h.l1,h.l2⟩;rcases h.ow with⟨i,f|⟨g,cap,cur,f,n,e,o⟩⟩
 ·exact⟨i,U3 f⟩
 ·refine⟨i,UW ⟨g,cap,cur,f,n,?_,o⟩⟩;rw[k.block g (by
   by_cases m:g<W.heap.size
   ·exact m
   ·rw[WM oM]at e;cases e)]
  exact e
theorem zB:prog.underlying 23=some (.slice 5):=kR
theorem PuI.app{w s W:Uq}{n m:Nat}{v:Us}{b x:SP.Bs}{q:Option Wt}{c:Nat}(h:PuI w s W n m v b)(hx:VL W q x.size (bC x))(M:b.size+x.size<=1000000):
 ∃l W',(Vr #[23,23] 23 #[v,.slice q x.size c]).run prog W=.ok l W'/\PuI w s W' n m l (b++x):=by
 obtain⟨i,y,C⟩:=Ux.1 Jd;simp only[V5.injEq]at C;obtain⟨F,J,K⟩:=C;obtain⟨z,E,t⟩:=Ux.1 K;obtain⟨g,cap,rfl,I,H⟩:=h.lt;have G:=h.sz;cases q with
 | none =>
  have B:=hx.nil rfl;obtain rfl:x=#[]:=ZG B;rcases id h.ow with⟨-,⟨d,-⟩|⟨L,r,cur,d,D,O,A,N⟩⟩
  ·cases d
  ·injection d with d _ h0'
   injection d with d
   injection d with d
   subst d h0';have p:=Y6 (P:=prog) W 23 23 23 5 i zB y g 0 b.size cap (.slice none 0 c) 0 [] (Src.ofNil (e':=5) _ zB c) A (λj f=>by cases f) (λj f=>by cases f);refine⟨_,_,p,?_⟩;rw[Array.append_empty];exact h
 | some a =>
  have p:∀(j:Nat) u,(bC x)[j]? = some u->W.cell? (a.add j)=some u:=λj u f=>by
   rcases hx.cells with d|⟨b,o,r,-,p⟩
   ·rw[d]at f;cases f
   ·obtain rfl:=UN.inj r;rw[lH];exact p j u f
  obtain⟨l,W',A,L,d,N⟩:=Y1 (P:=prog) W w.heap.size 23 23 5 i z 1 1 zB y E F J t dC _ b.size (bC b) h.ow a x.size c (bC x) (by rw[yR];omega) p (Bp x) (by unfold maxLen;omega) oM h.bl.size;have B:=wX (c:=c) zB y E F oM h.ow (yAB (P:=prog) (size:=1) W zB a x.size c (bC x) (by rw[yR];omega) p (Bp x)) oM A;have D:∀k,k<s.heap.size->l.ownBlock≠some k\/(sZ g b.size cap).ownBlock=some k:=λk r=>by
   rcases B with e|e
   ·by_cases hh:(sZ g b.size cap).ownBlock=some k
    ·exact UW hh
    ·left;rw[e];exact hh
   ·left;rw[e];intro hh;have:=UN.inj hh;omega
  refine⟨l,W',A,⟨⟨by rw[d.os,h.bl.os],by rw[d.tape,h.bl.tape],by rw[d.output,h.bl.output],UB h.bl.size d.size,λk r=>?_⟩,?_,?_,?_,?_,?_,?_,?_,h.l1,h.l2⟩⟩
  ·rw[d.block k (Uw r h.bl.size) (by simp[V8];omega)];exact h.bl.block k r
  ·rw[Array.size_append,Qe];exact L
  ·rcases B with e|e<;>rw[e]
   ·simp[V8]
   ·simp
  ·rcases D n h.l1 with e|e
   ·exact e
   ·exact absurd e h.n1
  ·rcases D m h.l2 with e|e
   ·exact e
   ·exact absurd e h.n2
  ·rw[d.block n (by have:=h.l1;omega) (λe=>h.n1 e.symm)];exact h.e1
  ·rw[d.block m (by have:=h.l2;omega) (λe=>h.n2 e.symm)];exact h.e2
  ·exact UB G d.size
theorem Dx{t n m size c:Nat}{T e:U7}{i:TypeInfo}{z:Us}{W W':Uq}{v w:Us}{xs o:List Us}{a:Wt}(G:prog.underlying T=some (.slice e))(F:prog.info? e=some i)(L:i.zero=some z)(C:i.size=size)(D:i.bytes<=1000)
 (k:W.ownsRow t e size v n xs) (s:Src prog size T (.slice (some a) m c) m o W) (b:n+m<=1000000000)
 (p:(Vr #[T,T] T #[v,.slice (some a) m c]).run prog W=.ok w W'):w.ownBlock=v.ownBlock\/(w.ownBlock=some W.heap.size/\kZ W W'):=by
 subst C;have b:∀(q:Option Wt) (cap:Nat) (olds:List Us),v=.slice q n cap->cap<n+m->(Zh i.size n (.slice q n cap)).run prog W.drew=.ok olds.toArray W.drew->w.ownBlock=v.ownBlock\/(w.ownBlock=some W.heap.size/\kZ W W'):=λq cap olds hv J y=>by
  have H:=uC (n+m) cap J;have B:Ys (n+m) cap*i.bytes<=(2*(n+m)+768)*1000:=WP H D;have r:=run_append_grow_src (P:=prog) W T T T e i z G F L q n cap olds y (.slice (some a) m c) m o s J oM (UB B (by clear H B;omega));rw[hv,r]at p;injection p with hr1 d
  right;refine⟨by rw[<-hr1];rfl,?_⟩;rw[<-d];exact(⟨rfl,rfl,rfl,Uv _,λ_ _=>rfl⟩:kZ W W.drew).trans (aO W.drew _)
 rcases id k with⟨-,⟨rfl,rfl⟩|⟨g,cap,cur,rfl,N,I,O,Q,K,R⟩⟩
 ·by_cases E:m=0
  ·subst E;have M:=p;obtain⟨f,d⟩:∃f,(Vr #[T,T] T #[.slice none 0 0,.slice (some a) 0 c]).run prog W=.ok (.slice none 0 0) f:=by
    rcases s.kind with⟨e',A⟩|A<;>exact⟨_,by simp[Vr,XX G,XX A,sizeOf,typeInfo,F,s.len,s.cells];rfl⟩
   rw[d]at p;injection p with hr1 d
   left;rw[<-hr1]
  ·exact b none 0 [] rfl oM (run_firstCells_none W.drew i.size 0 0 0)
 ·by_cases f:n+m<=cap
  ·have r:=Y6 (P:=prog) W T T T e i G F g 0 n cap (.slice (some a) m c) m o s f
    (λj A=>by
     have E:n*i.size+j<cur.size:=by
      rw[K];have H:j<m*i.size:=by rw[<-s.newsLen];exact A
      have B:(n+m)*i.size<=cap*i.size:=Xr _ f;rw[XE]at B;omega
     simp[VX,I,UC,UZ E])
    (λj A=>by simp[WV,I])
   rw[r]at p;injection p with hr1 d
   left;rw[<-hr1];rfl
  ·refine b (some (aZ g)) cap xs rfl oM ?_;exact run_firstCells_some W.drew i.size n (aZ g) n cap xs k.1 (λj u A=>by rw[YY];exact k.cells (g:=g) rfl j u A)
structure Ap1(W W':Uq)(v v':Us):Prop where
 os:W'.os=W.os
 tape:W'.tape=W.tape
 output:W'.output=W.output
 size:W.heap.size<=W'.heap.size
 keep:∀g,g<W.heap.size->v.ownBlock≠some g->W'.heap[g]? = W.heap[g]?
 mv:v'.ownBlock=v.ownBlock\/((∃g,v'.ownBlock=some g/\W.heap.size<=g)/\∀g,g<W.heap.size->W'.heap[g]? = W.heap[g]?)
theorem bZ{W W':Uq}{b n k:Nat}{e:U7}{v:Us}{xs:List Us}(h:W.ownsRow b e k v n xs)(d:∀g,v.ownBlock=some g->W'.heap[g]? = W.heap[g]?):W'.ownsRow b e k v n xs:=by
 rcases h with⟨c,l|⟨g,cap,cur,rfl,f,j,i⟩⟩
 ·exact⟨c,U3 l⟩
 ·exact⟨c,UW ⟨g,cap,cur,rfl,f,by rw[d g rfl];exact j,i⟩⟩
theorem jG{W:Uq}{b n k g:Nat}{e:U7}{v:Us}{xs:List Us}(h:W.ownsRow b e k v n xs)(c:v.ownBlock=some g):b<=g/\g<W.heap.size/\∃cur,W.heap[g]? = some (.cells cur e (0,0)):=by
 rcases h with⟨l,⟨rfl,-⟩|⟨f,cap,cur,rfl,i,d,j⟩⟩
 ·cases c
 ·obtain rfl:f=g:=UN.inj c;refine⟨i,?_,cur,d⟩;by_cases c:f<W.heap.size
  ·exact c
  ·rw[WM oM]at d;cases d
theorem Dw{W:Uq}{B g c:Nat}{b:SP.Bs}(h:W.ownsRow B 5 1 (sZ g b.size c) b.size (bC b)):Holds SP.encB W g 0 b:=λk d=>by
 obtain⟨-,-,cur,f⟩:=jG h (g:=g) rfl;refine⟨?_,by simp[WV,f]⟩;have e:=h.cells (g:=g) rfl k (SP.encB b[k]!) (by
  unfold bC;rw[Vy,UF (by simpa using d),Option.map_some,getElem!_pos b k d];simp)
 rw[lH]at e;exact e
theorem FV{k n ga:Nat}{W:Uq}{v x:Us}{xs:List Us}(b:W.ownsRow k 23 1 v n xs)(hx:x.oneCell'=true)(d:W.cell? ⟨ga,0,none⟩=some x)(I:n<=1000)(C:k<=W.heap.size):
 ∃f W',(Vr #[24,24] 24 #[v,sZ ga 1 1]).run prog W=.ok f W'/\W'.ownsRow k 23 1 f (n+1) (xs++[x])/\Ap1 W W' v f:=by
 obtain⟨i,A,s⟩:=Ux.1 Je;simp only[V5.injEq]at s;obtain⟨B,E,F⟩:=s;obtain⟨z,w,p⟩:=Ux.1 F;have y:∀(j:Nat) u,[x][j]? = some u->W.cell? ((⟨ga,0,none⟩:Wt).add j)=some u:=λj u t=>by
  rw[lH,UC];have e:j=0:=by have:=(UE.1 t).1;simp at this;omega
  subst e;obtain rfl:x=u:=by simpa using t
  exact d
 have e:∀u∈[x],u.oneCell'=true:=λu G=>by
  obtain rfl:u=x:=by simpa using G
  exact hx
 obtain⟨f,W',r,H,m,-⟩:=Y1 (P:=prog) W k 24 24 23 i z 1 24 v7 A w B E p dC v n xs b (aZ ga) 1 1 [x] rfl y e (by unfold maxLen;omega) oM C;have D:=Dx (c:=1) v7 A w B oM b (yAB (P:=prog) (size:=1) W v7 (aZ ga) 1 1 [x] rfl y e) oM r;refine⟨f,W',r,H,m.os,m.tape,m.output,m.size,λg o hv=>m.block g o (λh=>hv h.symm),?_⟩;rcases D with h|⟨h,q⟩
 ·exact U3 h
 ·exact UW ⟨⟨_,h,Uv _⟩,λg o=>q.block g o⟩
section
variable {Q Q':Nat->Prop}{W:Uq}{v:Us}{n:Nat}
theorem SmQ.mono2{l:List (Nat × Bs)}(h:SmQ Q W v l)(d:∀g,g<W.heap.size->Q g->Q' g):SmQ Q' W v l:=by
 obtain⟨g,c,e,b,i,k,f⟩:=h;exact⟨g,c,e,b,d g k i,k,f⟩
theorem SLq.mono2{a:Nat->Nat}(h:SLq Q W v n a)(d:∀g,g<W.heap.size->Q g->Q' g):SLq Q' W v n a:=by
 obtain⟨g,o,c,e,b,i,k,f⟩:=h;exact⟨g,o,c,e,b,d g k i,k,f⟩
theorem GLq.mono2{T:Nat->List (Nat × Bs)}(h:GLq Q W v n T)(k:∀g,g<W.heap.size->Q g->Q' g):GLq Q' W v n T:=by
 obtain⟨g,o,c,f,d,l,b,i⟩:=h;refine⟨g,o,c,f,d,k g b l,b,λj e=>?_⟩;obtain⟨x,p,m⟩:=i j e;exact⟨x,p,m.mono2 k⟩
theorem GRq.mono2{G H:Nat->List (Nat × Bs)}{U:List (Nat × Bs)}(h:GRq Q W v n G H U)(k:∀g,g<W.heap.size->Q g->Q' g):GRq Q' W v n G H U:=by
 obtain⟨d,e,b,j,c,i,f⟩:=h.ex;exact⟨d,e,b,j,c.mono2 k,i.mono2 k,f.mono2 k⟩
end
def ElQ(Q:Nat->Prop)(m:Nat)(W:Uq)(x:Us)(b:Bs):Prop:=∃k c,x=sZ k m c/\m<=c/\b.size=m/\Q k/\k<W.heap.size/\Holds encB W k 0 b
section
variable {Q Q':Nat->Prop}{W W':Uq}{x:Us}{m:Nat}{b:Bs}
theorem ElQ.keep(h:ElQ Q m W x b)(d:Kq Q W W'):ElQ Q m W' x b:=by
 obtain⟨k,c,n,i,o,g,f,p⟩:=h;refine⟨k,c,n,i,o,g,Uw f d.size,λj l=>?_⟩;have e:=d.block k g f;rw[UV (a:=⟨k,0+j,none⟩) e,VT (a:=⟨k,0+j,none⟩) e];exact p j l
theorem ElQ.mono2(h:ElQ Q m W x b)(f:∀g,g<W.heap.size->Q g->Q' g):ElQ Q' m W x b:=by
 obtain⟨k,c,i,e,l,j,d,n⟩:=h;exact⟨k,c,i,e,l,f k d j,d,n⟩
theorem ElQ.one(h:ElQ Q m W x b):x.cells=#[x]/\x.oneCell'=true:=by
 obtain⟨k,c,rfl,-⟩:=h;exact⟨rfl,rfl⟩
theorem ElQ.arg(h:ElQ Q 33 W x b):Arg33 W x b:=by
 obtain⟨k,c,rfl,d,f,-,e,g⟩:=h;exact⟨_,33,c,rfl,f,λ_=>⟨k,0,rfl,d,e,g⟩⟩
end
def r33(g:Nat):Us:=sZ g 33 33
def r32(g:Nat):Us:=sZ g 32 32
theorem fZ{a:Bs}(i:a.size=33)(w:Uq):UG prog 142 #[pvl a] w (rZ w λe w'=>ElQ (w.heap.size<=·) 33 w' e a/\∃g,e=r33 g):=by
 have f:=Hid.mk' (rM i w);obtain⟨c,k⟩:=hE (w.alloc (.cells (aA a).toArray 103));rw[k.out]at f;have K:Hid (Row c w.heap.size (aA a)/\kZ w c):=by rw[<-k.out];exact⟨aE w _ _,aC w _⟩
 obtain⟨va,b⟩:=hE (pvl a);have d:Hid ((Vd 103 va).run prog w=.ok (jZ w.heap.size) c):=by rw[<-b.out];exact f
 rw[b.out];have j:=QM w.heap.size;go_enter func142,ntmps142;go_wp2_with (first|(refine aF (u:=va) (v:=jZ w.heap.size) (w':=c) rfl 103 (.tmp 0) rfl ?_ ?_ ?_;rfl;exact d.out))
 go_ret;exact⟨_,rfl,K.2,⟨w.heap.size,33,rfl,oM,i,Uv _,K.1.1,row_holds K.1⟩,_,rfl⟩
structure TlL(Q:Nat->Prop)(base i:Nat)(W:Uq)(v:Us)(B:Nat->Bs):Prop where
 ex:∃xs,W.ownsRow base 23 1 v i xs/\∀j,j<i->∃x,xs[j]? = some x/\ElQ Q 33 W x (B j)
def QH(r k:Nat)(b c:Us)(g:Nat):Prop:=g≠r/\(g<k\/k+4<=g)/\b.ownBlock≠some g/\c.ownBlock≠some g
def Dj(W:Uq)(B i j:Nat)(v u:Us):Prop:=∃l m:List Nat,(l++m).Nodup/\W.ownsRow 0 23 1 v i (l.map r33)/\W.ownsRow 0 23 1 u j (m.map r33)/\∀g,g∈l++m->B<=g/\g<W.heap.size
theorem O8{l m:List Nat}{g:Nat}(h:(l++m).Nodup)(k:g ∉ l++m):(l++[g]++m).Nodup:=by
 simp only[YW,Wy,not_or,WL,XR,UX,not_false_eq_true,yBr,and_true,true_and]at *;grind
theorem Mz{l m:List Nat}(h:(l++m).Nodup):(m++l).Nodup:=by
 simp only[YW]at *;grind
theorem IP{W:Uq}{b d n:Nat}{T:U7}{v:Us}{xs ys:List Us}(k:W.ownsRow b T 1 v n xs)(c:W.ownsRow d T 1 v n ys):xs=ys:=by
 have m:=k.1;have l:=c.1;rcases id k with⟨-,⟨-,e⟩|⟨g,cap,cur,rfl,-⟩⟩
 ·subst e;rw[ZN (by omega:xs.length=0),ZN (by omega:ys.length=0)]
 ·refine List.ext_getElem? λj=>?_
  by_cases i:j<n
  ·have f:=k.cells (g:=g) rfl j xs[j] (UF oM);have a2:=c.cells (g:=g) rfl j ys[j] (UF oM);rw[f]at a2;rw[UF (by omega:j<xs.length),UF (by omega:j<ys.length)];exact a2
  ·rw[Ww oM,Ww oM]
section
variable {W W' W1:Uq}{B i j:Nat}{v u:Us}
theorem Dj.keep(h:Dj W B i j v u)(n:W.heap.size<=W'.heap.size)(hv:∀g,v.ownBlock=some g->W'.heap[g]? = W.heap[g]?)(c:∀g,u.ownBlock=some g->W'.heap[g]? = W.heap[g]?):Dj W' B i j v u:=by
 obtain⟨l,m,f,e,d,k⟩:=h;exact⟨l,m,f,bZ e hv,bZ d c,λg b=>⟨(k g b).1,Uw (k g b).2 n⟩⟩
theorem Dj.swap(h:Dj W B i j v u):Dj W B j i u v:=by
 obtain⟨l,m,e,c,b,d⟩:=h;exact⟨m,l,Mz e,b,c,λg k=>d g (by rw[Wy]at k⊢;exact k.symm)⟩
theorem Dj.app{g:Nat}{r:Us}{xs:List Us}{b:Nat}(h:Dj W B i j v u)(o:B<=g/\W.heap.size<=g/\g<W'.heap.size)(t:W.heap.size<=W'.heap.size)(hx:W1.ownsRow b 23 1 v i xs)(hv:∀g,v.ownBlock=some g->W1.heap[g]? = W.heap[g]?)(w:∀g,u.ownBlock=some g->W'.heap[g]? = W.heap[g]?)(s:W'.ownsRow b 23 1 r (i+1) (xs++[r33 g])):Dj W' B (i+1) j r u:=by
 obtain⟨l,m,d,p,c,q⟩:=h;rw[IP hx (bZ p hv)]at s;refine⟨l++[g],m,O8 d λe=>by have:=(q g e).2;omega,?_,bZ c w,λn k=>?_⟩
 ·rw[V9];rcases s with⟨f,d|⟨g,cap,cur,rfl,p,c⟩⟩
  ·exact⟨f,U3 d⟩
  ·exact⟨f,UW ⟨g,cap,cur,rfl,Wx _,c⟩⟩
 ·by_cases e:n=g
  ·rw[e];exact⟨o.1,o.2.2⟩
  ·have f:=q n (by simp only[Wy,WL]at k⊢;grind);exact⟨f.1,Uw f.2 t⟩
end
def R3(W:Uq)(K:Nat)(x y:Us):Prop:=K<W.heap.size/\∃k,k.length=2/\Row W K (x :: y :: k)
theorem R3.same{W W':Uq}{K:Nat}{x y:Us}(h:R3 W K x y)(k:W.heap.size<=W'.heap.size)(e:W'.heap[K]? = W.heap[K]?):R3 W' K x y:=by
 obtain⟨f,c,b,d⟩:=h;exact⟨Uw f k,c,b,aV d k e⟩
structure Ph(w W:Uq)(r k iL iR n:Nat)(cL cR vL vR v va vb:Us)(Lb Rb:Nat->Bs)(L:Bs)(a b:Nat->Nat)(G H:Nat->List (Nat × Bs))(U:List (Nat × Bs)):Prop where
 on:SP.Only r 0 32 w W
 rk:r<k
 wk:w.heap.size=k
 r0:Row W k [jZ r]
 r1:∃e:Array Us,v=.agg e/\e.size=3/\e.all (·.oneCell')=true/\Row W (k+1) e.toList
 r2:Row W (k+2) [.slice none 0 0,.slice none 0 0,.slice none 0 0,.slice none 0 0]
 r3:R3 W (k+3) cL cR
 tL:TlL (QH r k vL vR) (k+4) iL W vL Lb
 tR:TlL (QH r k vL vR) (k+4) iR W vR Rb
 ne:∀g,vL.ownBlock=some g->vR.ownBlock≠some g
 la:SLq (QH r k vL vR) W va n a
 lb:SLq (QH r k vL vR) W vb n b
 gr:GRq (QH r k vL vR) W v n G H U
 lg:Holds encB W r 0 L
 ls:L.size=32
 dj:Dj W (k+4) iL iR vL vR
section
variable {w W W' W1:Uq}{r k iL iR n:Nat}{cL cR vL vR v va vb:Us}{Lb Rb:Nat->Bs}{L:Bs}{a b:Nat->Nat}{G H:Nat->List (Nat × Bs)}{U:List (Nat × Bs)}
theorem TlL.lt{Q:Nat->Prop}{k i:Nat}{B:Nat->Bs}(h:TlL Q k i W v B){g:Nat}(b:v.ownBlock=some g):k<=g/\g<W.heap.size:=by
 obtain⟨xs,c,-⟩:=h.ex;have:=jG c b;exact⟨this.1,this.2.1⟩
theorem TlL.keep{Q:Nat->Prop}{k i:Nat}{B:Nat->Bs}(h:TlL Q k i W v B)(b:Kq Q W W')(ho:∀g,v.ownBlock=some g->W'.heap[g]? = W.heap[g]?):TlL Q k i W' v B:=by
 obtain⟨xs,l,c⟩:=h.ex;refine⟨xs,bZ l ho,λj e=>?_⟩;obtain⟨x,d,f⟩:=c j e;exact⟨x,d,f.keep b⟩
theorem TlL.mono2{Q Q':Nat->Prop}{k i:Nat}{B:Nat->Bs}(h:TlL Q k i W v B)(d:∀g,g<W.heap.size->Q g->Q' g):TlL Q' k i W v B:=by
 obtain⟨xs,l,c⟩:=h.ex;refine⟨xs,l,λj e=>?_⟩;obtain⟨x,b,f⟩:=c j e;exact⟨x,b,f.mono2 d⟩
theorem Ph.qn(h:Ph w W r k iL iR n cL cR vL vR v va vb Lb Rb L a b G H U):∀g,W.heap.size<=g->QH r k vL vR g:=λg c =>
 ⟨by have:=h.rk;have:=h.r0.1;omega,UW (by have:=h.r3.1;omega),λe=>by have:=h.tL.lt e;omega,λe=>by have:=h.tR.lt e;omega⟩
theorem Ph.any(h:Ph w W r k iL iR n cL cR vL vR v va vb Lb Rb L a b G H U)(o:SP.Only r 0 32 w W')(kq:Kq (QH r k vL vR) W W')(c:∀g,k<=g->g<k+4->W'.heap[g]? = W.heap[g]?)(i:∀g,vL.ownBlock=some g->W'.heap[g]? = W.heap[g]?)(j:∀g,vR.ownBlock=some g->W'.heap[g]? = W.heap[g]?){d:Bs}(l:Holds encB W' r 0 d)(f:d.size=32):Ph w W' r k iL iR n cL cR vL vR v va vb Lb Rb d a b G H U:=by
 obtain⟨e,q,m,e3,p⟩:=h.r1;exact⟨o,h.rk,h.wk,aV h.r0 kq.size (c k oM oM),⟨e,q,m,e3,aV p kq.size (c _ oM oM)⟩,aV h.r2 kq.size (c _ oM oM),h.r3.same kq.size (c _ oM oM),h.tL.keep kq i,h.tR.keep kq j,h.ne,h.la.keep kq,h.lb.keep kq,h.gr.keep kq,l,f,h.dj.keep kq.size i j⟩
theorem Ph.grow(h:Ph w W r k iL iR n cL cR vL vR v va vb Lb Rb L a b G H U)(c:kZ W W'):Ph w W' r k iL iR n cL cR vL vR v va vb Lb Rb L a b G H U:=by
 have e:=Holds.lt h.lg (by rw[h.ls];decide);exact h.any (h.on.trans (SP.Only.of_below c rfl e)) (Kq.of_below c) (λg i f=>c.block g (by have:=h.r3.1;omega)) (λg d=>c.block g (h.tL.lt d).2) (λg d=>c.block g (h.tR.lt d).2) (Holds.below h.lg c e) h.ls
theorem Ph.drew(h:Ph w W r k iL iR n cL cR vL vR v va vb Lb Rb L a b G H U):Ph w W.drew r k iL iR n cL cR vL vR v va vb Lb Rb L a b G H U:=h.grow ⟨rfl,rfl,rfl,Uv _,λ_ _=>rfl⟩
theorem Ph.say{e:Bs}(h:Ph w W r k iL iR n cL cR vL vR v va vb Lb Rb L a b G H U)(d:SP.Only r 0 32 W W')(f:Holds encB W' r 0 e)(i:e.size=32):Ph w W' r k iL iR n cL cR vL vR v va vb Lb Rb e a b G H U:=by
 have j:=h.rk;exact h.any (h.on.trans d) (Kq.of_only d λg c=>c.1) (λg m l=>d.block g (by have:=h.r3.1;omega) oM) (λg c=>d.block g (h.tL.lt c).2 (by have:=(h.tL.lt c).1;omega)) (λg c=>d.block g (h.tR.lt c).2 (by have:=(h.tR.lt c).1;omega)) f i
theorem FW{i n:Us}{k:Nat}(b:SP.Only r 0 32 w W)(c:Ap1 W W' i n)(q:w.heap.size=k)(l:r<k)(hv:∀g,i.ownBlock=some g->k+4<=g):SP.Only r 0 32 w W':=by
 have p:=b.size;have f:∀j,j<k->W'.heap[j]? = W.heap[j]?:=λj m=>c.keep j oM λe=>by have:=hv j e;omega
 exact⟨c.os.trans b.os,c.tape.trans b.tape,c.output.trans b.output,UB b.size c.size,λj m d=>(f j oM).trans (b.block j m d),λo ho=>by rw[UV (a:=⟨r,o,none⟩) (f r l)];exact b.cell o ho,λo=>by rw[VT (a:=⟨r,o,none⟩) (f r l)];exact b.froz o⟩
theorem jM{W W':Uq}{r:Nat}{L:Bs}(h:Holds encB W r 0 L)(e:W'.heap[r]? = W.heap[r]?):Holds encB W' r 0 L:=λj k=>by
 rw[UV (a:=⟨r,0+j,none⟩) e,VT (a:=⟨r,0+j,none⟩) e];exact h j k
theorem TlL.app{Q Q':Nat->Prop}{k i:Nat}{B:Nat->Bs}{f x:Us}{xs:List Us}(c:∀j,j<i->∃x,xs[j]? = some x/\ElQ Q 33 W x (B j))(b:xs.length=i)(ho:W'.ownsRow k 23 1 f (i+1) (xs++[x]))(hx:ElQ Q 33 W x (B i))(d:∀g,g<W.heap.size->Q g->Q' g)(kq:Kq Q' W W'):TlL Q' k (i+1) W' f B:=by
 refine⟨_,ho,λj n=>?_⟩;by_cases e:j=i
 ·subst e;exact⟨x,by rw[U0 oM,b];simp,(hx.mono2 d).keep kq⟩
 ·obtain⟨y,m,l⟩:=c j oM;exact⟨y,by rw[US oM];exact m,(l.mono2 d).keep kq⟩
theorem Ph.appL{ga gx:Nat}(l:Ph w W1 r k iL iR n cL cR vL vR v va vb Lb Rb L a b G H U)(i:kZ W1 W)(p:ElQ (W1.heap.size<=·) 33 W (r33 gx) (Lb iL))(J:W.cell? ⟨ga,0,none⟩=some (r33 gx))(R:iL<=900):
 ∃j W',(Vr #[24,24] 24 #[vL,sZ ga 1 1]).run prog W=.ok j W'/\Ph w W' r k (iL+1) iR n cL cR j vR v va vb Lb Rb L a b G H U/\Ap1 W W' vL j:=by
 have h:=l.grow i;have hx:=p.mono2 λg _ c=>l.qn g c
 obtain⟨xs,s,F⟩:=h.tL.ex;obtain⟨j,W',u,t,A⟩:=FV s hx.one.2 J oM (by have:=h.r3.1;omega);have o:∀g,g<W.heap.size->QH r k vL vR g->QH r k j vR g:=λg c q=>⟨q.1,q.2.1,λe=>by
  rcases A.mv with m|⟨⟨C,m,K⟩,-⟩
  ·rw[m]at e;exact q.2.2.1 e
  ·rw[m]at e;have:=UN.inj e;omega,q.2.2.2⟩
 have kq:Kq (QH r k j vR) W W':=⟨A.size,λg q c=>by
  rcases A.mv with m|⟨-,m⟩
  ·exact A.keep g c (by rw[<-m];exact q.2.2.1)
  ·exact m g c⟩
 have d:∀g,vL.ownBlock=some g->k+4<=g:=λg c=>(h.tL.lt c).1
 have z:=h.on.size;have N:=h.wk;have B:=h.rk;have f:∀g,k<=g->g<k+4->W'.heap[g]? = W.heap[g]?:=λg P Q=>A.keep g (by have:=h.r3.1;omega) λe=>by have:=d g e;omega
 obtain⟨e,I,E,e3,x⟩:=h.r1;refine⟨j,W',u,⟨FW h.on A h.wk h.rk d,h.rk,h.wk,aV h.r0 A.size (f k oM oM),⟨e,I,E,e3,aV x A.size (f _ oM oM)⟩,aV h.r2 A.size (f _ oM oM),h.r3.same A.size (f _ oM oM),TlL.app F (by have:=s.1;omega) t hx o kq,(h.tR.mono2 o).keep kq λg c=>A.keep g (h.tR.lt c).2 λe=>h.ne g e c,λg c e=>?_,(h.la.mono2 o).keep kq,(h.lb.mono2 o).keep kq,(h.gr.mono2 o).keep kq,jM h.lg (A.keep r oM λe=>by have:=d r e;omega),h.ls,(by
  obtain⟨y,O,e,-,-,M,D,-⟩:=p;have e:=congrArg V8 e;obtain rfl:gx=y:=UN.inj e;exact(l.dj.app ⟨by have:=l.r3.1;omega,M,Uw D A.size⟩ (UB i.size A.size) s (λg c=>i.block g (l.tL.lt c).2) (λg c=>(A.keep g (h.tR.lt c).2 λe=>h.ne g e c).trans (i.block g (l.tR.lt c).2)) t))⟩,A⟩
 rcases A.mv with m|⟨⟨C,m,K⟩,-⟩
 ·rw[m]at c;exact h.ne g c e
 ·rw[m]at c;have:=UN.inj c;have:=(h.tR.lt e).2;omega
theorem Ph.appR{ga gx:Nat}(l:Ph w W1 r k iL iR n cL cR vL vR v va vb Lb Rb L a b G H U)(i:kZ W1 W)(p:ElQ (W1.heap.size<=·) 33 W (r33 gx) (Rb iR))(J:W.cell? ⟨ga,0,none⟩=some (r33 gx))(R:iR<=900):
 ∃j W',(Vr #[24,24] 24 #[vR,sZ ga 1 1]).run prog W=.ok j W'/\Ph w W' r k iL (iR+1) n cL cR vL j v va vb Lb Rb L a b G H U/\Ap1 W W' vR j:=by
 have h:=l.grow i;have hx:=p.mono2 λg _ c=>l.qn g c
 obtain⟨xs,s,F⟩:=h.tR.ex;obtain⟨j,W',u,t,A⟩:=FV s hx.one.2 J oM (by have:=h.r3.1;omega);have o:∀g,g<W.heap.size->QH r k vL vR g->QH r k vL j g:=λg c q=>⟨q.1,q.2.1,q.2.2.1,λe=>by
  rcases A.mv with m|⟨⟨C,m,K⟩,-⟩
  ·rw[m]at e;exact q.2.2.2 e
  ·rw[m]at e;have:=UN.inj e;omega⟩
 have kq:Kq (QH r k vL j) W W':=⟨A.size,λg q c=>by
  rcases A.mv with m|⟨-,m⟩
  ·exact A.keep g c (by rw[<-m];exact q.2.2.2)
  ·exact m g c⟩
 have d:∀g,vR.ownBlock=some g->k+4<=g:=λg c=>(h.tR.lt c).1
 have z:=h.on.size;have N:=h.wk;have B:=h.rk;have f:∀g,k<=g->g<k+4->W'.heap[g]? = W.heap[g]?:=λg P Q=>A.keep g (by have:=h.r3.1;omega) λe=>by have:=d g e;omega
 obtain⟨e,I,E,e3,x⟩:=h.r1;refine⟨j,W',u,⟨FW h.on A h.wk h.rk d,h.rk,h.wk,aV h.r0 A.size (f k oM oM),⟨e,I,E,e3,aV x A.size (f _ oM oM)⟩,aV h.r2 A.size (f _ oM oM),h.r3.same A.size (f _ oM oM),(h.tL.mono2 o).keep kq λg c=>A.keep g (h.tL.lt c).2 λe=>h.ne g c e,TlL.app F (by have:=s.1;omega) t hx o kq,λg c e=>?_,(h.la.mono2 o).keep kq,(h.lb.mono2 o).keep kq,(h.gr.mono2 o).keep kq,jM h.lg (A.keep r oM λe=>by have:=d r e;omega),h.ls,(by
  obtain⟨y,O,e,-,-,M,D,-⟩:=p;have e:=congrArg V8 e;obtain rfl:gx=y:=UN.inj e;exact(l.dj.swap.app ⟨by have:=l.r3.1;omega,M,Uw D A.size⟩ (UB i.size A.size) s (λg c=>i.block g (l.tR.lt c).2) (λg c=>(A.keep g (h.tL.lt c).2 λe=>h.ne g c e).trans (i.block g (l.tL.lt c).2)) t).swap)⟩,A⟩
 rcases A.mv with m|⟨⟨C,m,K⟩,-⟩
 ·rw[m]at e;exact h.ne g c e
 ·rw[m]at e;have:=UN.inj e;have:=(h.tL.lt c).2;omega
theorem kQ{W:Uq}{K o:Nat}{vs:List Us}{x:Us}(h:Row W K vs)(ho:o<vs.length):Row (W.setCells K o [x]) K (vs.set o x):=by
 have d:W.there K o 1:=λt d=>by
  have k:t=0:=oM;subst k;have:=h.2.2 o ho;rwa[UC]at this
 refine⟨by rw[setCells_size];exact h.1,λj u b=>?_,by rw[yBc];exact VV h.2.2 _ _ _⟩;rw[List.getElem?_set]at b;by_cases e:o=j
 ·subst e;rw[yCj rfl,yCj ho]at b;obtain rfl:x=u:=by simpa using b
  have:=VN W K o [x] d 0 x rfl;rw[UC];exact this
 ·rw[yCk e]at b;have f:W.rangeAt K j [u]:=λt y c=>by
   have k:t=0:=by have:=(UE.1 c).1;simp at this;omega
   subst k;obtain rfl:u=y:=by simpa using c
   have:=h.2.1 j u b;rw[UC]at this;exact this
  have:=Vg f K o [x] (UW (by simp;omega)) 0 u rfl;rw[UC];exact this
theorem jF{k K o:Nat}{vs:List Us}(h:SP.Only r 0 32 w W)(c:w.heap.size=k)(d:r<k)(b:k<=K):SP.Only r 0 32 w (W.setCells K o vs):=dW h oM oM _
theorem Ph.put(h:Ph w W r k iL iR n cL cR vL vR v va vb Lb Rb L a b G H U):Ph w ((W.setCells (k+3) 0 [vL]).setCells (k+3) 1 [vR]) r k iL iR n vL vR vL vR v va vb Lb Rb L a b G H U:=by
 have o:=h.rk;have c:∀g,g≠k+3->((W.setCells (k+3) 0 [vL]).setCells (k+3) 1 [vR]).heap[g]? = W.heap[g]?:=λg f=>(aH (k+3) [vR] 1 _ g f).trans (aH (k+3) [vL] 0 W g f)
 have d:W.heap.size<=((W.setCells (k+3) 0 [vL]).setCells (k+3) 1 [vR]).heap.size:=by rw[setCells_size,setCells_size];exact Uv _
 have kq:Kq (QH r k vL vR) W ((W.setCells (k+3) 0 [vL]).setCells (k+3) 1 [vR]):=⟨d,λg q _=>c g (by have:=q.2.1;omega)⟩
 obtain⟨e,s,i,e3,l⟩:=h.r1;exact⟨jF (jF h.on h.wk h.rk oM) h.wk h.rk oM,h.rk,h.wk,aV h.r0 d (c _ oM),⟨e,s,i,e3,aV l d (c _ oM)⟩,aV h.r2 d (c _ oM),(by
  obtain⟨t,p,m,j⟩:=h.r3;exact⟨Uw t d,p,m,kQ (kQ j (Y0 _)) (yA9 (Y0 _))⟩),h.tL.keep kq λg f=>c g (by have:=(h.tL.lt f).1;omega),h.tR.keep kq λg f=>c g (by have:=(h.tR.lt f).1;omega),h.ne,h.la.keep kq,h.lb.keep kq,h.gr.keep kq,jM h.lg (c r oM),h.ls,h.dj.keep d (λg f=>c g (by have:=(h.tL.lt f).1;omega)) (λg f=>c g (by have:=(h.tR.lt f).1;omega))⟩
theorem Ph.putA{o:Nat}{x:Us}(h:Ph w W r k iL iR n cL cR vL vR v va vb Lb Rb L a b G H U)(ho:o<2):Ph w (W.setCells (k+3) (o+2) [x]) r k iL iR n cL cR vL vR v va vb Lb Rb L a b G H U:=by
 have j:=h.rk;have c:∀g,g≠k+3->(W.setCells (k+3) (o+2) [x]).heap[g]? = W.heap[g]?:=λg f=>aH (k+3) [x] _ _ g f
 have d:W.heap.size<=(W.setCells (k+3) (o+2) [x]).heap.size:=by rw[setCells_size];exact Uv _
 have kq:Kq (QH r k vL vR) W (W.setCells (k+3) (o+2) [x]):=⟨d,λg q _=>c g (by have:=q.2.1;omega)⟩
 obtain⟨e,t,l,e3,i⟩:=h.r1;exact⟨jF h.on h.wk h.rk oM,h.rk,h.wk,aV h.r0 d (c _ oM),⟨e,t,l,e3,aV i d (c _ oM)⟩,aV h.r2 d (c _ oM),(by
  obtain⟨u,p,m,s⟩:=h.r3;exact⟨Uw u d,p.set o x,by rw[yBc,m],kQ (o:=o+2) s (by simp;omega)⟩),h.tL.keep kq λg f=>c g (by have:=(h.tL.lt f).1;omega),h.tR.keep kq λg f=>c g (by have:=(h.tR.lt f).1;omega),h.ne,h.la.keep kq,h.lb.keep kq,h.gr.keep kq,jM h.lg (c r oM),h.ls,h.dj.keep d (λg f=>c g (by have:=(h.tL.lt f).1;omega)) (λg f=>c g (by have:=(h.tR.lt f).1;omega))⟩
theorem Ph.next{m:Nat}{i j:Us}{e':Array Us}{t p:Nat->Nat}{s o:Nat->List (Nat × Bs)}(h:Ph w W r k iL iR n cL cR vL vR v va vb Lb Rb L a b G H U)(C:SLq (QH r k vL vR) W i m t)(y:SLq (QH r k vL vR) W j m p)(d:GRq (QH r k vL vR) W (.agg e') m s o U):Ph w (W.setCells (k+1) 0 e'.toList) r k iL iR m cL cR vL vR (.agg e') i j Lb Rb L t p s o U:=by
 have A:=h.rk;have c:∀g,g≠k+1->(W.setCells (k+1) 0 e'.toList).heap[g]? = W.heap[g]?:=λg d=>aH (k+1) _ 0 W g d
 have f:W.heap.size<=(W.setCells (k+1) 0 e'.toList).heap.size:=by rw[setCells_size];exact Uv _
 have kq:Kq (QH r k vL vR) W (W.setCells (k+1) 0 e'.toList):=⟨f,λg q _=>c g (by have:=q.2.1;omega)⟩
 obtain⟨e,D,B,e3,u⟩:=h.r1;obtain⟨l,x,f2,z⟩:=d.ar;obtain rfl:e'=l:=by injection x
 exact⟨jF h.on h.wk h.rk oM,h.rk,h.wk,aV h.r0 f (c _ oM),⟨e',rfl,f2,z,u.put (by rw[UJ,UJ,f2,B])⟩,aV h.r2 f (c _ oM),h.r3.same f (c _ oM),h.tL.keep kq λg d=>c g (by have:=(h.tL.lt d).1;omega),h.tR.keep kq λg d=>c g (by have:=(h.tR.lt d).1;omega),h.ne,C.keep kq,y.keep kq,d.keep kq,jM h.lg (c r oM),h.ls,h.dj.keep f (λg d=>c g (by have:=(h.tL.lt d).1;omega)) (λg d=>c g (by have:=(h.tR.lt d).1;omega))⟩
end
end
section
open SPA
variable {P:Nat}[NeZero P]{N:Nat}[NeZero N]
abbrev wP{P:Nat}[NeZero P](X:OnP P):Bs:=wr X.1
theorem kE(a b:Nat->Fin N):∀n,prS N (λi=>(a i).val) (λi=>(b i).val) n=(Md.pr a b n).val
 | 0=>(Nat.zero_mod N).symm
 | n+1=>by
  show sPl N (prS N _ _ n) (sTi N (b n).val (a n).val)=(Md.pr a b n+a n*b n).val;rw[kE a b n,mA,fL];unfold sTi;rw[Vu]
omit [NeZero N] in
theorem Ct(x y:Fin N)(n:Nat)(a:Nat->Fin N)(i:Nat):nM N x.val y.val n (λi=>(a i).val) i=(Md.fS x y n a i).val:=by
 show sPl N (sTi N (a i).val x.val) (sTi N (a (n+i)).val y.val)=(x*a i+y*a (n+i)).val;rw[mA,fL,fL];unfold sTi;rw[Vu (a i).val,Vu (a (n+i)).val]
omit [NeZero N] in
theorem sN{n c:Nat}{G H:Nat->List (Nat × Bs)}{U:List (Nat × Bs)}{g h:Nat->OnP P}{u:OnP P}(l:0<n)(j:0<c)(b:c*n<=64)(hG:Gd N n c G g)(d:Gd N n c H h)(e:Tl N U u)(f:0<U.length)(m:U.length<=16):GOk N n c G H U:=
 ⟨l,j,b,λi k=>⟨(hG.tl i k).ok,hG.len i k⟩,λi k=>⟨(d.tl i k).ok,d.len i k⟩,e.ok,f,m⟩
omit [NeZero N] in
theorem Tl.point(C:Fld P)(O:Ord N)(k:∀r:EC.Pt P,On r->mul N r=none){l:List (Nat × Bs)}{X:OnP P}(b:Tl N l X)(d:0<l.length)(c:l.length<=512){w:Uq}{v:Us}(h:Sm 0 w v l):
 UG prog 67 #[v] w (rZ w λe w'=>e=pvl (wr X.1)):=by
 have:=h.point C O k d c b.lt b.pts;rw[b.sum]at this;exact this
theorem iCP:(prog.info? 103).map (·.size)=some 33:=kR
theorem Ip(C:Fld P)(O:Ord N)(k:∀r:EC.Pt P,On r->mul N r=none){Q:Nat->Prop}{m c:Nat}{G H:Nat->List (Nat × Bs)}{U:List (Nat × Bs)}{g h:Nat->OnP P}{u:OnP P}(z:0<m)(A:0<c)(j:c*m<=64)(hG:Gd N m c G g)(p:Gd N m c H h)(o:Tl N U u)(s:0<U.length)(w:U.length<=16)(a b:Nat->Fin N):
 ∃l,(∀(W:Uq) (v va f:Us),GRq Q W v m G H U->SLq Q W va m (λi=>(a i).val)->SLq Q W f m (λi=>(b i).val)->UG prog 158 #[v,va,f] W (rZ W λe w'=>Sm W.heap.size w' e l)) /\
  (∀(W:Uq) (v:Us),Sm 0 W v l->UG prog 67 #[v] W (rZ W λe w'=>e=pvl (wr ((aD C k).hd a b g h u m).1))):=by
 have t:=sN z A j hG p o s w;obtain⟨q,n⟩:=Ji C k hG p o (d:=U.length) rfl a b;rw[<-kE]at q n;refine⟨_,λW v va f B x y=>Ff O m c G H U t _ _ (λi _=>(a i).isLt) (λi _=>(b i).isLt) v va f W B x y,λW v hv=>q.point C O k (by rw[n];omega) (by rw[n];omega) hv⟩
end
section
section
variable {P:VC}{ops:Array Vj}{Q:Yo->Act->Uq->Prop}{S:Array Bool->Uq->Prop}
theorem bI{o:Vj}(k:o.guard=none)(t:Array Us):V1 o (yielded ops t)=true:=by
 unfold V1;rw[k]
def anyS(P:VC)(k:Array Vj)(Q:Yo->Act->Uq->Prop)(S:Array Bool->Uq->Prop):Nat->Array Bool->Act->Uq->Prop
 | 0,listed,a,w=>U6 .any k listed=[]/\Q .normal a w
 | fuel+1,listed,a,w=>(U6 .any k listed=[]->Q .normal a w) /\
  ∀i∈U6 .any k listed,wpOp P k Q i (λb w'=>S (listed.setIfInBounds i true) w'/\anyS P k Q S fuel (listed.setIfInBounds i true) b w') a w
theorem anyS.any:∀(b:Nat) (k:Array Bool) (a:Act) (w:Uq),anyS P ops Q S b k a w->wpAny P .any ops Q b k a w
 | 0,_,_,_,h=>h
 | b+1,_,_,_,h=>⟨h.1,λi c=>Zz (λd w' e=>anyS.any b _ d w' e.2) (h.2 i c)⟩
def Bef(S:Array Bool->Uq->Prop)(p:Nat)(w:Uq):Prop:=∃l:Array Bool,l.getD p false=false/\S l w
theorem anyS.first{p i:Nat}{y op:Vj}{v:Us}(V:ops[i]? = some y)(hp:ops[p]? = some op)(K:∃e∈op.after,VO .any e=true/\e.on=i)(U:p≠i)(O:∀l w,S (X5 l i true) w->S l w)
 (s:∀(j:Nat) (o:Vj) cs b,ops[j]? = some o->o.op≠.select cs b) (Z:∀c a w,Q (.panic c) (a.put y.dst v) w->Q (.panic c) a w) :
 ∀(g:Nat) (d:Array Bool) (a:Act) (w:Uq),d.getD p false=false ->
  (∀j u,ops[j]? = some u->j≠i->d.getD j true=false->(∀e∈u.after,VO .any e=true->e.on≠i)->y.apart ops u=true) ->
  i∈U6 .any ops d->YieldsIf P ops (Bef S p) y v a->Bef S p w->S (d.setIfInBounds i true) w ->
  anyS P ops Q S g (d.setIfInBounds i true) (a.put y.dst v) w->anyS P ops Q S (g+1) d a w:=by
 intro g;induction g with
 | zero =>
  intro d a w _ _ A E T x H;refine⟨λh=>absurd A (by rw[h];exact UX),λj F=>?_⟩;by_cases f:j=i
  ·subst f;exact E.wpOp V T ⟨x,H⟩
  ·exact absurd (ready_mono F f) (by rw[H.1];exact UX)
 | succ g ih =>
  intro d a w Y n A E T x H;refine⟨λh=>absurd A (by rw[h];exact UX),λj F=>?_⟩;by_cases f:j=i
  ·subst f;exact E.wpOp V T ⟨x,H⟩
  ·obtain⟨q,u,m,z⟩:=mem_ready.1 F;have r:∀e∈u.after,VO .any e=true->e.on≠i:=λe M L N=>by
    have t:=z e M L;have C:=(mem_ready.1 A).1;rw[N]at t;rcases Nat.lt_or_ge i d.size with B|B
    ·simp[B]at C t;rw[C]at t;cases t
    ·simp[WM B]at t
   have D:j≠p:=by
    intro h;subst h;rw[hp]at m;obtain⟨e,M,L,t⟩:=K;injection m with m
    subst m;exact r e M L t
   have h2:=wpOp_putIf m (n j u m f q r) (λcs b=>s i y cs b V) (λcs b=>s j u cs b m) Z E (H.2 j (ready_mono F f));have J:(d.setIfInBounds j true).getD p false=false:=by rw[XP false D];exact Y
   refine Zz (λa' w' G=>?_) h2;have X:(d.setIfInBounds i true).setIfInBounds j true=(d.setIfInBounds j true).setIfInBounds i true:=(Array.setIfInBounds_comm _ _ (YB f))
   have t:=G.2.1;rw[X]at t;have I:Bef S p w':=⟨_,by rw[XP false D,XP false (YB U)];exact Y,G.2.1⟩
   refine⟨O _ _ t,ih (d.setIfInBounds j true) a' w' J (λk ok hk W B R=>?_) (ready_mono A (YB f)) G.1 I t ?_⟩
   ·refine n k ok hk W ?_ R;by_cases C:j=k
    ·subst C;exact q
    ·rw[XP true C]at B;exact B
   ·rw[<-X];exact G.2.2
theorem anyS.take{p i:Nat}{f:Vj}{v:Us}{b:Nat}{k:Array Bool}{a:Act}{w:Uq}(o:ops[i]? = some f)(j:∀l w,S (X5 l i true) w->S l w)(q:YieldsIf P ops (Bef S p) f v a)(x:Bef S p w)(n:S (k.setIfInBounds i true) w)
 (h:anyS P ops Q S b (k.setIfInBounds i true) (a.put f.dst v) w) (d:waits ops p i=true:=by kernel_rfl) (t:XK ops=true:=by kernel_rfl)
 (m:(k.getD p false || p == i)=false:=by kernel_rfl) (hf:YL .any ops k i=true:=by kernel_rfl) (u:(U6 .any ops k).contains i=true:=by kernel_rfl)
 (r:∀c a w,Q (.panic c) (a.put f.dst v) w->Q (.panic c) a w:=by exact λ_ _ _ h=>h):anyS P ops Q S (b+1) k a w:=by
 rw[Bool.or_eq_false_iff]at m;unfold waits at d;cases ho:ops[p]? with
 | none=>rw[ho]at d;cases d
 | some op =>
  rw[ho]at d;obtain⟨e,s,g⟩:=Array.any_eq_true'.1 d;simp only[UK,beq_iff_eq]at g;exact anyS.first o ho ⟨e,s,g.1,g.2⟩ (by simpa using m.2) j (Region.noSelect_spec t) r b k a w m.1 (Region.free_spec o hf) (by simpa using u) q x n h
theorem anyS.step{i:Nat}{o:Vj}{b:Nat}{k:Array Bool}{a:Act}{w:Uq}(ho:ops[i]? = some o)(d:U6 .any ops k=[i])
 (h:∀c:Act->Uq->Prop,Shut (∀a w,S (k.setIfInBounds i true) w->anyS P ops Q S b (k.setIfInBounds i true) a w->c a w) ->
  if V1 o (yielded ops a.tmps)=true then VS P o a w c Q else c (a.put o.dst WO) w):anyS P ops Q S (b+1) k a w:=by
 refine⟨λf=>(by rw[d]at f;cases f),λj e=>?_⟩;rw[d,WL]at e;subst e;exact wpOp_step ho (λc g=>h c (λa w m l=>g a w ⟨m,l⟩))
theorem anyS.done{k:Array Bool}{a:Act}{w:Uq}(c:U6 .any ops k=[])(h:Q .normal a w):∀b,anyS P ops Q S b k a w
 | 0=>⟨c,h⟩
 | _+1=>⟨λ_=>h,by rw[c];intro i d;cases d⟩
theorem anyS.begin{id:Nat}{a:Act}{w:Uq}(S:Array Bool->Uq->Prop)(k:P.follows .mixedOrders=true)(h:anyS P ops Q S ops.size (UI ops.size false) a w.drew):(V3 id ops true).wp P Q a w:=
 wp_region_any k (anyS.any _ _ _ _ h)
section
variable {i p fuel:Nat}{o:Vj}{listed:Array Bool}{a:Act}{w w':Uq}{v:Us}
theorem anyS.ins{d:Option WB}{I:Sem Us}(ho:ops[i]? = some o)(hx:I.run P w=.ok v w')(e:S (listed.setIfInBounds i true) w')(h:anyS P ops Q S fuel (listed.setIfInBounds i true) (a.put d v) w')
 (b:U6 .any ops listed=[i]:=by kernel_rfl) (c:o.guard=none:=by rfl) (f:U4 a.eval o=I >>= λv=>pure (Xo v):=by kernel_rfl) (hd:o.dst=d:=by kernel_rfl):anyS P ops Q S (fuel+1) listed a w:=by
 subst hd;exact anyS.step ho b λK k=>by
  rw[yCj (bI c _)];unfold VS;rw[f,UU,hx];exact k.out _ _ e h
theorem anyS.cal{d:Option WB}{f:Xp}{args:Array Us}{R:Us->Uq->Prop}(ho:ops[i]? = some o)(b:UG P f args w (Ret R))(h:∀v w',R v w'->S (listed.setIfInBounds i true) w'/\anyS P ops Q S fuel (listed.setIfInBounds i true) (a.put d v) w')
 (c:U6 .any ops listed=[i]:=by kernel_rfl) (g:o.guard=none:=by rfl) (hx:(U4 a.eval o).run P w=.ok (.enter f args) w:=by kernel_rfl) (hd:o.dst=d:=by kernel_rfl):anyS P ops Q S (fuel+1) listed a w:=by
 subst hd;exact anyS.step ho c λK k=>by
  rw[yCj (bI g _)];unfold VS;rw[hx,Oper.upon_enter];refine b.mono ?_;rintro e w' ⟨v,rfl,hR⟩;exact k.out _ _ (h v w' hR).1 (h v w' hR).2
theorem anyS.sto{d:Option WB}(ho:ops[i]? = some o)(k:U7)(x y:XF)(c:o.op=.store k x y)(b off:Nat)(u:Us)(hv:u.cells=#[u])(q:u.oneCell'=true)(p:w.there b off 1)(n:(P.info? k).map (·.size)=some 1)
 (m:S (listed.setIfInBounds i true) (w.setCells b off [u])) (h:anyS P ops Q S fuel (listed.setIfInBounds i true) (a.put d WO) (w.setCells b off [u])) (hx:a.eval x=oZ b off:=by kernel_rfl) (g:a.eval y=u:=by kernel_rfl)
 (f:U6 .any ops listed=[i]:=by kernel_rfl) (j:o.guard=none:=by rfl) (hd:o.dst=d:=by kernel_rfl):anyS P ops Q S (fuel+1) listed a w:=by
 subst hd;exact anyS.step ho f λK l=>by
  rw[yCj (bI j _)];have f:=ZA (P:=P) w b off k #[u] p n (by simp[q]);have e:storeVar k ⟨b,off,none⟩ u=storeVar k ⟨b,off,none⟩ (.agg #[u]):=by
   unfold storeVar;rw[hv];rfl
  unfold VS U4;simp only[c,hx,g,Yw,X4,UU,Wq,Vl,e,f];exact l.out _ _ m h
theorem anyS.cel{d:Option WB}{x:Us}(ho:ops[i]? = some o)(p:Nat)(e:∀l w,S (X5 l i true) w->S l w)(T:U7)(t:WB)(b off:Nat)(k:o.op=.load T (.tmp t))(v:(P.underlying T).map (·.isRow)=some false)(y:∀w,Bef S p w->w.cell? ⟨b,off,none⟩=some x)(u:Bef S p w)(f:S (listed.setIfInBounds i true) w)
 (h:anyS P ops Q S fuel (listed.setIfInBounds i true) (a.put d x) w) (hx:a.eval (.tmp t)=oZ b off:=by kernel_rfl) (q:o.guard=none:=by rfl) (r:waits ops p i=true:=by kernel_rfl) (m:XK ops=true:=by kernel_rfl)
 (s:(listed.getD p false || p == i)=false:=by kernel_rfl) (hf:YL .any ops listed i=true:=by kernel_rfl) (n:(U6 .any ops listed).contains i=true:=by kernel_rfl)
 (j:∀c a w,Q (.panic c) (a.put o.dst x) w->Q (.panic c) a w:=by exact λ_ _ _ h=>h) (hd:o.dst=d:=by kernel_rfl):anyS P ops Q S (fuel+1) listed a w:=by
 subst hd;exact anyS.take (p:=p) ho e (U3 ⟨bI q _,λw g=>by
  unfold U4;rw[k];dsimp only;rw[hx,UU,fD (y w g) v];rfl⟩) u f h r m s hf n j
theorem anyS.row{d:Option WB}{cs:List Us}(ho:ops[i]? = some o)(p:Nat)(f:∀l w,S (X5 l i true) w->S l w)(T:U7)(t:WB)(b off:Nat)(e:TypeDesc)(k:o.op=.load T (.tmp t))(x:P.underlying T=some e)(g:e.isRow=true)(z:(P.info? T).map (·.size)=some cs.length)(y:∀w,Bef S p w->w.rangeAt b off cs)(v:Bef S p w)(j:S (listed.setIfInBounds i true) w)
 (h:anyS P ops Q S fuel (listed.setIfInBounds i true) (a.put d (.agg cs.toArray)) w) (hx:a.eval (.tmp t)=oZ b off:=by kernel_rfl) (r:o.guard=none:=by rfl) (s:waits ops p i=true:=by kernel_rfl) (n:XK ops=true:=by kernel_rfl)
 (u:(listed.getD p false || p == i)=false:=by kernel_rfl) (hf:YL .any ops listed i=true:=by kernel_rfl) (q:(U6 .any ops listed).contains i=true:=by kernel_rfl)
 (m:∀c a w,Q (.panic c) (a.put o.dst (.agg cs.toArray)) w->Q (.panic c) a w:=by exact λ_ _ _ h=>h) (hd:o.dst=d:=by kernel_rfl):anyS P ops Q S (fuel+1) listed a w:=by
 subst hd;exact anyS.take (p:=p) ho f (yieldsIf_load_mid (bI r _) T (.tmp t) k b off hx cs e y x g z) v j h s n u hf q m
theorem anyS.val{d:Option WB}{x:Us}(ho:ops[i]? = some o)(p:Nat)(k:∀l w,S (X5 l i true) w->S l w)(q:Bef S p w)(b:S (listed.setIfInBounds i true) w)(h:anyS P ops Q S fuel (listed.setIfInBounds i true) (a.put d x) w)(hv:∀w,(U4 a.eval o).run P w=.ok (.value x) w:=by intro _;kernel_rfl)(j:o.guard=none:=by rfl)(m:waits ops p i=true:=by kernel_rfl)(f:XK ops=true:=by kernel_rfl)
 (n:(listed.getD p false || p == i)=false:=by kernel_rfl) (hf:YL .any ops listed i=true:=by kernel_rfl) (g:(U6 .any ops listed).contains i=true:=by kernel_rfl)
 (e:∀c a w,Q (.panic c) (a.put o.dst x) w->Q (.panic c) a w:=by exact λ_ _ _ h=>h) (hd:o.dst=d:=by kernel_rfl):anyS P ops Q S (fuel+1) listed a w:=by
 subst hd;exact anyS.take (p:=p) ho k (U3 ⟨bI j _,λw _=>hv w⟩) q b h m f n hf g e
theorem anyS.nxt{d:Option WB}{x:Us}(ho:ops[i]? = some o)(e:S (listed.setIfInBounds i true) w)(h:anyS P ops Q S fuel (listed.setIfInBounds i true) (a.put d x) w)(hv:(U4 a.eval o).run P w=.ok (.value x) w:=by kernel_rfl)(b:U6 .any ops listed=[i]:=by kernel_rfl)(c:o.guard=none:=by rfl)(hd:o.dst=d:=by kernel_rfl):anyS P ops Q S (fuel+1) listed a w:=by
 subst hd;exact anyS.step ho b λK k=>by
  rw[yCj (bI c _)];unfold VS;rw[hv];exact k.out _ _ e h
end
end
end
section
open SPA
variable {P:Nat}[NeZero P]{N:Nat}[NeZero N]
theorem Lf:(prog.underlying 26).map (·.isRow)=some true:=kR
theorem Jf:(prog.info? 26).map (·.size)=some 4:=kR
def DjF(B:Nat)(W:Uq)(t:Nat)(e f c d:Us):Prop:=∃k b l m,c=r32 k/\d=r32 b/\(k :: b :: (l++m)).Nodup/\W.ownsRow 0 23 1 e t (l.map r33)/\W.ownsRow 0 23 1 f t (m.map r33)/\∀g,g∈k :: b :: (l++m)->B<=g/\g<W.heap.size
theorem DjF.keep{B f t:Nat}{W W':Uq}{b k c e:Us}(h:DjF B W t b k c e)(p:f<=B)(j:W.heap.size<=W'.heap.size)(hv:∀g,b.ownBlock=some g->W'.heap[g]? = W.heap[g]?)(v:∀g,k.ownBlock=some g->W'.heap[g]? = W.heap[g]?):DjF f W' t b k c e:=by
 obtain⟨n,q,l,m,u,o,w,r,s,i⟩:=h;exact⟨n,q,l,m,u,o,w,bZ r hv,bZ s v,λg d=>⟨UB p (i g d).1,Uw (i g d).2 j⟩⟩
theorem DjF.of{B t b c:Nat}{W W':Uq}{v u:Us}(h:Dj W B t t v u)(o:W.heap.size<=W'.heap.size)(hv:∀g,v.ownBlock=some g->W'.heap[g]? = W.heap[g]?)(j:∀g,u.ownBlock=some g->W'.heap[g]? = W.heap[g]?)(p:B<=W.heap.size)(s:W.heap.size<=b)(q:b<c)(r:c<W'.heap.size):DjF B W' t v u (r32 b) (r32 c):=by
 obtain⟨l,m,i,f,n,d⟩:=h;refine⟨b,c,l,m,rfl,rfl,?_,bZ f hv,bZ n j,λg k=>?_⟩
 ·rw[XR,XR];refine⟨λe=>?_,λe=>?_,i⟩
  ·rcases VW.1 e with e|e
   ·omega
   ·have:=(d _ e).2;omega
  ·have:=(d _ e).2;omega
 ·rcases VW.1 k with rfl|k
  ·exact⟨oM,oM⟩
  ·rcases VW.1 k with rfl|k
   ·exact⟨oM,oM⟩
   ·have:=d _ k;exact⟨this.1,oM⟩
structure PhR(w:Uq)(r t:Nat)(Lb Rb:Nat->Bs)(L:Bs)(A B:Bs)(e:Us)(w':Uq):Prop where
 on:SP.Only r 0 32 w w'
 ex:∃vL vR vA vB,e=.agg #[vL,vR,vA,vB]/\TlL (λ_=>True) w.heap.size t w' vL Lb/\TlL (λ_=>True) w.heap.size t w' vR Rb/\ElQ (w.heap.size<=·) 32 w' vA A/\ElQ (w.heap.size<=·) 32 w' vB B
 lg:Holds encB w' r 0 L
 dj:∀vL vR vA vB,e=.agg #[vL,vR,vA,vB]->DjF w.heap.size w' t vL vR vA vB
theorem uLL:(prog.underlying 24).map (·.isRow)=some false:=kR
theorem iLL:(prog.info? 24).map (·.size)=some 1:=kR
theorem Uc(k:Nat)(n c:Nat)(w:Uq):(Vx 24 1 #[(0,sZ k n c)]).run prog w=.ok (sZ w.heap.size 1 1) (w.alloc (.cells #[sZ k n c] 23)):=kR
theorem SI{Q:Nat->Prop}{W:Uq}{x:Us}{b:Bs}(h:ElQ Q 33 W x b)(w:Uq):(Vx 24 1 #[(0,x)]).run prog w=.ok (sZ w.heap.size 1 1) (w.alloc (.cells #[x] 23)):=by
 obtain⟨k,c,rfl,-⟩:=h;exact Uc k 33 c w
theorem TlL.one{Q:Nat->Prop}{k i:Nat}{W:Uq}{v:Us}{B:Nat->Bs}(h:TlL Q k i W v B):v.cells=#[v]/\v.oneCell'=true:=by
 obtain⟨xs,⟨-,⟨rfl,-⟩|⟨g,cap,cur,rfl,-⟩⟩,-⟩:=h.ex<;>exact⟨rfl,rfl⟩
theorem Ph.put'{w W W':Uq}{r k i g n:Nat}{l m d c v va j:Us}{f Rb:Nat->Bs}{L:Bs}{a b:Nat->Nat}{G H:Nat->List (Nat × Bs)}{U:List (Nat × Bs)}(h:Ph w W r k i g n l m d c v va j f Rb L a b G H U)(e:W'=(W.setCells (k+3) 0 [d]).setCells (k+3) 1 [c]):Ph w W' r k i g n d c d c v va j f Rb L a b G H U:=e ▸ h.put
theorem anyS.fin{P:VC}{c:Array Vj}{Q:Yo->Act->Uq->Prop}{S:Array Bool->Uq->Prop}{k:Array Bool}{a:Act}{w:Uq}(d:U6 .any c k=[])(h:∀W,W=w->Q .normal a W)(b:Nat):anyS P c Q S b k a w:=anyS.done d (h w rfl) b
theorem JQ(O:Ord N)(d:IsP N)(r:Nat)(L:Bs)(A B:OnP P)(X Y:Bs)(g:X=wP A)(l:Y=wP B):∃(s:Bs) (c:Fin N),Hid (chF N L A B=(s,c)/\s.size=32)/\Hid (∀W:Uq,Holds encB W r 0 L->L.size=32->UG prog 146 #[lgV r,.string ⟨#[108,101,102,116]⟩,pvl X,.string ⟨#[114,105,103,104,116]⟩,pvl Y] W (Ret λe w'=>SP.Only r 0 32 W w'/\Holds encB w' r 0 s/\e=nv c.val)):=by
 subst g l;have e:chF N L A B=(bB (jW [108,101,102,116] [114,105,103,104,116] L (wP A) (wP B)),kM N (jW [108,101,102,116] [114,105,103,104,116] L (wP A) (wP B))):=by unfold chF;dsimp only
 have f:=aT A.1;have m:=aT B.1;refine⟨_,_,⟨e,bE _ _⟩,λW n j=>?_⟩;have k:=sW O r L (wP A) (wP B) ⟨#[108,101,102,116]⟩ ⟨#[114,105,103,104,116]⟩ dC dC f m W n j;have i:jW (⟨#[108,101,102,116]⟩:ByteArray).data.toList (⟨#[114,105,103,104,116]⟩:ByteArray).data.toList L (wP A) (wP B)=jW [108,101,102,116] [114,105,103,104,116] L (wP A) (wP B):=rfl;rw[i]at k;have b:∀M,cha N M<N:=λM=>uU O _
 generalize jW [108,101,102,116] [114,105,103,104,116] L (wP A) (wP B)=M at k;rw[FD d.1 M (b M)]at k;exact k
theorem own_base{W:Uq}{c b n k:Nat}{e:U7}{v:Us}{xs:List Us}(h:W.ownsRow c e k v n xs)(j:b<=c):W.ownsRow b e k v n xs:=by
 rcases h with⟨d,l|⟨g,cap,cur,rfl,i,f⟩⟩
 ·exact⟨d,U3 l⟩
 ·exact⟨d,UW ⟨g,cap,cur,rfl,UB j i,f⟩⟩
theorem Ph.fin{w W:Uq}{r k t n:Nat}{i f v va I l m:Us}{y Rb:Nat->Bs}{L A B:Bs}{a b:Nat->Nat}{G H:Nat->List (Nat × Bs)}{U:List (Nat × Bs)}(h:Ph w W r k t t n i f i f v va I y Rb L a b G H U)(C:ElQ (k+4<=·) 32 W l A)(E:ElQ (k+4<=·) 32 W m B)(hd:DjF (k+4) W t i f l m):
 Row W (k+2) [.slice none 0 0,.slice none 0 0,.slice none 0 0,.slice none 0 0]/\Row (W.setCells (k+2) 0 [i,f,l,m]) (k+2) [i,f,l,m]/\PhR w r t y Rb L A B (.agg #[i,f,l,m]) (W.setCells (k+2) 0 [i,f,l,m]):=by
 have D:=h.rk;have J:=h.wk;have j:∀g,g≠k+2->(W.setCells (k+2) 0 [i,f,l,m]).heap[g]? = W.heap[g]?:=λg u=>aH (k+2) _ 0 _ g u
 have o:W.heap.size<=(W.setCells (k+2) 0 [i,f,l,m]).heap.size:=by rw[setCells_size];exact Uv _
 have kq:Kq (QH r k i f) W (W.setCells (k+2) 0 [i,f,l,m]):=⟨o,λg q _=>j g (by have:=q.2.1;omega)⟩
 have s:Kq (k+4<=·) W (W.setCells (k+2) 0 [i,f,l,m]):=⟨o,λg q _=>j g oM⟩
 have z:∀ {x:Us}{B:Nat->Bs},TlL (QH r k i f) (k+4) t W x B->TlL (λ_=>True) w.heap.size t (W.setCells (k+2) 0 [i,f,l,m]) x B:=λhx=>by
  have K:=(hx.keep kq λg p=>j g (by have:=(hx.lt p).1;omega)).mono2 (Q':=λ_=>True) λ_ _ _=>trivial
  obtain⟨xs,u,F⟩:=K.ex;exact⟨xs,own_base u oM,F⟩
 exact⟨h.r2,h.r2.put rfl,jF h.on h.wk h.rk oM,⟨_,_,_,_,rfl,z h.tL,z h.tR,(C.keep s).mono2 λg _ p=>oM,(E.keep s).mono2 λg _ p=>oM⟩,jM h.lg (j r oM),λa b c d e=>by
  injection e with e
  simp only[Array.mk.injEq,List.cons.injEq,and_true]at e;obtain⟨rfl,rfl,rfl,rfl⟩:=e;exact hd.keep oM o (λg p=>j g (by have:=(h.tL.lt p).1;omega)) (λg p=>j g (by have:=(h.tR.lt p).1;omega))⟩
omit [NeZero N] in
theorem fW(O:Ord N){a:Nat}(c:a<N)(w:Uq):UG prog 141 #[nv a] w (rZ w λe w'=>ElQ (w.heap.size<=·) 32 w' e (bx a)/\∃g,e=r32 g):=by
 refine(qO O c w).mono ?_;rintro e w' ⟨v,rfl,k,b,rfl⟩;exact⟨_,rfl,b.bel,⟨k,32,rfl,Uv _,eE a,b.le,b.lt,cb_holds b.range b.there⟩,k,rfl⟩
theorem iB1:(prog.info? 23).map (·.size)=some 1:=kR
theorem hvI{P:VC}{I:Sem Us}{c:Sem Next}{x:Us}(k:∀w,I.run P w=.ok x w)(b:c=I >>= λv=>pure (Xo v)):∀w,c.run P w=.ok (.value x) w:=λw=>by rw[b,UU,k w,Vl,Wq]
theorem nfB{b:Bool}(h:b=true):¬b=false:=λe=>by rw[h]at e;cases e
theorem TA(m:Nat):((m+m:Nat):Int).tdiv 2=(m:Int):=by rw[Int.tdiv_eq_ediv_of_nonneg oM];omega
theorem Mb(C:Fld P)(O:Ord N)(f:∀r:EC.Pt P,On r->mul N r=none)(hP:IsP N)(t:Nat)(ht:t<=6)(q:Md.Ps Bs (Fin N) (OnP P))(u:OnP P)(G0 H0:Nat->List (Nat × Bs))(U:List (Nat × Bs))(fm:Gd N (2^t) 1 G0 q.g)(ee:Gd N (2^t) 1 H0 q.h)(hU:Tl N U u)(ek:0<U.length)(fg:U.length<=16)
 (Lb Rb:Nat->Bs) (ge:∀j,Lb j=wP ((aD C f).pLi (chF N) ivF u t q j)) (gs:∀j,Rb j=wP ((aD C f).pTi (chF N) ivF u t q j)) (r:Nat) (v0 dh cf:Us) (w:Uq) (hL:Holds encB w r 0 q.s) (d3:q.s.size=32) (hv:GRq (·≠r) w v0 (2^t) G0 H0 U) (ha:SLq (·≠r) w dh (2^t) (λi=>(q.a i).val)) (K:SLq (·≠r) w cf (2^t) (λi=>(q.b i).val)) :
 UG prog 83 #[lgV r,v0,dh,cf] w (Ret (PhR w r t Lb Rb ((aD C f).pst (chF N) ivF u t q t).s (bx (((aD C f).pst (chF N) ivF u t q t).a 0).val) (bx (((aD C f).pst (chF N) ivF u t q t).b 0).val))):=by
 have hr:=Holds.lt hL (by rw[d3];decide);obtain⟨k,hk⟩:∃k,Hid (w.heap.size=k):=⟨_,rfl⟩
 obtain⟨e0,gj,f5,ep⟩:=hv.ar;subst gj;obtain⟨w1,kb⟩:=hE (w.alloc (.cells #[jZ r] 145));obtain⟨w2,ko⟩:=hE (w1.alloc (.cells e0 133));obtain⟨w3,km⟩:=hE (w2.alloc (.cells #[.slice none 0 0,.slice none 0 0,.slice none 0 0,.slice none 0 0] 26));obtain⟨w4,be⟩:∃w4,Hid (w3.alloc (.cells #[.slice none 0 0,.slice none 0 0,.slice none 0 0,.slice none 0 0] 26)=w4):=⟨_,rfl⟩
 have z1:w1.heap.size=k+1:=by rw[<-kb.out,UA,hk.out]
 have z2:w2.heap.size=k+2:=by rw[<-ko.out,UA,z1]
 have z3:w3.heap.size=k+3:=by rw[<-km.out,UA,z2]
 have g3:r<k:=by rw[<-hk.out];exact hr
 have K4:Hid (∃G H,Gd N (2^(t-0)) (2^0) G ((aD C f).pst (chF N) ivF u t q 0).g/\Gd N (2^(t-0)) (2^0) H ((aD C f).pst (chF N) ivF u t q 0).h/\Ph w w4 r k 0 0 (2^(t-0)) (.slice none 0 0) (.slice none 0 0) (.slice none 0 0) (.slice none 0 0) (.agg e0) dh cf Lb Rb ((aD C f).pst (chF N) ivF u t q 0).s (λi=>(((aD C f).pst (chF N) ivF u t q 0).a i).val) (λi=>(((aD C f).pst (chF N) ivF u t q 0).b i).val) G H U):=by
  have b1:kZ w w1:=by rw[<-kb.out];exact aC _ _
  have D:kZ w1 w2:=by rw[<-ko.out];exact aC _ _
  have E:kZ w2 w3:=by rw[<-km.out];exact aC _ _
  have F:kZ w3 w4:=by rw[<-be.out];exact aC _ _
  have T:Row w1 k [jZ r]:=by rw[<-kb.out,<-hk.out];exact aE w _ _
  have V:Row w2 (k+1) e0.toList:=by rw[<-ko.out,<-z1];exact aE w1 e0.toList 133
  have S:Row w3 (k+2) [.slice none 0 0,.slice none 0 0,.slice none 0 0,.slice none 0 0]:=by rw[<-km.out,<-z2];exact aE w2 _ _
  have R:Row w4 (k+3) [.slice none 0 0,.slice none 0 0,.slice none 0 0,.slice none 0 0]:=by rw[<-be.out,<-z3];exact aE w3 _ _
  have bb:kZ w w4:=((b1.trans (D.mono b1.size)).trans (E.mono (UB b1.size D.size))).trans (F.mono (UB b1.size (UB D.size E.size)));have J:∀g,g<w.heap.size->g≠r->QH r k (.slice none 0 0) (.slice none 0 0) g:=λg M L=>⟨L,U3 (by rw[<-hk.out];exact M),(λe=>by cases e),(λe=>by cases e)⟩
  have A:∀(B:Nat->Bs) (Q:Nat->Prop),TlL Q (k+4) 0 w4 (.slice none 0 0) B:=λB Q=>⟨[],⟨rfl,U3 ⟨rfl,rfl⟩⟩,λj hj=>absurd hj (Ym _)⟩
  have kq:∀ {Q:Nat->Prop},Kq Q w w4:=Kq.of_below bb;exact⟨G0,H0,fm,ee,SP.Only.of_below bb rfl hr,g3,hk.out,((T.below D).below E).below F,⟨e0,rfl,f5,ep,(V.below E).below F⟩,S.below F,⟨R.1,[.slice none 0 0,.slice none 0 0],rfl,R⟩,A _ _,A _ _,(λg e=>by cases e),(ha.mono2 J).keep kq,(K.mono2 J).keep kq,(hv.mono2 J).keep kq,Holds.below hL bb hr,d3,⟨[],[],yBr,⟨rfl,U3 ⟨rfl,rfl⟩⟩,⟨rfl,U3 ⟨rfl,rfl⟩⟩,λg M=>absurd M UX⟩⟩
 obtain⟨vl,kt⟩:=hE (lgV r);obtain⟨vG,bc⟩:=hE (U2 e0);have B1:Hid ((Vd 145 vl).run prog w=.ok (jZ k) w1):=by rw[<-kt.out,<-kb.out,<-hk.out];exact Na r w
 have B2:Hid ((Vd 133 vG).run prog w1=.ok (.pointer (some ⟨k+1,0,none⟩)) w2):=by
  obtain⟨a1,a2,a3,ea⟩:∃a b c,e0=#[a,b,c]:=by
   obtain⟨E,A,D,e,-⟩:=hv.ex;injection e with e
   exact⟨E,A,D,e⟩
  rw[<-bc.out,<-ko.out,<-z1,ea];exact CJ a1 a2 a3 w1
 have HZ:=mk3 z2 z3 hk.out;have eh:=mk2 ge gs;have HF:Hid (Fld P/\Ord N/\IsP N/\Tl N U u/\0<U.length/\U.length<=16/\t<=6):=⟨C,O,hP,hU,ek,fg,ht⟩
 obtain⟨d,fs,dw⟩:=Ux.1 uGr;have HD:=mk2 fs dw;rw[bc.out]at K4;rw[kt.out,bc.out];clear fs dw z1 z2 z3 kb ko hk hL d3 hv ha K fm ee hU ek fg f5 ep hr O hP bc;go_enter func83,ntmps83;go_wp2_with (first|(refine aF (u:=vl) (v:=jZ k) (w':=w1) rfl 145 (.tmp 0) rfl ?_ ?_ ?_;rfl;exact B1.out)|(refine aF (u:=vG) (v:=.pointer (some ⟨k+1,0,none⟩)) (w':=w2) rfl 133 (.tmp 1) rfl ?_ ?_ ?_;rfl;exact B2.out)|(refine fB (v:=.pointer (some ⟨k+2,0,none⟩)) (w':=w3) rfl 26 8 rfl rfl ?_ ?_;(rw[<-km.out,<-HZ.1];kernel_rfl))|(refine fB (v:=.pointer (some ⟨k+3,0,none⟩)) (w':=w4) rfl 26 9 rfl rfl ?_ ?_;(rw[<-be.out,<-HZ.2.1];kernel_rfl))|fail)
 clear B1 B2 km be;simp only[UM,Ur,Ut,Uu];go_loopg [2,3] t (λm s2 s3 W=>∃i:Nat,i+m=t/\Hid (∃E J v G H,Gd N (2^(t-i)) (2^i) G ((aD C f).pst (chF N) ivF u t q i).g/\Gd N (2^(t-i)) (2^i) H ((aD C f).pst (chF N) ivF u t q i).h/\Ph w W r k i i (2^(t-i)) E J E J v s2 s3 Lb Rb ((aD C f).pst (chF N) ivF u t q i).s (λj=>(((aD C f).pst (chF N) ivF u t q i).a j).val) (λj=>(((aD C f).pst (chF N) ivF u t q i).b j).val) G H U))
 case atStart=>exact⟨0,oM,_,_,_,K4.out⟩
 case round =>
  obtain⟨i,i2,KM⟩:=hrel;by_cases hi:i<t
  ·obtain⟨E,J,v,G,H,hG,hH,h0⟩:=KM.out;clear KM;have HI:=Hid.mk' hi;obtain⟨m,hm⟩:∃m,m=2^(t-(i+1)):=⟨_,rfl⟩
   have kx:2^(t-i)=m+m:=by rw[hm,show t-i=t-(i+1)+1 by omega,V6];omega
   have ku:0<m:=by rw[hm];exact XH dC
   obtain⟨c,hc⟩:∃c,c=2^i:=⟨_,rfl⟩
   have kd:0<c:=by rw[hc];exact XH dC
   have fh:c*(m+m)<=64:=by
    rw[<-kx,hc,<-Nat.pow_add,show i+(t-i)=t by omega];exact UB (Nat.pow_le_pow_right dC HF.2.2.2.2.2.2) dC
   have k0:c*m<=64:=by have:=Nat.mul_le_mul_left c (show m<=m+m by omega);omega
   have em:m<=64:=by have:=Xr m kd;omega
   have eS:(aD C f).pst (chF N) ivF u t q (i+1)=(aD C f).qT (chF N) ivF u m ((aD C f).pst (chF N) ivF u t q i):=by rw[hm];rfl
   have eL:(aD C f).pLi (chF N) ivF u t q i=(aD C f).pL u m ((aD C f).pst (chF N) ivF u t q i):=by rw[hm];rfl
   have eT:(aD C f).pTi (chF N) ivF u t q i=(aD C f).pT u m ((aD C f).pst (chF N) ivF u t q i):=by rw[hm];rfl
   have HE:Hid (2^(t-(i+1))=m/\2^(i+1)=c+c):=⟨hm.symm,by rw[V6,hc];omega⟩
   rw[kx,<-hc]at hG hH;rw[kx]at h0;clear hm kx hc;generalize (aD C f).pst (chF N) ivF u t q i=L at hG hH h0 eS eL eT;have HS:Hid ((aD C f).pst (chF N) ivF u t q (i+1)=(aD C f).qT (chF N) ivF u m L/\(aD C f).pLi (chF N) ivF u t q i=(aD C f).pL u m L/\(aD C f).pTi (chF N) ivF u t q i=(aD C f).pT u m L):=⟨eS,eL,eT⟩
   clear eS eL eT;obtain⟨ga,oa,ca,rfl,fk,-⟩:=id h0.la;obtain⟨Z,ob,F,rfl,fl,-⟩:=id h0.lb;have sG:=Hid.mk' (V0 hG (V0 hH (V0 ku (V0 kd (V0 fh (V0 em k0))))));obtain⟨l1,dy,ei⟩:=Ip (Q:=QH r k E J) C HF.2.1 f ku kd k0 hG.high hH.low HF.2.2.2.1 HF.2.2.2.2.1 HF.2.2.2.2.2.1 L.a (λj=>L.b (m+j));obtain⟨l2,e9,f8⟩:=Ip (Q:=QH r k E J) C HF.2.1 f ku kd k0 hG.low hH.high HF.2.2.2.1 HF.2.2.2.2.1 HF.2.2.2.2.2.1 (λj=>L.a (m+j)) L.b;obtain⟨X,hX⟩:∃X,X=wP ((aD C f).pL u m L):=⟨_,rfl⟩
   obtain⟨Y,hY⟩:∃Y,Y=wP ((aD C f).pT u m L):=⟨_,rfl⟩
   have sX:X.size=33:=by rw[hX];exact aT _
   have sY:Y.size=33:=by rw[hY];exact aT _
   have c3:∀(W:Uq) (v:Us),Sm 0 W v l1->UG prog 67 #[v] W (rZ W λe w'=>e=pvl X):=by rw[hX];exact ei
   have c6:∀(W:Uq) (v:Us),Sm 0 W v l2->UG prog 67 #[v] W (rZ W λe w'=>e=pvl Y):=by rw[hY];exact f8
   clear ei f8;obtain⟨PH,h4⟩:∃PH:Uq->Prop,Hid (∀W,PH W↔Ph w W r k i i (m+m) E J E J v (.slice (some ⟨ga,oa,none⟩) (m+m) ca) (.slice (some ⟨Z,ob,none⟩) (m+m) F) Lb Rb L.s (λj=>(L.a j).val) (λj=>(L.b j).val) G H U):=⟨_,λ_=>Iff.rfl⟩
   have k5:Hid (∀W W':Uq,kZ W W'->PH W->PH W'):=λW W' K h=>(h4 W').2 (((h4 W).1 h).grow K)
   have K0:Hid (PH wr):=(h4 wr).2 h0;have g8:Hid (∀W,PH W->UG prog 157 #[v] W (Ret (CrR (QH r k E J) W m G H U))):=λW h=>GO m ku oM G H U v W ((h4 W).1 h).gr
   have cS:Hid ((∀W (x:Us),PH W->GRq (QH r k E J) W x m (λi=>G (m+i)) H U->UG prog 158 #[x,.slice (some ⟨ga,oa,none⟩) m ca,.slice (some ⟨Z,ob+m*4,none⟩) m (F-m)] W (rZ W λe w'=>Sm W.heap.size w' e l1))/\(∀W (x:Us),PH W->GRq (QH r k E J) W x m G (λi=>H (m+i)) U->UG prog 158 #[x,.slice (some ⟨ga,oa+m*4,none⟩) m (ca-m),.slice (some ⟨Z,ob,none⟩) m F] W (rZ W λe w'=>Sm W.heap.size w' e l2))):=
    ⟨λW x h hx=>dy W x _ _ hx ((h4 W).1 h).la.low ((h4 W).1 h).lb.high,λW x h hx=>e9 W x _ _ hx ((h4 W).1 h).la.high ((h4 W).1 h).lb.low⟩
   have cP:Hid ((∀(W:Uq) (v:Us),Sm 0 W v l1->UG prog 67 #[v] W (rZ W λe w'=>e=pvl X))/\(∀(W:Uq) (v:Us),Sm 0 W v l2->UG prog 67 #[v] W (rZ W λe w'=>e=pvl Y))):=⟨c3,c6⟩
   have bv:=Dh ga oa (m+m) ca m oM;have kn:=Dg Z ob (m+m) F m oM fl;have kp:=Dg ga oa (m+m) ca m oM fk;have bn:=Dh Z ob (m+m) F m oM;rw[Nat.add_sub_cancel]at kn kp;have h7:=mk4 sX sY hX hY;obtain⟨sx,cx,ey,fr⟩:∃(s:Bs) (c:Fin N),Hid (chF N L.s ((aD C f).pL u m L) ((aD C f).pT u m L)=(s,c)/\s.size=32)/\Hid (∀W:Uq,Holds encB W r 0 L.s->L.s.size=32->UG prog 146 #[lgV r,.string ⟨#[108,101,102,116]⟩,pvl X,.string ⟨#[114,105,103,104,116]⟩,pvl Y] W (Ret λe w'=>SP.Only r 0 32 W w'/\Holds encB w' r 0 s/\e=nv c.val)):=JQ HF.2.1 HF.2.2.1 r L.s _ _ X Y hX hY;obtain⟨e1,du,kf,bz,c7⟩:=h0.r1;have HV:=mk3 du kf bz;have R1:Hid (wr.rangeAt (k+1) 0 e1.toList/\(prog.info? 133).map (·.size)=some e1.toList.length):=⟨c7.2.1,by rw[UJ,kf];exact iGr⟩
   obtain⟨n,hn⟩:=hE (m+m);have hq:(n:Int).tdiv 2=(m:Int):=by rw[<-hn.out];exact TA m
   have gw:(1:Int)<(n:Int):=by rw[<-hn.out];omega
   rw[hn.out]at bv kn kp bn;rw[hn.out];clear h0 dy e9 c3 c6 sX sY hX hY du kf bz c7 hG hH fh k0 fk fl kd hi;go_wp2_with (first|(refine U5 rfl 133 (.tmp 5) rfl (k+1) 0 ?_ e1.toList d ?_ ?_ ?_ ?_ ?_;rfl;exact R1.1;exact HD.1;exact HD.2;exact R1.2;rw[show U2 e1.toList.toArray=v from HV.1.symm])|fail)
   refine(g8 wr K0.out).mono ?_;rintro e W1 ⟨uu,rfl,fz,f1,f2,rfl,de,d0,gt,gn,fu,gp⟩;have K1:=mk1 (k5 wr W1 fz K0.out);obtain⟨b1,h9⟩:∃b,Hid (W1.heap.size=b):=⟨_,rfl⟩
   obtain⟨W2,kv⟩:∃W,Hid (W1.alloc (.cells #[.slice none 0 0,.slice none 0 0,.slice none 0 0] 133)=W):=⟨_,rfl⟩
   obtain⟨W3,d6⟩:∃W,Hid (W2.alloc (.cells #[.slice none 0 0,.slice none 0 0,.slice none 0 0] 133)=W):=⟨_,rfl⟩
   obtain⟨W4,fb⟩:∃W,Hid (W3.setCells b1 0 f1.toList=W):=⟨_,rfl⟩
   obtain⟨W5,f7⟩:∃W,Hid (W4.setCells (b1+1) 0 f2.toList=W):=⟨_,rfl⟩
   have zz:W2.heap.size=b1+1:=by rw[<-kv.out,UA,h9.out]
   have c9:f1.toList.length=3:=by rw[UJ];exact de
   have bs:f2.toList.length=3:=by rw[UJ];exact d0
   have F3:kZ W1 W3/\Row W3 b1 [.slice none 0 0,.slice none 0 0,.slice none 0 0]/\Row W3 (b1+1) [.slice none 0 0,.slice none 0 0,.slice none 0 0]:=by
    have bA:kZ W1 W2:=by rw[<-kv.out];exact aC _ _
    have A:kZ W2 W3:=by rw[<-d6.out];exact aC _ _
    have R:Row W2 b1 [.slice none 0 0,.slice none 0 0,.slice none 0 0]:=by rw[<-kv.out,<-h9.out];exact aE W1 _ _
    have D:Row W3 (b1+1) [.slice none 0 0,.slice none 0 0,.slice none 0 0]:=by rw[<-d6.out,<-zz];exact aE W2 _ _
    exact⟨bA.trans (A.mono bA.size),R.below A,D⟩
   have F4:kZ W1 W4/\Row W4 b1 f1.toList/\Row W4 (b1+1) [.slice none 0 0,.slice none 0 0,.slice none 0 0]:=by
    rw[<-fb.out];exact⟨RG.below_setCells (by rw[h9.out];exact Uv _) _ _ _ F3.1,F3.2.1.put (by rw[c9];rfl),aR F3.2.2 oM⟩
   have F5:kZ W1 W5/\Row W5 b1 f1.toList/\Row W5 (b1+1) f2.toList:=by
    rw[<-f7.out];exact⟨RG.below_setCells (by rw[h9.out];omega) _ _ _ F4.1,aR F4.2.1 oM,F4.2.2.put (by rw[bs];rfl)⟩
   have K5:=mk5 (k5 W1 W5 F5.1 K1.out) F5.2.1 F5.2.2 (fu.keep (Kq.of_below F5.1)) (gp.keep (Kq.of_below F5.1));have HT:Hid ((W2.heap.size=b1+1/\W3.there b1 0 f1.size/\W4.there (b1+1) 0 f2.size)/\f1.all (·.oneCell')=true/\f2.all (·.oneCell')=true/\(prog.info? 133).map (·.size)=some f1.size/\(prog.info? 133).map (·.size)=some f2.size/\(prog.info? 133).map (·.size)=some f1.toList.length/\(prog.info? 133).map (·.size)=some f2.toList.length):=⟨⟨zz,by rw[de];exact F3.2.1.2.2,by rw[d0];exact F4.2.2.2.2⟩,gt,gn,by rw[de];exact iGr,by rw[d0];exact iGr,by rw[c9];exact iGr,by rw[bs];exact iGr⟩
   obtain⟨y1,e5⟩:=hE (U2 f1);obtain⟨y2,dz⟩:=hE (U2 f2);rw[e5.out,dz.out];go_wp2_with (first|(refine alR 11 h9 kv ?_)|(refine fB (v:=.pointer (some ⟨b1+1,0,none⟩)) (w':=W3) rfl 133 12 rfl rfl ?_ ?_;(rw[<-d6.out,<-HT.1.1];kernel_rfl))|(refine U1 rfl 133 (.tmp 11) _ rfl b1 0 f1 ?_ ?_ ?_ ?_ ?_ ?_;rfl;exact e5.symm;exact HT.1.2.1;exact HT.2.2.2.1;exact HT.2.1;rw[fb.out])|(refine U1 rfl 133 (.tmp 12) _ rfl (b1+1) 0 f2 ?_ ?_ ?_ ?_ ?_ ?_;rfl;exact dz.symm;exact HT.1.2.2;exact HT.2.2.2.2.1;exact HT.2.2.1;rw[f7.out])|fail)
   refine(gwL [pE (.agg f1.toList.toArray),pE (.slice (some ⟨ga,oa,none⟩) n ca),pE (iZ m),pE (.slice (some ⟨ga,oa,none⟩) m ca),pE (.slice (some ⟨Z,ob,none⟩) n F),pE (iZ m),pE (.slice (some ⟨Z,ob+m*4,none⟩) m (F-m)),pM (λ_=>True) l1,pE (pvl X),RG.pN W5.heap.size z33] (λW=>kZ W5 W) (λW W' K h=>h.trans (K.mono h.size))).tail2 10 kR kR kR ⟨
    iD 133 11 b1 0 f1.toList uGr HT.2.2.2.2.2.1 rfl (λW T=>RG.range_below K5.2.1.2.1 T K5.2.1.1) (λ_=>rfl),
    gO 2 (.slice (some ⟨ga,oa,none⟩) n ca),
    gO 10 (iZ m),
    RG.gX 1 29 2 30 bv,
    gO 3 (.slice (some ⟨Z,ob,none⟩) n F),
    gO 10 (iZ m),
    RG.gX 4 32 5 33 kn,
    rG 0 28 3 31 6 34 158 (λx y z=>#[x,y,z]) (λx y z W hx D hz T=>by
     obtain rfl:x=.agg f1.toList.toArray:=hx;obtain rfl:y=(.slice (some ⟨ga,oa,none⟩) m ca):=D;obtain rfl:z=(.slice (some ⟨Z,ob+m*4,none⟩) m (F-m)):=hz;refine(cS.1 W _ (k5 W5 W T K5.1) (K5.2.2.2.1.keep (Kq.of_below T))).mono ?_;rintro e W' ⟨uu,rfl,K,hs⟩;exact⟨_,rfl,K,hs.q.mono λ_ _=>trivial⟩),
    oW 7 35 67 (λx=>#[x]) (λx W hx T=>by
     have hx:=hx;refine(cP.1 W x hx.sm).mono ?_;rintro e W' ⟨uu,rfl,K,rfl⟩;exact⟨_,rfl,K,rfl⟩),
    xP z33 103 (λW W' hR T=>⟨_,rfl,T.size,hR⟩),yCl⟩ (UQ _ _).drew ?_
   intro V da hR T;have ci:=hR 8 dC;obtain⟨A,cn,h5,kc⟩:∃k,V 9=jZ k/\W5.heap.size<=k/\Row da k z33:=hR 9 dC;obtain⟨W7,d2⟩:=hE (da.setCells A 0 (aA X));have k8:=aB h7.1;have cg:kZ W5 W7:=by rw[<-d2.out];exact RG.below_setCells h5 _ _ _ T
   have gh:Row W7 A (aA X):=by rw[<-d2.out];exact kc.put (by rw[k8];rfl)
   have bu:Hid (da.there A 0 (aA X).toArray.size/\(prog.info? 103).map (·.size)=some (aA X).toArray.size):=by
    rw[VB,k8];exact⟨kc.2.2,iCP⟩
   dsimp only[bU,VJ,Xk,Xl];simp only[UM,Ur,Ut,Uu];obtain⟨gz,bk⟩:=hE (pvl X);rw[ci,cn,bk.out];have dl:=mk1 (Uw ((h4 W5).1 K5.1).r3.1 h5);have bg:Hid (∀g,E.ownBlock=some g\/J.ownBlock=some g->g<A):=λg M=>by
    have h:=(h4 W5).1 K5.1;rcases M with M|M
    ·exact Uw (h.tL.lt M).2 h5
    ·exact Uw (h.tR.lt M).2 h5
   have K7:=mk4 (k5 W5 W7 cg K5.1) (K5.2.2.1.below cg) (K5.2.2.2.2.keep (Kq.of_below cg)) gh;go_wp2_with (first|(refine stR 13 d2 bk bu.1 bu.2 (bW X) ?_)|fail)
   refine(gwL [pE (.agg f2.toList.toArray),pE (.slice (some ⟨ga,oa,none⟩) n ca),pE (iZ m),pE (.slice (some ⟨ga,oa+m*4,none⟩) m (ca-m)),pE (.slice (some ⟨Z,ob,none⟩) n F),pE (iZ m),pE (.slice (some ⟨Z,ob,none⟩) m F),pM (λ_=>True) l2,pE (pvl Y),RG.pN W7.heap.size z33] (λW=>kZ W7 W) (λW W' K h=>h.trans (K.mono h.size))).tail2 10 kR kR kR ⟨
    iD 133 12 (b1+1) 0 f2.toList uGr HT.2.2.2.2.2.2 rfl (λW T=>RG.range_below K7.2.1.2.1 T K7.2.1.1) (λ_=>rfl),
    gO 2 (.slice (some ⟨ga,oa,none⟩) n ca),
    gO 10 (iZ m),
    RG.gX 1 38 2 39 kp,
    gO 3 (.slice (some ⟨Z,ob,none⟩) n F),
    gO 10 (iZ m),
    RG.gX 4 41 5 42 bn,
    rG 0 37 3 40 6 43 158 (λx y z=>#[x,y,z]) (λx y z W hx D hz T=>by
     obtain rfl:x=.agg f2.toList.toArray:=hx;obtain rfl:y=(.slice (some ⟨ga,oa+m*4,none⟩) m (ca-m)):=D;obtain rfl:z=(.slice (some ⟨Z,ob,none⟩) m F):=hz;refine(cS.2 W _ (k5 W7 W T K7.1) (K7.2.2.1.keep (Kq.of_below T))).mono ?_;rintro e W' ⟨uu,rfl,K,hs⟩;exact⟨_,rfl,K,hs.q.mono λ_ _=>trivial⟩),
    oW 7 44 67 (λx=>#[x]) (λx W hx T=>by
     have hx:=hx;refine(cP.2 W x hx.sm).mono ?_;rintro e W' ⟨uu,rfl,K,rfl⟩;exact⟨_,rfl,K,rfl⟩),
    xP z33 103 (λW W' hR T=>⟨_,rfl,T.size,hR⟩),yCl⟩ (UQ _ _).drew ?_
   intro V ct hR T;have ci:=hR 8 dC;obtain⟨D,cn,h5,kc⟩:∃k,V 9=jZ k/\W7.heap.size<=k/\Row ct k z33:=hR 9 dC;obtain⟨W9,d4⟩:∃W,Hid (ct.setCells D 0 (aA Y)=W):=⟨_,rfl⟩
   have k8:=aB h7.2.1;have fa:kZ W7 W9:=by rw[<-d4.out];exact RG.below_setCells h5 _ _ _ T
   have g5:Row W9 D (aA Y):=by rw[<-d4.out];exact kc.put (by rw[k8];rfl)
   have bh:Hid (ct.there D 0 (aA Y).toArray.size/\(prog.info? 103).map (·.size)=some (aA Y).toArray.size):=by
    rw[VB,k8];exact⟨kc.2.2,iCP⟩
   dsimp only[bU,VJ,Xk,Xl];simp only[UM,Ur,Ut,Uu];obtain⟨i0,c0⟩:=hE (pvl Y);rw[ci,cn,c0.out];have K9:Hid (PH W9/\Row W9 A (aA X)/\Row W9 D (aA Y)/\W9.heap.size<=W9.heap.size):=⟨k5.out W7 W9 fa K7.1,K7.2.2.2.below fa,g5,Uv _⟩
   have eu:=mk2 dl.out (Uw ((h4 W7).1 K7.1).r3.1 h5);have bp:Hid (∀g,E.ownBlock=some g\/J.ownBlock=some g->g<D):=λg M=>by
    have h:=(h4 W7).1 K7.1;rcases M with M|M
    ·exact Uw (h.tL.lt M).2 h5
    ·exact Uw (h.tR.lt M).2 h5
   go_wp2_with (first|(refine stR 14 d4 c0 bh.1 bh.2 (bW Y) ?_)|fail)
   obtain⟨dP,k3,hw⟩:=Ux.1 uCP;have kh:(prog.info? 103).map (·.size)=some (aA X).length:=by rw[aB h7.1];exact iCP
   have kj:(prog.info? 103).map (·.size)=some (aA Y).length:=by rw[aB h7.2.1];exact iCP
   have k6:∀W W':Uq,kZ W W'->k+3<W.heap.size->A<W.heap.size->D<W.heap.size->(W.cell? ⟨k+3,0,none⟩=some E/\W.cell? ⟨k+3,1,none⟩=some J/\W.rangeAt A 0 (aA X)/\W.rangeAt D 0 (aA Y))->(W'.cell? ⟨k+3,0,none⟩=some E/\W'.cell? ⟨k+3,1,none⟩=some J/\W'.rangeAt A 0 (aA X)/\W'.rangeAt D 0 (aA Y)):=λW W' K h3 g9 ky h=>⟨by rw[K.cell (p:=⟨k+3,0,none⟩) h3];exact h.1,by rw[K.cell (p:=⟨k+3,1,none⟩) h3];exact h.2.1,RG.range_below h.2.2.1 K g9,RG.range_below h.2.2.2 K ky⟩
   have d9:∀W W':Uq,W'.heap[k+3]? = W.heap[k+3]?->W'.heap[A]? = W.heap[A]?->W'.heap[D]? = W.heap[D]?->(W.cell? ⟨k+3,0,none⟩=some E/\W.cell? ⟨k+3,1,none⟩=some J/\W.rangeAt A 0 (aA X)/\W.rangeAt D 0 (aA Y))->(W'.cell? ⟨k+3,0,none⟩=some E/\W'.cell? ⟨k+3,1,none⟩=some J/\W'.rangeAt A 0 (aA X)/\W'.rangeAt D 0 (aA Y)):=λW W' e3 gu g6 h=>⟨by rw[UV (a:=⟨k+3,0,none⟩) e3];exact h.1,by rw[UV (a:=⟨k+3,1,none⟩) e3];exact h.2.1,λj u hj=>by rw[UV (a:=⟨A,0+j,none⟩) gu];exact h.2.2.1 j u hj,λj u hj=>by rw[UV (a:=⟨D,0+j,none⟩) g6];exact h.2.2.2 j u hj⟩
   have P9:=(h4 W9).1 K9.1;have fx:=P9.r3.1;obtain⟨-,i3,-,fq⟩:=P9.r3;have S9:W9.drew.cell? ⟨k+3,0,none⟩=some E/\W9.drew.cell? ⟨k+3,1,none⟩=some J/\W9.drew.rangeAt A 0 (aA X)/\W9.drew.rangeAt D 0 (aA Y):=⟨fq.2.1 0 _ rfl,fq.2.1 1 _ rfl,K9.2.1.2.1,K9.2.2.1.2.1⟩
   have z9:k+3<W9.drew.heap.size/\A<W9.drew.heap.size/\D<W9.drew.heap.size:=⟨P9.r3.1,K9.2.1.1,K9.2.2.1.1⟩
   have P9:=P9.drew;have dm:Lb i=X:=by rw[eh.1 i,HS.2.1];exact h7.2.2.1.symm
   have f0:Rb i=Y:=by rw[eh.2 i,HS.2.2];exact h7.2.2.2.symm
   have h8:∀(i:Nat),i≠13->i≠15->∀(l:Array Bool) (W:Uq),(((l.setIfInBounds i true).getD 13 false=false->W.cell? ⟨k+3,0,none⟩=some E)/\((l.setIfInBounds i true).getD 15 false=false->W.cell? ⟨k+3,1,none⟩=some J)/\W.rangeAt A 0 (aA X)/\W.rangeAt D 0 (aA Y))->((l.getD 13 false=false->W.cell? ⟨k+3,0,none⟩=some E)/\(l.getD 15 false=false->W.cell? ⟨k+3,1,none⟩=some J)/\W.rangeAt A 0 (aA X)/\W.rangeAt D 0 (aA Y)):=λi h1 h2 l W h=>⟨λe=>h.1 (by rw[XP false h1];exact e),λe=>h.2.1 (by rw[XP false h2];exact e),h.2.2⟩
   have mS:∀(l:Array Bool) (W:Uq),(W.cell? ⟨k+3,0,none⟩=some E/\W.cell? ⟨k+3,1,none⟩=some J/\W.rangeAt A 0 (aA X)/\W.rangeAt D 0 (aA Y))->((l.getD 13 false=false->W.cell? ⟨k+3,0,none⟩=some E)/\(l.getD 15 false=false->W.cell? ⟨k+3,1,none⟩=some J)/\W.rangeAt A 0 (aA X)/\W.rangeAt D 0 (aA Y)):=λl W h=>⟨λ_=>h.1,λ_=>h.2.1,h.2.2⟩
   refine anyS.begin (λl W=>(l.getD 13 false=false->W.cell? ⟨k+3,0,none⟩=some E)/\(l.getD 15 false=false->W.cell? ⟨k+3,1,none⟩=some J)/\W.rangeAt A 0 (aA X)/\W.rangeAt D 0 (aA Y)) kR ?_;have bS:∀(p:Nat),Bef (λl W=>(yBQ l 13 false=false->VX W ⟨k+3,0,none⟩=some E)/\(yBQ l 15 false=false->VX W ⟨k+3,1,none⟩=some J)/\YS W A 0 (aA X)/\YS W D 0 (aA Y)) p W9.drew:=λp=>⟨#[],by simp,mS _ _ S9⟩
   refine anyS.val (i:=0) (d:=some 46) (x:=.pointer (some ⟨k+3,0,none⟩)) rfl 13 (h8 0 dC dC) (bS 13) (mS _ _ S9) ?_;refine anyS.cel (i:=1) (d:=some 47) (x:=E) rfl 13 (h8 1 dC dC) 24 46 (k+3) 0 rfl uLL (λW ⟨l,e,h⟩=>h.1 e) (bS 13) (mS _ _ S9) ?_;refine anyS.row (i:=2) (d:=some 48) (cs:=aA X) rfl 13 (h8 2 dC dC) 103 13 A 0 dP rfl k3 hw kh (λW ⟨l,e,h⟩=>h.2.2.1) (bS 13) (mS _ _ S9) ?_;refine anyS.val (i:=6) (d:=some 52) (x:=.pointer (some ⟨k+3,1,none⟩)) rfl 13 (h8 6 dC dC) (bS 13) (mS _ _ S9) ?_;refine anyS.cel (i:=7) (d:=some 53) (x:=J) rfl 15 (h8 7 dC dC) 24 52 (k+3) 1 rfl uLL (λW ⟨l,e,h⟩=>h.2.1 e) (bS 15) (mS _ _ S9) ?_;refine anyS.row (i:=8) (d:=some 54) (cs:=aA Y) rfl 14 (h8 8 dC dC) 103 14 D 0 dP rfl k3 hw kj (λW ⟨l,e,h⟩=>h.2.2.2) (bS 14) (mS _ _ S9) ?_;refine anyS.cal (i:=3) (d:=some 49) rfl (fZ h7.1 W9.drew) (λxa Wa hp=>?_);have Pa:=P9.grow hp.1;have Sa:=k6 _ _ hp.1 z9.1 z9.2.1 z9.2.2 S9;have za:k+3<Wa.heap.size/\A<Wa.heap.size/\D<Wa.heap.size:=by have:=hp.1.size;omega
   obtain⟨gx,rfl⟩:=hp.2.2;have Ea:=hp.2.1.mono2 λg _ M=>P9.qn g M
   have d7:=mk2 hp.1 hp.2.1;refine⟨mS _ _ Sa,?_⟩;have bb:=aC Wa (.cells #[r33 gx] 23);have g0:=SI Ea Wa;have Pb:=Pa.grow bb;have Sb:=k6 _ _ bb za.1 za.2.1 za.2.2 Sa;have zb:k+3<(Wa.alloc (.cells #[r33 gx] 23)).heap.size/\A<(Wa.alloc (.cells #[r33 gx] 23)).heap.size/\D<(Wa.alloc (.cells #[r33 gx] 23)).heap.size:=by have:=bb.size;omega
   have g4:=(aE Wa [r33 gx] 23).2.1 0 _ rfl;refine anyS.ins (i:=4) (d:=some 50) (v:=sZ Wa.heap.size 1 1) (w':=Wa.alloc (.cells #[r33 gx] 23)) (I:=Vx 24 1 #[(0,r33 gx)]) rfl g0 (mS _ _ Sb) ?_;obtain⟨R,Wc,gc,Pc,A1⟩:=P9.appL (ga:=Wa.heap.size) (gx:=gx) (d7.1.trans (bb.mono d7.1.size)) (by rw[dm];exact d7.2.keep (Kq.of_below bb)) g4 oM;have Sc:=d9 _ _ (A1.keep (k+3) zb.1 λe=>by have:=(Pb.tL.lt e).1;omega) (A1.keep A zb.2.1 λe=>by have:=bg.out _ (U3 e);omega) (A1.keep D zb.2.2 λe=>by have:=bp.out _ (U3 e);omega) Sb;have zc:k+3<Wc.heap.size/\A<Wc.heap.size/\D<Wc.heap.size:=by have:=A1.size;omega
   refine anyS.ins (i:=5) (d:=some 51) (v:=R) (w':=Wc) (I:=Vr #[24,24] 24 #[E,sZ Wa.heap.size 1 1]) rfl gc (mS _ _ Sc) ?_;refine anyS.val (i:=12) (d:=some 58) (x:=.pointer (some ⟨k+3,0,none⟩)) rfl 13 (h8 12 dC dC) ⟨#[],by simp,mS _ _ Sc⟩ (mS _ _ Sc) ?_;refine anyS.cal (i:=9) (d:=some 55) rfl (fZ h7.2.1 Wc) (λxd Wd hu=>?_);have Pd:=Pc.grow hu.1;have Sd:=k6 _ _ hu.1 zc.1 zc.2.1 zc.2.2 Sc;have zd:k+3<Wd.heap.size/\A<Wd.heap.size/\D<Wd.heap.size:=by have:=hu.1.size;omega
   obtain⟨gy,rfl⟩:=hu.2.2;have Ed:=hu.2.1.mono2 λg _ M=>Pc.qn g M
   have ck:=mk2 hu.1 hu.2.1;refine⟨mS _ _ Sd,?_⟩;have bd:=aC Wd (.cells #[r33 gy] 23);have ej:=SI Ed Wd;have Pe:=Pd.grow bd;have Se:=k6 _ _ bd zd.1 zd.2.1 zd.2.2 Sd;have ze:k+3<(Wd.alloc (.cells #[r33 gy] 23)).heap.size/\A<(Wd.alloc (.cells #[r33 gy] 23)).heap.size/\D<(Wd.alloc (.cells #[r33 gy] 23)).heap.size:=by have:=bd.size;omega
   have gq:(Wd.alloc (.cells #[r33 gy] 23)).cell? ⟨Wd.heap.size,0,none⟩=some (r33 gy):=(aE Wd [r33 gy] 23).2.1 0 _ rfl;refine anyS.ins (i:=10) (d:=some 56) (v:=sZ Wd.heap.size 1 1) (w':=Wd.alloc (.cells #[r33 gy] 23)) (I:=Vx 24 1 #[(0,r33 gy)]) rfl ej (mS _ _ Se) ?_;have gm:ElQ (Wc.heap.size<=·) 33 (Wd.alloc (.cells #[r33 gy] 23)) (r33 gy) (Rb i):=by rw[f0];exact ck.2.keep (Kq.of_below bd)
   have gg:i<=900:=oM;have ex:=Pc.appR (ga:=Wd.heap.size) (gx:=gy) (ck.1.trans (bd.mono ck.1.size)) gm gq gg;obtain⟨S,Wf,gv,Pf,A2⟩:=ex;have Sf:=d9 _ _ (A2.keep (k+3) ze.1 λe=>by have:=(Pe.tR.lt e).1;omega) (A2.keep A ze.2.1 λe=>by have:=bg.out _ (UW e);omega) (A2.keep D ze.2.2 λe=>by have:=bp.out _ (UW e);omega) Se;have zf:A<Wf.heap.size/\D<Wf.heap.size:=by have:=A2.size;omega
   refine anyS.ins (i:=11) (d:=some 57) (v:=S) (w':=Wf) (I:=Vr #[24,24] 24 #[J,sZ Wd.heap.size 1 1]) rfl gv (mS _ _ Sf) ?_;have k7:=Pf.tL.one;have kk:=Pf.tR.one;obtain⟨-,i1,-,d8⟩:=Pf.r3;have e7:Wf.there (k+3) 0 1:=λj hj=>d8.2.2 j (Uw hj (Nat.succ_le_succ (Wx _)))
   have e6:Wf.there (k+3) 1 1:=λj hj=>by
    have kr:j=0:=oM;subst kr;exact d8.2.2 1 (yA9 (Y0 _))
   have fy:A≠k+3:=by have:=eu.1;omega
   have gr:D≠k+3:=by have:=eu.2;omega
   have rg:∀(o:Nat) (x:Us) (W:Uq),W.rangeAt A 0 (aA X)/\W.rangeAt D 0 (aA Y)->(W.setCells (k+3) o [x]).rangeAt A 0 (aA X)/\(W.setCells (k+3) o [x]).rangeAt D 0 (aA Y):=λo x W h=>⟨Vg h.1 _ _ _ (U3 fy),Vg h.2 _ _ _ (U3 gr)⟩
   have co:=(kQ (x:=R) (o:=0) d8 (Y0 _)).2.1 1 _ rfl;refine anyS.sto (i:=13) (d:=none) rfl 24 (.tmp 58) (.tmp 51) rfl (k+3) 0 R k7.1 k7.2 e7 iLL ⟨λe=>absurd e (nfB kR),λ_=>co,rg _ _ _ Sf.2.2⟩ ?_;refine anyS.nxt (i:=14) (d:=some 59) (x:=.pointer (some ⟨k+3,1,none⟩)) rfl ⟨λe=>absurd e (nfB kR),λ_=>co,rg _ _ _ Sf.2.2⟩ ?_;refine anyS.sto (i:=15) (d:=none) rfl 24 (.tmp 59) (.tmp 57) rfl (k+3) 1 S kk.1 kk.2 (VV e6 _ _ _) iLL ⟨λe=>absurd e (nfB kR),λe=>absurd e (nfB kR),rg _ _ _ (rg _ _ _ Sf.2.2)⟩ ?_;simp only[UM,Ur,Ut,Uu];refine anyS.fin kR (λWg eg=>?_) _;have Pg:=Pf.put' eg;have fj:Wg.rangeAt A 0 (aA X)/\Wg.rangeAt D 0 (aA Y):=by rw[eg];exact rg 1 S _ (rg 0 R _ Sf.2.2)
   have zg:A<Wg.heap.size/\D<Wg.heap.size:=by rw[eg,setCells_size,setCells_size];exact zf
   clear Pf Sf k7 kk e7 e6 rg co zf mS h8 S9 P9 z9 k6 d9 eg;have KG:=Hid.mk' (V0 Pg (V0 fj zg));clear Pg fj zg;obtain⟨dL,bi,c4⟩:=Ux.1 uLg;have cq:Hid ((prog.underlying 145=some dL/\dL.isRow=true)/\prog.underlying 103=some dP/\dP.isRow=true):=⟨⟨bi,c4⟩,k3,hw⟩
   have k9:Hid ((prog.info? 103).map (·.size)=some (aA X).length/\(prog.info? 103).map (·.size)=some (aA Y).length):=⟨kh,kj⟩
   clear bi c4 k3 hw kh kj dm f0 fx;obtain⟨pX,f4⟩:∃v,Hid (pvl X=v):=⟨_,rfl⟩
   obtain⟨pY,ds⟩:∃v,Hid (pvl Y=v):=⟨_,rfl⟩
   have eo:Hid (UG prog 146 #[vl,.string ⟨#[108,101,102,116]⟩,pX,.string ⟨#[114,105,103,104,116]⟩,pY] Wg (Ret λe w'=>SP.Only r 0 32 Wg w'/\Holds encB w' r 0 sx/\e=nv cx.val)):=by
    rw[<-kt.out,<-f4.out,<-ds.out];exact fr.out Wg KG.1.lg KG.1.ls
   go_wp2_with (first|(refine U5 rfl 145 (.tmp 4) rfl k 0 ?_ [jZ r] dL ?_ ?_ ?_ ?_ ?_;rfl;exact KG.1.r0.2.1;exact cq.1.1;exact cq.1.2;exact iLg;rw[show U2 [jZ r].toArray=vl from kt.out])|(refine ldR 13 KG.2.1.1 f4 uCP k9.1 ?_)|(refine ldR 14 KG.2.1.2 ds uCP k9.2 ?_)|fail)
   refine eo.mono ?_;rintro e Wh ⟨uu,rfl,dp,ed,rfl⟩;have en:Hid (Ph w Wh r k (i+1) (i+1) (m+m) R S R S v (.slice (some ⟨ga,oa,none⟩) (m+m) ca) (.slice (some ⟨Z,ob,none⟩) (m+m) F) Lb Rb sx (λj=>(L.a j).val) (λj=>(L.b j).val) G H U):=KG.1.say dp ed ey.2;clear dp ed eo KG cq k9 fr;obtain⟨x,he⟩:∃x,Hid (cx.val=x):=⟨_,rfl⟩
   obtain⟨xi,h6⟩:∃x,Hid ((ivF cx).val=x):=⟨_,rfl⟩
   have et:Hid (∀W:Uq,UG prog 159 #[nv x] W (rZ W λe w'=>e=nv xi)):=by
    rw[<-he.out,<-h6.out];exact λW=>uS HF.2.1 cx.val cx.isLt W
   rw[he.out];obtain⟨b5,ba⟩:∃b,Hid (Wh.heap.size=b):=⟨_,rfl⟩
   obtain⟨Wi,df⟩:∃W,Hid (Wh.alloc (.cells #[uZ 0,uZ 0,uZ 0,uZ 0] 49)=W):=⟨_,rfl⟩
   obtain⟨Wj,b9⟩:∃W,Hid (Wi.setCells b5 0 (wn x)=W):=⟨_,rfl⟩
   have Fi:Hid (Row Wi b5 [uZ 0,uZ 0,uZ 0,uZ 0]/\kZ Wh Wi):=by rw[<-df.out,<-ba.out];exact⟨aE Wh _ _,aC _ _⟩
   have bj:kZ Wh Wj:=by rw[<-b9.out];exact RG.below_setCells (by rw[ba.out];exact Uv _) _ _ _ Fi.2
   have Kj:Hid (Ph w Wj r k (i+1) (i+1) (m+m) R S R S v (.slice (some ⟨ga,oa,none⟩) (m+m) ca) (.slice (some ⟨Z,ob,none⟩) (m+m) F) Lb Rb sx (λj=>(L.a j).val) (λj=>(L.b j).val) G H U/\Row Wj b5 (wn x)):=⟨en.grow bj,by rw[<-b9.out];exact Fi.1.put rfl⟩
   obtain⟨vx,kw⟩:∃v,Hid (nv x=v):=⟨_,rfl⟩
   have bq:Hid (∀W:Uq,UG prog 159 #[vx] W (rZ W λe w'=>e=nv xi)):=by rw[<-kw.out];exact et.out
   rw[kw.out];clear bj en et;go_wp2_with (first|(refine alR 15 ba df ?_)|(refine stR 15 b9 kw Fi.1.2.2 nSc (aM x) ?_)|(refine ldR 15 Kj.2.2.1 kw rSc nSc ?_)|fail)
   refine(bq Wj).mono ?_;rintro e Wk ⟨uu,rfl,h5,rfl⟩;obtain⟨b6,b7⟩:∃b,Hid (Wk.heap.size=b):=⟨_,rfl⟩
   obtain⟨Wl,cj⟩:∃W,Hid (Wk.alloc (.cells #[uZ 0,uZ 0,uZ 0,uZ 0] 49)=W):=⟨_,rfl⟩
   obtain⟨Wm,b8⟩:∃W,Hid (Wl.setCells b6 0 (wn xi)=W):=⟨_,rfl⟩
   have Fl:Hid (Row Wl b6 [uZ 0,uZ 0,uZ 0,uZ 0]/\kZ Wk Wl):=by rw[<-cj.out,<-b7.out];exact⟨aE Wk _ _,aC _ _⟩
   have bm:kZ Wj Wm:=by
    have:kZ Wk Wm:=by rw[<-b8.out];exact RG.below_setCells (by rw[b7.out];exact Uv _) _ _ _ Fl.2
    exact h5.trans (this.mono h5.size)
   have Km:Hid (Ph w Wm r k (i+1) (i+1) (m+m) R S R S v (.slice (some ⟨ga,oa,none⟩) (m+m) ca) (.slice (some ⟨Z,ob,none⟩) (m+m) F) Lb Rb sx (λj=>(L.a j).val) (λj=>(L.b j).val) G H U/\Row Wm b5 (wn x)/\Row Wm b6 (wn xi)):=⟨Kj.1.grow bm,Kj.2.below bm,by rw[<-b8.out];exact Fl.1.put rfl⟩
   obtain⟨vi,fn⟩:∃v,Hid (nv xi=v):=⟨_,rfl⟩
   rw[fn.out];clear bm h5 Kj Fi bq df b9 ba;go_wp2_with (first|(refine alR 16 b7 cj ?_)|(refine stR 16 b8 fn Fl.1.2.2 nSc (aM xi) ?_)|fail)
   clear Fl cj b8 b7;simp only[UM,Ur,Ut,Uu];have bf:x<N:=by rw[<-he.out];exact cx.isLt
   have ke:xi<N:=by rw[<-h6.out];exact(ivF cx).isLt
   have dq:sIn N x=xi:=by rw[<-he.out,<-h6.out];rfl
   have ft:GOk N (m+m) c G H U:=sN (by have:=sG.2.2.1;omega) sG.2.2.2.1 sG.2.2.2.2.1 sG.1 sG.2.1 HF.2.2.2.1 HF.2.2.2.2.1 HF.2.2.2.2.2.1;have PW:Hid (∀W,kZ Wm W->Ph w W r k (i+1) (i+1) (m+m) R S R S v (.slice (some ⟨ga,oa,none⟩) (m+m) ca) (.slice (some ⟨Z,ob,none⟩) (m+m) F) Lb Rb sx (λj=>(L.a j).val) (λj=>(L.b j).val) G H U):=λW K=>Km.1.grow K
   have cF:Hid ((∀W,kZ Wm W->UG prog 160 #[.slice (some ⟨ga,oa,none⟩) n ca,nv x,nv xi] W (rZ W λe w'=>SLq (QH r k R S) w' e m (nM N x xi m (λj=>(L.a j).val))))/\(∀W,kZ Wm W->UG prog 160 #[.slice (some ⟨Z,ob,none⟩) n F,nv xi,nv x] W (rZ W λe w'=>SLq (QH r k R S) w' e m (nM N xi x m (λj=>(L.b j).val))))/\(∀W,kZ Wm W->UG prog 161 #[v,nv x] W (rZ W λe w'=>GRq (QH r k R S) w' e m (kY N xi x m G) (kY N x xi m H) U))):=by
    rw[<-hn.out];refine⟨λW K=>?_,λW K=>?_,λW K=>?_⟩
    ·refine(Jy HF.2.1 m (by have:=sG.2.2.2.2.2.1;omega) _ x xi bf ke (λj _=>(L.a j).isLt) _ W (PW W K).la).mono ?_;rintro e w' ⟨uu,rfl,h1,h2⟩;exact⟨_,rfl,h1,h2.mono λg M=>(PW W K).qn g M⟩
    ·refine(Jy HF.2.1 m (by have:=sG.2.2.2.2.2.1;omega) _ xi x ke bf (λj _=>(L.b j).isLt) _ W (PW W K).lb).mono ?_;rintro e w' ⟨uu,rfl,h1,h2⟩;exact⟨_,rfl,h1,h2.mono λg M=>(PW W K).qn g M⟩
    ·have:=Fp HF.2.1 m c sG.2.2.1 G H U ft x bf v W (PW W K).qn (PW W K).gr;rw[dq]at this;exact this
   obtain⟨ev,ez,ki,fd,bt⟩:=Km.1.r1;have k4:Hid (v=.agg ev/\Row Wm (k+1) ev.toList/\(prog.info? 133).map (·.size)=some ev.toList.length/\ev.size=3):=⟨ez,bt,by rw[UJ,ki];exact iGr,ki⟩
   clear ez ki fd bt bf ke dq ft;refine(gwL [pE (.slice (some ⟨ga,oa,none⟩) n ca),pE (nv x),pE (nv xi),RG.pS (QH r k R S) m (nM N x xi m (λj=>(L.a j).val)),pE (.slice (some ⟨Z,ob,none⟩) n F),pE (nv xi),pE (nv x),RG.pS (QH r k R S) m (nM N xi x m (λj=>(L.b j).val)),pE (.agg ev.toList.toArray),pE (nv x),pR (QH r k R S) m (kY N xi x m G) (kY N x xi m H) U] (λW=>kZ Wm W) (λW W' K h=>h.trans (K.mono h.size))).tail2 11 kR kR kR ⟨
    gO 2 (.slice (some ⟨ga,oa,none⟩) n ca),
    gLo 15 (λW T=>RG.range_below Km.2.1.2.1 T Km.2.1.1) rSc nSc,
    gLo 16 (λW T=>RG.range_below Km.2.2.2.1 T Km.2.2.1) rSc nSc,
    rG 0 66 1 67 2 68 160 (λx y z=>#[x,y,z]) (λa1 a2 a3 W h1 h2 h3 T=>by
     obtain rfl:a1=(.slice (some ⟨ga,oa,none⟩) n ca):=h1;obtain rfl:a2=nv x:=h2;obtain rfl:a3=nv xi:=h3;refine(cF.1 W T).mono ?_;rintro e W' ⟨uu,rfl,K,hs⟩;exact⟨_,rfl,K,hs⟩),
    gO 3 (.slice (some ⟨Z,ob,none⟩) n F),
    gLo 16 (λW T=>RG.range_below Km.2.2.2.1 T Km.2.2.1) rSc nSc,
    gLo 15 (λW T=>RG.range_below Km.2.1.2.1 T Km.2.1.1) rSc nSc,
    rG 4 70 5 71 6 72 160 (λx y z=>#[x,y,z]) (λa1 a2 a3 W h1 h2 h3 T=>by
     obtain rfl:a1=(.slice (some ⟨Z,ob,none⟩) n F):=h1;obtain rfl:a2=nv xi:=h2;obtain rfl:a3=nv x:=h3;refine(cF.2.1 W T).mono ?_;rintro e W' ⟨uu,rfl,K,hs⟩;exact⟨_,rfl,K,hs⟩),
    iD 133 5 (k+1) 0 ev.toList uGr k4.2.2.1 kR (λW T=>RG.range_below k4.2.1.2.1 T k4.2.1.1) (λ_=>rfl),
    gLo 15 (λW T=>RG.range_below Km.2.1.2.1 T Km.2.1.1) rSc nSc,
    eD 8 74 9 75 161 (λx y=>#[x,y]) (λa1 a2 W h1 h2 T=>by
     obtain rfl:a1=v:=(show a1=.agg ev.toList.toArray from h1).trans k4.1.symm;obtain rfl:a2=nv x:=h2;refine(cF.2.2 W T).mono ?_;rintro e W' ⟨uu,rfl,K,hs⟩;exact⟨_,rfl,K,hs⟩),yCl⟩ (UQ _ _).drew ?_
   intro V Wn hR T;have cu:SLq (QH r k R S) Wn (V 3) m (nM N x xi m (λj=>(L.a j).val)):=hR 3 dC;have cv:SLq (QH r k R S) Wn (V 7) m (nM N xi x m (λj=>(L.b j).val)):=hR 7 dC;have k2:GRq (QH r k R S) Wn (V 10) m (kY N xi x m G) (kY N x xi m H) U:=hR 10 dC;obtain⟨ef,cy,ka,c8⟩:=k2.ar;rw[cy]at k2;dsimp only[bU,VJ,Xk,Xl];simp only[UM,Ur,Ut,Uu];rw[cy];generalize V 3=na at cu⊢;generalize V 7=nb at cv⊢;have Pn:=(PW Wn T).next cu cv k2;obtain⟨Wo,f3⟩:∃W,Hid (Wn.setCells (k+1) 0 ef.toList=W):=⟨_,rfl⟩
   rw[f3.out]at Pn;have cz:Hid (Wn.there (k+1) 0 ef.size/\(prog.info? 133).map (·.size)=some ef.size/\ef.all (·.oneCell')=true):=by
    refine⟨?_,by rw[ka];exact iGr,c8⟩;rw[ka];have:=(k4.2.1.below T).2.2;rw[UJ,k4.2.2.2]at this;exact this
   have br:(aD C f).qT (chF N) ivF u m L=⟨sx,Md.fS cx (ivF cx) m L.a,Md.fS (ivF cx) cx m L.b,(aD C f).fP (ivF cx) cx m L.g,(aD C f).fP cx (ivF cx) m L.h⟩:=by
    unfold Md.qT;rw[ey.1]
   have er:Hid (∃E J v G H,Gd N (2^(t-(i+1))) (2^(i+1)) G ((aD C f).pst (chF N) ivF u t q (i+1)).g/\Gd N (2^(t-(i+1))) (2^(i+1)) H ((aD C f).pst (chF N) ivF u t q (i+1)).h/\Ph w Wo r k (i+1) (i+1) (2^(t-(i+1))) E J E J v na nb Lb Rb ((aD C f).pst (chF N) ivF u t q (i+1)).s (λj=>(((aD C f).pst (chF N) ivF u t q (i+1)).a j).val) (λj=>(((aD C f).pst (chF N) ivF u t q (i+1)).b j).val) G H U):=by
    show ∃E J v G H,_;rw[HS.1,br,HE.1,HE.2];have ea:nM N x xi m (λj=>(L.a j).val)=λj=>(Md.fS cx (ivF cx) m L.a j).val:=by
     rw[<-he.out,<-h6.out];funext j;exact Ct cx (ivF cx) m L.a j
    have eb:nM N xi x m (λj=>(L.b j).val)=λj=>(Md.fS (ivF cx) cx m L.b j).val:=by
     rw[<-he.out,<-h6.out];funext j;exact Ct (ivF cx) cx m L.b j
    rw[ea,eb]at Pn;have g1:=sG.1.fold C f (ivF cx) cx;have g2:=sG.2.1.fold C f cx (ivF cx);rw[he.out,h6.out]at g1 g2;exact⟨_,_,_,_,_,g1,g2,Pn⟩
   obtain⟨vf,fe⟩:∃v,Hid (U2 ef=v):=⟨_,rfl⟩
   rw[fe.out];clear hR T cu cv k2 cy ka c8 Pn br cF PW Km;generalize V 0=q0;generalize V 1=q1;generalize V 2=q2;generalize V 4=q4;generalize V 5=q5;generalize V 6=q6;generalize V 8=q8;generalize V 9=q9;go_wp2_with (first|(refine U1 rfl 133 (.tmp 5) _ rfl (k+1) 0 ef ?_ ?_ ?_ ?_ ?_ ?_;rfl;exact fe.symm;exact cz.1;exact cz.2.1;exact cz.2.2;rw[f3.out])|fail)
   go_roundg (gk-1)
   case measure=>have:=HI.out;omega
   case rel=>exact⟨i+1,by have:=HI.out;omega,er⟩
  ·have g7:i=t:=oM;subst g7;obtain⟨E,J,v,G,H,-,-,h0⟩:=KM.out;clear KM;rw[Nat.sub_self,Nat.pow_zero]at h0;obtain⟨ga,oa,ca,rfl,-,qa,ew,X⟩:=id h0.la;obtain⟨Z,ob,F,rfl,-,qb,e4,V⟩:=id h0.lb;have X:=X 0 dC;have V:=V 0 dC;obtain⟨a0,db⟩:∃a,Hid ((((aD C f).pst (chF N) ivF u i q i).a 0).val=a):=⟨_,rfl⟩
   obtain⟨b0,cp⟩:∃a,Hid ((((aD C f).pst (chF N) ivF u i q i).b 0).val=a):=⟨_,rfl⟩
   have X:wr.rangeAt ga (oa+4*0) (wn a0):=by rw[<-db.out];exact X
   have V:wr.rangeAt Z (ob+4*0) (wn b0):=by rw[<-cp.out];exact V
   have dx:Hid (a0<N/\b0<N):=⟨by rw[<-db.out];exact Fin.isLt _,by rw[<-cp.out];exact Fin.isLt _⟩
   have KP:=Hid.mk' h0;have KR:Hid (wr.rangeAt ga (oa+4*0) (wn a0)/\wr.rangeAt Z (ob+4*0) (wn b0)/\ga<wr.heap.size/\Z<wr.heap.size):=⟨X,V,ew,e4⟩
   have hz:k+4<=wr.heap.size:=h0.r3.1;have d1:=Hid.mk' hz;obtain⟨dS,Y,kl⟩:=Ux.1 rSc;have na:ga≠k+3:=by have:=qa.2.1;omega
   have nb:Z≠k+3:=by have:=qb.2.1;omega
   have L:∀W,kZ wr W->W.rangeAt ga (oa+4*0) (wn a0)/\W.rangeAt Z (ob+4*0) (wn b0):=λW K=>⟨RG.range_below X K ew,RG.range_below V K e4⟩
   have d5:∀(o:Nat) (x:Us) (W:Uq),W.rangeAt ga (oa+4*0) (wn a0)/\W.rangeAt Z (ob+4*0) (wn b0)->(W.setCells (k+3) o [x]).rangeAt ga (oa+4*0) (wn a0)/\(W.setCells (k+3) o [x]).rangeAt Z (ob+4*0) (wn b0):=λo x W h=>⟨Vg h.1 _ _ _ (U3 na),Vg h.2 _ _ _ (U3 nb)⟩
   have bd:kZ wr wr.drew:=(UQ _ _).drew;clear h0 hz hi;go_wp2_with fail
   refine anyS.begin (λ_ W=>W.rangeAt ga (oa+4*0) (wn a0)/\W.rangeAt Z (ob+4*0) (wn b0)) kR ?_;have bS:Bef (λ_ W=>YS W ga (oa+4*0) (wn a0)/\YS W Z (ob+4*0) (wn b0)) 11 wr.drew:=⟨#[],by simp,L _ bd⟩
   refine anyS.val (i:=0) (d:=some 77) (x:=.slice (some ⟨ga,oa,none⟩) 1 ca) rfl 11 (λ_ _ h=>h) bS (L _ bd) ?_;simp only[UM,Ur,Ut,Uu];refine anyS.val (i:=1) (d:=some 78) (x:=.pointer (some ⟨ga,oa+4*0,none⟩)) rfl 11 (λ_ _ h=>h) bS (L _ bd) ?_ (hv:=hvI (lF ga oa 1 ca 0 dC) kR);simp only[UM,Ur,Ut,Uu];refine anyS.row (i:=2) (d:=some 79) (cs:=wn a0) rfl 11 (λ_ _ h=>h) 49 78 ga (oa+4*0) dS rfl Y kl nSc (λW ⟨l,e,h⟩=>h.1) bS (L _ bd) ?_;simp only[UM,Ur,Ut,Uu];refine anyS.val (i:=4) (d:=some 81) (x:=(.slice (some ⟨Z,ob,none⟩) 1 F)) rfl 11 (λ_ _ h=>h) bS (L _ bd) ?_;simp only[UM,Ur,Ut,Uu];refine anyS.val (i:=5) (d:=some 82) (x:=.pointer (some ⟨Z,ob+4*0,none⟩)) rfl 11 (λ_ _ h=>h) bS (L _ bd) ?_ (hv:=hvI (lF Z ob 1 F 0 dC) kR);simp only[UM,Ur,Ut,Uu];refine anyS.row (i:=6) (d:=some 83) (cs:=wn b0) rfl 11 (λ_ _ h=>h) 49 82 Z (ob+4*0) dS rfl Y kl nSc (λW ⟨l,e,h⟩=>h.2) bS (L _ bd) ?_;simp only[UM,Ur,Ut,Uu];clear bS;refine anyS.cal (i:=3) (d:=some 80) rfl (fW HF.2.1 dx.1 wr.drew) (λxA W1 kg=>?_);obtain⟨D,rfl⟩:=kg.2.2;have bA:kZ wr W1:=bd.trans kg.1;refine⟨L _ bA,?_⟩;simp only[UM,Ur,Ut,Uu];refine anyS.val (i:=8) (d:=some 85) (x:=.pointer (some ⟨k+3,2,none⟩)) rfl 11 (λ_ _ h=>h) ⟨#[],by simp,L _ bA⟩ (L _ bA) ?_;simp only[UM,Ur,Ut,Uu];have P1:=KP.grow bA;have lA:wr.heap.size<=D/\D<W1.heap.size:=by
    obtain⟨k1,c1,e1,-,-,q1,l1,-⟩:=kg.2.1;obtain rfl:D=k1:=UN.inj (congrArg V8 e1);exact⟨q1,l1⟩
   have ec:ElQ (k+4<=·) 32 W1 (r32 D) (bx a0):=kg.2.1.mono2 λg _ M=>UB d1.out M
   have R:∀(W:Uq) (o:Nat) (x:Us),Kq (k+4<=·) W (W.setCells (k+3) o [x]):=λW o x=>Kq.set λg M e=>oM
   have T:∀g,E.ownBlock=some g->g<wr.heap.size/\g≠k+3:=λg M=>⟨(KP.tL.lt M).2,by have:=(KP.tL.lt M).1;omega⟩
   have S:∀g,J.ownBlock=some g->g<wr.heap.size/\g≠k+3:=λg M=>⟨(KP.tR.lt M).2,by have:=(KP.tR.lt M).1;omega⟩
   have key:∀(W:Uq),(∀g,g<wr.heap.size->g≠k+3->W.heap[g]? = wr.heap[g]?)->wr.heap.size<=W.heap.size->∀A,D<A->A<W.heap.size->DjF (k+4) W i E J (r32 D) (r32 A):=λW hk hs A h1 h2=>DjF.of KP.dj hs (λg M=>hk g (T g M).1 (T g M).2) (λg M=>hk g (S g M).1 (S g M).2) d1.out lA.1 h1 h2
   have es:∀ {W:Uq},R3 W (k+3) E J->∃z,Row (W.setCells (k+3) 2 [r32 D]) (k+3) [E,J,r32 D,z]/\W.there (k+3) 2 1:=λh=>by
    obtain⟨-,rs,hl,hr⟩:=h;match rs,hl,hr with
    | [x,z],_,hr =>
     refine⟨z,kQ (x:=r32 D) (o:=2) hr (Yt rfl),λj hj=>?_⟩;have kr:j=0:=oM;subst kr;exact hr.2.2 2 (Yt rfl)
   obtain⟨PH,p1,pF⟩:∃PH:Uq->Prop,(∀W W',kZ W1 W->W'=W.setCells (k+3) 2 [r32 D]->PH W'/\R3 W (k+3) E J)/\(∀W A,PH W->ElQ (k+4<=·) 32 (W.setCells (k+3) 3 [r32 A]) (r32 D) (bx a0)->ElQ (k+4<=·) 32 (W.setCells (k+3) 3 [r32 A]) (r32 A) (bx b0)->DjF (k+4) (W.setCells (k+3) 3 [r32 A]) i E J (r32 D) (r32 A)->Row (W.setCells (k+3) 3 [r32 A]) (k+2) [.slice none 0 0,.slice none 0 0,.slice none 0 0,.slice none 0 0]/\Row ((W.setCells (k+3) 3 [r32 A]).setCells (k+2) 0 [E,J,r32 D,r32 A]) (k+2) [E,J,r32 D,r32 A]/\PhR w r i Lb Rb ((aD C f).pst (chF N) ivF u i q i).s (bx a0) (bx b0) (.agg #[E,J,r32 D,r32 A]) ((W.setCells (k+3) 3 [r32 A]).setCells (k+2) 0 [E,J,r32 D,r32 A])):=⟨λW=>Ph w W r k i i 1 E J E J v (.slice (some ⟨ga,oa,none⟩) 1 ca) (.slice (some ⟨Z,ob,none⟩) 1 F) Lb Rb ((aD C f).pst (chF N) ivF u i q i).s (λj=>(((aD C f).pst (chF N) ivF u i q i).a j).val) (λj=>(((aD C f).pst (chF N) ivF u i q i).b j).val) G H U,λW W' K e=>by rw[e];exact⟨(P1.grow K).putA (o:=0) dC,(P1.grow K).r3⟩,λW A h e1 e2 e3=>(h.putA (o:=1) dC).fin e1 e2 e3⟩
   have lB:∀ {W W':Uq}{A:Nat}{b:Bs},ElQ (W.heap.size<=·) 32 W' (r32 A) b->W.heap.size<=A/\A<W'.heap.size:=λh=>by
    obtain⟨k1,c1,e1,-,-,q1,l1,-⟩:=h;obtain rfl:=UN.inj (congrArg V8 e1);exact⟨q1,l1⟩
   have ky:k+4<=W1.heap.size:=UB d1.out bA.size;refine anyS.cal (i:=7) (d:=some 84) rfl (fW HF.2.1 dx.2 W1) ?_;rintro v W' ⟨kz,cd,A,rfl⟩;have bw:=bA.trans (kz.mono bA.size);obtain⟨ph,bo⟩:=p1 W' _ kz rfl;obtain⟨z,hz,dk⟩:=es bo;have l2:=lB cd;have e1:=(ec.keep (Kq.of_below kz)).keep (R W' 2 (r32 D));have e2:=(cd.mono2 (Q':=(k+4<=·)) λg _ M=>UB ky M).keep (R W' 2 (r32 D));have e3:=key (W'.setCells (k+3) 2 [r32 D]) (λg h1 h2=>(aH (k+3) _ _ _ g h2).trans (bw.block g h1)) (by rw[setCells_size];exact bw.size) A (Uw lA.2 l2.1) (by rw[setCells_size];exact l2.2);have rr:=d5 2 (r32 D) _ (L _ bw);refine⟨L _ bw,?_⟩;simp only[UM,Ur,Ut,Uu];refine anyS.sto (i:=9) (d:=none) rfl 23 (.tmp 85) (.tmp 80) rfl (k+3) 2 (r32 D) rfl rfl dk iB1 rr ?_;simp only[UM,Ur,Ut,Uu];generalize W'.setCells (k+3) 2 [r32 D]=W at ph hz e1 e2 e3 rr⊢;have KF:=pF W A ph (e1.keep (R _ _ _)) (e2.keep (R _ _ _)) (e3.keep (Uv _) (by rw[setCells_size];exact Uv _) (λg M=>aH (k+3) _ _ _ g (T g M).2) (λg M=>aH (k+3) _ _ _ g (S g M).2));have dd:Row (W.setCells (k+3) 3 [r32 A]) (k+3) [E,J,r32 D,r32 A]:=kQ (x:=r32 A) (o:=3) hz (Yt rfl);have f9:W.there (k+3) 3 1:=λj hj=>by
    have kr:j=0:=oM;subst kr;exact hz.2.2 3 (Yt rfl)
   refine anyS.nxt (i:=10) (d:=some 86) (x:=.pointer (some ⟨k+3,3,none⟩)) rfl rr ?_;simp only[UM,Ur,Ut,Uu];refine anyS.sto (i:=11) (d:=none) rfl 23 (.tmp 86) (.tmp 84) rfl (k+3) 3 (r32 A) rfl rfl f9 iB1 (d5 _ _ _ rr) ?_;simp only[UM,Ur,Ut,Uu];refine anyS.fin kR ?_ _;intro WZ f6;rw[<-f6]at KF dd;obtain⟨Wd,fp⟩:=hE (WZ.setCells (k+2) 0 [E,J,r32 D,r32 A]);rw[fp.out]at KF;have ON:Hid ((#[E,J,r32 D,r32 A]:Array Us).all (·.oneCell')=true):=by show _=_;simp[KP.tL.one.2,KP.tR.one.2,e1.one.2,e2.one.2]
   have KF:=mk2 KF dd;obtain⟨dI,c5,bl⟩:=Ux.1 Lf;have e8:=mk2 c5 bl;obtain⟨vO,ff⟩:=hE (U2 #[E,J,r32 D,r32 A]);clear L d5 bd KP P1 f6 rr ph kz cd bw dd dk l2 bo e1 e2 e3 hz f9 pF p1 key es ec R T S kg ky lA c5 bl Y kl na nb qa qb;go_wp2_with (first|(refine U5 rfl 26 (.tmp 9) rfl (k+3) 0 ?_ [E,J,r32 D,r32 A] dI ?_ ?_ ?_ ?_ ?_;rfl;exact KF.2.2.1;exact e8.1;exact e8.2;exact Jf;rw[show U2 [E,J,r32 D,r32 A].toArray=vO from ff.out])|(refine U1 rfl 26 (.tmp 8) _ rfl (k+2) 0 #[E,J,r32 D,r32 A] ?_ ?_ ?_ ?_ ?_ ?_;rfl;exact ff.symm;exact KF.1.1.2.2;exact Jf;exact ON.out;rw[show(#[E,J,r32 D,r32 A]:Array Us).toList=[E,J,r32 D,r32 A] from rfl,fp.out])|fail)
   refine UD (aG 8 26 rfl KF.1.2.1 rfl Lf Jf) rfl ?_;refine⟨_,rfl,?_⟩;have:=KF.1.2.2;rw[<-db.out,<-cp.out]at this;exact this
end
section
open SPA
variable {P:Nat}[NeZero P]{N:Nat}
def hvA(n:Nat):Us:=if n=1 then .tuple #[iZ 0,.bool true] else if n=2 then .tuple #[iZ 1,.bool true] else if n=4 then .tuple #[iZ 2,.bool true] else if n=8 then .tuple #[iZ 3,.bool true] else if n=16 then .tuple #[iZ 4,.bool true] else if n=32 then .tuple #[iZ 5,.bool true] else if n=64 then .tuple #[iZ 6,.bool true] else .tuple #[iZ 0,.bool false]
theorem Px(n:Nat)(d:n=1\/n=2\/n=4\/n=8\/n=16\/n=32\/n=64\/n=128)(w:Uq):UG prog 57 #[iZ n] w (rZ w λe w'=>e=hvA n):=by
 obtain⟨b,k⟩:∃b,b=n:=⟨_,rfl⟩
 rcases d with rfl|rfl|rfl|rfl|rfl|rfl|rfl|rfl
 all_goals
  go_enter func57,ntmps57;go_wp2;go_loopg [5] 7 (λm s5 W=>W=w/\((m=7/\s5=iZ 0)\/(m=6/\s5=iZ 1/\1<b)\/(m=5/\s5=iZ 2/\2<b)\/(m=4/\s5=iZ 3/\4<b)\/(m=3/\s5=iZ 4/\8<b)\/(m=2/\s5=iZ 5/\16<b)\/(m=1/\s5=iZ 6/\32<b)\/(m=0/\s5=iZ 7/\64<b)))
  case atStart=>exact⟨rfl,U3 ⟨rfl,rfl⟩⟩
  case round =>
   obtain⟨rfl,h⟩:=hrel;rcases h with⟨rfl,rfl⟩|⟨rfl,rfl,c⟩|⟨rfl,rfl,c⟩|⟨rfl,rfl,c⟩|⟨rfl,rfl,c⟩|⟨rfl,rfl,c⟩|⟨rfl,rfl,c⟩|⟨rfl,rfl,c⟩
   all_goals
    first
     | (exfalso;omega)
     | skip
   all_goals
    go_wp2;first
     | (go_ret2;exact⟨_,rfl,UQ _ _,rfl⟩)
     | (go_roundg 6;(case measure=>omega);(case rel=>exact⟨rfl,by simp[k]⟩))
     | (go_roundg 5;(case measure=>omega);(case rel=>exact⟨rfl,by simp[k]⟩))
     | (go_roundg 4;(case measure=>omega);(case rel=>exact⟨rfl,by simp[k]⟩))
     | (go_roundg 3;(case measure=>omega);(case rel=>exact⟨rfl,by simp[k]⟩))
     | (go_roundg 2;(case measure=>omega);(case rel=>exact⟨rfl,by simp[k]⟩))
     | (go_roundg 1;(case measure=>omega);(case rel=>exact⟨rfl,by simp[k]⟩))
     | (go_roundg 0;(case measure=>omega);(case rel=>exact⟨rfl,by simp[k]⟩))
end
section
open SPA
variable {P:Nat}[NeZero P]{N:Nat}[NeZero N]
noncomputable def gPt (C:Fld P) (lb:ByteArray) (i:Nat):OnP P:=⟨.some (hpt P lb (hZ i).toList),AY C lb _⟩
noncomputable def lPt (C:Fld P) (lb:ByteArray) (x:List UInt8):OnP P:=⟨.some (hpt P lb x),AY C lb x⟩
noncomputable def uPt (C:Fld P):OnP P:=lPt C ⟨#[105,110,110,101,114]⟩ []
omit [NeZero N] in
theorem Nt(C:Fld P)(k:1<N)(lb:ByteArray)(i:Nat):Tl N [(1,hpN P lb i)] (gPt C lb i):=Tl.one C k (gPt C lb i)
omit [NeZero N] in
theorem QG(C:Fld P)(k:1<N)(lb:ByteArray)(x:List UInt8):Tl N [(1,wr (.some (hpt P lb x):EC.Pt P))] (lPt C lb x):=Tl.one C k (lPt C lb x)
omit [NeZero N] in
theorem vE(C:Fld P)(k:1<N)(n:Nat):Gd N n 1 (gGT P) (gPt C ⟨#[108,101,102,116]⟩):=⟨λi _=>Nt C k _ i,λ_ _=>rfl⟩
omit [NeZero N] in
theorem nK(C:Fld P)(k:1<N)(n:Nat):Gd N n 1 (hGT P) (gPt C ⟨#[114,105,103,104,116]⟩):=⟨λi _=>Nt C k _ i,λ_ _=>rfl⟩
omit [NeZero N] in
theorem mR(C:Fld P)(k:1<N):Tl N (uGT P) (uPt C):=QG C k _ _
omit [NeZero N] in
theorem Kf(O:Ord N)(n cap:Nat)(l:n<=512)(q:Option Wt)(L:Nat->Bs)(a:Nat->Nat)(w:Uq)(m:Args w q n L)(f:∀j,j<n->rq N (L j)=some (a j)):UG prog 121 #[(.func (.func 16) #[] #[]),.slice q n cap] w (rZ w λe w'=>∃k,e=.tuple #[sZ k n n,.bool true]/\SLq (w.heap.size<=·) w' (sZ k n n) n a):=by
 refine(Nl O n cap l q L w m).mono ?_;rintro e w' ⟨v,rfl,h⟩;rcases h with⟨⟨j,p,d⟩,-⟩|⟨-,k,r,b,hR,rfl⟩
 ·rw[f j p]at d;cases d
 ·refine⟨_,rfl,b.bel,k,rfl,k,0,n,rfl,Uv _,b.le,b.lt,λj c t u i=>?_⟩;have o:=(UE.1 i).1;have g:=hR.row j t c o;rw[f j c]at g;have:=b.range (4*j+t) u (by rw[g];exact i);rw[show 0+(4*j+t)=0+4*j+t by omega]at this;exact this
theorem Pu(t:Nat)(k:t<=6):hvA (2^t)=.tuple #[iZ t,.bool true]:=by
 match t,k with
 | 0,_=>rfl
 | 1,_=>rfl
 | 2,_=>rfl
 | 3,_=>rfl
 | 4,_=>rfl
 | 5,_=>rfl
 | 6,_=>rfl
 | n+7,h=>omega
theorem OT(t:Nat)(k:t<=6):2^t=1\/2^t=2\/2^t=4\/2^t=8\/2^t=16\/2^t=32\/2^t=64\/2^t=128:=by
 match t,k with
 | 0,_=>decide
 | 1,_=>decide
 | 2,_=>decide
 | 3,_=>decide
 | 4,_=>decide
 | 5,_=>decide
 | 6,_=>decide
 | n+7,h=>omega
theorem anyS.sta{P:VC}{c:Array Vj}{Q:Yo->Act->Uq->Prop}{S:Array Bool->Uq->Prop}{i e:Nat}{o:Vj}{k:Array Bool}{a:Act}{w:Uq}{d:Option WB}(ho:c[i]? = some o)(f:U7)(x y:XF)(g:o.op=.store f x y)(b off:Nat)(us:Array Us)(s:us.all (·.oneCell')=true)(r:w.there b off us.size)(q:(P.info? f).map (·.size)=some us.size)
 (p:S (k.setIfInBounds i true) (w.setCells b off us.toList)) (h:anyS P c Q S e (k.setIfInBounds i true) (a.put d WO) (w.setCells b off us.toList)) (hx:a.eval x=oZ b off:=by kernel_rfl) (l:a.eval y=.agg us:=by kernel_rfl)
 (j:U6 .any c k=[i]:=by kernel_rfl) (m:o.guard=none:=by rfl) (hd:o.dst=d:=by kernel_rfl):anyS P c Q S (e+1) k a w:=by
 subst hd;exact anyS.step ho j λK n=>by
  rw[yCj (bI m _)];have j:=ZA (P:=P) w b off f us r q s;unfold VS U4;simp only[g,hx,l,Yw,X4,UU,Wq,Vl,j];exact n.out _ _ p h
theorem ElQ.off{Q:Nat->Prop}{m k:Nat}{W:Uq}{x:Us}{b:Bs}{vs:List Us}(h:ElQ Q m W x b)(q:0<m)(i:Row W k (.slice none 0 0 :: vs)):ElQ (·≠k) m W x b:=by
 obtain⟨g,c,o,j,l,p,n,e⟩:=h;refine⟨g,c,o,j,l,?_,n,e⟩;rintro rfl;have d:=(e 0 oM).1;have f:=i.2.1 0 _ rfl;rw[show(0+0:Nat)=0 from rfl]at d f;rw[f]at d;cases d
theorem wY{w W:Uq}{r o m B:Nat}(h:SP.Only r o m w W)(k:B<=w.heap.size)(b:B<=r):Below B w W:=⟨h.os,h.tape,h.output,h.size,λg c=>h.block g oM oM⟩
end
section
structure Iv where
 p:Uq->Prop
 gr:∀W W',kZ W W'->p W->p W'
 b:Bool
abbrev Iv.bel(k:Uq):Iv:=⟨λW=>kZ k W,λ_ _ b h=>h.trans (b.mono h.size),true⟩
abbrev Iv.only{r:Nat}{k:Uq}(b:r<k.heap.size):Iv:=⟨λW=>SP.Only r 0 32 k W,λ_ _ c h=>h.trans (SP.Only.of_below c rfl (Uw b h.size)),false⟩
section
variable {P:VC}{ops:Array Vj}{Q:Yo->Act->Uq->Prop}{p r:Nat}{J:Iv}{W:Uq}
def Sa(p r:Nat)(J:Iv)(l:Array Bool)(W:Uq):Prop:=(J.b=true/\l.getD p false=true/\l.getD r false=true)\/J.p W
theorem Sa.back{i:Nat}(h:p≠i)(b:r≠i)(l:Array Bool)(W:Uq)(k:Sa p r J (l.setIfInBounds i true) W):Sa p r J l W:=by
 rcases k with k|k
 ·rw[XP false (YB h),XP false (YB b)]at k;exact U3 k
 ·exact UW k
def qw(k:Array Vj)(b:Bool)(p r i:Nat):Nat:=bif b then bif waits k p i then p else r else((VF k.size).find? λj=>waits k j i).getD 0
theorem Sa.bel{i:Nat}(h:Bef (Sa p r J) (qw ops J.b p r i) W):J.p W:=by
 obtain⟨l,k,⟨d,b⟩|b⟩:=h
 ·exfalso;unfold qw at k;rw[d]at k;cases c:waits ops p i with
  | true=>rw[c]at k;exact Yx (k.symm.trans b.1)
  | false=>rw[c]at k;exact Yx (k.symm.trans b.2)
 ·exact b
theorem Sa.bef{q:Nat}(h:J.p W):Bef (Sa p r J) q W:=⟨#[],by simp,UW h⟩
def AW(P:VC)(c:Array Vj)(Q:Yo->Act->Uq->Prop)(p r:Nat)(J:Iv)(b:Nat)(k:Array Bool)(a:Act)(w:Uq):Prop:=J.p w->anyS P c Q (Sa p r J) b k a w
theorem AW.beg{id:Nat}{a:Act}{w:Uq}(p r:Nat)(J:Iv)(k:J.p w.drew)(h:AW P ops Q p r J ops.size (UI ops.size false) a w.drew)(b:P.follows .mixedOrders=true:=by kernel_rfl):(V3 id ops true).wp P Q a w:=anyS.begin (Sa p r J) b (h k)
theorem AW.begin{id:Nat}{a:Act}{w:Uq}(p r:Nat)(h:AW P ops Q p r (Iv.bel w) ops.size (UI ops.size false) a w.drew)(k:P.follows .mixedOrders=true:=by kernel_rfl):(V3 id ops true).wp P Q a w:=AW.beg p r (Iv.bel w) (UQ _ w).drew h k
def aw1(b:Array Vj)(p r q i:Nat)(k:Array Bool):Bool:=waits b q i && XK b && !(k.getD q false || q == i) && YL .any b k i && (U6 .any b k).contains i && !(p == i) && !(r == i)
def fw(k:Array Vj)(i:Nat):Nat:=((VF k.size).find? λj=>waits k j i).getD 0
variable {i fuel:Nat}{o:Vj}{listed:Array Bool}{a a':Act}{w w':Uq}{d:Option WB}{x v:Us}{t:WB}{T:U7}{b off:Nat}{cs:List Us}
theorem AW.take(i q:Nat)(ho:ops[i]? = some o)(hd:o.dst=d)(e:YieldsIf P ops (Bef (Sa p r J) q) o x a)(l:a.put d x=a')(b:aw1 ops p r q i listed=true)(f:∀c a w,Q (.panic c) (a.put o.dst x) w->Q (.panic c) a w)(h:AW P ops Q p r J fuel (listed.setIfInBounds i true) a' w):AW P ops Q p r J (fuel+1) listed a w:=λk=>by
 subst l hd;simp only[aw1,UK,Bool.not_eq_true']at b;obtain⟨⟨⟨⟨⟨⟨u,j⟩,n⟩,m⟩,s⟩,g⟩,t⟩:=b;exact anyS.take (p:=q) ho (Sa.back (by simpa using g) (by simpa using t)) e (Sa.bef k) (UW k) (h k) u j n m s f
theorem AW.va(i:Nat)(x:Us)(h:AW P ops Q p r J fuel (listed.setIfInBounds i true) a' w)(ho:ops[i]? = some o:=by(simp only[Vf,U8,Ve])<;>rfl)(hd:o.dst=d:=by rfl)(f:o.guard=none:=by rfl)(hv:∀w,(U4 a.eval o).run P w=.ok (.value x) w:=by intro _;kernel_rfl)
 (e:a.put d x=a':=by(simp only[UM,Ur,Ut,Uu])<;>rfl) (k:aw1 ops p r (fw ops i) i listed=true:=by kernel_rfl) (b:∀c a w,Q (.panic c) (a.put o.dst x) w->Q (.panic c) a w:=by exact λ_ _ _ h=>h):AW P ops Q p r J (fuel+1) listed a w:=
 AW.take i (fw ops i) ho hd (U3 ⟨bI f _,λw _=>hv w⟩) e k b h
theorem AW.iv(i:Nat){I:Sem Us}(k:∀w,I.run P w=.ok x w)(h:AW P ops Q p r J fuel (listed.setIfInBounds i true) a' w)(ho:ops[i]? = some o:=by(simp only[Vf,U8,Ve])<;>rfl)(hd:o.dst=d:=by rfl)(g:o.guard=none:=by rfl)(j:U4 a.eval o=I >>= λv=>pure (Xo v):=by kernel_rfl)
 (f:a.put d x=a':=by(simp only[UM,Ur,Ut,Uu])<;>rfl) (b:aw1 ops p r (fw ops i) i listed=true:=by kernel_rfl) (e:∀c a w,Q (.panic c) (a.put o.dst x) w->Q (.panic c) a w:=by exact λ_ _ _ h=>h):AW P ops Q p r J (fuel+1) listed a w:=
 AW.take i (fw ops i) ho hd (U3 ⟨bI g _,λw _=>by rw[j,UU,k w];rfl⟩) f b e h
theorem P6{b:Array U7}{s t k:WB}{f:Xp}{y:Us}(hf:∀args W,(callFunc f args).run P W=.ok (.enter f args) W)(ho:o.op=.call ⟨.value (.tmp s),#[.tmp t,.tmp k],b⟩)(d:a.eval (.tmp s)=.func (.func f) #[] #[])(hx:a.eval (.tmp t)=x)(c:a.eval (.tmp k)=y):(U4 a.eval o).run P w=.ok (.enter f #[x,y]) w:=by
 unfold U4;rw[ho];have e:(#[yBg t,yBg k].map a.eval)=#[x,y]:=by simp[hx,c]
 simp only[resolve,d,Deferred.ofValue,UU,Wq,Vl,invoke,e];exact hf _ w
theorem AW.mv(i:Nat)(h:AW P ops Q p r J fuel (listed.setIfInBounds i true) a' w)(ho:ops[i]? = some o:=by(simp only[Vf,U8,Ve])<;>rfl)(hd:o.dst=d:=by rfl)(g:o.guard=none:=by rfl)(k:o.op=.move (.tmp t):=by rfl)(hx:a.eval (.tmp t)=x:=by(conv=>lhs;whnf)<;>rfl)
 (f:a.put d x=a':=by(simp only[UM,Ur,Ut,Uu])<;>rfl) (b:aw1 ops p r (fw ops i) i listed=true:=by kernel_rfl) (e:∀c a w,Q (.panic c) (a.put o.dst x) w->Q (.panic c) a w:=by exact λ_ _ _ h=>h):AW P ops Q p r J (fuel+1) listed a w:=
 AW.take i (fw ops i) ho hd (U3 ⟨bI g _,λw _=>by unfold U4;rw[k];dsimp only;rw[hx];rfl⟩) f b e h
theorem AW.ce(i:Nat)(f:(P.underlying T).map (·.isRow)=some false)(g:∀W,J.p W->W.cell? ⟨b,off,none⟩=some x)(h:AW P ops Q p r J fuel (listed.setIfInBounds i true) a' w)(ho:ops[i]? = some o:=by(simp only[Vf,U8,Ve])<;>rfl)(hd:o.dst=d:=by rfl)(n:o.guard=none:=by rfl)(k:o.op=.load T (.tmp t):=by rfl)(hx:a.eval (.tmp t)=oZ b off:=by rfl)
 (m:a.put d x=a':=by(simp only[UM,Ur,Ut,Uu])<;>rfl) (j:aw1 ops p r (qw ops J.b p r i) i listed=true:=by kernel_rfl) (l:∀c a w,Q (.panic c) (a.put o.dst x) w->Q (.panic c) a w:=by exact λ_ _ _ h=>h):AW P ops Q p r J (fuel+1) listed a w:=
 AW.take i (qw ops J.b p r i) ho hd (U3 ⟨bI n _,λw e=>by
  unfold U4;rw[k];dsimp only;rw[hx,UU,fD (g w (Sa.bel e)) f];rfl⟩) m j l h
theorem AW.ro(i:Nat)(s:∀W,J.p W->W.rangeAt b off cs)(hv:Hid (.agg cs.toArray=x))(q:(P.underlying T).map (·.isRow)=some true)(u:(P.info? T).map (·.size)=some cs.length)(h:AW P ops Q p r J fuel (listed.setIfInBounds i true) a' w)(ho:ops[i]? = some o:=by(simp only[Vf,U8,Ve])<;>rfl)(hd:o.dst=d:=by rfl)(j:o.guard=none:=by rfl)(k:o.op=.load T (.tmp t):=by rfl)(hx:a.eval (.tmp t)=oZ b off:=by rfl)
 (n:a.put d x=a':=by(simp only[UM,Ur,Ut,Uu])<;>rfl) (g:aw1 ops p r (qw ops J.b p r i) i listed=true:=by kernel_rfl) (e:∀c a w,Q (.panic c) (a.put o.dst x) w->Q (.panic c) a w:=by exact λ_ _ _ h=>h):AW P ops Q p r J (fuel+1) listed a w:=by
 obtain rfl:=hv.out;obtain⟨l,v,m⟩:=Ux.1 q;exact AW.take i (qw ops J.b p r i) ho hd (yieldsIf_load_mid (bI j _) T (.tmp t) k b off hx cs l (λw f=>s w (Sa.bel f)) v m u) n g e h
theorem AW.ca(i:Nat){f:Xp}{args:Array Us}{R:Us->Uq->Prop}(g:J.p w->UG P f args w (Ret R))(hR:∀e w',R e w'->kZ w w')(h:∀e w',R e w'->AW P ops Q p r J fuel (listed.setIfInBounds i true) (a.put d e) w')(ho:ops[i]? = some o:=by(simp only[Vf,U8,Ve])<;>rfl)(hd:o.dst=d:=by rfl)(j:o.guard=none:=by rfl)(hx:(U4 a.eval o).run P w=.ok (.enter f args) w:=by kernel_rfl)(b:U6 .any ops listed=[i]:=by kernel_rfl):AW P ops Q p r J (fuel+1) listed a w:=λc =>
 anyS.cal ho (g c) (λe w' b=>by
  have k:=J.gr w w' (hR e w' b) c;exact⟨UW k,h e w' b k⟩) b j hx hd
theorem AW.cw(i:Nat){f:Xp}{args:Array Us}{R:Us->Uq->Prop}(c:J.p w->UG P f args w (Ret R))(hR:∀e w',J.p w->R e w'->J.p w')(h:∀e w',R e w'->AW P ops Q p r J fuel (listed.setIfInBounds i true) (a.put d e) w')(ho:ops[i]? = some o:=by(simp only[Vf,U8,Ve])<;>rfl)(hd:o.dst=d:=by rfl)(g:o.guard=none:=by rfl)(hx:(U4 a.eval o).run P w=.ok (.enter f args) w:=by kernel_rfl)(k:U6 .any ops listed=[i]:=by kernel_rfl):AW P ops Q p r J (fuel+1) listed a w:=λb =>
 anyS.cal ho (c b) (λe w' k=>⟨UW (hR e w' b k),h e w' k (hR e w' b k)⟩) k g hx hd
theorem AW.gi(i:Nat){f:Xp}{args:Array Us}(k:J.p w->UG P f args w (rZ w λe w'=>e=x))(h:∀w',kZ w w'->AW P ops Q p r J fuel (listed.setIfInBounds i true) a' w')(ho:ops[i]? = some o:=by(simp only[Vf,U8,Ve])<;>rfl)(hd:o.dst=d:=by rfl)(g:o.guard=none:=by rfl)(hx:(U4 a.eval o).run P w=.ok (.enter f args) w:=by kernel_rfl)
 (c:a.put d x=a':=by(simp only[UM,Ur,Ut,Uu])<;>rfl) (b:U6 .any ops listed=[i]:=by kernel_rfl):AW P ops Q p r J (fuel+1) listed a w:=AW.ca i k (λe w' h=>h.1) (λe w' hR=>by
 obtain⟨j,rfl⟩:=hR;subst c;exact h w' j) ho hd g hx b
theorem AW.ns(i:Nat){I:Sem Us}(hx:I.run P w=.ok x w')(b:kZ w w')(h:AW P ops Q p r J fuel (listed.setIfInBounds i true) a' w')(ho:ops[i]? = some o:=by(simp only[Vf,U8,Ve])<;>rfl)(hd:o.dst=d:=by rfl)(g:o.guard=none:=by rfl)(j:U4 a.eval o=I >>= λv=>pure (Xo v):=by kernel_rfl)
 (f:a.put d x=a':=by(simp only[UM,Ur,Ut,Uu])<;>rfl) (c:U6 .any ops listed=[i]:=by kernel_rfl):AW P ops Q p r J (fuel+1) listed a w:=λe=>by
 subst f;have k:=J.gr w w' b e;exact anyS.ins ho hx (UW k) (h k) c g j hd
theorem AW.nx(i:Nat)(x:Us)(h:AW P ops Q p r J fuel (listed.setIfInBounds i true) a' w)(ho:ops[i]? = some o:=by(simp only[Vf,U8,Ve])<;>rfl)(hd:o.dst=d:=by rfl)(e:o.guard=none:=by rfl)(hv:(U4 a.eval o).run P w=.ok (.value x) w:=by kernel_rfl)
 (c:a.put d x=a':=by(simp only[UM,Ur,Ut,Uu])<;>rfl) (b:U6 .any ops listed=[i]:=by kernel_rfl):AW P ops Q p r J (fuel+1) listed a w:=λk=>by
 subst c;exact anyS.nxt ho (UW k) (h k) hv b e hd
theorem AW.dn(h:J.p w->Q .normal a w)(k:U6 .any ops listed=[]:=by kernel_rfl):AW P ops Q p r J fuel listed a w:=λb=>anyS.done k (h b) _
theorem AW.fi{us:List Us}{k off:Nat}(hv:Hid (.agg us.toArray=v))(j:us.toArray.all (·.oneCell')=true)(l:(P.info? T).map (·.size)=some us.length)(h:J.p w->w.there k off us.length/\Q .normal a' (w.setCells k off us))(ho:ops[p]? = some o:=by(simp only[Vf,U8,Ve])<;>rfl)(hd:o.dst=none:=by rfl)(f:o.guard=none:=by rfl){y:XF}(c:o.op=.store T (.tmp t) y:=by rfl)(hx:a.eval (.tmp t)=oZ k off:=by rfl)(d:a.eval y=v:=by rfl)
 (i:a.put none WO=a':=by(simp only[UM])<;>rfl) (b:(U6 .any ops listed,U6 .any ops (listed.setIfInBounds p true),J.b,(listed.setIfInBounds p true).getD p false,(listed.setIfInBounds p true).getD r false)=([p],[],true,true,true):=by kernel_rfl):AW P ops Q p r J (fuel+1) listed a w:=λe=>by
 simp only[V5.injEq]at b;obtain⟨m,g⟩:=h e;subst i;exact anyS.sta ho T (.tmp t) y c k off us.toArray j m l (U3 b.2.2) (anyS.done b.2.1 g _) hx (d.trans hv.out.symm) b.1 f hd
theorem AW.ss(i:Nat){us:List Us}{k off:Nat}(hv:Hid (.agg us.toArray=v))(n:us.toArray.all (·.oneCell')=true)(q:(P.info? T).map (·.size)=some us.length)(j:Hid (w.setCells k off us=w'))(h:J.p w->w.there k off us.length/\J.p w')(f:AW P ops Q p r J fuel (listed.setIfInBounds i true) a' w')(ho:ops[i]? = some o:=by(simp only[Vf,U8,Ve])<;>rfl)(hd:o.dst=none:=by rfl)(l:o.guard=none:=by rfl){y:XF}(b:o.op=.store T (.tmp t) y:=by rfl)(hx:a.eval (.tmp t)=oZ k off:=by rfl)(d:a.eval y=v:=by rfl)
 (m:a.put none WO=a':=by(simp only[UM])<;>rfl) (g:U6 .any ops listed=[i]:=by kernel_rfl):AW P ops Q p r J (fuel+1) listed a w:=λe=>by
 obtain⟨s,c⟩:=h e;obtain rfl:=j.out;subst m;exact anyS.sta ho T (.tmp t) y b k off us.toArray n s q (UW c) (f c) hx (d.trans hv.out.symm) g l hd
theorem AW.f2{us us':List Us}{k c:Nat}{B:Us}{i:U7}(hv:Hid (.agg us.toArray=v))(s:Hid (.agg us'.toArray=B))(O:us.toArray.all (·.oneCell')=true)(S:(P.info? T).map (·.size)=some us.length)(x:us'.toArray.all (·.oneCell')=true)(e:(P.info? i).map (·.size)=some us'.length)(h:J.p w->w.there k 0 us.length/\(w.setCells k 0 us).there c 0 us'.length/\Q .normal a' ((w.setCells k 0 us).setCells c 0 us'))(ho:ops[p]? = some o:=by(simp only[Vf,U8,Ve])<;>rfl)(hd:o.dst=none:=by rfl)(H:o.guard=none:=by rfl){y:XF}(l:o.op=.store T (.tmp t) y:=by rfl)(hx:a.eval (.tmp t)=jZ k:=by rfl)(E:a.eval y=v:=by rfl)
 (M:a.put none WO=a':=by(simp only[UM])<;>rfl){d:Vj}{g:XF}{j:WB}(q:ops[p+1]? = some d:=by(simp only[Vf,U8,Ve])<;>rfl) (n:d.dst=none:=by rfl) (m:d.guard=none:=by rfl) (b:d.op=.store i (.tmp j) g:=by rfl) (u:a'.eval (.tmp j)=jZ c:=by rfl) (f:a'.eval g=B:=by rfl) (z:a'.put none WO=a':=by rfl)
 (A:(U6 .any ops listed,U6 .any ops (listed.setIfInBounds p true),U6 .any ops ((listed.setIfInBounds p true).setIfInBounds (p+1) true),J.b,(listed.setIfInBounds p true).getD p false,(listed.setIfInBounds p true).getD r false,((listed.setIfInBounds p true).setIfInBounds (p+1) true).getD p false,((listed.setIfInBounds p true).setIfInBounds (p+1) true).getD r false)=([p],[p+1],[],true,true,true,true,true):=by kernel_rfl):AW P ops Q p r J (fuel+2) listed a w:=λF=>by
 simp only[V5.injEq]at A;obtain⟨D,R,U,d,L,C,G,I⟩:=A;obtain⟨V,K,N⟩:=h F;subst M;exact anyS.sta ho T (.tmp t) y l k 0 us.toArray O V S (U3 ⟨d,L,C⟩) (anyS.sta q i (.tmp j) g b c 0 us'.toArray x K e (U3 ⟨d,G,I⟩) (anyS.done U (by rw[z];exact N) _) u (f.trans s.out.symm) R m n) hx (E.trans hv.out.symm) D H hd
end
end
section
variable {P:Nat}[NeZero P]{N:Nat}
theorem uBy:(prog.underlying 23).map (·.isRow)=some false:=kR
theorem T9(q:Option Wt)(n c k:Nat)(w:Uq):(Vx 24 2 #[(0,.slice q n c),(1,sZ k 4 4)]).run prog w=.ok (sZ w.heap.size 2 2) (w.alloc (.cells #[.slice q n c,sZ k 4 4] 23)):=kR
theorem OX{w:Uq}{u v:Us}{x y:List UInt8}(e:PartOk w u x)(k:PartOk w v y)(T:U7):PartsOk (w.alloc (.cells #[u,v] T)) (some (aZ w.heap.size)) [x,y]:=by
 have b:=aC w (.cells #[u,v] T);refine UW ⟨_,_,rfl,λj d=>?_⟩;have c:=(aE w [u,v] T).2.1 j;match j,d with
 | 0,_=>exact⟨u,c u rfl,e.below b⟩
 | 1,_=>exact⟨v,c v rfl,k.below b⟩
theorem P0(O:Ord N)(b:ByteArray)(z:b.size<=1000)(s:List UInt8)(q:Option Wt)(n c i m l:Nat)(H:i<4294967296)(w:Uq)(C:m<w.heap.size)(a:l<w.heap.size)(c1:w.cell? ⟨m,0,none⟩=some (.string b))(c2:w.cell? ⟨l,0,none⟩=some (.slice q n c))(E:PartOk w (.slice q n c) s):
 UG prog 199 #[iZ i,jZ m,jZ l] w (rZ w λe w'=>e=nv (chL N b.data.toList [s,(hZ i).toList])):=by
 obtain⟨k,u⟩:=hE (w.heap.size);obtain⟨D,d⟩:=hE (w.alloc (.cells (RG.z 4).toArray 49));have g:=aN u d;have y:=λ(W:Uq) (B:Option Wt) (h:PartsOk W B [s,(hZ i).toList])=>Cz O b B 2 2 [s,(hZ i).toList] W oM rfl dC h
 generalize chL N b.data.toList [s,(hZ i).toList]=x at y⊢;have A:=mk1 y;obtain⟨K,o⟩:=hE (nv x);rw[o.out]at A;clear y;go_enter func199,ntmps199;go_wp2_with (first|(refine alR 4 u d ?_)|fail)
 refine AW.begin 6 6 ?_;refine AW.ce 0 u9s (λW f=>by rw[f.cell (p:=⟨m,0,none⟩) (Uw C g.1.size),g.1.cell (p:=⟨m,0,none⟩) C];exact c1) ?_;refine AW.ce 1 uBy (λW f=>by rw[f.cell (p:=⟨l,0,none⟩) (Uw a g.1.size),g.1.cell (p:=⟨l,0,none⟩) a];exact c2) ?_;refine AW.mv 2 ?_;refine AW.ca 3 (λ_=>xC i H _) (λe w' h=>h.1) ?_;rintro e I ⟨v,r,rfl,J,t⟩;simp only[UM,Ur,Ut,Uu];refine AW.ns 4 (T9 q n c r I) (aC _ _) ?_;refine AW.gi 5 (λf=>A _ _ (OX (E.below (g.1.trans (((UQ _ D).drew.trans v).mono g.1.size))) (IK t) _)) ?_;intro F G;refine AW.fi (us:=wn x) o (aM x) i40 (λf=>?_);obtain⟨L,j⟩:=hE (F.setCells k 0 (wn x));have R:=rU u d f j;rw[j.out];refine⟨R.1,?_⟩;go_wp2_with fail
 refine UD (aG 4 49 rfl R.2.2 rfl u40 i40) rfl ?_;exact⟨_,rfl,R.2.1,rfl⟩
theorem SA(O:Ord N)(k:ByteArray)(f:k.size<=1000)(p:List UInt8)(q:Option Wt)(n c m:Nat)(B:m<=64)(w:Uq)(y:PartOk w (.slice q n c) p):
 UG prog 133 #[.string k,iZ m,.slice q n c] w (rZ w λe w'=>SLq (w.heap.size<=·) w' e m (λi=>chL N k.data.toList [p,(hZ i).toList])):=by
 obtain⟨z,d⟩:=hE ((w.alloc (.cells #[.string k] 9)).alloc (.cells #[.slice q n c] 23));have b1:=aC w (.cells #[.string k] 9);have r:=aC (w.alloc (.cells #[.string k] 9)) (.cells #[.slice q n c] 23);have o:=(aE w [.string k] 9).below r;have l:=aE (w.alloc (.cells #[.string k] 9)) [.slice q n c] 23;have b:=b1.trans (r.mono b1.size);rw[UA]at l;simp only[d.out]at o l b;have a:=mk1 (jB m oM 199 #[jZ w.heap.size,.pointer (some ⟨w.heap.size+1,0,none⟩)] (λ_ _=>kR) (λi=>chL N k.data.toList [p,(hZ i).toList]) z (λi W C j=>P0 O k f p q n c i _ _ oM W (Uw o.1 j.size) (Uw l.1 j.size) ((o.below j).2.1 0 _ rfl) ((l.below j).2.1 0 _ rfl) ((y.below b).below j)));have t:=mk1 b;clear b1 r o l b;go_enter func133,ntmps133;go_wp2_with fail
 rw[d.out];refine a.mono ?_;rintro e A ⟨v,rfl,s,hG⟩;have u:=mk2 (t.trans (s.mono t.size)) (hG.mono λg x=>UB t.size x);go_wp2;go_ret;exact⟨_,rfl,u.out⟩
end
section
variable {N:Nat}
theorem uLi:(prog.underlying 126).map (·.isRow)=some true:=kR
theorem iLi:(prog.info? 126).map (·.size)=some 2:=kR
structure Ln(Q:Nat->Prop)(W:Uq)(v:Us)(n:Nat)(a b:Nat->Nat):Prop where
 ex:∃x y,v=.agg #[x,y]/\SLq Q W x n a/\SLq Q W y n b
section
variable {Q Q':Nat->Prop}{W W':Uq}{v:Us}{n:Nat}{a b:Nat->Nat}
theorem Ln.keep(h:Ln Q W v n a b)(k:Kq Q W W'):Ln Q W' v n a b:=by
 obtain⟨x,y,e,c,d⟩:=h.ex;exact⟨x,y,e,c.keep k,d.keep k⟩
theorem Ln.mono(h:Ln Q W v n a b)(k:∀g,Q g->Q' g):Ln Q' W v n a b:=by
 obtain⟨x,y,e,c,d⟩:=h.ex;exact⟨x,y,e,c.mono k,d.mono k⟩
end
theorem bY{Q:Nat->Prop}{W:Uq}{x:Us}{n:Nat}{a:Nat->Nat}(h:SLq Q W x n a):x.oneCell'=true/\∃g o c,x=.slice (some ⟨g,o,none⟩) n c:=by
 obtain⟨g,o,c,rfl,-⟩:=h;exact⟨rfl,_,_,_,rfl⟩
theorem RI(O:Ord N)(v:Nat)(hv:v<18446744073709551616)(m:Nat)(hm:m<=64)(C:List UInt8)(q:Option Wt)(n c:Nat)(w:Uq)(hp:PartOk w (.slice q n c) C):
 UG prog 61 #[uZ v,iZ m,.slice q n c] w (rZ w λe w'=>∃x y,e=.tuple #[x,y]/\Ln (w.heap.size<=·) w' x m (λi=>v/2^i%2) (λi=>chL N [115,108] [C,(hZ i).toList])/\Ln (w.heap.size<=·) w' y m (λi=>sMi N (v/2^i%2) 1) (λi=>chL N [115,114] [C,(hZ i).toList])):=by
 obtain⟨vf,d⟩:=hE (Z0 (.func 129) #[] #[jZ w.heap.size]);obtain⟨k,K⟩:=hE (w.heap.size);obtain⟨wa,S⟩:=hE (w.alloc (.cells [uZ v].toArray 22));obtain⟨T,G⟩:=hE (wa.heap.size);obtain⟨wb,Y⟩:=hE (wa.alloc (.cells [.slice none 0 0,.slice none 0 0].toArray 126));obtain⟨J,F⟩:=hE (wb.heap.size);obtain⟨wc,L⟩:=hE (wb.alloc (.cells [.slice none 0 0,.slice none 0 0].toArray 126));obtain⟨r,u⟩:=hE (wc.heap.size);obtain⟨wd,A⟩:=hE (wc.alloc (.cells [.nilFunc].toArray 219));obtain⟨t,U⟩:=hE (wd.setCells r 0 [vf]);have Fa:=aN K S;have Fb:=aN G Y;have M:=aN F L;have Fe:=ES u A U rfl;rw[K.out]at d;have bc:=Fb.1.trans (M.1.mono Fb.1.size);have be:=bc.trans (Fe.2.1.mono bc.size);have b:=mk6 (Fa.1.trans (be.mono Fa.1.size)) (Fa.2.below be) (Fb.2.below (M.1.trans (Fe.2.1.mono M.1.size))) (M.2.below Fe.2.1) Fe.2.2 (show k<T/\T<J/\J<r from⟨by rw[<-G.out];exact Fa.2.1,by rw[<-F.out];exact Fb.2.1,by rw[<-u.out];exact M.2.1⟩);have h6:∀(fn:Fn) (first cap:Array Us) (w:Uq),(Yn fn first cap).run prog w=.ok (.func fn first cap) w:=λ_ _ _ _=>rfl
 have h4:=mk1 (aN u A).2.2.2;have h5:t.cell? ⟨r,0,none⟩=some vf:=b.2.2.2.2.1.2.1 0 _ rfl;have H1:Hid (∀W,kZ t W->UG prog 132 #[iZ m,vf] W (rZ W λe w'=>SLq (W.heap.size<=·) w' e m (λi=>v/2^i%2))):=λW p=>by
  rw[<-d.out];exact jB m oM 129 #[jZ k] (λ_ _=>kR) _ W λi V j f=>Jb v i k hv oM V (Uw b.2.1.1 (UB p.size f.size)) (((b.2.1.below p).below f).2.1 0 _ rfl)
 have H2:Hid (∀W,kZ t W->UG prog 132 #[iZ m,.func (.func 130) #[] #[jZ r]] W (rZ W λe w'=>SLq (W.heap.size<=·) w' e m (λi=>sMi N (v/2^i%2) 1))):=λW p =>
  jB m oM 130 #[jZ r] (λ_ _=>kR) _ W λi V j f=>Pm O v i k r hv oM V (Uw b.2.1.1 (UB p.size f.size)) (Uw b.2.2.2.2.1.1 (UB p.size f.size)) (((b.2.1.below p).below f).2.1 0 _ rfl) (by rw[((b.2.2.2.2.1.below p).below f).2.1 0 _ rfl,d.out])
 have HC:Hid (∀(l:ByteArray) W,l.size<=1000->kZ t W->UG prog 133 #[.string l,iZ m,.slice q n c] W (rZ W λe w'=>SLq (W.heap.size<=·) w' e m (λi=>chL N l.data.toList [C,(hZ i).toList]))):=λl W hl p=>SA O l hl C q n c m hm W ((hp.below b.1).below p)
 go_enter func61,ntmps61;go_wp2_with (first|(refine alR 3 K S ?_)|(refine alR 6 G Y ?_)|(refine alR 7 F L ?_)|(refine alR 8 u A ?_)|(refine fV rfl 219 _ _ rfl r 0 vf ?_ ?_ ?_ ?_ h4.out kR ?_;rfl;exact d.out;(rw[<-d.out];rfl);(rw[<-d.out];rfl);rw[U.out])|fail)
 refine(H1 t (UQ _ _)).mono ?_;rintro e w1 ⟨x1,rfl,o,B⟩;go_wp2_with fail
 refine(HC _ w1 dC o).mono ?_;rintro e w2 ⟨x2,rfl,f,I⟩;have Z:=o.trans (f.mono o.size);obtain⟨-,g1,o1,c1,e1⟩:=bY B;obtain⟨-,g2,o2,c2,e2⟩:=bY I;subst e1 e2;go_wp2_with fail
 refine(H2 w2 Z).mono ?_;rintro e w3 ⟨x3,rfl,j,z⟩;have b3:=Z.trans (j.mono Z.size);go_wp2_with fail
 refine(HC _ w3 dC b3).mono ?_;rintro e w4 ⟨x4,rfl,s,E⟩;have b4:=b3.trans (s.mono b3.size);obtain⟨-,g3,o3,c3,e3⟩:=bY z;obtain⟨-,g4,o4,c4,e4⟩:=bY E;subst e3 e4;obtain⟨w5,X⟩:=hE (w4.setCells T 0 [.slice (some ⟨g1,o1,none⟩) m c1,.slice (some ⟨g2,o2,none⟩) m c2]);obtain⟨D,P⟩:=hE (w5.setCells J 0 [.slice (some ⟨g3,o3,none⟩) m c3,.slice (some ⟨g4,o4,none⟩) m c4]);obtain⟨h1,h2,h0⟩:=b.2.2.2.2.2;have h3:=b.2.2.2.2.1.1;have s1:=o.size;have s2:=f.size;have s3:=j.size;have R4:=mk2 (b.2.2.1.below b4) (b.2.2.2.1.below b4);have Q:Hid (kZ w D/\Row D T [.slice (some ⟨g1,o1,none⟩) m c1,.slice (some ⟨g2,o2,none⟩) m c2]/\Row D J [.slice (some ⟨g3,o3,none⟩) m c3,.slice (some ⟨g4,o4,none⟩) m c4]/\w5.there J 0 2/\Kq (r < ·) w4 D):=by
  rw[<-P.out,<-X.out];have H:Row (w4.setCells T 0 [.slice (some ⟨g1,o1,none⟩) m c1,.slice (some ⟨g2,o2,none⟩) m c2]) J _:=aR R4.2 oM;refine⟨RG.below_setCells (by rw[K.out];omega) _ _ _ (RG.below_setCells (by rw[K.out];omega) _ _ _ (b.1.trans (b4.mono b.1.size))),aR (R4.1.put rfl) oM,H.put rfl,H.2.2,?_⟩;exact⟨by rw[setCells_size,setCells_size];exact Uv _,λg hg _=>by rw[aH _ _ _ _ g oM,aH _ _ _ _ g oM]⟩
 have V:∀ {W:Uq}{x:Us}{a:Nat->Nat},t.heap.size<=W.heap.size->SLq (W.heap.size<=·) w4 x m a->SLq (w.heap.size<=·) D x m a:=λhW h=>((h.mono (Q':=(r < ·)) λg hg=>oM).keep Q.2.2.2.2).mono λg hg=>by rw[K.out];omega
 have H:=j.trans (s.mono j.size);have R:=f.trans (H.mono f.size);have KR:Hid (Ln (w.heap.size<=·) D (.agg #[.slice (some ⟨g1,o1,none⟩) m c1,.slice (some ⟨g2,o2,none⟩) m c2]) m (λi=>v/2^i%2) (λi=>chL N [115,108] [C,(hZ i).toList])/\Ln (w.heap.size<=·) D (.agg #[.slice (some ⟨g3,o3,none⟩) m c3,.slice (some ⟨g4,o4,none⟩) m c4]) m (λi=>sMi N (v/2^i%2) 1) (λi=>chL N [115,114] [C,(hZ i).toList])):=
  ⟨⟨_,_,rfl,V (Uv _) (B.keep (Kq.of_below R)),V s1 (I.keep (Kq.of_below H))⟩,⟨_,_,rfl,V oM (z.keep (Kq.of_below s)),V oM E⟩⟩
 clear V H R B I z E s1 s2 s3 h1 h2 h0 h3 o f j s Z b3 b4 H1 H2 HC;go_wp2_with (first|(refine stR 6 X (Hid.mk' rfl) R4.1.2.2 iLi kR ?_)|(refine stR 7 P (Hid.mk' rfl) Q.2.2.2.1 iLi kR ?_)|fail)
 refine UD (qE 6 7 126 126 rfl Q.2.1 Q.2.2.1 rfl rfl uLi iLi uLi iLi) rfl ?_;exact⟨_,rfl,Q.1,_,_,rfl,KR.out⟩
theorem uF2:(prog.underlying 237).map (·.isRow)=some false:=kR
theorem uSl:(prog.underlying 124).map (·.isRow)=some false:=kR
theorem D7{w c W:Uq}{k:Nat}{x:Us}(b:kZ w c)(d:k<w.heap.size)(e:w.cell? ⟨k,0,none⟩=some x)(f:kZ c W):W.cell? ⟨k,0,none⟩=some x:=by
 rw[f.cell (p:=⟨k,0,none⟩) (Uw d b.size),b.cell (p:=⟨k,0,none⟩) d];exact e
theorem row_of{w c W:Uq}{k o:Nat}{cs:List Us}(b:kZ w c)(d:k<w.heap.size)(e:w.rangeAt k o cs)(f:kZ c W):W.rangeAt k o cs:=RG.range_below (RG.range_below e b d) f (Uw d b.size)
theorem OY(f:Xp)(hf:∀args W,(callFunc f args).run prog W=.ok (.enter f args) W)(x y z:Nat)(A:Gives f #[nv x,nv y] (nv z))(i v s r n p u c1 o a t c2:Nat)(O:i<u)(J:i<t)(w:Uq)(lf:v<w.heap.size)(G:s<w.heap.size)(C:r<w.heap.size)(D:n<w.heap.size)(N:o<w.heap.size)(F:w.cell? ⟨v,0,none⟩=some (.func (.func f) #[] #[]))(K:w.cell? ⟨s,0,none⟩=some (.slice (some ⟨n,p,none⟩) u c1))(I:w.cell? ⟨r,0,none⟩=some (.slice (some ⟨o,a,none⟩) t c2))(B:w.rangeAt n (p+4*i) (wn x))(M:w.rangeAt o (a+4*i) (wn y)):
 UG prog 212 #[iZ i,jZ v,jZ s,jZ r] w (rZ w λe w'=>e=nv z):=by
 obtain⟨k,q⟩:=hE (w.heap.size);obtain⟨Q,c⟩:=hE (w.alloc (.cells (RG.z 4).toArray 49));have m:=aN q c;obtain⟨P,l⟩:=hE (nv x);obtain⟨U,g⟩:=hE (nv y);obtain⟨S,j⟩:=hE (nv z);rw[l.out,g.out,j.out]at A;have E:=mk1 A;go_enter func212,ntmps212;go_wp2_with (first|(refine alR 5 q c ?_)|fail)
 refine AW.begin 10 10 ?_;refine AW.ce 0 uF2 (λW b=>D7 m.1 lf F b) ?_;refine AW.ce 1 uSl (λW b=>D7 m.1 G K b) ?_;refine AW.mv 2 ?_;refine AW.iv 3 (lF n p u c1 i O) ?_;refine AW.ro 4 (λW b=>row_of m.1 D B b) l rSc nSc ?_;refine AW.ce 5 uSl (λW b=>D7 m.1 C I b) ?_;refine AW.mv 6 ?_;refine AW.iv 7 (lF o a t c2 i J) ?_;refine AW.ro 8 (λW b=>row_of m.1 N M b) g rSc nSc ?_;refine AW.gi 9 (λ_=>E _) ?_ (hx:=P6 hf rfl rfl rfl rfl);intro H L;refine AW.fi (us:=wn z) j (aM z) i40 (λb=>?_);obtain⟨T,d⟩:=hE (H.setCells k 0 (wn z));have R:=rU q c b d;rw[d.out];refine⟨R.1,?_⟩;go_wp2_with fail
 refine UD (aG 5 49 rfl R.2.2 rfl u40 i40) rfl ?_;exact⟨_,rfl,R.2.1,rfl⟩
theorem Nb{w f i k:Uq}{n m l:Nat}{x y z:List Us}{T U V:U7}(g:Hid (w.heap.size=n))(q:Hid (w.alloc (.cells x.toArray T)=f))(j:Hid (f.heap.size=m))(o:Hid (f.alloc (.cells y.toArray U)=i))(e:Hid (i.heap.size=l))(p:Hid (i.alloc (.cells z.toArray V)=k)):Hid (kZ w k/\Row k n x/\Row k m y/\Row k l z):=by
 have a:=(aN g q).out;have b:=(aN j o).out;have c:=(aN e p).out;have d:=b.1.trans (c.1.mono b.1.size);exact⟨a.1.trans (d.mono a.1.size),a.2.below d,b.2.below c.1,c.2⟩
theorem NB{Q:Nat->Prop}(f:Xp)(hf:∀args W,(callFunc f args).run prog W=.ok (.enter f args) W)(F:Nat->Nat->Nat)(n:Nat)(hn:n<=64)(a b:Nat->Nat)(P:∀i,i<n->Gives f #[nv (a i),nv (b i)] (nv (F (a i) (b i))))(va J:Us)(w:Uq)(Z:SLq Q w va n a)(T:SLq Q w J n b):
 UG prog 151 #[.func (.func f) #[] #[],va,J] w (rZ w λe w'=>SLq (w.heap.size<=·) w' e n (λi=>F (a i) (b i))):=by
 obtain⟨y,x,c1,rfl,-,-,S,L⟩:=Z;obtain⟨I,K,c2,rfl,-,-,M,Y⟩:=T;obtain⟨vf,c⟩:=hE (Z0 (.func f) #[] #[]);obtain⟨t,l⟩:=hE (w.heap.size);obtain⟨r,q⟩:=hE (w.alloc (.cells [vf].toArray 237));obtain⟨z,o⟩:=hE (r.heap.size);obtain⟨H,d⟩:=hE (r.alloc (.cells [.slice (some ⟨y,x,none⟩) n c1].toArray 124));obtain⟨G,j⟩:=hE (H.heap.size);obtain⟨E,m⟩:=hE (H.alloc (.cells [.slice (some ⟨I,K,none⟩) n c2].toArray 124));have B:=Nb l q o d j m;have C:Hid ((Vd 237 vf).run prog w=.ok (jZ t) r):=by rw[<-q.out,<-l.out,<-c.out];exact Hid.mk' kR
 have X:E.cell? ⟨z,0,none⟩=some (.slice (some ⟨y,x,none⟩) n c1):=B.2.2.1.2.1 0 _ rfl;have V:=mk1 (jB n oM 212 #[jZ t,jZ z,jZ G] (λ_ _=>kR) (λi=>F (a i) (b i)) E λi W p k=>by
  have A:=B.1.trans (k.mono B.1.size);have s:=A.size;exact OY f hf (a i) (b i) _ (P i p) i t z G y x n c1 I K n c2 p p W (B.2.1.below k).1 (B.2.2.1.below k).1 (B.2.2.2.below k).1 oM oM (by rw[(B.2.1.below k).2.1 0 _ rfl,c.out]) ((B.2.2.1.below k).2.1 0 _ rfl) ((B.2.2.2.below k).2.1 0 _ rfl) (RG.range_below (L i p) A S) (RG.range_below (Y i p) A M))
 have O:∀(D:Fn) (first cap:Array Us) (w:Uq),(Yn D first cap).run prog w=.ok (.func D first cap) w:=λ_ _ _ _=>rfl
 rw[c.out];go_enter func151,ntmps151;go_wp2_with (first|(refine aF (u:=vf) (v:=jZ t) (w':=r) rfl _ (.tmp 0) rfl ?_ ?_ ?_;rfl;exact C.out)|(refine alR 4 o d ?_)|(refine alR 5 j m ?_)|fail)
 refine V.mono ?_;rintro e w4 ⟨v,rfl,A,U⟩;have N:=mk2 (B.1.trans (A.mono B.1.size)) (U.mono λg R=>UB B.1.size R);go_wp2;go_ret;exact⟨_,rfl,N.out⟩
theorem SLq.set{W:Uq}{B k o n:Nat}{vs:List Us}{x:Us}{a:Nat->Nat}(h:SLq (B<=·) W x n a)(b:k<B):SLq (B<=·) (W.setCells k o vs) x n a:=h.keep (Kq.set λg c=>oM)
section
variable {Q:Nat->Prop}{w:Uq}{n:Nat}{v u:Us}{a b c:Nat->Nat}
theorem EY(x y:Us)(hx:x.oneCell'=true)(m:y.oneCell'=true)(w:Uq):∃k c j d,Hid (w.heap.size=k)/\Hid (w.alloc (.cells [x,y].toArray 126)=c)/\Hid (c.heap.size=j)/\Hid (c.alloc (.cells [.slice none 0 0,.slice none 0 0].toArray 126)=d)/\Hid (kZ w d/\Row d k [x,y]/\Row d j [.slice none 0 0,.slice none 0 0]/\k<j):=by
 obtain⟨k,l⟩:=hE (w.heap.size);obtain⟨c,i⟩:=hE (w.alloc (.cells [x,y].toArray 126));obtain⟨j,b⟩:=hE (c.heap.size);obtain⟨d,e⟩:=hE (c.alloc (.cells [.slice none 0 0,.slice none 0 0].toArray 126));have f:=(aN l i).out;have g:=(aN b e).out;exact⟨k,c,j,d,l,i,b,e,f.1.trans (g.1.mono f.1.size),f.2.below g.1,g.2,by rw[<-b.out];exact f.2.1⟩
theorem ND(O:Ord N)(L:n<=64)(U:∀i,i<n->a i<N)(X:∀i,i<n->c i<N)(h:Ln Q w v n a b)(V:SLq Q w u n c):
 UG prog 72 #[v,u] w (rZ w λe w'=>Ln (λg=>Q g\/w.heap.size<=g) w' e n (λi=>sPl N (a i) (c i)) b):=by
 obtain⟨x,y,rfl,hx,C⟩:=h.ex;obtain⟨Y,g1,Z,c1,rfl⟩:=bY hx;obtain⟨T,m,o,c2,rfl⟩:=bY C;obtain⟨k,w1,r,w2,G,B,z,q,F⟩:=EY _ _ Y T w;have K:=mk1 (λ(W:Uq) (d:kZ w W)=>NB (Q:=λ_=>True) 80 (λ_ _=>kR) (sPl N) n L a c (λi J=>mY O _ _ (U i J) (X i J)) _ _ W ((hx.keep (Kq.of_below d)).mono λ_ _=>trivial) ((V.keep (Kq.of_below d)).mono λ_ _=>trivial));go_enter func72,ntmps72;go_wp2_with (first|(refine alR 2 G B ?_)|(refine alR 4 z q ?_)|fail)
 refine AW.begin 7 7 ?_;refine AW.va 0 (jZ k) ?_;refine AW.ce 1 uSl (λW d=>(F.2.1.below d).2.1 0 _ rfl) ?_;refine AW.mv 2 ?_;refine AW.va 4 (oZ k 1) ?_;refine AW.ce 5 uSl (λW d=>(F.2.1.below d).2.1 1 _ rfl) ?_;refine AW.ca 3 (λd=>K _ (F.1.trans (d.mono F.1.size))) (λe w' h=>h.1) ?_;rintro e E ⟨S,I⟩;simp only[UM,Ur,Ut,Uu];obtain⟨h5,j,f,l,rfl⟩:=bY I;refine AW.va 6 (.agg #[.slice (some ⟨j,f,none⟩) n l,.slice (some ⟨m,o,none⟩) n c2]) ?_;refine AW.fi (us:=[.slice (some ⟨j,f,none⟩) n l,.slice (some ⟨m,o,none⟩) n c2]) (Hid.mk' rfl) kR iLi (λd=>?_);have H:=F.2.2.1.below d;refine⟨H.2.2,?_⟩;obtain⟨t,p⟩:=hE (E.setCells r 0 [.slice (some ⟨j,f,none⟩) n l,.slice (some ⟨m,o,none⟩) n c2]);have R:Hid (kZ w t/\Row t r [.slice (some ⟨j,f,none⟩) n l,.slice (some ⟨m,o,none⟩) n c2]/\Ln (λg=>Q g\/w.heap.size<=g) t (.agg #[.slice (some ⟨j,f,none⟩) n l,.slice (some ⟨m,o,none⟩) n c2]) n (λi=>sPl N (a i) (c i)) b):=by
  have M:=F.1.trans (d.mono F.1.size);have s:w.heap.size<=r:=by rw[G.out];exact XJ F.2.2.2
  have D:=RG.below_setCells s [.slice (some ⟨j,f,none⟩) n l,.slice (some ⟨m,o,none⟩) n c2] 0 E M;rw[<-p.out];exact⟨D,H.put rfl,_,_,rfl,(I.set F.2.2.1.1).mono λg P=>UW (UB F.1.size P),(C.keep (Kq.of_below D)).mono λ_ h=>U3 h⟩
 rw[p.out];go_wp2_with fail
 refine UD (aG 4 126 rfl R.2.1 rfl uLi iLi) rfl ?_;exact⟨_,rfl,R.1,R.2.2⟩
theorem RD(O:Ord N)(U:n<=64)(C:∀i,i<n->a i<N)(d:∀i,i<n->b i<N)(hc:∀i,i<n->c i<N)(h:Ln Q w v n a b)(Z:SLq Q w u n c):
 UG prog 73 #[v,u] w (rZ w λe w'=>Ln (w.heap.size<=·) w' e n (λi=>sTi N (a i) (c i)) (λi=>sTi N (b i) (c i))):=by
 obtain⟨x,y,rfl,hx,K⟩:=h.ex;obtain⟨T,g1,o1,c1,rfl⟩:=bY hx;obtain⟨Y,g2,o2,c2,rfl⟩:=bY K;obtain⟨k,w1,A,w2,L,H,E,t,F⟩:=EY _ _ T Y w;have J:=mk1 (λ(x:Us) (a:Nat->Nat) (C:∀i,i<n->a i<N) (hx:SLq Q w x n a) (W:Uq) (d:kZ w W)=>NB (Q:=λ_=>True) 79 (λ_ _=>kR) (sTi N) n U a c (λi S=>iI O _ _ (C i S) (hc i S)) _ _ W ((hx.keep (Kq.of_below d)).mono λ_ _=>trivial) ((Z.keep (Kq.of_below d)).mono λ_ _=>trivial));go_enter func73,ntmps73;go_wp2_with (first|(refine alR 2 L H ?_)|(refine alR 4 E t ?_)|fail)
 refine AW.begin 9 9 ?_;refine AW.va 0 (jZ k) ?_;refine AW.ce 1 uSl (λW d=>(F.2.1.below d).2.1 0 _ rfl) ?_;refine AW.mv 2 ?_;refine AW.va 4 (oZ k 1) ?_;refine AW.ce 5 uSl (λW d=>(F.2.1.below d).2.1 1 _ rfl) ?_;refine AW.mv 6 ?_;refine AW.ca 3 (λd=>J _ a C hx _ (F.1.trans (d.mono F.1.size))) (λe w' h=>h.1) ?_;rintro e W3 ⟨r,P⟩;simp only[UM,Ur,Ut,Uu];obtain⟨h5,m,j,p,rfl⟩:=bY P;refine AW.ca 7 (λI=>J _ b d K _ (F.1.trans (I.mono F.1.size))) (λe w' h=>h.1) ?_;rintro e X ⟨G,l⟩;simp only[UM,Ur,Ut,Uu];obtain⟨h6,s,q,o,rfl⟩:=bY l;refine AW.va 8 (.agg #[.slice (some ⟨m,j,none⟩) n p,.slice (some ⟨s,q,none⟩) n o]) ?_;refine AW.fi (us:=[.slice (some ⟨m,j,none⟩) n p,.slice (some ⟨s,q,none⟩) n o]) (Hid.mk' rfl) kR iLi (λd=>?_);have M:=F.2.2.1.below d;refine⟨M.2.2,?_⟩;obtain⟨D,f⟩:=hE (X.setCells A 0 [.slice (some ⟨m,j,none⟩) n p,.slice (some ⟨s,q,none⟩) n o]);have R:Hid (kZ w D/\Row D A [.slice (some ⟨m,j,none⟩) n p,.slice (some ⟨s,q,none⟩) n o]/\Ln (w.heap.size<=·) D (.agg #[.slice (some ⟨m,j,none⟩) n p,.slice (some ⟨s,q,none⟩) n o]) n (λi=>sTi N (a i) (c i)) (λi=>sTi N (b i) (c i))):=by
  have V:=F.1.trans (d.mono F.1.size);have B:w.heap.size<=A:=by rw[L.out];exact XJ F.2.2.2
  rw[<-f.out];exact⟨RG.below_setCells B _ _ _ V,M.put rfl,_,_,rfl,((P.keep (Kq.of_below G)).set F.2.2.1.1).mono λg z=>UB F.1.size z,(l.set (Uw F.2.2.1.1 r.size)).mono λg z=>UB F.1.size (UB r.size z)⟩
 rw[f.out];go_wp2_with fail
 refine UD (aG 4 126 rfl R.2.1 rfl uLi iLi) rfl ?_;exact⟨_,rfl,R.1,R.2.2⟩
end
end
section
variable {P:Nat}[NeZero P]{N:Nat}
theorem Po(O:Ord N)(x y z:Nat)(hx:x<N)(H:y<N)(M:z<N)(i p F o u B c1 q D A c2:Nat)(S:i<B)(L:i<A)(w:Uq)(I:o<w.heap.size)(Q:q<w.heap.size)(E:Row w p [.slice (some ⟨o,u,none⟩) B c1,.slice (some ⟨q,D,none⟩) A c2])(J:Row w F (wn z))(G:w.rangeAt o (u+4*i) (wn x))(P:w.rangeAt q (D+4*i) (wn y)):
 UG prog 153 #[iZ i,jZ p,jZ F] w (rZ w λe w'=>e=nv (sPl N x (sTi N y z))):=by
 obtain⟨k,a⟩:=hE (w.heap.size);obtain⟨U,c⟩:=hE (w.alloc (.cells (RG.z 4).toArray 49));have n:=aN a c;have v:=iI O y z H M;have C:sTi N y z<N:=V4 _ O.pos;have t:=mY O x (sTi N y z) hx C;generalize sTi N y z=s at v t⊢;generalize sPl N x s=r at t⊢;obtain⟨T,l⟩:=hE (nv x);obtain⟨vy,f⟩:=hE (nv y);obtain⟨X,g⟩:=hE (nv z);obtain⟨vs,j⟩:=hE (nv s);obtain⟨Y,m⟩:=hE (nv r);rw[f.out,g.out,j.out]at v;rw[l.out,j.out,m.out]at t;go_enter func153,ntmps153;go_wp2_with (first|(refine alR 4 a c ?_)|fail)
 refine AW.begin 13 13 ?_;refine AW.va 0 (jZ p) ?_;refine AW.ce 1 uSl (λW b=>((E.below n.1).below b).2.1 0 _ rfl) ?_;refine AW.mv 2 ?_;refine AW.iv 3 (lF o u B c1 i S) ?_;refine AW.ro 4 (λW b=>row_of n.1 I G b) l rSc nSc ?_;refine AW.va 5 (oZ p 1) ?_;refine AW.ce 6 uSl (λW b=>((E.below n.1).below b).2.1 1 _ rfl) ?_;refine AW.mv 7 ?_;refine AW.iv 8 (lF q D A c2 i L) ?_;refine AW.ro 9 (λW b=>row_of n.1 Q P b) f rSc nSc ?_;refine AW.ro 10 (λW b=>((J.below n.1).below b).2.1) g rSc nSc ?_;refine AW.gi 11 (λ_=>v _) λV _=>?_
 refine AW.gi 12 (λ_=>t _) λK _=>?_
 refine AW.fi (us:=wn r) m (aM r) i40 (λb=>?_);obtain⟨Z,d⟩:=hE (K.setCells k 0 (wn r));have R:=rU a c b d;rw[d.out];refine⟨R.1,?_⟩;go_wp2_with fail
 refine UD (aG 4 49 rfl R.2.2 rfl u40 i40) rfl ?_;exact⟨_,rfl,R.2.1,rfl⟩
theorem RL(O:Ord N){Q:Nat->Prop}{n:Nat}(Y:n<=64){a b:Nat->Nat}(R:∀i,i<n->a i<N)(H:∀i,i<n->b i<N){z:Nat}(T:z<N){v:Us}{w:Uq}(h:Ln Q w v n a b):
 UG prog 77 #[v,nv z] w (rZ w λe w'=>SLq (w.heap.size<=·) w' e n (λi=>sPl N (a i) (sTi N (b i) z))):=by
 obtain⟨x,y,rfl,hx,I⟩:=h.ex;obtain⟨o,m,c1,rfl,-,-,P,G⟩:=hx;obtain⟨D,E,c2,rfl,-,-,J,V⟩:=I;obtain⟨k,u⟩:=hE (w.heap.size);obtain⟨r,l⟩:=hE (w.alloc (.cells [.slice (some ⟨o,m,none⟩) n c1,.slice (some ⟨D,E,none⟩) n c2].toArray 126));obtain⟨B,j⟩:=hE (r.heap.size);obtain⟨C,d⟩:=hE (r.alloc (.cells (wn z).toArray 49));have f:=aN u l;have g:=aN j d;have F:=mk3 (f.1.trans (g.1.mono f.1.size)) (f.2.below g.1) g.2;have U:=mk1 (jB n oM 153 #[jZ k,jZ B] (λ_ _=>kR) (λi=>sPl N (a i) (sTi N (b i) z)) C λi W c q=>by
  have p:=F.1.trans (q.mono F.1.size);have s:=p.size;exact Po O (a i) (b i) z (R i c) (H i c) T i k B o m n c1 D E n c2 c c W oM oM (F.2.1.below q) (F.2.2.below q) (RG.range_below (G i c) p P) (RG.range_below (V i c) p J))
 have L:∀(t:Fn) (first cap:Array Us) (w:Uq),(Yn t first cap).run prog w=.ok (.func t first cap) w:=λ_ _ _ _=>rfl
 have X:C.cell? ⟨k,0,none⟩=some (.slice (some ⟨o,m,none⟩) n c1):=F.2.1.2.1 0 _ rfl;go_enter func77,ntmps77;go_wp2_with (first|(refine alR 2 u l ?_)|(refine alR 3 j d ?_)|fail)
 refine U.mono ?_;rintro e Z ⟨v,rfl,p,S⟩;have K:=mk2 (F.1.trans (p.mono F.1.size)) (S.mono λg M=>UB F.1.size M);go_wp2;go_ret;exact⟨_,rfl,K.out⟩
theorem RH(O:Ord N){Q:Nat->Prop}{n:Nat}(hn:n<=64){a b c d:Nat->Nat}(B:∀i,i<n->a i<N/\b i<N/\c i<N/\d i<N){v u:Us}{w:Uq}(h:Ln Q w v n a b)(h':Ln Q w u n c d):
 UG prog 75 #[v,u] w (rZ w λe w'=>e=.tuple #[nv (sPl N (prS N a d n) (prS N b c n)),nv (prS N b d n)]):=by
 obtain⟨x,y,rfl,hx,hy⟩:=h.ex;obtain⟨-,g1,o1,c1,rfl⟩:=bY hx;obtain⟨-,g2,o2,c2,rfl⟩:=bY hy;obtain⟨x',y',rfl,I,m⟩:=h'.ex;obtain⟨-,g3,o3,c3,rfl⟩:=bY I;obtain⟨-,g4,o4,c4,rfl⟩:=bY m;obtain⟨k,hk⟩:=hE (w.heap.size);obtain⟨w1,r⟩:=hE (w.alloc (.cells [.slice (some ⟨g1,o1,none⟩) n c1,.slice (some ⟨g2,o2,none⟩) n c2].toArray 126));obtain⟨U,s⟩:=hE (w1.heap.size);obtain⟨w2,t⟩:=hE (w1.alloc (.cells [.slice (some ⟨g3,o3,none⟩) n c3,.slice (some ⟨g4,o4,none⟩) n c4].toArray 126));obtain⟨A,z⟩:=hE (w2.heap.size);obtain⟨w3,H⟩:=hE (w2.alloc (.cells (RG.z 4).toArray 49));obtain⟨L,o⟩:=hE (w3.heap.size);obtain⟨w4,S⟩:=hE (w3.alloc (.cells (RG.z 4).toArray 49));have f:=Nb hk r s t z H;have g:=aN o S;have F:=mk5 (f.1.trans (g.1.mono f.1.size)) (f.2.1.below g.1) (f.2.2.1.below g.1) (f.2.2.2.below g.1) g.2;have h0:w.heap.size<=A/\A<L:=⟨by rw[<-z.out];exact UB (aN hk r).1.size (aN s t).1.size,by rw[<-o.out];exact f.2.2.2.1⟩
 have HC:Hid (∀ {p q:Nat->Nat}{x y:Us},(∀i,i<n->p i<N/\q i<N)->SLq Q w x n p->SLq Q w y n q->∀W,kZ w4 W->UG prog 78 #[x,y] W (rZ W λe w'=>e=nv (prS N p q n))):=λ{p q x y} hp h1 h2 W j=>by
  have b:=F.1.trans (j.mono F.1.size);exact Bc O (Q:=Q) n oM p q (λi l=>(hp i l).1) (λi l=>(hp i l).2) x y W (h1.keep (Kq.of_below b)) (h2.keep (Kq.of_below b))
 have V:=HC (λi l=>⟨(B i l).1,(B i l).2.2.2⟩) hx m;have Y:=HC (λi l=>⟨(B i l).2.1,(B i l).2.2.1⟩) hy I;have X:=HC (λi l=>⟨(B i l).2.1,(B i l).2.2.2⟩) hy m;have J:=mY O _ _ (AN O.pos a d n) (AN O.pos b c n);generalize prS N a d n=p1 at V J⊢;generalize prS N b c n=p2 at Y J⊢;generalize prS N b d n=T at X⊢;generalize sPl N p1 p2=D at J⊢;obtain⟨v1,P⟩:=hE (nv p1);obtain⟨v2,G⟩:=hE (nv p2);obtain⟨v3,M⟩:=hE (nv T);obtain⟨v4,C⟩:=hE (nv D);rw[P.out]at V;rw[G.out]at Y;rw[M.out]at X;rw[P.out,G.out,C.out]at J;go_enter func75,ntmps75;go_wp2_with (first|(refine alR 2 hk r ?_)|(refine alR 3 s t ?_)|(refine alR 4 z H ?_)|(refine alR 5 o S ?_)|fail)
 refine AW.begin 16 15 ?_;refine AW.va 0 (jZ k) ?_;refine AW.ce 1 uSl (λW j=>(F.2.1.below j).2.1 0 _ rfl) ?_;refine AW.va 2 (oZ U 1) ?_;refine AW.ce 3 uSl (λW j=>(F.2.2.1.below j).2.1 1 _ rfl) ?_;refine AW.va 5 (oZ k 1) ?_;refine AW.ce 6 uSl (λW j=>(F.2.1.below j).2.1 1 _ rfl) ?_;refine AW.va 7 (jZ U) ?_;refine AW.ce 8 uSl (λW j=>(F.2.2.1.below j).2.1 0 _ rfl) ?_;refine AW.va 11 (oZ k 1) ?_;refine AW.ce 12 uSl (λW j=>(F.2.1.below j).2.1 1 _ rfl) ?_;refine AW.va 13 (oZ U 1) ?_;refine AW.ce 14 uSl (λW j=>(F.2.2.1.below j).2.1 1 _ rfl) ?_;refine AW.gi 4 (λj=>V _ j) λW1 _=>?_
 refine AW.gi 9 (λj=>Y _ j) λW2 _=>?_
 refine AW.gi 10 (λ_=>J _) λW3 _=>?_
 refine AW.gi 15 (λj=>X _ j) λW4 _=>?_
 refine AW.f2 (us:=wn D) (us':=wn T) C M (aM _) i40 (aM _) i40 (λj=>?_);obtain⟨W5,K⟩:=hE (W4.setCells A 0 (wn D));obtain⟨Z,E⟩:=hE (W5.setCells L 0 (wn T));have R:Hid (W4.there A 0 4/\W5.there L 0 4/\Row Z A (wn D)/\Row Z L (wn T)/\kZ w Z):=by
  have r4:=F.2.2.2.1.below j;have r5:Row (W4.setCells A 0 (wn D)) L _:=aR (F.2.2.2.2.below j) oM;rw[<-E.out,<-K.out];exact⟨r4.2.2,r5.2.2,aR (r4.put rfl) oM,r5.put rfl,RG.below_setCells oM _ _ _ (RG.below_setCells oM _ _ _ (F.1.trans (j.mono F.1.size)))⟩
 rw[K.out,E.out];refine⟨R.1,R.2.1,?_⟩;go_wp2_with fail
 refine UD (qE 4 5 49 49 rfl R.2.2.1 R.2.2.2.1 rfl rfl u40 i40 u40 i40) rfl ?_;exact⟨_,rfl,R.2.2.2.2,rfl⟩
theorem OU(O:Ord N)(p x:Nat)(Q:p<N)(hx:x<N)(i:Int)(b n:Nat)(I:n≠b)(w:Uq)(B:Row w b (wn p))(K:Row w n (wn x)):
 UG prog 152 #[iZ i,jZ b,jZ n] w (Ret λe w'=>Kz (·≠b) w w'/\(Row w' b (wn (sTi N p x))/\Row w' n (wn x))/\e=nv p):=by
 have F:=iI O p x Q hx;generalize sTi N p x=q at F⊢;obtain⟨X,k⟩:=hE (nv p);obtain⟨R,v⟩:=hE (nv x);obtain⟨V,s⟩:=hE (nv q);rw[k.out,v.out,s.out]at F;obtain⟨t,g⟩:=hE (w.heap.size);obtain⟨J,z⟩:=hE (w.alloc (.cells (RG.z 4).toArray 49));obtain⟨E,f⟩:=hE (J.heap.size);obtain⟨L,o⟩:=hE (J.alloc (.cells (RG.z 4).toArray 49));obtain⟨m,u⟩:=hE (L.setCells E 0 (wn p));have y:=aN g z;have D:=aN f o;have C:=y.1.trans (D.1.mono y.1.size);have W:=B.1;have T:=K.1;have U:=y.2.1;have S:=g.out;have Z:=f.out;have d:Hid (kZ w m/\Row m b (wn p)/\Row m n (wn x)/\Row m t (RG.z 4)/\Row m E (wn p)/\L.there E 0 4):=by
  rw[<-u.out];exact⟨RG.below_setCells oM _ _ _ C,aR (B.below C) oM,aR (K.below C) oM,aR (y.2.below D.1) oM,D.2.put rfl,D.2.2.2⟩
 have P:=mk1 (B.below C);go_enter func152,ntmps152;go_wp2_with (first|(refine alR 4 g z ?_)|(refine ldR 1 (B.below y.1).2.1 k u40 i40 ?_)|(refine alR 5 f o ?_)|(refine stR 5 u k d.2.2.2.2.2 i40 (aM p) ?_)|(refine ldR 1 d.2.1.2.1 k u40 i40 ?_)|(refine ldR 2 d.2.2.1.2.1 v u40 i40 ?_)|fail)
 refine(F m).mono ?_;rintro e H ⟨Y,rfl,c,rfl⟩;obtain⟨G,a⟩:=hE (H.setCells b 0 (wn q));obtain⟨A,r⟩:=hE (G.setCells t 0 (wn p));have l:=mk5 (d.1.trans (c.mono d.1.size)) (d.2.1.below c) (d.2.2.1.below c) (d.2.2.2.1.below c) (d.2.2.2.2.1.below c);have j:Hid (H.there b 0 4/\Row G E (wn p)/\G.there t 0 4/\Kz (·≠b) w A/\Row A b (wn q)/\Row A n (wn x)/\Row A t (wn p)):=by
  have M:Row (H.setCells b 0 (wn q)) t _:=aR l.2.2.2.1 oM;rw[<-r.out,<-a.out];exact⟨l.2.1.2.2,aR l.2.2.2.2 oM,M.2.2,((Kz.of l.1).set (UW (by simp))).set (U3 oM),aR (l.2.1.put rfl) oM,aR (aR l.2.2.1 I) oM,M.put rfl⟩
 go_wp2_with (first|(refine stR 1 a s j.1 i40 (aM q) ?_)|(refine ldR 5 j.2.1.2.1 k u40 i40 ?_)|(refine stR 4 r k j.2.2.1 i40 (aM p) ?_)|fail)
 refine UD (aG 4 49 rfl j.2.2.2.2.2.2 rfl u40 i40) rfl ?_;exact⟨_,rfl,j.2.2.2.1,⟨j.2.2.2.2.1,j.2.2.2.2.2.1⟩,rfl⟩
def pwN(N x:Nat):Nat->Nat
 | 0=>1
 | i+1=>sTi N (pwN N x i) x
theorem wT(O:Ord N)(x:Nat):∀i,pwN N x i<N
 | 0=>by show 1<N;have:=O.n2;omega
 | _+1=>V4 _ O.pos
theorem EF[NeZero N](k:1<N)(x:Fin N):∀i,(pwF x i).val=pwN N x.val i
 | 0=>UR k
 | i+1=>by
  show(pwF x i*x).val=_;rw[fL,EF k x i];rfl
theorem Kz.bw{Z:Nat->Prop}{w d c:Uq}(h:kZ w d)(k:Kz Z d c)(e:∀g,g<w.heap.size->Z g):kZ w c:=⟨k.os.trans h.os,k.tape.trans h.tape,k.output.trans h.output,UB h.size k.size,λg b=>(k.block g (Uw b h.size) (e g b)).trans (h.block g b)⟩
theorem EJ(O:Ord N)(x:Nat)(hx:x<N)(n:Nat)(J:n<=512)(w:Uq):
 UG prog 74 #[nv x,iZ n] w (rZ w λe w'=>SLq (w.heap.size<=·) w' e n (pwN N x)/\∃g c,e=sZ g n c):=by
 obtain⟨E,q⟩:=hE (nv x);obtain⟨v1,p⟩:=hE (nv 1);have S:Hid (Gives 70 #[uZ 1] v1):=by rw[<-p.out];exact IX
 obtain⟨l,d⟩:=hE (w.heap.size);obtain⟨z,t⟩:=hE (w.alloc (.cells (wn x).toArray 49));have B:Hid ((Vd 49 E).run prog w=.ok (jZ l) z):=by rw[<-q.out,<-t.out,<-d.out];exact boxS x w
 have D:=aN d t;have I:∀(G:Fn) (first cap:Array Us) (w:Uq),(Yn G first cap).run prog w=.ok (.func G first cap) w:=λ_ _ _ _=>rfl
 rw[q.out];go_enter func74,ntmps74;go_wp2_with (first|(refine aF (u:=E) (v:=jZ l) (w':=z) rfl _ (.tmp 0) rfl ?_ ?_ ?_;rfl;exact B.out)|fail)
 refine(S z).mono ?_;rintro e H ⟨Z,rfl,k,rfl⟩;obtain⟨s,b⟩:=hE (H.heap.size);obtain⟨L,m⟩:=hE (H.alloc (.cells (RG.z 4).toArray 49));obtain⟨P,r⟩:=hE (L.setCells s 0 (wn 1));have y:=ES b m r rfl;have C:=D.2.below k;have f:=C.1;rw[b.out]at f;have a:=D.1.trans (k.mono D.1.size);have j:=mk4 (a.trans (y.2.1.mono a.size)) (C.below y.2.1) y.2.2 f;have s4:=j.2.2.1.1;have T:=mk1 (zZ n J 152 #[jZ s,jZ l] (λ_ _=>kR) (pwN N x) (·≠s) (λi W=>Row W s (wn (pwN N x i))/\Row W l (wn x)) P (λg A=>oM) (λW F=>⟨j.2.2.1.below F,j.2.1.below F⟩) (λi W K o vs Y h=>⟨aR h.1 oM,aR h.2 oM⟩) λi W hi _ h=>OU O _ x (wT O x i) hx _ s l oM W h.1 h.2);clear a C k f s4;go_wp2_with (first|(refine alR 5 b m ?_)|(refine stR 5 r p y.1 i40 (aM 1) ?_)|fail)
 refine T.mono ?_;rintro e V ⟨v,rfl,R,-,Q,U⟩;have X:=d.out;have M:=mk3 (Kz.bw j.1 R λg A=>by have:=j.2.2.2;omega) (Q.mono λg A=>UB j.1.size A) U;go_wp2;go_ret;exact⟨_,rfl,M.out⟩
theorem Ny(O:Ord N)(x:Nat)(hx:x<N)(n:Nat)(k:n<=512)(w:Uq):
 UG prog 74 #[nv x,iZ n] w (rZ w λe w'=>SLq (w.heap.size<=·) w' e n (pwN N x)):=
 (EJ O x hx n k w).mono λ_ _ ⟨v,h,c,b,_⟩=>⟨v,h,c,b⟩
theorem uLs:(prog.underlying 129).map (·.isRow)=some false:=kR
theorem uSm:(prog.underlying 131).map (·.isRow)=some false:=kR
theorem Ow(O:Ord N)(l:List (Nat × Bs))(u:TOk N l)(f:l.length<=512)(z:Nat)(H:z<N)(i n t d j q c1 m r o c2:Nat)(v0 v2 x:Us)(L:i<q)(F:i<o)(w:Uq)(a:d<w.heap.size)(J:m<w.heap.size)(y:Row w n [v0,.slice (some ⟨d,j,none⟩) q c1,v2])(B:Row w t [.slice (some ⟨m,r,none⟩) o c2])(v:w.cell? ⟨d,j+1*i,none⟩=some x)(hx:Sm 0 w x l)(I:w.rangeAt m (r+4*i) (wn z)):
 UG prog 163 #[iZ i,jZ n,jZ t] w (rZ w λe w'=>Sm w.heap.size w' e (l.map (tmT N z))):=by
 obtain⟨M,b⟩:=hE (nv z);have s:=mk1 (λ(W:Uq) (k:kZ w W)=>eG O H 0 x l f u.szm u.lt W (hx.grow k));rw[b.out]at s;obtain⟨D,C⟩:x.oneCell'=true/\∃g c,x=sZ g l.length c:=by
  obtain⟨g,c,rfl,-⟩:=hx;exact⟨rfl,_,_,rfl⟩
 go_enter func163,ntmps163;go_wp2_with fail
 refine AW.begin 10 10 ?_;refine AW.va 0 (oZ n 1) ?_;refine AW.ce 1 uLs (λW k=>(y.below k).2.1 1 _ rfl) ?_;refine AW.mv 2 ?_;refine AW.iv 3 (atS d j q c1 i L) ?_;refine AW.ce 4 uSm (λW k=>by rw[k.cell (p:=⟨d,j+1*i,none⟩) a];exact v) ?_;refine AW.ce 5 uSl (λW k=>(B.below k).2.1 0 _ rfl) ?_;refine AW.mv 6 ?_;refine AW.iv 7 (lF m r o c2 i F) ?_;refine AW.ro 8 (λW k=>RG.range_below I k J) b rSc nSc ?_;refine AW.ca 9 (λk=>s _ k) (λe w' h=>h.1) ?_;rintro e A ⟨E,G⟩;simp only[UM,Ur,Ut,Uu];refine AW.nx 10 e ?_;refine AW.dn λk=>?_
 have K:=mk2 k (show Sm w.heap.size A e _ from G);go_wp2;go_ret;exact⟨_,rfl,K.out⟩
theorem OI(O:Ord N)(z q y t:Nat)(Z:z<N)(T:q<N)(Q:y<N)(ht:t<N)(i K J I L u A D c1 v G C c2:Nat)(h1:i<D)(Y:i<C)(w:Uq)(U:u<w.heap.size)(lh:v<w.heap.size)(S:Row w K (wn z))(V:Row w J [.slice (some ⟨u,A,none⟩) D c1])(R3:Row w I (wn q))(R4:Row w L [.slice (some ⟨v,G,none⟩) C c2])(P:w.rangeAt u (A+4*i) (wn y))(r2:w.rangeAt v (G+4*i) (wn t)):
 UG prog 150 #[iZ i,jZ K,jZ J,jZ I,jZ L] w (rZ w λe w'=>e=nv (sPl N (sTi N z y) (sTi N q t))):=by
 obtain⟨k,B⟩:=hE (w.heap.size);obtain⟨w1,d⟩:=hE (w.alloc (.cells (RG.z 4).toArray 49));have f:=aN B d;have E:=iI O z y Z Q;have x:=iI O q t T ht;have M:sTi N z y<N:=V4 _ O.pos;have H:sTi N q t<N:=V4 _ O.pos;generalize sTi N z y=a at E M⊢;generalize sTi N q t=b at x H⊢;have F:=mY O a b M H;generalize sPl N a b=r at F⊢;obtain⟨vz,l⟩:=hE (nv z);obtain⟨vq,m⟩:=hE (nv q);obtain⟨vy,j⟩:=hE (nv y);obtain⟨vt,o⟩:=hE (nv t);obtain⟨va,p⟩:=hE (nv a);obtain⟨vb,n⟩:=hE (nv b);obtain⟨vr,s⟩:=hE (nv r);rw[l.out,j.out,p.out]at E;rw[m.out,o.out,n.out]at x;rw[p.out,n.out,s.out]at F;go_enter func150,ntmps150;go_wp2_with (first|(refine alR 6 B d ?_)|fail)
 refine AW.begin 13 13 ?_;refine AW.ro 0 (λW c=>((S.below f.1).below c).2.1) l rSc nSc ?_;refine AW.ce 1 uSl (λW c=>((V.below f.1).below c).2.1 0 _ rfl) ?_;refine AW.mv 2 ?_;refine AW.iv 3 (lF u A D c1 i h1) ?_;refine AW.ro 4 (λW c=>row_of f.1 U P c) j rSc nSc ?_;refine AW.ro 6 (λW c=>((R3.below f.1).below c).2.1) m rSc nSc ?_;refine AW.ce 7 uSl (λW c=>((R4.below f.1).below c).2.1 0 _ rfl) ?_;refine AW.mv 8 ?_;refine AW.iv 9 (lF v G C c2 i Y) ?_;refine AW.ro 10 (λW c=>row_of f.1 lh r2 c) o rSc nSc ?_;refine AW.gi 5 (λ_=>E _) λW2 _=>?_
 refine AW.gi 11 (λ_=>x _) λW3 _=>?_
 refine AW.gi 12 (λ_=>F _) λX _=>?_
 refine AW.fi (us:=wn r) s (aM r) i40 (λc=>?_);obtain⟨W5,g⟩:=hE (X.setCells k 0 (wn r));have R:=rU B d c g;rw[g.out];refine⟨R.1,?_⟩;go_wp2_with fail
 refine UD (aG 6 49 rfl R.2.2 rfl u40 i40) rfl ?_;exact⟨_,rfl,R.2.1,rfl⟩
end
namespace RG
variable {P:VC}{ops:Array Vj}{Q:Yo->Act->Uq->Prop}{w:Uq}{a0:Act}{L:Array Bool}{F:Flow}{m:Nat}
def Fr(a k:Act)(d:Option WB):Prop:=∃v,k.tmps=(a.put d v).tmps
theorem Lc{o:Vj}{a:Act}{K:Act->Uq->Prop}:∀ {r:Result Next},o.upon P a K Q r->o.upon P a (λb w'=>K b w'/\Fr a b o.dst) Q r
 | .ok (.value v) _,h=>⟨h,v,rfl⟩
 | .ok .skip _,h=>⟨h,WO,rfl⟩
 | .ok (.defer d) _,h=>⟨h,WO,by cases o.dst<;>rfl⟩
 | .ok (.enter f args) _,h=>Calls.mono h λe w' k=>by
  cases e with
  | returned v=>exact⟨k,v,rfl⟩
  | panicked c=>exact k
  | outgrown=>exact k
 | .ok (.row row args) _,h=>Rows.mono h λv w' k=>⟨k,v,rfl⟩
 | .halt (.panic v) _,h=>h
 | .halt (.exit _) _,h=>h.elim
theorem KQ{i:Nat}{o:Vj}{a:Act}{K:Act->Uq->Prop}(ho:ops[i]? = some o)(h:wpOp P ops Q i K a w):wpOp P ops Q i (λk w'=>K k w'/\Fr a k o.dst) a w:=by
 unfold wpOp at *;rw[ho]at h⊢;dsimp only at h⊢;split
 ·rename_i hw
  rw[yCj hw]at h;rcases h with h|h
  ·exact U3 (Lc h)
  ·exact UW h
 ·rename_i hw
  rw[yCk hw]at h;exact⟨h,WO,rfl⟩
theorem Hq{i:Nat}{o:Vj}{a:Act}{K:Act->Uq->Prop}{v:Us}{d:Uq}(ho:ops[i]? = some o)(c:o.guard=none)(b:(U4 a.eval o).run P w=.ok (.value v) d)(h:wpOp P ops Q i K a w):wpOp P ops Q i (λk w'=>K k w'/\k=a.put o.dst v) a w:=by
 unfold wpOp at *;rw[ho]at h⊢;dsimp only at h⊢;have e:V1 o (yielded ops a.tmps)=true:=by
  unfold V1;rw[c]
 rw[yCj e]at h⊢;rcases h with h|h
 ·unfold VS at h⊢;rw[b]at h⊢;exact U3 ⟨h,rfl⟩
 ·exact UW h
def rC(k:Array Vj)(i:Nat):Bool:=match k[i]? with
 | some o=>match o.op with | .alloc _=>true|_=>false
 | none=>false
def Sep(k:Array Vj)(L:Array Bool)(a:Act):Prop:=∀i j di dj,on L i=true->on L j=true->i≠j->rC k i=true->rC k j=true->aX k i=some di->aX k j=some dj->a.tmps[di]?≠a.tmps[dj]?
def Als(P:VC)(F:Flow)(b:Array Vj)(n:Nat):Prop:=∀i o,i<n->b[i]? = some o->rC b i=true->o.guard=none/\F.kill i=[]/\(∀(a:Act) w,∃c,(U4 a.eval o).run P w=.ok (.value (jZ w.heap.size)) c)/\∀v w,F.R i v w->∃k,v=jZ k/\k<w.heap.size
theorem kC{a:Act}{d e:WB}{v:Us}(h:d≠e):(a.put (some d) v).tmps[e]? = a.tmps[e]?:=by
 unfold UM;dsimp only;rw[WA,yCk h]
theorem stepS{k:Nat}{o:Vj}{a:Act}(R:RegF P Q F ops a0 m)(U:Als P F ops m)(E:k<m)(H:∀i,on L i=true->i<m)(ho:ops[k]? = some o)(S:on L k=false)(C:∀e∈o.after,VO .any e=true->on L e.on=true)(h:InvF F ops a0 L a w)(W:Sep ops L a):
 wpOp P ops Q k (λJ w'=>InvF F ops a0 (L.setIfInBounds k true) J w'/\Sep ops (L.setIfInBounds k true) J) a w:=by
 have X:=Ex R E H ho S C h;have K:=(Array.getElem?_eq_some_iff.1 ho).1;have O:k<L.size:=by rw[h.size];exact K
 have G:=eX ho;have c:∀i,on (L.setIfInBounds k true) i=true->i≠k->on L i=true:=λi g A=>by
  rw[eC O]at g;rcases Xu _ _ ▸ g with g|g
  ·exact g
  ·exact absurd (by simpa using g:k=i).symm A
 have d:∀i di s,i≠k->aX ops i=some di->o.dst=some s->s≠di:=λi di s A g hk e=>by
  subst e;exact A ((R.of ho).2 s hk |>.2 i g)
 cases z:rC ops k with
 | false =>
  refine Zz (λJ w' hh=>⟨hh.1,λi j di dj g I f n t b l=>?_⟩) (KQ ho X);have r:i≠k:=by rintro rfl;rw[z]at n;cases n
  have u:j≠k:=by rintro rfl;rw[z]at t;cases t
  have p:=W i j di dj (c i g r) (c j I u) f n t b l;obtain⟨v,hv⟩:=hh.2;rw[hv];cases hd:o.dst with
  | none=>exact p
  | some s=>rw[kC (d i di s r b hd),kC (d j dj s u l hd)];exact p
 | true =>
  obtain⟨hg,-,D,-⟩:=U k o E ho z;obtain⟨w1,hr⟩:=D a w;obtain⟨V,T,N⟩:=h.all;have y:∀i di,i≠k->on L i=true->rC ops i=true->aX ops i=some di->a.tmps[di]?≠some (jZ w.heap.size):=λi di r g n b e=>by
   have M:i<ops.size:=by rw[<-h.size];exact zV g
   obtain⟨-,B,-,Y⟩:=U i _ (H i g) (UZ M) n;obtain⟨q,Z,h0⟩:=Y (V i) w (N i g λx hx=>by rw[B]at hx;cases hx);rw[T i di g b,Z]at e;injection e with e
   injection e with e
   injection e with e
   injection e with e
   omega
  refine Zz (λJ w' hh=>⟨hh.1,λi j di dj g I f n t b l=>?_⟩) (Hq ho hg hr X);rw[hh.2];have B:∀s,o.dst=some s->(a.put o.dst (jZ w.heap.size)).tmps[s]? = some (jZ w.heap.size):=λs hd=>by
   rw[hd];unfold UM;dsimp only;rw[WA,yCj rfl,yCj (by rw[h.sz];exact((R.of ho).2 s hd).1)]
  by_cases r:i=k
  ·subst r;have hd:o.dst=some di:=by rw[<-G];exact b
   rw[B di hd,hd,kC (d j dj di (YB f) l hd)];exact(y j dj (YB f) (c j I (YB f)) t l).symm
  ·by_cases u:j=k
   ·subst u;have hd:o.dst=some dj:=by rw[<-G];exact l
    rw[B dj hd,hd,kC (d i di dj f b hd)];exact y i di f (c i g f) n b
   ·have p:=W i j di dj (c i g r) (c j I u) f n t b l;cases hd:o.dst with
    | none=>exact p
    | some s=>rw[kC (d i di s r b hd),kC (d j dj s u l hd)];exact p
structure Al1(P:VC)(G:Gw)(ops:Array Vj)(i:Nat):Prop where
 o:∃o,ops[i]? = some o/\o.guard=none/\(∀(a:Act) w,∃w1,(U4 a.eval o).run P w=.ok (.value (jZ w.heap.size)) w1)
 r:∀v w,G.R i v w->∃k,v=jZ k/\k<w.heap.size
def AlL(P:VC)(G:Gw)(k:Array Vj):List Nat->Prop
 | []=>True
 | i :: r=>Al1 P G k i/\AlL P G k r
theorem AlL.of{G:Gw}{i:Nat}:∀ {l:List Nat},AlL P G ops l->l.contains i=true->Al1 P G ops i
 | [],_,h=>by cases h
 | x :: r,hl,h=>by
  rw[List.contains_cons,Xu]at h;rcases h with h|h
  ·rw[show i=x by simpa using h];exact hl.1
  ·exact hl.2.of h
theorem Kc{G:Gw}{n:Nat}(l:List Nat)(h:AlL P G ops l)(c:(VF n).all (λi=>!rC ops i || l.contains i)=true:=by kernel_rfl):Als P G.flow ops n:=λi o d ho g=>by
 have k:=List.all_eq_true.1 c i (List.mem_range.2 d);rw[g,Bool.not_true,Bool.false_or]at k;obtain⟨⟨b,e,m,j⟩,f⟩:=h.of k;obtain rfl:o=b:=UN.inj (ho.symm.trans e);exact⟨m,rfl,j,f⟩
theorem al1{G:Gw}{i:Nat}(cs:List Us)(T:U7)(c:∀v w,G.R i v w->∃k,v=jZ k/\k<w.heap.size)(ho:(ops[i]?.map (·.guard))=some none:=by kernel_rfl)(e:∀o,ops[i]? = some o->∀W,(dA [] o,(U4 (evo (evl [])) o).run P W)=(true,.ok (.value (jZ W.heap.size)) (W.alloc (.cells cs.toArray T))):=by(intro _ h _;cases h;kernel_rfl)):Al1 P G ops i:=by
 refine⟨?_,c⟩;cases h:ops[i]? with
 | none=>rw[h]at ho;cases ho
 | some o =>
  rw[h]at ho;refine⟨o,rfl,UN.inj ho,λa w=>?_⟩;have b:=e o h w;simp only[V5.injEq]at b;exact⟨_,by rw[iU (a:=a) (evl []) [] b.1 (λt d=>by cases d)];exact b.2⟩
theorem Gw.tail3{id:Nat}(G:Gw)(n:Nat)(v:Als P G.flow ops n)(l:(decide (n<ops.size) && mG ops n)=true)(C:P.follows .mixedOrders=true)(u:Be ops a0.tmps.size=true)(h:iK P Q G.flow ops a0 0 (ops.toList.take n))(z:G.B w.drew)
 (x:∀(V:Nat->Us) (w':Uq),(∀i,i<n->G.R i (V i) w')->G.B w'->(∀i j,i<n->j<n->i≠j->rC ops i=true->rC ops j=true->(aX ops i).isSome=true->(aX ops j).isSome=true->V i≠V j)->wpList P ops Q (ops.toList.drop n) (bU V (ops.toList.take n) 0 a0) w'):(V3 id ops true).wp P Q a0 w:=by
 rw[UK,decide_eq_true_eq]at l;refine xW G.flow n (Sep ops) l.1 l.2 C (Gw.reg u h) (λ_=>z) (λL h i j di dj d=>by rw[h]at d;cases d) (λk o L a w s p q A D y E=>stepS (Gw.reg u h) v s p q A D y E) λV w' s p q=>x V w' (λi d=>s i d rfl) (p 0 rfl) λi j d t g m r c b e=>?_
 obtain⟨L,a,B,f⟩:=q;obtain⟨di,c⟩:=Vq.1 c;obtain⟨dj,b⟩:=Vq.1 b;refine B i j di dj (f i d).1 (f j t).1 g m r c b ?_;rw[(f i d).2 di c,(f j t).2 dj b,e]
end RG
section
variable {N:Nat}
theorem SLq.from{B:Nat}{W W':Uq}{x:Us}{n:Nat}{a:Nat->Nat}(h:B<=W.heap.size)(b:SLq (W.heap.size<=·) W' x n a):SLq (B<=·) W' x n a:=b.mono λg k=>UB h k
def pZ(B n:Nat)(a:Nat->Nat):S1:=⟨λv w=>SLq (B<=·) w v n a/\∃g c,v=sZ g n c,λ_ _ _ k h=>⟨h.1.keep (Kq.of_below k),h.2⟩⟩
theorem wJ{Q:Nat->Prop}{W:Uq}{g k n c:Nat}{a:Nat->Nat}{u:Us}{r:List Us}(h:SLq Q W (sZ g n c) n a)(d:0<n)(R:Row W k (u :: r))(j:u≠uZ ((a 0%18446744073709551616:Nat):Int)):g≠k:=by
 rintro rfl;obtain⟨m,o,l,e,-,-,-,i⟩:=h;injection e with e
 injection e with e
 injection e with e1 e2
 subst e1 e2;have b:=i 0 d 0 _ rfl;have f:=R.2.1 0 u rfl;rw[f]at b;exact j (UN.inj b)
theorem pO{B g k n c:Nat}{W:Uq}{a:Nat->Nat}{vs:List Us}(h:SLq (B<=·) W (sZ g n c) n a)(b:g≠k):SLq (B<=·) (W.setCells k 0 vs) (sZ g n c) n a:=by
 obtain⟨q,o,d,e,p,i,m,l⟩:=h;have e':=e;injection e with e
 injection e with e
 injection e with e1 e2
 subst e1;exact⟨g,o,d,e',p,i,by rw[setCells_size];exact m,λj f=>Vg (l j f) k 0 vs (U3 b)⟩
section
variable {P:VC}{ops:Array Vj}{rest:List Vj}{op:Vj}{a:Act}{w w':Uq}{Q:Yo->Act->Uq->Prop}{T:U7}{y:XF}{g o:Nat}{u:Us}
theorem OB(t:WB)(i:Hid (w.setCells g o [u]=w'))(th:w.there g o 1)(d:(P.info? T).map (·.size)=some 1)(hv:u.cells=#[u])(j:u.oneCell'=true)(h:wpList P ops Q rest (a.put op.dst WO) w')(k:op.guard=none:=by rfl)(ho:op.op=.store T (.tmp t) y:=by rfl)(hx:a.eval (.tmp t)=oZ g o:=by rfl)(f:a.eval y=u:=by rfl):wpList P ops Q (op :: rest) a w:=
 Xf k λK c=>by
  have b:=ZA (P:=P) w g o T #[u] th d (by simp[j]);have e:storeVar T ⟨g,o,none⟩ u=storeVar T ⟨g,o,none⟩ (.agg #[u]):=by
   unfold storeVar;rw[hv];rfl
  rw[show(#[u]:Array Us).toList=[u] from rfl,i.out]at b;unfold VS U4;simp only[ho,hx,f,Yw,X4,UU,Wq,Vl,e,b];exact c _ _ h
theorem inR{v:Us}(t:WB)(I:Sem Us)(c:I.run P w=.ok v w')(h:wpList P ops Q rest (a.put op.dst v) w')(hd:op.dst=some t:=by rfl)(k:op.guard=none:=by rfl)(d:U4 a.eval op=I >>= λv=>pure (Xo v):=by kernel_rfl):wpList P ops Q (op :: rest) a w:=
 Xf k λK b=>by
  unfold VS;rw[d,UU,c];exact b _ _ h
end
theorem SE(n:Nat)(w:Uq):(Vx 124 1 #[(0,nv n)]).run prog w=.ok (sZ w.heap.size 1 1) (w.alloc (.cells (wn n).toArray 49)):=kR
theorem iSl:(prog.info? 124).map (·.size)=some 1:=kR
theorem zS{B:Nat}{cs:List Us}(v:Us)(W:Uq)(h:(RG.pN B cs).p v W):∃k,v=jZ k/\k<W.heap.size:=by
 obtain⟨k,c,-,b⟩:=h;exact⟨k,c,b.1⟩
theorem QO(O:Ord N)(h2:2<N)(y z:Nat)(hy:y<N)(hz:z<N)(n:Nat)(hn:n<=512)(w:Uq)(K:∀x g W,Row W g (wn x)->UG prog 148 #[sZ g 1 1,iZ n] W (rZ W λe W'=>SLq (W.heap.size<=·) W' e n (λ_=>x))):
 UG prog 71 #[nv y,nv z,iZ n] w (rZ w λe w'=>∃l r,e=.tuple #[l,r]/\SLq (w.heap.size<=·) w' l n (λ_=>sMi N 0 z)/\SLq (w.heap.size<=·) w' r n (λi=>sPl N (sTi N z (pwN N y i)) (sTi N (sTi N z z) (pwN N 2 i)))):=by
 obtain⟨vy,hj⟩:=hE (nv y);obtain⟨vz,H⟩:=hE (nv z);obtain⟨k3,h8⟩:=hE (w.heap.size);obtain⟨w1,h7⟩:=hE (w.alloc (.cells (wn y).toArray 49));obtain⟨k4,hl⟩:=hE (w1.heap.size);obtain⟨f,h9⟩:=hE (w1.alloc (.cells (wn z).toArray 49));have hr:Hid ((Vd 49 vy).run prog w=.ok (jZ k3) w1):=by rw[<-hj.out,<-h7.out,<-h8.out];exact boxS y w
 have hp:Hid ((Vd 49 vz).run prog w1=.ok (jZ k4) f):=by rw[<-H.out,<-h9.out,<-hl.out];exact boxS z w1
 have F1:=aN h8 h7;have F2:=aN hl h9;have R3:=F1.2.below F2.1;have b2:=F1.1.trans (F2.1.mono F1.1.size);rw[hj.out,H.out];have Q:=mk3 b2 R3 F2.2;clear b2 R3 F1 F2;go_enter func71,ntmps71;go_wp2_with (first|(refine aF (u:=vy) (v:=jZ k3) (w':=w1) rfl _ (.tmp 0) rfl ?_ ?_ ?_;rfl;exact hr.out)|(refine aF (u:=vz) (v:=jZ k4) (w':=f) rfl _ (.tmp 1) rfl ?_ ?_ ?_;rfl;exact hp.out)|fail)
 obtain⟨b,hb⟩:=hE (f.heap.size);have A:∀ {W},kZ f W->b<=W.heap.size:=λh=>hb.out ▸ h.size
 refine(gwL [pE (nv y),pE (iZ n),pZ b n (pwN N y),pE (nv 2),pE (iZ n),pZ b n (pwN N 2),pE (nv z),pE (nv z),pE (nv (sTi N z z)),RG.pN b [.slice none 0 0],RG.pN b [.slice none 0 0],RG.pN b (RG.z 4)] (λW=>kZ f W) (λW W' hb h=>h.trans (hb.mono h.size))).tail3 12 (Kc [9,10,11] ⟨al1 [.slice none 0 0] 124 zS,al1 [.slice none 0 0] 124 zS,al1 (RG.z 4) 49 zS,yCl⟩) kR kR kR ⟨
  gLo 3 (λW c=>(Q.2.1.below c).2.1) u40 i40,
  gO 2 (iZ n),
  eD 0 11 1 12 74 (λx y=>#[x,y]) (λx u W B I c=>by
   obtain rfl:x=nv y:=B;obtain rfl:u=iZ n:=I;exact(EJ O y hy n hn W).mono λe W' ⟨v,j,h2,d,k⟩=>⟨v,j,h2,d.from (A c),k⟩),
  NN 70 #[uZ 2] (λW _=>zW 2 oM W),
  gO 2 (iZ n),
  eD 3 14 4 15 74 (λx y=>#[x,y]) (λx u W B I c=>by
   obtain rfl:x=nv 2:=B;obtain rfl:u=iZ n:=I;exact(EJ O 2 h2 n hn W).mono λe W' ⟨v,j,h2,d,k⟩=>⟨v,j,h2,d.from (A c),k⟩),
  gLo 4 (λW c=>(Q.2.2.below c).2.1) u40 i40,
  gLo 4 (λW c=>(Q.2.2.below c).2.1) u40 i40,
  gC2 6 17 7 18 (λW=>iI O z z hz hz W),
  xP [.slice none 0 0] 124 (λW W' h c=>⟨_,rfl,A c,h⟩),
  xP [.slice none 0 0] 124 (λW W' h c=>⟨_,rfl,A c,h⟩),
  xP (RG.z 4) 49 (λW W' h c=>⟨_,rfl,A c,h⟩),yCl⟩ ⟨rfl,rfl,rfl,Uv _,λ_ _=>rfl⟩ ?_
 intro V w3 hR c hD;obtain⟨S1,g1,c1,I⟩:=hR 2 dC;obtain⟨Z,g2,c2,e5⟩:=hR 5 dC;rw[I]at S1;rw[e5]at Z;have e8:V 8=nv (sTi N z z):=hR 8 dC;obtain⟨a,e9,l8,R8⟩:=hR 9 dC;obtain⟨D,F,l9,R9⟩:=hR 10 dC;obtain⟨k,J,k1,G⟩:=hR 11 dC;have d1:=hD 9 10 dC dC dC kR kR kR kR;have d2:=hD 9 11 dC dC dC kR kR kR kR;have d3:=hD 10 11 dC dC dC kR kR kR kR;dsimp only[bU,VJ,Xk,Xl];simp only[UM,Ur,Ut,Uu];rw[I,e5,e8,e9,F,J];rw[e9,F]at d1;rw[e9,J]at d2;rw[F,J]at d3;have n1:a≠D:=λe=>d1 (by rw[e])
 have n2:a≠k:=λe=>d2 (by rw[e])
 have n3:D≠k:=λe=>d3 (by rw[e])
 clear d1 d2 d3 hD hR I e5 e8 e9 F J;generalize V 0=s0;generalize V 1=s1;generalize V 3=s3;generalize V 4=s4;generalize V 6=s6;generalize V 7=s7;obtain⟨q,hq⟩:=hE (sTi N z z);obtain⟨k6,M⟩:=hE (nv q);rw[hq.out,M.out];obtain⟨L,E⟩:=hE (sZ g1 n c1);obtain⟨S,t⟩:=hE (sZ g2 n c2);have x1:0<n->(g1≠a/\g1≠D/\g1≠k)/\g2≠a/\g2≠D/\g2≠k:=λC=>⟨⟨wJ S1 C R8 (by simp),wJ S1 C R9 (by simp),wJ S1 C G (by simp[pwN])⟩,wJ Z C R8 (by simp),wJ Z C R9 (by simp),wJ Z C G (by simp[pwN])⟩
 obtain⟨U,o⟩:=hE (w3.setCells a 0 [L]);obtain⟨T,p⟩:=hE (U.setCells D 0 [S]);obtain⟨X,h5⟩:=hE (T.setCells k 0 (wn q));have k5:=hb.out;have q8:Row U a [L]:=by rw[<-o.out];exact R8.put rfl
 have q9:Row U D [.slice none 0 0]:=by rw[<-o.out];exact R9.other (YB n1)
 have hk:Row U k (RG.z 4):=by rw[<-o.out];exact G.other (YB n2)
 have u8:Row T a [L]:=by rw[<-p.out];exact q8.other n1
 have u9:Row T D [S]:=by rw[<-p.out];exact q9.put rfl
 have u10:Row T k (RG.z 4):=by rw[<-p.out];exact hk.other (YB n3)
 have HT:Hid (w3.there a 0 1/\U.there D 0 1/\T.there k 0 (wn q).toArray.size):=⟨R8.2.2,q9.2.2,u10.2.2⟩
 have HV:Hid ((L.cells=#[L]/\L.oneCell'=true)/\S.cells=#[S]/\S.oneCell'=true):=by rw[<-E.out,<-t.out];exact⟨⟨rfl,rfl⟩,rfl,rfl⟩
 have s:Hid (kZ f X/\Row X a [L]/\Row X D [S]/\Row X k (wn q)/\(0<n->SLq (b<=·) X L n (pwN N y)/\SLq (b<=·) X S n (pwN N 2))):=by
  have B4:kZ f U:=by rw[<-o.out];exact RG.below_setCells oM _ _ _ c
  have j:kZ f T:=by rw[<-p.out];exact RG.below_setCells oM _ _ _ B4
  rw[<-h5.out];refine⟨RG.below_setCells oM _ _ _ j,u8.other n2,u9.other n3,u10.put rfl,λC=>?_⟩;rw[<-p.out,<-o.out];obtain⟨⟨P,a2,d⟩,a4,R,Y⟩:=x1 C;rw[<-E.out,<-t.out];exact⟨pO (pO (pO S1 P) a2) d,pO (pO (pO Z a4) R) Y⟩
 rw[E.out,t.out];clear x1 q8 q9 hk u8 u9 u10 c S1 Z R8 R9 G n1 n2 n3 l8 l9 k1 k5;refine OB (w:=w3) 8 o HT.1 iSl HV.1.1 HV.1.2 ?_;refine OB (w:=U) 9 p HT.2.1 iSl HV.2.1 HV.2.2 ?_;refine stR (w:=T) 10 h5 M HT.2.2 i40 (aM q) ?_;go_wp2_with (first|(refine ldR 4 (Q.2.2.below s.1).2.1 H u40 i40 ?_)|fail)
 have HO:=mk1 (IU O hz X);rw[H.out]at HO;refine HO.mono ?_;clear HO HT HV;rintro e w7 ⟨uu,rfl,Y,rfl⟩;obtain⟨m,hm⟩:=hE (sMi N 0 z);rw[hm.out];obtain⟨vo,hg⟩:=hE (nv m);obtain⟨he,P⟩:=hE (w7.heap.size);obtain⟨w8,ha⟩:=hE (w7.alloc (.cells (wn m).toArray 49));have hs:Hid ((Vx 124 1 #[(0,vo)]).run prog w7=.ok (sZ he 1 1) w8):=by rw[<-hg.out,<-ha.out,<-P.out];exact SE m w7
 have F8:=aN P ha;have b68:=mk1 (Y.trans (F8.1.mono Y.size));rw[hg.out];have HR:=mk1 (K m he w8 F8.2);clear Y K;go_wp2_with (first|(refine inR 22 (Vx 124 1 #[(0,vo)]) hs.out ?_)|fail)
 refine HR.mono ?_;clear HR;rintro e w9 ⟨lv,rfl,hc,h6⟩;have d:=b68.trans (hc.mono b68.size);have b9:=mk1 (Q.1.trans ((s.1.trans (d.mono s.1.size)).mono Q.1.size));have KZ:=mk6 ((Q.2.2.below s.1).below d) (s.2.1.below d) (s.2.2.2.1.below d) (s.2.2.1.below d) (λ(C:0<n)=>V0 ((s.2.2.2.2 C).1.keep (Kq.of_below d)) ((s.2.2.2.2 C).2.keep (Kq.of_below d))) b9;have lq:q<N:=by rw[<-hq.out];exact V4 _ O.pos
 have HL:=mk1 (jB n hn 150 #[jZ k4,jZ a,jZ k,jZ D] (λ_ _=>kR) (λi=>sPl N (sTi N z (pwN N y i)) (sTi N q (pwN N 2 i))) w9 λi W hi j=>by
  obtain⟨T1,T2⟩:=KZ.2.2.2.2.1 oM;rw[<-E.out]at T1;rw[<-t.out]at T2;have Ra:=(KZ.1.below j)
  have Rb:=(KZ.2.1.below j)
  have Rc:=(KZ.2.2.1.below j)
  have Rd:=(KZ.2.2.2.1.below j)
  rw[<-E.out]at Rb;rw[<-t.out]at Rd;obtain⟨k2,hu,ht,B,-,-,t1,f1⟩:=T1.keep (Kq.of_below j);obtain⟨R,k0,hw,I,-,-,t2,f2⟩:=T2.keep (Kq.of_below j);rw[B]at Rb;rw[I]at Rd;exact OI O z q (pwN N y i) (pwN N 2 i) hz lq (wT O y i) (wT O 2 i) i k4 a k D k2 hu n ht R k0 n hw hi hi W t1 t2 Ra Rb Rc Rd (f1 i hi) (f2 i hi))
 have k7:∀(fn:Fn) (first cap:Array Us) (w:Uq),(Yn fn first cap).run prog w=.ok (.func fn first cap) w:=λ_ _ _ _=>rfl
 have hS:=mk1 (SLq.from (UB Q.1.size (UB s.1.size b68.size)) h6);clear h6 hc d lq s;go_wp2_with fail
 refine HL.mono ?_;clear HL;rintro e ka ⟨rv,rfl,B,R⟩;have KE:=mk3 (b9.trans (B.mono b9.size)) (hS.keep (Kq.of_below B)) (SLq.from b9.size R);clear hS R B KZ;go_wp2
 go_ret2
 rw[<-hm.out,<-hq.out]at KE;exact⟨_,rfl,KE.1,_,_,rfl,KE.2.1,KE.2.2⟩
end
section
variable {P:Nat}[NeZero P]{N:Nat}
theorem Dl{P:VC}(w:Uq)(t sT x k:U7)(b o d l:Nat)(a:Wt)(c f s n:Nat)(cs:List Us)
 (A:P.underlying t=some (.slice k)) (r:(P.info? k).map (·.size)=some s) (y:n=XO c d) (z:cs.length=n*s)
 (g:∀j v,cs[j]? = some v->w.cell? (a.add j)=some v) (u:w.there b o cs.length) (C:∀v∈cs,v.oneCell'=true) :
 (XY #[t,sT] x #[.slice (some ⟨b,o,none⟩) d l,.slice (some a) c f]).run P w=.ok (goInt n) (w.setCells b o cs):=by
 have e:=run_loadCells_list (P:=P) w a cs g;have m:=run_storeCells_cells (P:=P) b o cs 0 w (λj q=>by rw[XA];exact(u j q).1) (λj q=>by rw[XA];exact(u j q).2) C;rw[z]at e;cases p:P.info? k with
 | none=>simp[p]at r
 | some i =>
  have B:i.size=s:=by simpa[p]using r
  simp[XY,XX A,Builtin.lenOf,Zh,sizeOf,typeInfo,p,B,<-y,e,m]
def cw(x i:Nat):Us:=(wn x).getD (i%4) WO
theorem PX(x i:Nat):(cw x i).oneCell'=true:=by
 unfold cw;have:i%4=0\/i%4=1\/i%4=2\/i%4=3:=oM;rcases this with h|h|h|h<;>rw[h]<;>rfl
structure Rs(g m n x:Nat)(w:Uq):Prop where
 lt:g<w.heap.size
 th:w.there g 0 (4*m)
 c:∀i,i<4*n->w.cell? ⟨g,i,none⟩=some (cw x i)
theorem Rs.copy{g m n k r sl sc dc x:Nat}{w:Uq}(h:Rs g m n x w)(s:k=XO sl (m-n))(y:n<=m)(e:∀i,i<4*k->w.cell? ⟨r,i,none⟩=some (cw x i)):
 ∃w',(∀l,(XY #[124,124] l #[.slice (some ⟨g,n*4,none⟩) (m-n) dc,sZ r sl sc]).run prog w=.ok (goInt k) w')/\Rs g m (n+k) x w'/\(∀B,B<=g->Below B w w'):=by
 have u:n+k<=m:=by have:XO sl (m-n)<=m-n:=ZX _ _;omega
 obtain⟨cs,d⟩:∃cs,cs=(VF (4*k)).map (cw x):=⟨_,rfl⟩
 have o:cs.length=4*k:=by rw[d,List.length_map,List.length_range]
 have c:∀j,j<4*k->cs[j]? = some (cw x j):=λj b=>by rw[d,Vy,List.getElem?_range b];rfl
 have q:w.there g (n*4) cs.length:=λj b=>by
  have:=h.th (n*4+j) oM;rwa[UC]at this
 refine⟨w.setCells g (n*4) cs,λl=>Dl w _ _ l 49 g (n*4) (m-n) dc (aZ r) sl sc 4 k cs uS4 i40 s oM (λj v b=>?_) q (λv hv=>?_),⟨by rw[setCells_size];exact h.lt,VV h.th _ _ _,λi z=>?_⟩,λB t=>RG.below_setCells t _ _ _ (UQ _ _)⟩
 ·have f:j<4*k:=by have:=(UE.1 b).1;omega
  rw[c j f]at b;rw[Addr.add_mid,UC,e j f];exact b
 ·rw[d]at hv;obtain⟨i,-,rfl⟩:=Vm.1 hv;exact PX x i
 ·by_cases f:i<4*n
  ·rw[World.cell?_setCells_out g cs (n*4) w ⟨g,i,none⟩ (λ_ _=>U3 (by show i<n*4;omega))];exact h.c i f
  ·have b:i-n*4<cs.length:=oM;have p:=World.cell?_setCells_in g cs (n*4) w (λj b=>(q j b).1) (i-n*4) b;rw[show n*4+(i-n*4)=i by omega]at p;rw[p,<-UF b,c _ oM];unfold cw;rw[show(i-n*4)%4=i%4 by omega]
theorem Pi(m:Nat)(d:m<=1000)(w:Uq):UG prog 174 #[uZ 1,uZ m] w λe w'=>e=.returned (.tuple #[uZ 0,uZ m])/\w'=w:=by
 have b:bits .and .u64 1 4294967295=1:=rfl;have a2:bits .and .u64 (m:Int) 4294967295=(m:Int):=by
  have h:=bits_and_u64_nat m 4294967295 oM oM;rw[show(4294967295:Nat)=2^32-1 from rfl,Nat.and_two_pow_sub_one_eq_mod,UR oM]at h;exact h
 have a0:bits .and .u64 0 4294967295=0:=rfl;have k:(m:Int)/4294967296=0:=oM;have c:Vn.wrap (m:Int)=(m:Int):=by rw[XT];omega
 go_enter func174,ntmps174;go_wp2
 go_ret2
 exact⟨rfl,rfl⟩
theorem O9(m:Nat)(k:m<=1000)(w:Uq):UG prog 211 #[uZ 1,uZ m] w λe w'=>e=.returned (.tuple #[uZ 0,uZ m])/\w'=w:=by
 have h:=Pi m k w;go_enter func211,ntmps211;go_wp2_with fail
 refine h.mono ?_;rintro e w' ⟨rfl,rfl⟩;clear h;go_wp2
 go_ret2
 exact⟨rfl,rfl⟩
theorem BG{P:VC}{k:Array Vj}{o:Vj}{a:Act}{w:Uq}{K:Act->Uq->Prop}{Q:Yo->Act->Uq->Prop}{E:Prop}(g:o.guard=none)(d s:XF)(t b:U7)
 (ho:o.op=.call { callee:=.builtin .copy,args:=#[d,s],argTypes:=#[t,b] }) (v u:Us) (hd:a.eval d=v) (e:a.eval s=u)
 (c:Us) (w':Uq) (f:(XY #[t,b] o.type #[v,u]).run P w=.ok c w') (h:K (a.put o.dst c) w'):if V1 o (yielded k a.tmps)=true then VS P o a w K Q else E:=by
 have c:V1 o (yielded k a.tmps)=true:=by simp[V1,g]
 rw[yCj c];exact Lib.wp_copy_run w d s t b ho v u hd e f h
theorem IC(x r m:Nat)(V:m<=512)(w:Uq)(hR:Row w r (wn x)):
 UG prog 148 #[.slice (some ⟨r,0,none⟩) 1 1,.int .i64 m] w (Ret λe w'=>Below w.heap.size w w'/\SLq (w.heap.size<=·) w' e m (λ_=>x)):=by
 have M:=O9 m oM w;have Y:¬(m:Int)<0:=oM;have X:Vn.wrap (m:Int)=(m:Int):=by rw[XT];omega
 have Z:¬(9223372036854775807:Int)<(m:Int):=oM;obtain⟨C0,z,E⟩:=Cg uS4 iS4 m V;obtain⟨g,a⟩:=hE (w.heap.size);obtain⟨L,q⟩:=hE (w.alloc (.cells C0.toArray 49));have F:=aN a q;have B:Rs g m 0 x L:=⟨F.2.1,by have:=F.2.2.2;rwa[z]at this,λi G=>absurd G (Ym _)⟩
 have f:=hR.below F.1;have C:∀i,i<4->L.cell? ⟨r,i,none⟩=some (cw x i):=λi G=>by
  have O:i=0\/i=1\/i=2\/i=3:=oM;rcases O with rfl|rfl|rfl|rfl
  ·exact f.2.1 0 _ rfl
  ·exact f.2.1 1 _ rfl
  ·exact f.2.1 2 _ rfl
  ·exact f.2.1 3 _ rfl
 obtain⟨A,c,d,l⟩:=B.copy (k:=XO 1 m) (r:=r) (sl:=1) (sc:=1) (dc:=m) (by rw[YT]) (Wx _) (λi G=>C i (by have:XO 1 m<=1:=Z7 _ _;omega));rw[YT,Nat.zero_mul]at c;rw[UC]at d;have N:Hid (Below w.heap.size w A/\Rs g m (XO 1 m) x A):=⟨F.1.trans (l _ (YO a.out)),d⟩
 have I:XO 1 m<=m:=ZX _ _;have J:0<m->0<XO 1 m:=λh=>by show 0<min 1 m;omega
 have b:=c 3;have p:=E w;rw[q.out,a.out]at p;generalize XO 1 m=T at *;unfold goInt at b;clear B f hR C l d c F E z q;go_enter func148,ntmps148;go_wp2_with fail
 refine M.mono ?_;rintro e w' ⟨rfl,rfl⟩;clear M;go_wp2_with (at_builtin;refine Lib.wpList_copy_run _ rfl _ _ 124 124 rfl _ _ rfl rfl b ?_)
 clear b p;go_loopg [8] m (λgk s8 wr=>∃n:Nat,n<=m/\(0<m->0<n)/\m<=n+gk/\s8=.int .i64 n/\Hid (Below w'.heap.size w' wr/\Rs g m n x wr))
 case atStart=>exact⟨T,I,J,oM,rfl,N⟩
 case round =>
  clear N;obtain⟨n,u,R,W,rfl,o⟩:=hrel;by_cases K:n<m
  ·have y:(n:Int)<(m:Int):=oM;have S:0<XO n (m-n):=by show 0<min n (m-n);omega
   have H:n+XO n (m-n)<=m:=by show n+min n (m-n)<=m;omega
   have U:XO n (m-n)<=n:=Z7 _ _;have s:Rs g m n x wr.drew:=⟨o.2.lt,o.2.th,o.2.c⟩
   obtain⟨A,c,d,l⟩:=s.copy (k:=XO n (m-n)) (r:=g) (sl:=n) (sc:=m) (dc:=m-n) rfl u (λi G=>s.c i oM);have b:=c 3;have P:=Dh g 0 m m n u;have D:=Dg g 0 m m n K (Uv _);rw[UC]at D;have Q:Hid (Below w'.heap.size w' A/\Rs g m (n+XO n (m-n)) x A):=⟨o.out.1.drew.trans (l _ (YO a.out)),d⟩
   generalize XO n (m-n)=k at *;unfold goInt at b;clear c d l s o;go_wp2_with fail
   go_region_law (refine BG rfl (.tmp 41) (.tmp 44) 124 124 rfl (.slice (some ⟨g,n*4,none⟩) (m-n) (m-n)) (.slice (some ⟨g,0,none⟩) n m) (by simp[yAC,UM]) (by simp[yAC,UM]) _ _ b ?_)
   go_wp2;go_roundg (gk-1)
   case measure=>omega
   case rel=>exact⟨n+k,H,λ_=>oM,oM,congrArg (Value.int VR) (show VR.wrap ((n:Int)+(k:Int))=((n+k:Nat):Int) by rw[Yj];omega),Q⟩
  ·have y:¬(n:Int)<(m:Int):=oM;obtain rfl:n=m:=oM;have D:Hid (Below w'.heap.size w' wr/\SLq (w'.heap.size<=·) wr (.slice (some ⟨g,0,none⟩) n n) n (λ_=>x)):=⟨o.1,g,0,n,rfl,Uv _,YO a.out,o.2.lt,λj H t v s=>by
    have O:t<4:=(UE.1 s).1;rw[UC,o.2.c (4*j+t) oM];unfold cw;rw[show(4*j+t)%4=t by omega,List.getD_eq_getElem?_getD,s];rfl⟩
   clear o;go_wp2;go_ret;exact⟨_,rfl,D.out⟩
theorem ED(O:Ord N)(c:2<N)(y z:Nat)(b:y<N)(d:z<N)(n:Nat)(k:n<=512)(w:Uq):
 UG prog 71 #[nv y,nv z,iZ n] w (rZ w λe w'=>∃l r,e=.tuple #[l,r]/\SLq (w.heap.size<=·) w' l n (λ_=>sMi N 0 z)/\SLq (w.heap.size<=·) w' r n (λi=>sPl N (sTi N z (pwN N y i)) (sTi N (sTi N z z) (pwN N 2 i)))):=
 QO O c y z b d n k w λx g W hR=>IC x g n k W hR
def oQ(N y:Nat)(H:Nat->List (Nat × Bs))(i:Nat):List (Nat × Bs):=(H i).map (tmT N (pwN N (sIn N y) i))
theorem H6(O:Ord N){Q:Nat->Prop}(n:Nat)(k3:0<n)(hn:n<=64)(G H:Nat->List (Nat × Bs))(U:List (Nat × Bs))(hH:∀i,i<n->TOk N (H i)/\(H i).length<=512)(hU:TOk N U)(k9:U.length<=512)(y z:Nat)(hy:y<N)(hz:z<N)(v:Us)(w:Uq)(hQ:∀g,w.heap.size<=g->Q g)(h0:GRq Q w v n G H U):
 UG prog 84 #[v,nv y,nv z] w (rZ w λe w'=>GRq Q w' e n G (oQ N y H) (U.map (tmT N z))):=by
 obtain⟨vg,vh,vu,rfl,h3,h4,h5⟩:=h0.ex;obtain⟨L,M,E,eg⟩:∃g o c,vg=.slice (some ⟨g,o,none⟩) n c:=by obtain⟨g,o,c,h,-⟩:=h3;exact⟨g,o,c,h⟩
 subst eg;have ka:vu.oneCell'=true:=h5.one.2;obtain⟨I,C,ch,rfl,kd,kc,h7,hl⟩:=h4;obtain⟨K,B⟩:=hE (sIn N y);have k2:K<N:=by rw[<-B.out];exact V4 _ O.pos
 have HI:=mk1 (λW=>uS O y hy W);rw[B.out]at HI;obtain⟨vy,hm⟩:=hE (nv y);obtain⟨vz,A⟩:=hE (nv z);obtain⟨k,hk⟩:=hE (w.heap.size);obtain⟨w1,h9⟩:=hE (w.alloc (.cells [.slice (some ⟨L,M,none⟩) n E,.slice (some ⟨I,C,none⟩) n ch,vu].toArray 133));obtain⟨k4,hs⟩:=hE (w1.heap.size);obtain⟨w2,hc⟩:=hE (w1.alloc (.cells (wn y).toArray 49));obtain⟨k5,h8⟩:=hE (w2.heap.size);obtain⟨w3,ha⟩:=hE (w2.alloc (.cells (wn z).toArray 49));obtain⟨k6,T⟩:=hE (w3.heap.size);obtain⟨l,hr⟩:=hE (w3.alloc (.cells [.slice none 0 0,.slice none 0 0,.slice none 0 0].toArray 133));have f:=Nb hk h9 hs hc h8 ha;have g6:=aN T hr;have F:=mk5 (f.1.trans (g6.1.mono f.1.size)) (f.2.1.below g6.1) (f.2.2.1.below g6.1) (f.2.2.2.below g6.1) g6.2;have S:w.heap.size<=k6:=by rw[<-T.out];exact f.1.size
 obtain⟨v0,hq⟩:=hE (U2 #[.slice (some ⟨L,M,none⟩) n E,.slice (some ⟨I,C,none⟩) n ch,vu]);have B0:Hid ((Vd 133 v0).run prog w=.ok (jZ k) w1):=by rw[<-hq.out,<-h9.out,<-hk.out];exact CJ _ _ _ _
 have B1:Hid ((Vd 49 vy).run prog w1=.ok (jZ k4) w2):=by rw[<-hm.out,<-hc.out,<-hs.out];exact boxS y w1
 have B2:Hid ((Vd 49 vz).run prog w2=.ok (jZ k5) w3):=by rw[<-A.out,<-ha.out,<-h8.out];exact boxS z w2
 rw[hm.out,A.out,hq.out];have HT:=mk2 hH (λ(W:Uq) (d:Below w.heap.size w W)=>eG O hz 0 vu U k9 hU.szm hU.lt W (h5.sm.grow d));rw[A.out]at HT;have P:=mk2 hl h7;have HK:=mk3 h3 hQ B;clear f g6 hl h7 hH hU h0 h3 h5;go_enter func84,ntmps84;go_wp2_with (first|(refine aF (u:=v0) (v:=jZ k) (w':=w1) rfl _ (.tmp 0) rfl ?_ ?_ ?_;rfl;exact B0.out)|(refine aF (u:=vy) (v:=jZ k4) (w':=w2) rfl _ (.tmp 1) rfl ?_ ?_ ?_;rfl;exact B1.out)|(refine aF (u:=vz) (v:=jZ k5) (w':=w3) rfl _ (.tmp 2) rfl ?_ ?_ ?_;rfl;exact B2.out)|(refine alR 6 T hr ?_)|fail)
 obtain⟨b,d⟩:=hE (l.heap.size);have he:∀ {W},Below l.heap.size l W->b<=W.heap.size:=λh=>d.out ▸ h.size
 refine(gwL [pE (nv y),pE (nv K),pE (.pointer (some ⟨k,1,none⟩)),pE (.slice (some ⟨I,C,none⟩) n ch),pE (iZ n),pZ b n (pwN N K),RG.pN b [.slice none 0 0]] (λW=>Below l.heap.size l W) (λW W' d h=>h.trans (d.mono h.size))).tail2 7 kR kR kR ⟨
  gLo 4 (λW s=>(F.2.2.1.below s).2.1) u40 i40,
  oW 0 9 159 (λx=>#[x]) (λx W j s=>by
   obtain rfl:x=nv y:=j;exact HI W),
  gP 3 (jZ k) (.pointer (some ⟨k,1,none⟩)),
  fF 129 2 11 k 1 (.slice (some ⟨I,C,none⟩) n ch) uGL (λx W h=>h) (λW s=>(F.2.1.below s).2.1 1 _ rfl) (λ_=>rfl),
  rF 3 12 (.slice (some ⟨I,C,none⟩) n ch) (iZ n) (λx W h=>h) (λ_=>rfl),
  eD 1 10 4 13 74 (λx y=>#[x,y]) (λx u W j r s=>by
   obtain rfl:x=nv K:=j;obtain rfl:u=iZ n:=r;exact(EJ O K k2 n oM W).mono λe W' ⟨v,D,t,h3,h4⟩=>⟨v,D,t,h3.from (he s),h4⟩),
  xP [.slice none 0 0] 124 (λW W' h s=>⟨_,rfl,he s,h⟩),yCl⟩ ⟨rfl,rfl,rfl,Uv _,λ_ _=>rfl⟩ ?_
 intro V w5 hR s;obtain⟨S1,g1,c1,e5⟩:=hR 5 dC;rw[e5]at S1;obtain⟨k7,e6,l7,R7⟩:=hR 6 dC;dsimp only[bU,VJ,Xk,Xl];simp only[UM,Ur,Ut,Uu];rw[e5,e6];clear hR e5 e6;generalize V 0=s0;generalize V 1=s1;generalize V 2=s2;generalize V 3=s3;generalize V 4=s4;have n7:g1≠k7:=wJ S1 k3 R7 (by simp);obtain⟨l1,Z⟩:=hE (Vv (some (aZ g1)) n c1);obtain⟨w6,h6⟩:=hE (w5.setCells k7 0 [l1]);have D:Hid (Below l.heap.size l w6/\Row w6 k7 [l1]/\SLq (b<=·) w6 l1 n (pwN N K)):=by
  rw[<-h6.out,<-Z.out];exact⟨RG.below_setCells (by rw[d.out];exact l7) _ _ _ s,R7.put rfl,pO S1 n7⟩
 have X:=mk2 R7.2.2 (show l1.cells=#[l1]/\l1.oneCell'=true by rw[<-Z.out];exact⟨rfl,rfl⟩);rw[Z.out];clear S1 R7 n7 s l7;refine OB (w:=w5) 7 h6 X.1 iSl X.2.1 X.2.2 ?_;have kf:w6.cell? ⟨k,1,none⟩=some (.slice (some ⟨I,C,none⟩) n ch):=(F.2.1.below D.1).2.1 1 _ rfl;have ke:∀(fn:Fn) (first cap:Array Us) (w:Uq),(Yn fn first cap).run prog w=.ok (.func fn first cap) w:=λ_ _ _ _=>rfl
 have Y:=F.1.trans (D.1.mono F.1.size);have HL:=mk1 (Aa n oM 163 #[jZ k,jZ k7] (λ_ _=>kR) (oQ N y H) w6 λi W hi t=>by
  have bb:=Y.trans (t.mono Y.size);obtain⟨x,J,r⟩:=P.1 i hi;have T1:=D.2.2.keep (Kq.of_below t);have Rb:=D.2.1.below t;obtain⟨k8,hw,R,j,-,-,t1,f1⟩:=T1;rw[j]at Rb;have hT:=Ow O (H i) (HT.1 i hi).1 (HT.1 i hi).2 (pwN N K i) (wT O K i) i k k7 I C n ch k8 hw n R _ vu x hi hi W (Uw P.2 bb.size) t1 ((F.2.1.below D.1).below t) Rb (by rw[Nat.one_mul,bb.cell (p:=⟨I,C+i,none⟩) P.2];exact J) (r.sm.grow bb) (f1 i hi);rw[<-B.out]at hT;exact hT)
 clear Y;go_wp2_with fail
 refine HL.mono ?_;clear HL;rintro e w7 ⟨vn,rfl,hj,R⟩;have hu:=D.1.trans (hj.mono D.1.size);obtain⟨gn,on,cn,en⟩:∃g o c,vn=.slice (some ⟨g,o,none⟩) n c:=by obtain⟨g,o,c,h,-⟩:=R;exact⟨g,o,c,h⟩
 subst en;have J:=mk3 hu (R.mono (Q':=(l.heap.size<=·)) λg hg=>UB D.1.size hg) S;clear hj R hu;go_wp2_with fail
 refine AW.begin 8 8 ?_;refine AW.va 0 (jZ k) ?_;refine AW.ce 1 uGL (λW d=>((F.2.1.below J.1).below d).2.1 0 _ rfl) ?_;refine AW.mv 2 ?_;refine AW.va 3 (.pointer (some ⟨k,2,none⟩)) ?_;refine AW.ce 4 AB (λW d=>((F.2.1.below J.1).below d).2.1 2 _ rfl) ?_;refine AW.ro 5 (λW d=>((F.2.2.2.1.below J.1).below d).2.1) A u40 i40 ?_;have j:=mk1 (F.1.trans (J.1.mono F.1.size));refine AW.ca 6 (λd=>HT.2 _ (j.trans (d.mono j.size))) (λe w' h=>h.1) ?_;rintro e w8 ⟨kb,hp⟩;simp only[UM,Ur,Ut,Uu];obtain⟨ge,me,ce,ee⟩:∃g m c,e=.slice (some (aZ g)) m c:=by obtain⟨g,c,h,-⟩:=hp;exact⟨g,_,c,h⟩
 subst ee;refine AW.nx 7 (.agg #[.slice (some ⟨L,M,none⟩) n E,.slice (some ⟨gn,on,none⟩) n cn,.slice (some (aZ ge)) me ce]) ?_;refine AW.fi (us:=[.slice (some ⟨L,M,none⟩) n E,.slice (some ⟨gn,on,none⟩) n cn,.slice (some (aZ ge)) me ce]) (Hid.mk' rfl) kR iGr (λd=>?_);obtain⟨w9,r⟩:=hE (w8.setCells k6 0 [.slice (some ⟨L,M,none⟩) n E,.slice (some ⟨gn,on,none⟩) n cn,.slice (some (aZ ge)) me ce]);have KE:Hid (w8.there k6 0 3/\Row w9 k6 [.slice (some ⟨L,M,none⟩) n E,.slice (some ⟨gn,on,none⟩) n cn,.slice (some (aZ ge)) me ce]/\Below w.heap.size w w9/\GRq Q w9 (.agg #[.slice (some ⟨L,M,none⟩) n E,.slice (some ⟨gn,on,none⟩) n cn,.slice (some (aZ ge)) me ce]) n G (oQ N y H) (U.map (tmT N z))):=by
  have k1:=J.1.trans (d.mono J.1.size);have r6:=F.2.2.2.2.below k1;have l6:k6<l.heap.size:=F.2.2.2.2.1;have kq:Kq (l.heap.size<=·) w8 w9:=by rw[<-r.out];exact Kq.set λg hg=>oM
  have k0:Kq Q w w9:=by
   have ht:Below w.heap.size w (w8.setCells k6 0 [.slice (some ⟨L,M,none⟩) n E,.slice (some ⟨gn,on,none⟩) n cn,.slice (some (aZ ge)) me ce]):=RG.below_setCells S _ _ _ (j.trans (d.mono j.size));rw[r.out]at ht;exact Kq.of_below ht
  rw[<-r.out];refine⟨r6.2.2,r6.put rfl,RG.below_setCells S _ _ _ (j.trans (d.mono j.size)),?_⟩;rw[r.out];have q:∀g,l.heap.size<=g->Q g:=λg hg=>HK.2.1 g (UB F.1.size hg)
  exact⟨_,_,_,rfl,HK.1.keep k0,((J.2.1.keep (Kq.of_below d)).keep kq).mono q,((hp.q.mono λg hg=>UB J.1.size hg).keep kq).mono q⟩
 rw[r.out];refine⟨KE.1,?_⟩;go_wp2_with fail
 refine UD (aG 6 133 rfl KE.2.1 rfl uGr iGr) rfl ?_;exact⟨_,rfl,KE.2.2.1,KE.2.2.2⟩
end
section
variable {N:Nat}
section
variable {P:VC}{ops:Array Vj}{Q:Yo->Act->Uq->Prop}{p r:Nat}{I:Iv}{fuel:Nat}{o:Vj}{listed:Array Bool}{a:Act}{w:Uq}{d:Option WB}
theorem AW.fc{f:Xp}{args:Array Us}{R:Us->Uq->Prop}(c:I.p w->UG P f args w (Ret R))(h:∀e w',I.p w->R e w'->Q .normal (a.put d e) w')(ho:ops[p]? = some o:=by(simp only[Vf,U8,Ve])<;>rfl)(hd:o.dst=d:=by rfl)(g:o.guard=none:=by rfl)(hx:(U4 a.eval o).run P w=.ok (.enter f args) w:=by kernel_rfl)(k:(U6 .any ops listed,U6 .any ops (listed.setIfInBounds p true),I.b,(listed.setIfInBounds p true).getD p false,(listed.setIfInBounds p true).getD r false)=([p],[],true,true,true):=by kernel_rfl):AW P ops Q p r I (fuel+1) listed a w:=λb=>by
 simp only[V5.injEq]at k;exact anyS.cal ho (c b) (λe w' hR=>⟨U3 k.2.2,anyS.done k.2.1 (h e w' b hR) _⟩) k.1 g hx hd
end
theorem rnF{W:Uq}{k o:Nat}{xs ys:List Us}(h:W.rangeAt k o (xs++ys)):W.rangeAt k o xs:=λj v b=>h j v (by rw[US (UE.1 b).1];exact b)
theorem rnB{W:Uq}{k o m:Nat}{xs ys:List Us}(h:W.rangeAt k o (xs++ys))(c:o+xs.length=m):W.rangeAt k m ys:=λj v b=>by
 have:=h (xs.length+j) v (by rw[U0 oM,Nat.add_sub_cancel_left];exact b);rw[<-WQ,c]at this;exact this
theorem rnC{W:Uq}{k o m:Nat}{xs ys:List Us}(e:W.rangeAt k o xs)(c:W.rangeAt k m ys)(d:o+xs.length=m):W.rangeAt k o (xs++ys):=λj v b=>by
 by_cases h:j<xs.length
 ·exact e j v (by rwa[US h]at b)
 ·rw[U0 oM]at b;have:=c (j-xs.length) v b;rwa[<-d,WQ,Nat.add_sub_cancel' oM]at this
theorem Row.mid{W:Uq}{k m:Nat}{xs ys zs us l l':List Us}(h:Row W k l)(e:l=xs++(ys++zs))(e':l'=xs++(us++zs))(b:us.length=ys.length)(g:xs.length=m):W.there k m us.length/\Row (W.setCells k m us) k l':=by
 subst e e' g;obtain⟨i,c,d⟩:=h;have f:W.there k xs.length us.length:=λj n=>by
  have:=d (xs.length+j) (by simp only[Uz];omega);rwa[UC]at this
 have z:=UC xs.length;refine⟨f,by rw[setCells_size];exact i,rnC (Vg (rnF c) k _ us (UW (U3 oM))) (rnC (VN W k _ us f) (Vg (rnB (rnB c z) rfl) k _ us (UW (UW oM))) (by rw[b])) z,?_⟩;have:=VV d k xs.length us;simp only[Uz,b]at this⊢;exact this
structure Rp where
 a:Bs
 s:Bs
 c:Bs
 d:Bs
 u:Nat
 m:Nat
 t:Nat
namespace Rp
def l(p:Rp):List Us:=aA p.a++(aA p.s++(aA p.c++(aA p.d++(wn p.u++(wn p.m++wn p.t)))))
structure Ok(p:Rp):Prop where
 a:p.a.size=33
 s:p.s.size=33
 c:p.c.size=33
 d:p.d.size=33
variable {p:Rp}{W:Uq}{k:Nat}
theorem len(h:p.Ok):p.l.length=144:=by
 unfold l;simp only[Uz,aB h.a,aB h.s,aB h.c,aB h.d];rfl
theorem one(p:Rp):p.l.toArray.all (·.oneCell')=true:=by
 unfold l;have h:∀b:Bs,(aA b).all (·.oneCell')=true:=λb=>by have:=bW b;rwa[Ya]at this
 have k:∀n,(wn n).all (·.oneCell')=true:=λn=>by have:=aM n;rwa[Ya]at this
 rw[Ya];simp only[List.all_append,h,k,Bool.and_true]
theorem at7(h:p.Ok)(c:W.rangeAt k 0 p.l):W.rangeAt k 0 (aA p.a)/\W.rangeAt k 33 (aA p.s)/\W.rangeAt k 66 (aA p.c)/\W.rangeAt k 99 (aA p.d)/\W.rangeAt k 132 (wn p.u)/\W.rangeAt k 136 (wn p.m)/\W.rangeAt k 140 (wn p.t):=by
 have g:=rnB (m:=33) c (by rw[aB h.a]);have b:=rnB (m:=66) g (by rw[aB h.s]);have f:=rnB (m:=99) b (by rw[aB h.c]);have e:=rnB (m:=132) f (by rw[aB h.d]);have d:=rnB (m:=136) e rfl;have i:=rnB (m:=140) d rfl;exact⟨rnF c,rnF g,rnF b,rnF f,rnF e,rnF d,i⟩
theorem Tw(h:p.Ok)(c:Row W k p.l){x:Bs}(hx:x.size=33):W.there k 0 (aA x).length/\Row (W.setCells k 0 (aA x)) k { p with a:=x }.l/\{ p with a:=x }.Ok:=by
 obtain⟨d,b⟩:=Row.mid (xs:=[]) (us:=aA x) (l':={ p with a:=x }.l) c rfl rfl (by rw[aB hx,aB h.a]) rfl;exact⟨d,b,hx,h.s,h.c,h.d⟩
theorem sets(h:p.Ok)(c:Row W k p.l){x:Bs}(hx:x.size=33):W.there k 33 (aA x).length/\Row (W.setCells k 33 (aA x)) k { p with s:=x }.l/\{ p with s:=x }.Ok:=by
 obtain⟨d,b⟩:=Row.mid (xs:=aA p.a) (us:=aA x) (l':={ p with s:=x }.l) c rfl rfl (by rw[aB hx,aB h.s]) (aB h.a);exact⟨d,b,h.a,hx,h.c,h.d⟩
theorem Tv(h:p.Ok)(d:Row W k p.l){x:Bs}(hx:x.size=33):W.there k 66 (aA x).length/\Row (W.setCells k 66 (aA x)) k { p with c:=x }.l/\{ p with c:=x }.Ok:=by
 obtain⟨e,b⟩:=Row.mid (m:=66) (xs:=aA p.a++aA p.s) (ys:=aA p.c) (zs:=aA p.d++(wn p.u++(wn p.m++wn p.t))) (us:=aA x) (l':={ p with c:=x }.l) d (by unfold l;simp only[Vw]) (by unfold l;simp only[Vw]) (by rw[aB hx,aB h.c]) (by rw[Uz,aB h.a,aB h.s]);exact⟨e,b,h.a,h.s,hx,h.d⟩
theorem Tu(h:p.Ok)(c:Row W k p.l){x:Bs}(hx:x.size=33):W.there k 99 (aA x).length/\Row (W.setCells k 99 (aA x)) k { p with d:=x }.l/\{ p with d:=x }.Ok:=by
 obtain⟨e,b⟩:=Row.mid (m:=99) (xs:=aA p.a++(aA p.s++aA p.c)) (ys:=aA p.d) (zs:=wn p.u++(wn p.m++wn p.t)) (us:=aA x) (l':={ p with d:=x }.l) c (by unfold l;simp only[Vw]) (by unfold l;simp only[Vw]) (by rw[aB hx,aB h.d]) (by simp only[Uz,aB h.a,aB h.s,aB h.c]);exact⟨e,b,h.a,h.s,h.c,hx⟩
theorem Tr(h:p.Ok)(c:Row W k p.l)(x:Nat):W.there k 132 (wn x).length/\Row (W.setCells k 132 (wn x)) k { p with u:=x }.l/\{ p with u:=x }.Ok:=by
 obtain⟨d,b⟩:=Row.mid (m:=132) (xs:=aA p.a++(aA p.s++(aA p.c++aA p.d))) (ys:=wn p.u) (zs:=wn p.m++wn p.t) (us:=wn x) (l':={ p with u:=x }.l) c (by unfold l;simp only[Vw]) (by unfold l;simp only[Vw]) rfl (by simp only[Uz,aB h.a,aB h.s,aB h.c,aB h.d]);exact⟨d,b,h.a,h.s,h.c,h.d⟩
theorem Tt(h:p.Ok)(c:Row W k p.l)(x:Nat):W.there k 136 (wn x).length/\Row (W.setCells k 136 (wn x)) k { p with m:=x }.l/\{ p with m:=x }.Ok:=by
 obtain⟨d,b⟩:=Row.mid (m:=136) (xs:=aA p.a++(aA p.s++(aA p.c++(aA p.d++wn p.u)))) (ys:=wn p.m) (zs:=wn p.t) (us:=wn x) (l':={ p with m:=x }.l) c (by unfold l;simp only[Vw]) (by unfold l;simp only[Vw]) rfl (by simp only[Uz,aB h.a,aB h.s,aB h.c,aB h.d];rfl);exact⟨d,b,h.a,h.s,h.c,h.d⟩
theorem Ts(h:p.Ok)(c:Row W k p.l)(x:Nat):W.there k 140 (wn x).length/\Row (W.setCells k 140 (wn x)) k { p with t:=x }.l/\{ p with t:=x }.Ok:=by
 obtain⟨d,b⟩:=Row.mid (m:=140) (xs:=aA p.a++(aA p.s++(aA p.c++(aA p.d++(wn p.u++wn p.m))))) (ys:=wn p.t) (zs:=[]) (us:=wn x) (l':={ p with t:=x }.l) c (by unfold l;simp only[Vw,Xt]) (by unfold l;simp only[Vw,Xt]) rfl (by simp only[Uz,aB h.a,aB h.s,aB h.c,aB h.d];rfl);exact⟨d,b,h.a,h.s,h.c,h.d⟩
end Rp
theorem uRd:(prog.underlying 137).map (·.isRow)=some true:=kR
theorem iRd:(prog.info? 137).map (·.size)=some 144:=kR
theorem J2{p:Rp}(h:p.Ok)(w:Uq):(Vd 137 (.agg p.l.toArray)).run prog w=.ok (jZ w.heap.size) (w.alloc (.cells p.l.toArray 137)):=by
 unfold Rp.l;rw[dF h.a,dF h.s,dF h.c,dF h.d];kernel_rfl
end
end Go.Proofs.YtdoammpgchejcaaGreat
