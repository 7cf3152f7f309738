import Derived.Lib.AppendZeros
import Derived.Deep.MidRow
import Derived.BigQuiet
import Derived.Lib.ConvBytes
import Derived.BigRegion
import Derived.Deep.RegionLaw
import Derived.Laws.OwnMore
import Derived.ArgAppend
import Derived.Laws.IdiomCopy
import Derived.Lib.SlBuf
import Derived.Test.YtdoammpgchejcaaGreatsz5
set_option linter.unusedVariables false
set_option linter.constructorNameAsVariable false
set_option linter.unusedSimpArgs false
set_option maxRecDepth 1000000
set_option maxHeartbeats 4000000
namespace Go.Proofs.YtdoammpgchejcaaGreat
open EC NT RG SP
open _root_.And renaming intro->V3
open _root_.Array renaming eq_empty_of_size_eq_zero->ZI,getD->yBS,getElem?_eq_getElem->U0,getElem?_eq_none->WP,getElem?_push_size->WW,getElem?_setIfInBounds->WE,length_toList->UK,replicate->UJ,setIfInBounds->X7,size->V5
open _root_.Bool renaming and_eq_true->UL,noConfusion->Yz,or_eq_true->Xx
open _root_.Go renaming Addr->Ww,Calls->UH,Exit->Yq,FuncId->Xs,Oper->Vk,Operand->XI,Program->VD,Tmp->WF,TypeId->U8,Value->Ut,World->Ur,bodyPost_ret->UE,execOp->U5,getD_set_ne->XT,run_append_own->Y3,run_append_room_src->Y9,run_storeVar_mid->ZC,run_underlying->X0,undef->WR,wpList_load_mid->U6,wpList_plain->Xi,wpList_store_mid->U2,wpOp_mono->ZB
open _root_.Go.Act renaming eval->yAE,put->UN
open _root_.Go.Builtin renaming append_->Vt,copy_->X1,firstCells->Zj,nextslicecap->Yu
open _root_.Go.Code renaming region->V6
open _root_.Go.Instr renaming box->Ve,buildSlice->Vy,indexAt->Vl,makeFunc->Yp,storeAt->Yy,sureAddr->X6
open _root_.Go.IntKind renaming i64->VS,u64->Vo,wrap_i64->Yl,wrap_u64->XW
open _root_.Go.Lib renaming wpList_append_run->WL
open _root_.Go.Next renaming value->Xr
open _root_.Go.Oper renaming wp->VT
open _root_.Go.Operand renaming tmp->yBi
open _root_.Go.Region renaming binds->VP,free->YN,noSelect->XN,ready->U7,wanted->V4
open _root_.Go.Result renaming andThen_ok->Vm
open _root_.Go.RowKit.Below renaming refl->UR
open _root_.Go.Sem renaming run_bind->UV,run_pure->Wt
open _root_.Go.Src renaming ofSlice->yAD
open _root_.Go.Value renaming agg->U3,func->Z2,oneCell'->yBh,ownBlock->Wp,slice->Vw
open _root_.Go.World renaming cell?->VY,cell?_drew->Y0,cell?_of_block->UW,frozen?->WY,frozen?_of_block->VU,rangeAt->YU,rangeAt_setCells_apart->Vh,rangeAt_setCells_same->VO,size_alloc->UB,size_drew->yA8,there_setCells->VW
open _root_.List renaming all_toArray->Yc,append_assoc->Vx,append_nil->Xw,drop->Xo,eq_nil_of_length_eq_zero->ZP,getElem?_append_left->UT,getElem?_append_right->U1,getElem?_cons_succ->U9,getElem?_cons_zero->Vf,getElem?_eq_getElem->UG,getElem?_eq_none->Wz,getElem?_eq_some_iff->UF,getElem?_map->Vz,getElem?_toArray->Vg,length_append->UA,length_cons->Vj,length_nil->WI,length_set->yBe,map_append->Wq,mem_append->WB,mem_cons->VX,mem_map->Vn,mem_singleton->WO,nodup_append->YY,nodup_cons->XV,nodup_nil->yBt,not_mem_nil->UY,range->VG,setIfInBounds_toArray->Us,set_cons_succ->Uu,set_cons_zero->Uv,size_toArray->VC,take->Xn
open _root_.Nat renaming add_assoc->WT,add_mul->XH,add_zero->XD,le_of_eq->YQ,le_of_lt->XM,le_refl->Uw,le_trans->UC,lt_of_lt_of_le->Ux,lt_of_sub_eq_succ->Yv,min->XR,min_le_left->Z9,min_le_right->ZZ,mod_eq_of_lt->US,mod_lt->V7,mul_comm->Vv,mul_le_mul->WS,mul_le_mul_right->Xu,not_lt_zero->Yo,pow_pos->XK,pow_succ->V9,reduceAdd->VK,sub_zero->YV,succ_lt_succ->yBb,zero_add->UD,zero_le->WA,zero_lt_succ->Y2
open _root_.Ne renaming symm->YD
open _root_.Option renaming isSome_iff_exists->Vr,map_eq_some_iff->Uy,some->UO
open _root_.Or renaming inl->U4,inr->UX
open _root_.Prod renaming mk->V8
open Go.Proofs.Tryz
variable {K:Act->Ur->Prop}{args:Array Ut}{us vs xs ys:List Ut}{ga id:Nat}{e:U8}{R:Ut->Ur->Prop}{f:Xs}
section
open Go.RowKit Go.Sort Go.Deep
theorem Hid.mkP{p:Prop}(h:p):Hid p:=h
section
variable {P:VD}{ops:Array Vk}{rest:List Vk}{op:Vk}{a:Act}{w w':Ur}{v:Ut}{Q:Yq->Act->Ur->Prop}
theorem aY(k:op.guard=none)(X:Op)(_:op.op=X)(b:(U5 a.eval op).run P w=.ok (.value v) w')(h:wpList P ops Q rest (a.put op.dst v) w'):wpList P ops Q (op :: rest) a w:=
 Xi k λK c=>by
  unfold VT;rw[b];exact c _ _ h
end
theorem aO(w:Ur)(o:Obj):kZ w (w.alloc o):=(UR _ _).alloc (Uw _) _
theorem cZ(w:Ur)(cs:Array Ut)(T:U8)(j:Nat)(v:Ut)(h:cs[j]? = some v):(w.alloc (.cells cs T)).cell? ⟨w.heap.size,j,none⟩=some v:=by
 unfold World.alloc VY;simp[h]
theorem MK(w:Ur):GLs w (w.alloc (.cells #[] 23)) (sZ w.heap.size 0 0) []:=
 ⟨aO w _,⟨rfl,.inr ⟨w.heap.size,0,#[],rfl,Uw _,WW,Uw _,WA _,rfl,rfl⟩⟩,by simp[Wp]⟩
theorem Hx(w:Ur)(ys:List Ut)(T:U8)(b:∀u∈ys,u.oneCell'=true):VL (w.alloc (.cells ys.toArray T)) (some (aZ w.heap.size)) ys.length ys:=
 ⟨rfl,λh=>by(cases h),UX ⟨w.heap.size,0,rfl,by rw[UB];omega,λj u k=>by rw[UD];exact cZ w _ T j u (by simpa using k)⟩,b⟩
theorem AX{A a qA qB:Option Ww}{y c1 u c2 nA cA nB cB:Nat}{k f:List Ut}(w:Ur)(F:VL w A y k)(hR:VL w a u f)(T:y<=1000)(h2:u<=1000):
 UH prog 46 #[.agg #[.slice A y c1,.slice a u c2,.slice qA nA cA,.slice qB nB cB]] w λe w'=>∃v,e=.returned v/\GLs w w' v (k++f++[.slice qA nA cA,.slice qB nB cB]):=by
 obtain⟨l,n⟩:=hE (w.alloc (.cells #[.slice A y c1,.slice a u c2,.slice qA nA cA,.slice qB nB cB] 26));obtain⟨B,s⟩:=hE (l.alloc (.cells #[] 23));have Q:l.heap.size=w.heap.size+1:=by rw[<-n.out,UB]
 have b1:kZ w l:=by rw[<-n.out];exact aO _ _
 have E:GLs l B (sZ l.heap.size 0 0) []:=by rw[<-s.out];exact MK l
 have l1:=F.len;have l2:=hR.len;obtain⟨v3,G,i,t⟩:=E.app (c:=c1) ((F.below b1).below (by rw[<-s.out];exact aO _ _)) (by rw[WI];omega);rw[List.nil_append]at t;obtain⟨Z,o,b,z⟩:=t.app (c:=c2) ((hR.below b1).below t.bl) oM;obtain⟨D,r⟩:=hE (o.alloc (.cells #[.slice qA nA cA,.slice qB nB cB] 23));have I:kZ o D:=by rw[<-r.out];exact aO _ _
 obtain⟨v6,L,d,x⟩:=(z.below I).app (c:=2) (q:=some (aZ o.heap.size)) (m:=2) (ys:=[.slice qA nA cA,.slice qB nB cB]) (by
  rw[<-r.out];exact Hx o [.slice qA nA cA,.slice qB nB cB] 23 (by simp[yBh])) (by rw[UA];omega)
 have cell:∀(W:Ur) (j:Nat) v,kZ l W->(#[.slice A y c1,.slice a u c2,.slice qA nA cA,.slice qB nB cB]:Array Ut)[j]? = some v->W.cell? ⟨w.heap.size,j,none⟩=some v:=λW j v K P=>by
  rw[K.cell (p:=⟨w.heap.size,j,none⟩) (by show w.heap.size<_;omega),<-n.out];exact cZ w _ _ j v P
 have U:=cell B 0 _ E.bl rfl;have k1:=cell G 1 _ t.bl rfl;have k2:=cell o 2 _ z.bl rfl;have k3:=cell o 3 _ z.bl rfl;obtain⟨V,X,rfl,-⟩:=t.lt;obtain⟨a4,p4,rfl,-⟩:=z.lt;obtain⟨S,p6,rfl,-⟩:=x.lt;have H:Hid (GLs w L (sZ S (k++f++[Vw qA nA cA,Vw qB nB cB]).length p6) (k++f++[.slice qA nA cA,.slice qB nB cB])):=by
  refine⟨b1.trans (x.bl.mono b1.size),?_,x.nn⟩;rcases x.ow with⟨J,C|⟨g,cap,cur,C,N,M⟩⟩
  ·exact⟨J,U4 C⟩
  ·exact⟨J,UX ⟨g,cap,cur,C,oM,M⟩⟩
 generalize J:(k++f++[Vw qA nA cA,Vw qB nB cB]).length=N6 at d H;generalize C:(k++f).length=N4 at b d;generalize O:k.length=Y at i b;have N:=Hid.mkP i;have R:=Hid.mkP b;have M:=Hid.mkP d;clear i b d cell E t z x b1 I F hR Q;go_enter func46,ntmps46;go_wp2_with (first|(refine aY (v:=jZ w.heap.size) (w':=l) rfl (.box 26 (.tmp 0)) rfl ?_ ?_;(rw[<-n.out];kernel_rfl))|(refine aY (v:=sZ l.heap.size 0 0) (w':=B) rfl (.buildSlice 24 0 #[]) rfl ?_ ?_;(rw[<-s.out];kernel_rfl))|(refine aY (v:=sZ o.heap.size 2 2) (w':=D) rfl (.buildSlice 24 2 #[(0,.tmp 14),(1,.tmp 16)]) rfl ?_ ?_;(rw[<-r.out];kernel_rfl))|(at_builtin;refine WL B rfl _ _ _ _ rfl _ _ rfl rfl _ _ N.out ?_)|(at_builtin;refine WL G rfl _ _ _ _ rfl _ _ rfl rfl _ _ R.out ?_)|(at_builtin;refine WL D rfl _ _ _ _ rfl _ _ rfl rfl _ _ M.out ?_)|fail)
 go_ret;exact⟨_,rfl,H.out⟩
end
section
open Go.RowKit Go.Sort Go.Deep
variable {P:Nat}[NeZero P]{N:Nat}
structure Sv where
 q:Option Ww
 n:Nat
 c:Nat
def Sv.v(s:Sv):Ut:=.slice s.q s.n s.c
def rgC(a b c d e f g l r x y:Sv):List Ut:=[a.v,b.v,c.v,d.v,e.v,f.v,g.v,l.v,r.v,x.v,y.v]
theorem uIn:(prog.underlying 26).map (·.isRow)=some true:=kR
theorem iIn:(prog.info? 26).map (·.size)=some 4:=kR
theorem N5(a b c d e f g l r x y:Sv){i n:List Ut}(w:Ur)(hL:VL w l.q l.n i)(hR:VL w r.q r.n n)(h1:l.n<=1000)(h2:r.n<=1000):
 UH prog 9 #[.agg (rgC a b c d e f g l r x y).toArray] w λe' w'=>∃v,e'=.returned v/\GLs w w' v (i++n++[x.v,y.v]++[a.v,b.v,c.v,d.v,e.v,f.v,g.v]):=by
 obtain⟨P,G,ca⟩:=a;obtain⟨E,Q,cb⟩:=b;obtain⟨B,L,cc⟩:=c;obtain⟨S,nd,D⟩:=d;obtain⟨A,ne,ce⟩:=e;obtain⟨T,z,I⟩:=f;obtain⟨K,R,O⟩:=g
 obtain⟨ql,Z,cl⟩:=l;obtain⟨qr,nr,cr⟩:=r;obtain⟨F,nx,C⟩:=x;obtain⟨M,N,H⟩:=y
 dsimp only[Sv.v,rgC]at *;obtain⟨cs,k⟩:=hE ([.slice P G ca,.slice E Q cb,.slice B L cc,.slice S nd D,.slice A ne ce,.slice T z I,.slice K R O,.slice ql Z cl,.slice qr nr cr,.slice F nx C,.slice M N H]:List Ut);rw[k.out];obtain⟨J,s⟩:=hE (w.alloc (.cells cs.toArray 28));have e1:J.heap.size=w.heap.size+1:=by rw[<-s.out,UB]
 have b1:kZ w J:=by rw[<-s.out];exact aO _ _
 have l1:=hL.len;have l2:=hR.len;have hc:=AX (c1:=cl) (c2:=cr) (qA:=F) (nA:=nx) (cA:=C) (qB:=M) (nB:=N) (cB:=H) J (hL.below b1) (hR.below b1) h1 h2;have cell:Hid (∀(W:Ur) (j:Nat) v,kZ J W->cs[j]? = some v->W.cell? ⟨w.heap.size,j,none⟩=some v):=λW j v hb hj=>by
  rw[hb.cell (p:=⟨w.heap.size,j,none⟩) (by show w.heap.size<_;omega),<-s.out];exact cZ w _ _ j v (by simpa using hj)
 have h4:Hid (J.rangeAt w.heap.size 7 [.slice ql Z cl,.slice qr nr cr,.slice F nx C,.slice M N H]):=λj u hj=>by
  refine cell.out J (7+j) u (UR _ _) ?_;rw[<-k.out];match j,hj with
  | 0,h=>exact h
  | 1,h=>exact h
  | 2,h=>exact h
  | 3,h=>exact h
 obtain⟨dI,h3,h0⟩:=Uy.1 uIn;have V:=Hid.mkP b1;have HL:Hid (i.length+n.length<=2000):=by show _<=_;omega
 go_enter func9,ntmps9;go_wp2_with (first|(refine aY (v:=jZ w.heap.size) (w':=J) rfl (.box 28 (.tmp 0)) rfl ?_ ?_;(rw[<-s.out,<-k.out];kernel_rfl))|(refine U6 rfl 26 _ rfl w.heap.size 7 ?_ [.slice ql Z cl,.slice qr nr cr,.slice F nx C,.slice M N H] dI ?_ ?_ ?_ ?_ ?_;rfl;exact h4.out;exact h3;exact h0;exact iIn;skip)|fail)
 refine hc.mono ?_;rintro e' o ⟨v2,rfl,t⟩;have k0:=cell.out o 0 (.slice P G ca) t.bl (by rw[<-k.out];rfl);have k1:=cell.out o 1 (.slice E Q cb) t.bl (by rw[<-k.out];rfl);have k2:=cell.out o 2 (.slice B L cc) t.bl (by rw[<-k.out];rfl);have k3:=cell.out o 3 (.slice S nd D) t.bl (by rw[<-k.out];rfl);have k4:=cell.out o 4 (.slice A ne ce) t.bl (by rw[<-k.out];rfl);have k5:=cell.out o 5 (.slice T z I) t.bl (by rw[<-k.out];rfl);have k6:=cell.out o 6 (.slice K R O) t.bl (by rw[<-k.out];rfl);obtain⟨w3,X⟩:=hE (o.alloc (.cells #[.slice P G ca,.slice E Q cb,.slice B L cc,.slice S nd D,.slice A ne ce,.slice T z I,.slice K R O] 23));have b3:kZ o w3:=by rw[<-X.out];exact aO _ _
 obtain⟨v4,w4,U,Y⟩:=(t.below b3).app (c:=7) (q:=some (aZ o.heap.size)) (m:=7) (ys:=[.slice P G ca,.slice E Q cb,.slice B L cc,.slice S nd D,.slice A ne ce,.slice T z I,.slice K R O]) (by
  rw[<-X.out];exact Hx o [.slice P G ca,.slice E Q cb,.slice B L cc,.slice S nd D,.slice A ne ce,.slice T z I,.slice K R O] 23 (by simp[yBh])) (by have:=HL.out;rw[UA,UA];simp only[Vj,WI];omega)
 obtain⟨a2,p2,rfl,-⟩:=t.lt;obtain⟨a4,p4,rfl,-⟩:=Y.lt;have K4:Hid (GLs w w4 (sZ a4 (i++n++[Vw F nx C,Vw M N H]++[Vw P G ca,Vw E Q cb,Vw B L cc,Vw S nd D,Vw A ne ce,Vw T z I,Vw K R O]).length p4) (i++n++[Vw F nx C,Vw M N H]++[Vw P G ca,Vw E Q cb,Vw B L cc,Vw S nd D,Vw A ne ce,Vw T z I,Vw K R O])):=by
  refine⟨V.trans (Y.bl.mono V.size),?_,Y.nn⟩;have:=V.size;rcases Y.ow with⟨x0,x1|⟨g,cap,cur,x1,x2,x3⟩⟩
  ·exact⟨x0,U4 x1⟩
  ·exact⟨x0,UX ⟨g,cap,cur,x1,oM,x3⟩⟩
 generalize h5:(i++n++[Vw F nx C,Vw M N H]++[Vw P G ca,Vw E Q cb,Vw B L cc,Vw S nd D,Vw A ne ce,Vw T z I,Vw K R O]).length=N4 at U K4;generalize h6:(i++n++[Vw F nx C,Vw M N H]).length=N2 at U⊢;have H1:=Hid.mkP U;go_wp2_with (first|(refine aY (v:=sZ o.heap.size 7 7) (w':=w3) rfl (.buildSlice 24 7 #[(0,.tmp 9),(1,.tmp 11),(2,.tmp 13),(3,.tmp 15),(4,.tmp 17),(5,.tmp 19),(6,.tmp 21)]) rfl ?_ ?_;(rw[<-X.out];kernel_rfl))|(at_builtin;refine WL w3 rfl _ _ _ _ rfl _ _ rfl rfl _ _ H1.out ?_)|fail)
 go_ret;exact⟨_,rfl,K4.out⟩
theorem uRg:(prog.underlying 28).map (·.isRow)=some true:=kR
theorem iRg:(prog.info? 28).map (·.size)=some 11:=kR
theorem GLs.cell{w W:Ur}{g n c:Nat}(h:GLs w W (sZ g n c) xs)(j:Nat)(u:Ut)(k:xs[j]? = some u):W.cell? ⟨g,j,none⟩=some u:=by
 have:=h.ow.cells (g:=g) rfl j u k;rw[lH,UD]at this;exact this
theorem MG(g n c i:Nat)(k:i<n)(w:Ur):(Vl 24 (sZ g n c) (iZ i)).run prog w=.ok (oZ g i) w:=by
 go_simp
def Pt(W:Ur)(u:Ut)(b:SP.Bs):Prop:=∃q c,u=.slice q (V5 b) c/\(b.size=0\/∃g o,q=some ⟨g,o,none⟩/\g<W.heap.size/\Holds SP.encB W g o b)
theorem Pt.below{W W':Ur}{u:Ut}{b:SP.Bs}(h:Pt W u b)(d:kZ W W'):Pt W' u b:=by
 obtain⟨q,c,k,i|⟨g,o,f,e,j⟩⟩:=h
 ·exact⟨q,c,k,U4 i⟩
 ·exact⟨q,c,k,UX ⟨g,o,f,Ux e d.size,SP.Holds.below j d e⟩⟩
theorem Pt.conv{W:Ur}{u:Ut}{b:SP.Bs}(h:Pt W u b):(convert 23 9 u).run prog W=.ok (.string ⟨b⟩) W:=by
 obtain⟨q,c,rfl,d|⟨g,o,rfl,f,e⟩⟩:=h
 ·obtain rfl:b=#[]:=ZI d;cases q with
  | none=>exact run_convert_bytes_nil (P:=prog) (w:=W) 23 5 SP.slice22 SP.int5 0 c 9 SP.str9
  | some a=>exact run_convert_bytes_back (P:=prog) W 23 9 5 a c [] SP.slice22 SP.int5 SP.str9 (λj k=>by cases k)
 ·exact SP.conv_str prog 23 9 5 SP.slice22 SP.int5 SP.str9 W g o _ c b e rfl
def inV(l r x y:Sv):List Ut:=[l.v,r.v,x.v,y.v]
theorem eI(w:Ur)(cs:List Ut)(T:U8):(w.alloc (.cells cs.toArray T)).rangeAt w.heap.size 0 cs:=λj u k=>by rw[UD];exact cZ w _ _ j u (by simpa using k)
theorem range_below{w w':Ur}{b o:Nat}{cs:List Ut}(h:w.rangeAt b o cs)(d:kZ w w')(k:b<w.heap.size):w'.rangeAt b o cs:=λj u c=>by rw[d.cell (p:=⟨b,o+j,none⟩) k];exact h j u c
theorem BP(l r x y l' F J I:Sv){n o t z:List Ut}(w:Ur)(hL:VL w l.q l.n n)(hR:VL w r.q r.n o)(E:VL w l'.q l'.n t)(G:VL w F.q F.n z)(h1:l.n<=1000)(h2:r.n<=1000)(hl:l'.n=l.n)(hr:F.n=r.n)
 (hE:∀(j:Nat),j<l.n+r.n+2->∃u v b,(n++o++[x.v,y.v])[j]? = some u/\(t++z++[J.v,I.v])[j]? = some v/\Pt w u b/\Pt w v b) :
 UH prog 45 #[.agg (inV l r x y).toArray,.agg (inV l' F J I).toArray] w λe' w'=>e'=.returned (.bool true)/\Below w.heap.size w w':=by
 obtain⟨cs,g⟩:∃cs:List Ut,Hid (inV l r x y=cs):=⟨_,rfl⟩
 obtain⟨A,m⟩:∃A:List Ut,Hid (inV l' F J I=A):=⟨_,rfl⟩
 obtain⟨d,a⟩:∃d,Hid (w.alloc (.cells cs.toArray 26)=d):=⟨_,rfl⟩
 obtain⟨k,B⟩:∃k,Hid (d.alloc (.cells A.toArray 26)=k):=⟨_,rfl⟩
 have e1:d.heap.size=w.heap.size+1:=by rw[<-a.out,UB]
 have e2:k.heap.size=d.heap.size+1:=by rw[<-B.out,UB]
 have b1:Below w.heap.size w d:=by rw[<-a.out];exact aO _ _
 have b2:Below d.heap.size d k:=by rw[<-B.out];exact aO _ _
 have f:=b1.trans (b2.mono b1.size);have T:=range_below (w:=d) (by rw[<-a.out];exact eI w cs _) b2 oM;have U:k.rangeAt d.heap.size 0 A:=by rw[<-B.out];exact eI d A _
 have c0:=T 0 l.v (by rw[<-g.out];rfl);have c1:=T 1 r.v (by rw[<-g.out];rfl);have d0:=U 0 l'.v (by rw[<-m.out];rfl);have d1:=U 1 F.v (by rw[<-m.out];rfl);rw[UD]at c0 c1 d0 d1;have len1:Hid (cs.length=4):=by rw[<-g.out];rfl
 have len2:Hid (A.length=4):=by rw[<-m.out];rfl
 have hA:Hid (UH prog 46 #[.agg cs.toArray] k λe w'=>∃v,e=.returned v/\GLs k w' v (n++o++[x.v,y.v])):=by
  rw[<-g.out];exact AX k (hL.below f) (hR.below f) h1 h2
 have hB:Hid (∀c,Below k.heap.size k c->UH prog 46 #[.agg A.toArray] c λe w'=>∃v,e=.returned v/\GLs c w' v (t++z++[J.v,I.v])):=λc Q=>by
  rw[<-m.out];exact AX c ((E.below f).below Q) ((G.below f).below Q) oM oM
 have D:Hid ((n++o++[x.v,y.v]).length=l.n+r.n+2):=by
  show _=_;rw[UA,UA,hL.len,hR.len];rfl
 have C:Hid ((t++z++[J.v,I.v]).length=l.n+r.n+2):=by
  show _=_;rw[UA,UA,E.len,G.len,hl,hr];rfl
 have X:=Hid.mkP hE;generalize n++o++[x.v,y.v]=XS at hA D X;generalize t++z++[J.v,I.v]=Z at hB C X;have HB:=Hid.mkP f;have K:Hid (∀c,Below k.heap.size k c->c.rangeAt d.heap.size 0 A):=λc Q=>range_below U Q oM
 have h6:=Hid.mkP T;rw[g.out,m.out];obtain⟨ql,nl,cl⟩:=l;obtain⟨qr,nr,cr⟩:=r;obtain⟨h8,h4,h9⟩:=l';obtain⟨h7,h3,ha⟩:=F
 dsimp only[Sv.v]at *;subst hl hr;obtain⟨dI,O,L⟩:=Uy.1 uIn;obtain⟨M,hM⟩:∃M,Hid (h4+h3+2=M):=⟨_,rfl⟩
 rw[hM.out]at D C X;have hc:M<=2002:=by have:=hM.out;omega
 clear e1 e2 b1 b2 f T U hL hR E G hE;go_enter func45,ntmps45;go_wp2_with (first|(refine aY (v:=.pointer (some ⟨w.heap.size,0,none⟩)) (w':=d) rfl (.box 26 (.tmp 0)) rfl ?_ ?_;(rw[<-a.out,<-g.out];kernel_rfl))|(refine aY (v:=.pointer (some ⟨d.heap.size,0,none⟩)) (w':=k) rfl (.box 26 (.tmp 1)) rfl ?_ ?_;(rw[<-B.out,<-m.out];kernel_rfl))|(refine U6 rfl 26 _ rfl w.heap.size 0 ?_ cs dI ?_ ?_ ?_ ?_ ?_;rfl;exact h6.out;exact O;exact L;(rw[len1.out];exact iIn);skip)|fail)
 refine hA.mono ?_;rintro e' c ⟨v3,rfl,P⟩;have h0:=Hid.mkP (K c P.bl);have h5:=Hid.mkP (hB c P.bl);obtain⟨R,S,rfl,-⟩:=P.lt;have K3:=Hid.mkP P;clear P hA hB K c0 c1 d0 d1;rw[D.out]at K3⊢;go_wp2_with (first|(refine U6 rfl 26 _ rfl d.heap.size 0 ?_ A dI ?_ ?_ ?_ ?_ ?_;rfl;exact h0.out;exact O;exact L;(rw[len2.out];exact iIn);skip)|fail)
 refine h5.mono ?_;rintro e' w4 ⟨v4,rfl,V⟩;obtain⟨Y,W,rfl,-⟩:=V.lt;have s:Hid (GLs k w4 (.slice (some ⟨R,0,none⟩) M S) XS/\GLs c w4 (.slice (some ⟨Y,0,none⟩) M W) Z/\Below w.heap.size w w4):=by
  rw[C.out]at V;have p:=K3.below V.bl;exact⟨p,V,HB.trans (p.bl.mono HB.size)⟩
 rw[C.out];go_wp2;go_loopg [7] M (λgk s7 wr=>∃i:Nat,i+gk=M/\s7=.int .i64 i/\Hid (GLs k wr (.slice (some ⟨R,0,none⟩) M S) XS/\GLs c wr (.slice (some ⟨Y,0,none⟩) M W) Z/\Below w.heap.size w wr))
 case atStart=>exact⟨0,oM,rfl,s⟩
 case round =>
  obtain⟨i,hi,rfl,s⟩:=hrel;by_cases H:i<M
  ·have N:=oM;obtain⟨u,v,b,hu,hv,pu,pv⟩:=X.out i H;have p:∀q,Below wr.heap.size wr (wr.drewN q):=λq=>⟨rfl,rfl,rfl,Uw _,λ_ _=>rfl⟩
   have k1:=λq=>((pu.below s.2.2).below (p q)).conv
   have k2:=λq=>((pv.below s.2.2).below (p q)).conv
   have x1:=s.1.cell i u hu;have x2:=s.2.1.cell i v hv;have K5:Hid (∀q,GLs k (wr.drewN q) (.slice (some ⟨R,0,none⟩) M S) XS/\GLs c (wr.drewN q) (.slice (some ⟨Y,0,none⟩) M W) Z/\Below w.heap.size w (wr.drewN q)):=λq=>⟨s.1.below (p q),s.2.1.below (p q),s.2.2.trans ((p q).mono s.2.2.size)⟩
   obtain⟨qu,cu,rfl,-⟩:=pu;obtain⟨qv,cv,rfl,-⟩:=pv;have j1:=MG R M S i H;have j2:=MG Y M W i H;go_wp2;go_quiet (fail);go_wp2;go_roundg (gk-1)
   case measure=>omega
   case rel=>exact⟨i+1,oM,rfl,K5.out _⟩
  ·have N:=oM;go_wp2;go_ret;exact⟨rfl,s.2.2⟩
structure Rg where
 a:Sv
 b:Sv
 c:Sv
 d:Sv
 e:Sv
 f:Sv
 g:Sv
 l:Sv
 r:Sv
 x:Sv
 y:Sv
def Rg.cs(p:Rg):List Ut:=rgC p.a p.b p.c p.d p.e p.f p.g p.l p.r p.x p.y
def Rg.all(p:Rg)(b k:List Ut):List Ut:=b++k++[p.x.v,p.y.v]++[p.a.v,p.b.v,p.c.v,p.d.v,p.e.v,p.f.v,p.g.v]
theorem BO(p k:Rg){l m r s:List Ut}(w:Ur)(hL:VL w p.l.q p.l.n l)(hR:VL w p.r.q p.r.n m)(F:VL w k.l.q k.l.n r)(G:VL w k.r.q k.r.n s)(h1:p.l.n<=1000)(h2:p.r.n<=1000)(hl:k.l.n=p.l.n)(hr:k.r.n=p.r.n)
 (hE:∀(j:Nat),j<p.l.n+p.r.n+9->∃u v b,(p.all l m)[j]? = some u/\(k.all r s)[j]? = some v/\Pt w u b/\Pt w v b) :
 UH prog 7 #[.agg p.cs.toArray,.agg k.cs.toArray] w λe' w'=>e'=.returned (.bool true)/\Below w.heap.size w w':=by
 obtain⟨cs,t⟩:∃cs:List Ut,Hid (p.cs=cs):=⟨_,rfl⟩
 obtain⟨B,y⟩:∃B:List Ut,Hid (k.cs=B):=⟨_,rfl⟩
 obtain⟨g,A⟩:∃g,Hid (w.alloc (.cells cs.toArray 28)=g):=⟨_,rfl⟩
 obtain⟨f,D⟩:∃f,Hid (g.alloc (.cells B.toArray 28)=f):=⟨_,rfl⟩
 have e1:g.heap.size=w.heap.size+1:=by rw[<-A.out,UB]
 have e2:f.heap.size=g.heap.size+1:=by rw[<-D.out,UB]
 have b1:Below w.heap.size w g:=by rw[<-A.out];exact aO _ _
 have b2:Below g.heap.size g f:=by rw[<-D.out];exact aO _ _
 have d:Below w.heap.size w f:=b1.trans (b2.mono b1.size);have r1:f.rangeAt w.heap.size 0 cs:=range_below (w:=g) (by rw[<-A.out];exact eI w cs _) b2 oM;have r2:f.rangeAt g.heap.size 0 B:=by rw[<-D.out];exact eI g B _
 have len1:Hid (cs.length=11):=by rw[<-t.out];rfl
 have len2:Hid (B.length=11):=by rw[<-y.out];rfl
 have i1:Hid (f.rangeAt w.heap.size 7 (inV p.l p.r p.x p.y)):=λj u J=>by
  have:=r1 (7+j) u (by
   rw[<-t.out];match j,J with
   | 0,h=>exact h
   | 1,h=>exact h
   | 2,h=>exact h
   | 3,h=>exact h)
  rw[UD]at this;exact this
 have i2:Hid (f.rangeAt g.heap.size 7 (inV k.l k.r k.x k.y)):=λj u J=>by
  have:=r2 (7+j) u (by
   rw[<-y.out];match j,J with
   | 0,h=>exact h
   | 1,h=>exact h
   | 2,h=>exact h
   | 3,h=>exact h)
  rw[UD]at this;exact this
 have lX:(l++m++[p.x.v,p.y.v]).length=p.l.n+p.r.n+2:=by rw[UA,UA,hL.len,hR.len];rfl
 have lZ:(r++s++[k.x.v,k.y.v]).length=p.l.n+p.r.n+2:=by rw[UA,UA,F.len,G.len,hl,hr];rfl
 have Z:Hid (UH prog 45 #[.agg (inV p.l p.r p.x p.y).toArray,.agg (inV k.l k.r k.x k.y).toArray] f λe' w'=>e'=.returned (.bool true)/\Below f.heap.size f w'):=by
  refine BP p.l p.r p.x p.y k.l k.r k.x k.y f (hL.below d) (hR.below d) (F.below d) (G.below d) h1 h2 hl hr (λj J=>?_);obtain⟨u,v,b,n,c,x,o⟩:=hE j oM;unfold Rg.all at n c;rw[UT (by rw[lX];exact J)]at n;rw[UT (by rw[lZ];exact J)]at c;exact⟨u,v,b,n,c,x.below d,o.below d⟩
 have hA:Hid (∀c,Below f.heap.size f c->UH prog 9 #[.agg cs.toArray] c λe w'=>∃v,e=.returned v/\GLs c w' v (p.all l m)):=λc a=>by
  rw[<-t.out];exact N5 p.a p.b p.c p.d p.e p.f p.g p.l p.r p.x p.y c ((hL.below d).below a) ((hR.below d).below a) h1 h2
 have hB:Hid (∀c,Below f.heap.size f c->UH prog 9 #[.agg B.toArray] c λe w'=>∃v,e=.returned v/\GLs c w' v (k.all r s)):=λc a=>by
  rw[<-y.out];exact N5 k.a k.b k.c k.d k.e k.f k.g k.l k.r k.x k.y c ((F.below d).below a) ((G.below d).below a) oM oM
 have H:Hid ((p.all l m).length=p.l.n+p.r.n+9):=by
  show _=_;unfold Rg.all;rw[UA,lX];rfl
 have E:Hid ((k.all r s).length=p.l.n+p.r.n+9):=by
  show _=_;unfold Rg.all;rw[UA,lZ];rfl
 have HE:=Hid.mkP hE;generalize p.all l m=XS at hA H HE;generalize k.all r s=ZS at hB E HE;have HB:=Hid.mkP d;have X:Hid (∀c,Below f.heap.size f c->c.rangeAt w.heap.size 0 cs):=λc a=>range_below r1 a oM
 have K:Hid (∀c,Below f.heap.size f c->c.rangeAt g.heap.size 0 B):=λc a=>range_below r2 a oM
 rw[t.out,y.out];obtain⟨dI,W,N⟩:=Uy.1 uIn;obtain⟨dR,L,U⟩:=Uy.1 uRg;obtain⟨M,hM⟩:∃M,Hid (p.l.n+p.r.n+9=M):=⟨_,rfl⟩
 rw[hM.out]at H E HE;have h5:M<=2009:=by have:=hM.out;omega
 obtain⟨iv,O⟩:∃iv,Hid (inV p.l p.r p.x p.y=iv):=⟨_,rfl⟩
 obtain⟨jv,S⟩:∃jv,Hid (inV k.l k.r k.x k.y=jv):=⟨_,rfl⟩
 have h4:Hid (iv.length=4):=by rw[<-O.out];rfl
 have h3:Hid (jv.length=4):=by rw[<-S.out];rfl
 rw[O.out]at i1 Z;rw[S.out]at i2 Z;clear e1 e2 b1 b2 d r1 r2 hL hR F G hE lX lZ hl hr h1 h2;go_enter func7,ntmps7;go_wp2_with (first|(refine aY (v:=.pointer (some ⟨w.heap.size,0,none⟩)) (w':=g) rfl (.box 28 (.tmp 0)) rfl ?_ ?_;(rw[<-A.out,<-t.out];kernel_rfl))|(refine aY (v:=.pointer (some ⟨g.heap.size,0,none⟩)) (w':=f) rfl (.box 28 (.tmp 1)) rfl ?_ ?_;(rw[<-D.out,<-y.out];kernel_rfl))|(refine U6 rfl 26 _ rfl w.heap.size 7 ?_ iv dI ?_ ?_ ?_ ?_ ?_;rfl;exact i1.out;exact W;exact N;(rw[h4.out];exact iIn);skip)|(refine U6 rfl 26 _ rfl g.heap.size 7 ?_ jv dI ?_ ?_ ?_ ?_ ?_;rfl;exact i2.out;exact W;exact N;(rw[h3.out];exact iIn);skip)|fail)
 refine Z.mono ?_;rintro e' x ⟨rfl,z⟩;have R:=Hid.mkP z;have Y:=Hid.mkP (X x z);clear z Z i1 i2;go_wp2_with (first|(refine U6 rfl 28 _ rfl w.heap.size 0 ?_ cs dR ?_ ?_ ?_ ?_ ?_;rfl;exact Y.out;exact L;exact U;(rw[len1.out];exact iRg);skip)|fail)
 refine(hA x R.out).mono ?_;rintro e' c ⟨v3,rfl,g3⟩;have C:Below f.heap.size f c:=R.trans (g3.bl.mono R.size);have Q:=Hid.mkP (K c C);have T:=Hid.mkP (hB c C);obtain⟨a3,p3,rfl,-⟩:=g3.lt;have K3:=Hid.mkP g3;have h0:=Hid.mkP C;clear g3 C hA hB K X Y;rw[H.out]at K3⊢;go_wp2_with (first|(refine U6 rfl 28 _ rfl g.heap.size 0 ?_ B dR ?_ ?_ ?_ ?_ ?_;rfl;exact Q.out;exact L;exact U;(rw[len2.out];exact iRg);skip)|fail)
 refine T.mono ?_;rintro e' w4 ⟨v4,rfl,V⟩;obtain⟨a4,p4,rfl,-⟩:=V.lt;have o:Hid (GLs x w4 (.slice (some ⟨a3,0,none⟩) M p3) XS/\GLs c w4 (.slice (some ⟨a4,0,none⟩) M p4) ZS/\Below w.heap.size w w4):=by
  rw[E.out]at V;have n:=HB.trans (R.mono HB.size);have I:=K3.below V.bl;exact⟨I,V,n.trans (I.bl.mono n.size)⟩
 clear V T K3 Q h0 R;rw[E.out];go_wp2;go_loopg [8] M (λgk s7 wr=>∃i:Nat,i+gk=M/\s7=.int .i64 i/\Hid (GLs x wr (.slice (some ⟨a3,0,none⟩) M p3) XS/\GLs c wr (.slice (some ⟨a4,0,none⟩) M p4) ZS/\Below w.heap.size w wr))
 case atStart=>exact⟨0,oM,rfl,o⟩
 case round =>
  clear o;obtain⟨i,hi,rfl,o⟩:=hrel;by_cases I:i<M
  ·have P:(i:Int)<(M:Int):=oM;obtain⟨u,v,b,hu,hv,pu,pv⟩:=HE.out i I;have n:∀q,Below wr.heap.size wr (wr.drewN q):=λq=>⟨rfl,rfl,rfl,Uw _,λ_ _=>rfl⟩
   have k1:=λq=>((pu.below o.2.2).below (n q)).conv
   have k2:=λq=>((pv.below o.2.2).below (n q)).conv
   have x1:=o.1.cell i u hu;have x2:=o.2.1.cell i v hv;have K5:Hid (∀q,GLs x (wr.drewN q) (.slice (some ⟨a3,0,none⟩) M p3) XS/\GLs c (wr.drewN q) (.slice (some ⟨a4,0,none⟩) M p4) ZS/\Below w.heap.size w (wr.drewN q)):=λq=>⟨o.1.below (n q),o.2.1.below (n q),o.2.2.trans ((n q).mono o.2.2.size)⟩
   obtain⟨qu,cu,rfl,-⟩:=pu;obtain⟨qv,cv,rfl,-⟩:=pv;generalize V5 b=nb at k1 k2 x1 x2;have j1:=MG a3 M p3 i I;have j2:=MG a4 M p4 i I;clear hu hv n o;go_wp2;go_quiet (fail);go_wp2;go_roundg (gk-1)
   case measure=>omega
   case rel=>exact⟨i+1,oM,rfl,K5.out _⟩
  ·have P:¬(i:Int)<(M:Int):=oM;go_wp2;go_ret;exact⟨rfl,o.2.2⟩
theorem uC(n c:Nat)(h:c<n):Yu n c<=2*n+768:=by
 unfold Yu;split
 ·omega
 ·split
  ·omega
  ·simp only[Builtin.growBy];repeat' split
   all_goals omega
theorem wX{t n m size c:Nat}{T:U8}{i:TypeInfo}{z:Ut}{W W':Ur}{v w:Ut}{k:List Ut}{a:Ww}(G:prog.underlying T=some (.slice e))(H:prog.info? e=some i)(M:i.zero=some z)(D:i.size=size)(C:i.bytes<=1000)
 (b:W.ownsRow t e size v n xs) (s:Src prog size T (.slice (some a) m c) m k W) (d:n+m<=1000000000)
 (r:(Vt #[T,T] T #[v,.slice (some a) m c]).run prog W=.ok w W'):w.ownBlock=v.ownBlock\/w.ownBlock=some W.heap.size:=by
 subst D;have d:∀(q:Option Ww) (cap:Nat) (olds:List Ut),v=.slice q n cap->cap<n+m->(Zj i.size n (.slice q n cap)).run prog W.drew=.ok olds.toArray W.drew->w.ownBlock=v.ownBlock\/w.ownBlock=some W.heap.size:=λq cap olds hv J y=>by
  have F:=uC (n+m) cap J;have A:Yu (n+m) cap*i.bytes<=(2*(n+m)+768)*1000:=WS F C;have p:=run_append_grow_src (P:=prog) W T T T e i z G H M q n cap olds y (.slice (some a) m c) m k s J oM (UC A (by clear F A;omega));rw[hv,p]at r;injection r with hr1 o
  right;rw[<-hr1];rfl
 rcases id b with⟨-,⟨rfl,rfl⟩|⟨g,cap,cur,rfl,N,I,Q,R,K,O⟩⟩
 ·by_cases E:m=0
  ·subst E;have L:=r;obtain⟨f,o⟩:∃f,(Vt #[T,T] T #[.slice none 0 0,.slice (some a) 0 c]).run prog W=.ok (.slice none 0 0) f:=by
    rcases s.kind with⟨e',B⟩|B<;>exact⟨_,by simp[Vt,X0 G,X0 B,sizeOf,typeInfo,H,s.len,s.cells];rfl⟩
   rw[o]at r;injection r with hr1 o
   left;rw[<-hr1]
  ·exact d none 0 [] rfl oM (run_firstCells_none W.drew i.size 0 0 0)
 ·by_cases f:n+m<=cap
  ·have p:=Y9 (P:=prog) W T T T e i G H g 0 n cap (.slice (some a) m c) m k s f
    (λj B=>by
     have E:n*i.size+j<cur.size:=by
      rw[K];have F:j<m*i.size:=by rw[<-s.newsLen];exact B
      have A:(n+m)*i.size<=cap*i.size:=Xu _ f;rw[XH]at A;omega
     simp[VY,I,UD,U0 E])
    (λj B=>by simp[WY,I])
   rw[p]at r;injection r with hr1 o
   left;rw[<-hr1];rfl
  ·refine d (some (aZ g)) cap xs rfl oM ?_;exact run_firstCells_some W.drew i.size n (aZ g) n cap xs b.1 (λj u B=>by rw[Y0];exact b.cells (g:=g) rfl j u B)
theorem Gp{P:VD}{k:Array Vk}{o:Vk}{a:Act}{w:Ur}{Q:Yq->Act->Ur->Prop}{E:Prop}(g:o.guard=none)(s x:XI)(t d:U8)
 (ho:o.op=.call { callee:=.builtin .append,args:=#[s,x],argTypes:=#[t,d] }) (vs b:Ut) (f:a.eval s=vs) (hx:a.eval x=b)
 (c:Ut) (w':Ur) (e:(Vt #[t,d] o.type #[vs,b]).run P w=.ok c w') (h:K (a.put o.dst c) w'):if V4 o (yielded k a.tmps)=true then VT P o a w K Q else E:=by
 have i:V4 o (yielded k a.tmps)=true:=by simp[V4,g]
 rw[yCl i];exact Lib.wp_append_run w s x t d ho vs b f hx c w' e h
theorem Hz:prog.underlying 107=some (.slice 112):=kR
theorem Pr:(prog.info? 112).map (λi=>(i.size,i.bytes,i.zero.map λz=>z.cells.size))=some (2,16,some 2):=kR
def pC(x:Ww × Nat):List Ut:=[.pointer (some x.1),iZ (x.2:Int)]
def psC(k:List (Ww × Nat)):List Ut:=k.flatMap pC
theorem nX:∀k:List (Ww × Nat),(psC k).length=k.length*2
 | []=>rfl
 | x :: r=>by
  have:=nX r;unfold psC at *;rw[List.flatMap_cons,UA,this,Vj];show 2+_=_;omega
theorem Ma(a b:List (Ww × Nat)):psC (a++b)=psC a++psC b:=List.flatMap_append
theorem EJ:∀(k:List (Ww × Nat)),∀u∈psC k,u.oneCell'=true:=by
 intro k u b;obtain⟨x,-,hx⟩:=List.mem_flatMap.1 b;unfold pC at hx;simp only[VX,UY,or_false]at hx;rcases hx with rfl|rfl<;>rfl
theorem IJ:∀(k:List (Ww × Nat)) (j:Nat) (x:Ww × Nat),k[j]? = some x->(psC k)[2*j]? = some (.pointer (some x.1))/\(psC k)[2*j+1]? = some (iZ (x.2:Int))
 | [],j,x,h=>by simp at h
 | y :: r,0,x,h=>by
  obtain rfl:y=x:=by simpa using h
  exact⟨rfl,rfl⟩
 | y :: r,j+1,x,h=>by
  have:=IJ r j x (by simpa using h);have e:psC (y :: r)=pC y++psC r:=rfl;rw[e,U1 (by show 2<=_;omega),U1 (by show 2<=_;omega)];show(psC r)[2*(j+1)-2]? = _/\(psC r)[2*(j+1)+1-2]? = _;rw[show 2*(j+1)-2=2*j by omega,show 2*(j+1)+1-2=2*j+1 by omega];exact this
structure PLs(w W:Ur)(v:Ut)(ps:List (Ww × Nat)):Prop where
 bl:kZ w W
 ow:W.ownsRow w.heap.size 112 2 v ps.length (psC ps)
 nn:v.ownBlock≠none
theorem PLs.lt{w W:Ur}{v:Ut}{b:List (Ww × Nat)}(h:PLs w W v b):∃g cap,v=sZ g b.length cap/\w.heap.size<=g/\g<W.heap.size:=by
 rcases id h.ow with⟨-,⟨rfl,e⟩|⟨g,cap,cur,rfl,c,k,-⟩⟩
 ·exact absurd rfl h.nn
 ·refine⟨g,cap,rfl,c,?_⟩;by_cases d:g<W.heap.size
  ·exact d
  ·rw[WP oM]at k;cases k
theorem PLs.below{w W W':Ur}{v:Ut}{c:List (Ww × Nat)}(h:PLs w W v c)(e:kZ W W'):PLs w W' v c:=by
 refine⟨h.bl.trans (e.mono h.bl.size),?_,h.nn⟩;rcases h.ow with⟨d,k|⟨g,cap,cur,k,i,b,f⟩⟩
 ·exact⟨d,U4 k⟩
 ·refine⟨d,UX ⟨g,cap,cur,k,i,?_,f⟩⟩;rw[e.block g (by
   by_cases j:g<W.heap.size
   ·exact j
   ·rw[WP oM]at b;cases b)]
  exact b
theorem PLs.app{w W:Ur}{v:Ut}{f ys:List (Ww × Nat)}{b m c:Nat}(h:PLs w W v f)(hx:W.rangeAt b 0 (psC ys))(l:ys.length=m)(J:f.length+m<=1000000)(C:0<m):
 ∃e W',(Vt #[107,107] 107 #[v,sZ b m c]).run prog W=.ok e W'/\PLs w W' e (f++ys)/\W.grownBy W' v.ownBlock/\(e.ownBlock=v.ownBlock\/e.ownBlock=some W.heap.size):=by
 obtain⟨i,t,o⟩:=Uy.1 Pr;simp only[V8.injEq]at o;obtain⟨q,E,G⟩:=o;obtain⟨z,s,n⟩:=Uy.1 G;obtain⟨g,cap,rfl,D,A⟩:=h.lt;have a:∀(j:Nat) u,(psC ys)[j]? = some u->W.cell? ((⟨b,0,none⟩:Ww).add j)=some u:=λj u I=>by rw[lH];exact hx j u I
 obtain⟨e,W',y,r,d,B⟩:=Y3 (P:=prog) W w.heap.size 107 107 112 i z 2 16 Hz t s q E n dC _ f.length (psC f) h.ow (aZ b) m c (psC ys) (by rw[nX,l]) a (EJ ys) (by unfold maxLen;omega) oM h.bl.size;have H:=wX (c:=c) Hz t s q oM h.ow (yAD (P:=prog) (size:=2) W Hz (aZ b) m c (psC ys) (by rw[nX,l]) a (EJ ys)) oM y;refine⟨e,W',y,⟨⟨by rw[d.os,h.bl.os],by rw[d.tape,h.bl.tape],by rw[d.output,h.bl.output],UC h.bl.size d.size,λk x=>?_⟩,?_,?_⟩,d,H⟩
 ·rw[d.block k (Ux x h.bl.size) (by simp[Wp];omega)];exact h.bl.block k x
 ·rw[UA,l,Ma];exact r
 ·rcases r.2 with⟨F,-⟩|⟨K,p,cur,rfl,-⟩
  ·have:=(B.1 F).1;exact absurd this (by simp)
  ·simp[Wp]
theorem PLs.at{w W:Ur}{g n c:Nat}{b:List (Ww × Nat)}(h:PLs w W (sZ g n c) b)(j:Nat)(x:Ww × Nat)(e:b[j]? = some x):W.rangeAt g (2*j) (pC x):=λk u f=>by
 have d:=IJ b j x e;have:=h.ow.cells (g:=g) rfl (2*j+k) u (by
  match k,f with
  | 0,h=>rw[<-h];exact d.1
  | 1,h=>rw[<-h];exact d.2)
 rw[lH,UD]at this;exact this
theorem Mj(w:Ur)(k:List (Ww × Nat))(b:k.length<=1000000):PLs w (w.alloc (.cells (psC k).toArray 112)) (sZ w.heap.size k.length k.length) k:=
 ⟨aO w _,⟨nX k,.inr ⟨w.heap.size,k.length,(psC k).toArray,rfl,Uw _,WW,Uw _,by unfold maxLen;omega,by rw[VC,nX],by rw[<-nX k];simp⟩⟩,by simp[Wp]⟩
def lp(b o n:Nat):List (Ww × Nat):=(VG n).map λj=>((⟨b,o+j,none⟩:Ww),33)
def tH(k:Nat):List (Ww × Nat):=[(⟨k,0,none⟩,33),(⟨k,1,none⟩,33),(⟨k,2,none⟩,33),(⟨k,3,none⟩,33),(⟨k,4,none⟩,32),(⟨k,5,none⟩,32),(⟨k,6,none⟩,32)]
def endP(k:Nat):List (Ww × Nat):=[(⟨k,9,none⟩,32),(⟨k,10,none⟩,32)]
theorem MD(b o n:Nat):lp b o (n+1)=lp b o n++[(⟨b,o+n,none⟩,33)]:=by
 unfold lp;rw[List.range_succ,Wq];rfl
theorem jK(b o n:Nat):(lp b o n).length=n:=by unfold lp;simp
def sU(k d c b f or e:Nat):Nat->List (Ww × Nat)
 | 0=>tH k
 | 1=>tH k++lp d c b
 | _=>tH k++lp d c b++lp f or e
structure PI(w w1 w2 W:Ur)(v:Ut)(ps:List (Ww × Nat)):Prop where
 pl:PLs w W v ps
 ne:v.ownBlock≠some w1.heap.size
 eq:W.heap[w1.heap.size]? = w2.heap[w1.heap.size]?
 sz:w2.heap.size<=W.heap.size
theorem PI.app{w k f W:Ur}{v:Ut}{d:List (Ww × Nat)}{x:Ww × Nat}(h:PI w k f W v d)(n:k.heap.size<f.heap.size)(s:d.length<=10000):
 ∃b W',(Vt #[107,107] 107 #[v,sZ W.heap.size 1 1]).run prog (W.alloc (.cells (pC x).toArray 112))=.ok b W'/\PI w k f W' b (d++[x]):=by
 have i:=aO W (.cells (pC x).toArray 112);have j:(W.alloc (.cells (pC x).toArray 112)).rangeAt W.heap.size 0 (psC [x]):=by
  have e:psC [x]=pC x:=Xw _;rw[e];exact eI W (pC x) _
 obtain⟨b,W',q,o,g,l⟩:=(h.pl.below i).app (m:=1) (c:=1) j rfl oM dC;have t:=h.sz;have p:(W.alloc (.cells (pC x).toArray 112)).heap.size=W.heap.size+1:=UB _ _;refine⟨b,W',q,o,?_,?_,?_⟩
 ·rcases l with e|e
  ·rw[e];exact h.ne
  ·rw[e,p];intro h;have:=UO.inj h;omega
 ·rw[g.block k.heap.size oM (λr=>h.ne r.symm),i.block k.heap.size oM];exact h.eq
 ·have:=g.size;omega
theorem TT(b o n c i:Nat)(k:i<n)(w:Ur):(Vl 24 (.slice (some ⟨b,o,none⟩) n c) (iZ i)).run prog w=.ok (.pointer (some ⟨b,o+i,none⟩)) w:=by
 have d:¬(i:Int)<0:=oM;have f:(i:Int)<(n:Int):=oM;have e:=lH b o i;go_simp
theorem zP(d:Nat)(l r:Sv)(t y z or:Nat)(w:Ur)(G:d<w.heap.size)(h7:w.cell? ⟨d,7,none⟩=some l.v)(Z:w.cell? ⟨d,8,none⟩=some r.v)
 (N:l.n=0\/l.q=some ⟨t,y,none⟩) (I:r.n=0\/r.q=some ⟨z,or,none⟩) (F:l.n<=1000) (C:r.n<=1000) :
 UH prog 55 #[.pointer (some ⟨d,0,none⟩)] w λe w'=>∃v,e=.returned v/\PLs w w' v (tH d++lp t y l.n++lp z or r.n++endP d):=by
 obtain⟨P,s,cl⟩:=l;obtain⟨Q,u,cr⟩:=r;dsimp only[Sv.v]at *;obtain⟨f,E⟩:∃f,Hid ((w.alloc (.cells #[.pointer (some ⟨d,0,none⟩),.int .i64 33,.pointer (some ⟨d,1,none⟩),.int .i64 33,.pointer (some ⟨d,2,none⟩),.int .i64 33,.pointer (some ⟨d,3,none⟩),.int .i64 33,.pointer (some ⟨d,4,none⟩),.int .i64 32,.pointer (some ⟨d,5,none⟩),.int .i64 32,.pointer (some ⟨d,6,none⟩),.int .i64 32] 112)).drew=f):=⟨_,rfl⟩
 obtain⟨a,A⟩:∃a,Hid ((f.alloc (.cells #[.slice P s cl,.slice Q u cr] 24)).drew=a):=⟨_,rfl⟩
 have D:∀W:Ur,Below W.heap.size W W.drew:=λW=>⟨rfl,rfl,rfl,Uw _,λ_ _=>rfl⟩
 have p1:PLs w f (.slice (some ⟨w.heap.size,0,none⟩) 7 7) (tH d):=by
  rw[<-E.out];exact(Mj w (tH d) (by show 7<=_;omega)).below (D _)
 have b2:Below f.heap.size f a:=by
  rw[<-A.out];exact(aO f _).trans ((D _).mono (by rw[UB];omega))
 have p2:=p1.below b2;have c7:f.cell? ⟨d,7,none⟩=some (.slice P s cl):=by rw[p1.bl.cell (p:=⟨d,7,none⟩) G];exact h7
 have c8:f.cell? ⟨d,8,none⟩=some (.slice Q u cr):=by rw[p1.bl.cell (p:=⟨d,8,none⟩) G];exact Z
 have d0:a.cell? ⟨f.heap.size,0,none⟩=some (.slice P s cl):=by rw[<-A.out,Y0];exact cZ f _ _ 0 _ rfl
 have d1:a.cell? ⟨f.heap.size,1,none⟩=some (.slice Q u cr):=by rw[<-A.out,Y0];exact cZ f _ _ 1 _ rfl
 have s2:f.heap.size<a.heap.size:=by rw[<-A.out,yA8,UB];omega
 have S:Hid (PI w f a a (.slice (some ⟨w.heap.size,0,none⟩) 7 7) (sU d t y s z or u 0)):=⟨p2,by
  have:f.heap.size=w.heap.size+1:=by rw[<-E.out,yA8,UB]
  simp[Wp];omega,rfl,Uw _⟩
 have HN:Hid (∀(i:Nat) (W:Ur),i<2->W.heap[f.heap.size]? = a.heap[f.heap.size]?->∃q n c b o,W.cell? ⟨f.heap.size,i,none⟩=some (.slice q n c)/\(n=0\/q=some ⟨b,o,none⟩)/\n<=1000/\sU d t y s z or u (i+1)=sU d t y s z or u i++lp b o n/\(sU d t y s z or u i).length<=1007):=λi W R hW=>by
  have B:∀k,W.cell? ⟨f.heap.size,k,none⟩=a.cell? ⟨f.heap.size,k,none⟩:=λk=>by
   unfold VY;rw[hW]
  match i,R with
  | 0,_=>exact⟨P,s,cl,t,y,by rw[B];exact d0,N,F,rfl,by show 7<=_;omega⟩
  | 1,_=>exact⟨Q,u,cr,z,or,by rw[B];exact d1,I,C,rfl,by show(tH d++lp t y s).length<=_;rw[UA,jK];show 7+s<=_;omega⟩
 have U:=Hid.mkP s2;clear p1 p2 b2 h7 Z d0 d1 s2 D N I;go_enter func55,ntmps55;go_wp2;go_region
 rw[E.out];go_wp2;go_region
 rw[A.out];go_wp2;go_loopg [4,50] 2 (λgk s4 s50 wr=>∃i:Nat,i+gk=2/\s50=.int .i64 i/\Hid (PI w f a wr s4 (sU d t y s z or u i)))
 case atStart=>exact⟨0,rfl,rfl,S⟩
 case round =>
  obtain⟨i,R,rfl,K⟩:=hrel;by_cases h2:i<2
  ·obtain⟨q,n,c,b,o,e1,H,e3,e4,e5⟩:=HN.out i wr h2 K.eq;have X:(i:Int)<2:=oM;have h0:∀W:Ur,(Vl 213 (.slice (some ⟨f.heap.size,0,none⟩) 2 2) (.int .i64 i)).run prog W=.ok (.pointer (some ⟨f.heap.size,i,none⟩)) W:=λW=>by
    have C:¬(i:Int)<0:=oM;have B:=lH f.heap.size 0 i;rw[UD]at B;go_simp
   have E2:=Hid.mkP H;have E4:=Hid.mkP e4;have E5:=Hid.mkP e5;clear H e4 e5;obtain⟨g,cap,rfl,-,-⟩:=K.pl.lt;have V:Hid (i+gk=2):=R;clear R;go_wp2;go_loopg [4,56] n (λm s4 s56 wi=>∃j:Nat,j+m=n/\s56=.int .i64 j/\Hid (PI w f a wi s4 (sU d t y s z or u i++lp b o j)))
   case atStart=>exact⟨0,oM,rfl,by
    have e:lp b o 0=[]:=rfl;rw[e,Xw];exact K⟩
   case round =>
    clear K;obtain⟨j,hj,rfl,K⟩:=hrel;obtain⟨g,cap,rfl,-,-⟩:=K.pl.lt;have N:(sU d t y s z or u i++lp b o j).length<=10000:=by
     have:=E5.out;rw[UA,jK];omega
    by_cases T:j<n
    ·have L:(j:Int)<(n:Int):=oM;obtain rfl:q=some ⟨b,o,none⟩:=by
      rcases E2.out with h|h
      ·omega
      ·exact h
     have h4:=TT b o n c j T;obtain⟨O,B⟩:∃O,Hid (wr.alloc (.cells (pC (⟨b,o+j,none⟩,33)).toArray 112)=O):=⟨_,rfl⟩
     obtain⟨v',W',F,C⟩:=K.app (x:=(⟨b,o+j,none⟩,33)) U.out N;rw[B.out]at F;obtain⟨g',J,rfl,-,-⟩:=C.pl.lt;generalize (sU d t y s z or u i++lp b o j++[((⟨b,o+j,none⟩:Ww),33)]).length=N2 at F C;rw[Vx,<-MD]at C;have M:=Hid.mkP C;have Y:=Hid.mkP F;generalize (sU d t y s z or u i++lp b o j).length=N1 at Y⊢;clear K F C N;go_wp2_with (first|(refine aY (v:=.slice (some ⟨wr.heap.size,0,none⟩) 1 1) (w':=O) rfl (.buildSlice 107 1 #[(0,.tmp 63)]) rfl ?_ ?_;(rw[<-B.out];kernel_rfl))|(at_builtin;refine WL O rfl _ _ _ _ rfl _ _ rfl rfl _ _ Y.out ?_)|fail)
     go_roundg (gk-1)
     case measure=>omega
     case rel=>exact⟨j+1,oM,rfl,M⟩
    ·have L:¬(j:Int)<(n:Int):=oM;obtain rfl:j=n:=oM;rw[<-E4.out]at K⊢;go_wp2;go_roundg (1-i)
     case measure =>
      have:=V.out;omega
     case rel=>exact⟨i+1,oM,rfl,K⟩
  ·have X:¬(i:Int)<2:=oM;obtain rfl:i=2:=oM;obtain⟨g,cap,rfl,-,-⟩:=K.pl.lt;have L:(sU d t y s z or u 2).length<=2007:=by
    show(tH d++lp t y s++lp z or u).length<=_;rw[UA,UA,jK,jK];show 7+_+_<=_;omega
   have O:=(aO wr (.cells (psC (endP d)).toArray 112)).trans (⟨rfl,rfl,rfl,Uw _,λ_ _=>rfl⟩:Below wr.heap.size (wr.alloc (.cells (psC (endP d)).toArray 112)) (wr.alloc (.cells (psC (endP d)).toArray 112)).drew);have I:(wr.alloc (.cells (psC (endP d)).toArray 112)).drew.rangeAt wr.heap.size 0 (psC (endP d)):=by
    rw[World.rangeAt_drew];exact eI wr _ _
   obtain⟨v',W',F,C,-,-⟩:=(K.pl.below O).app (m:=2) (c:=2) I rfl oM dC;have B:Hid ((Vt #[107,107] 107 #[.slice (some ⟨g,0,none⟩) (sU d t y s z or u 2).length cap,.slice (some ⟨wr.heap.size,0,none⟩) 2 2]).run prog (wr.alloc (.cells #[.pointer (some ⟨d,9,none⟩),.int .i64 32,.pointer (some ⟨d,10,none⟩),.int .i64 32] 112)).drew=.ok v' W'):=F;have M:=Hid.mkP C;obtain⟨g',J,rfl,-,-⟩:=C.lt;have H:sU d t y s z or u 2++endP d=tH d++lp t y s++lp z or u++endP d:=rfl;rw[H]at M B;generalize (tH d++lp t y s++lp z or u++endP d).length=N2 at M B;generalize (sU d t y s z or u 2).length=N1 at B⊢;clear K L F C O I H;go_wp2;go_region_law (refine Gp rfl (.tmp 68) (.tmp 77) 107 107 rfl (.slice (some ⟨g,0,none⟩) N1 cap) (.slice (some ⟨wr.heap.size,0,none⟩) 2 2) (by simp[yAE,UN]) (by simp[yAE,UN]) _ _ B.out ?_)
   go_wp2;go_ret;exact⟨_,rfl,M.out⟩
theorem Je:(prog.info? 5).map (λi=>(i.size,i.bytes,i.zero.map λz=>z.cells.size))=some (1,1,some 1):=kR
def bC(b:SP.Bs):List Ut:=b.toList.map SP.encB
theorem yR(b:SP.Bs):(bC b).length=b.size:=by unfold bC;simp
theorem Bp(b:SP.Bs):∀u∈bC b,u.oneCell'=true:=by
 intro u k;obtain⟨x,-,rfl⟩:=Vn.1 k;rfl
theorem Qe(a b:SP.Bs):bC (a++b)=bC a++bC b:=by unfold bC;simp
theorem Pt.vl{W:Ur}{q:Option Ww}{n c:Nat}{b:SP.Bs}(h:Pt W (.slice q n c) b):n=b.size/\VL W q n (bC b):=by
 obtain⟨p,r,m,k⟩:=h;injection m with e1 e2 e3
 subst e1 e2;refine⟨rfl,⟨yR b,?_,?_,Bp b⟩⟩
 ·intro d;rcases k with k|⟨g,o,e,-⟩
  ·exact k
  ·rw[d]at e;cases e
 ·rcases k with k|⟨g,o,e,i,l⟩
  ·left;have:(bC b).length=0:=by rw[yR];exact k
   exact List.length_eq_zero_iff.1 this
  ·right;refine⟨g,o,e,i,λj u f=>?_⟩;unfold bC at f;rw[Vz]at f;obtain⟨x,hx,rfl⟩:=Uy.1 f;have d:j<b.size:=by
    have:=(UF.1 hx).1;simpa using this
   rw[(l j d).1];rw[getElem!_pos b j d];have:=(UF.1 hx).2;rw[Array.getElem_toList]at this;rw[this]
structure PuI(w w4 W:Ur)(gp gq:Nat)(v:Ut)(b:SP.Bs):Prop where
 bl:kZ w W
 ow:W.ownsRow w.heap.size 5 1 v b.size (bC b)
 nn:v.ownBlock≠none
 n1:v.ownBlock≠some gp
 n2:v.ownBlock≠some gq
 e1:W.heap[gp]? = w4.heap[gp]?
 e2:W.heap[gq]? = w4.heap[gq]?
 sz:w4.heap.size<=W.heap.size
 l1:gp<w4.heap.size
 l2:gq<w4.heap.size
theorem PuI.lt{w f W:Ur}{c d:Nat}{v:Ut}{b:SP.Bs}(h:PuI w f W c d v b):∃g cap,v=sZ g b.size cap/\w.heap.size<=g/\g<W.heap.size:=by
 rcases id h.ow with⟨-,⟨rfl,j⟩|⟨g,cap,cur,rfl,e,k,-⟩⟩
 ·exact absurd rfl h.nn
 ·refine⟨g,cap,rfl,e,?_⟩;by_cases i:g<W.heap.size
  ·exact i
  ·rw[WP oM]at k;cases k
theorem PuI.below{w i W W':Ur}{e f:Nat}{v:Ut}{b:SP.Bs}(h:PuI w i W e f v b)(k:kZ W W'):PuI w i W' e f v b:=by
 have l:=h.sz;refine⟨h.bl.trans (k.mono h.bl.size),?_,h.nn,h.n1,h.n2,by rw[k.block e (by have:=h.l1;omega)];exact h.e1,by rw[k.block f (by have:=h.l2;omega)];exact h.e2,UC l k.size,h.l1,h.l2⟩;rcases h.ow with⟨j,c|⟨g,cap,cur,c,m,d,o⟩⟩
 ·exact⟨j,U4 c⟩
 ·refine⟨j,UX ⟨g,cap,cur,c,m,?_,o⟩⟩;rw[k.block g (by
   by_cases n:g<W.heap.size
   ·exact n
   ·rw[WP oM]at d;cases d)]
  exact d
theorem zB:prog.underlying 23=some (.slice 5):=kR
theorem PuI.app{w r W:Ur}{m n:Nat}{v:Ut}{b x:SP.Bs}{q:Option Ww}{c:Nat}(h:PuI w r W m n v b)(hx:VL W q x.size (bC x))(M:b.size+x.size<=1000000):
 ∃l W',(Vt #[23,23] 23 #[v,.slice q x.size c]).run prog W=.ok l W'/\PuI w r W' m n l (b++x):=by
 obtain⟨i,t,A⟩:=Uy.1 Je;simp only[V8.injEq]at A;obtain⟨C,J,K⟩:=A;obtain⟨z,E,s⟩:=Uy.1 K;obtain⟨g,cap,rfl,H,G⟩:=h.lt;have I:=h.sz;cases q with
 | none =>
  have B:=hx.nil rfl;obtain rfl:x=#[]:=ZI B;rcases id h.ow with⟨-,⟨d,-⟩|⟨F,y,cur,d,L,N,D,O⟩⟩
  ·cases d
  ·injection d with d _ h0'
   injection d with d
   injection d with d
   subst d h0';have p:=Y9 (P:=prog) W 23 23 23 5 i zB t g 0 b.size cap (.slice none 0 c) 0 [] (Src.ofNil (e':=5) _ zB c) D (λj f=>by cases f) (λj f=>by cases f);refine⟨_,_,p,?_⟩;rw[Array.append_empty];exact h
 | some a =>
  have p:∀(j:Nat) u,(bC x)[j]? = some u->W.cell? (a.add j)=some u:=λj u f=>by
   rcases hx.cells with d|⟨b,o,y,-,p⟩
   ·rw[d]at f;cases f
   ·obtain rfl:=UO.inj y;rw[lH];exact p j u f
  obtain⟨l,W',F,L,d,N⟩:=Y3 (P:=prog) W w.heap.size 23 23 5 i z 1 1 zB t E C J s dC _ b.size (bC b) h.ow a x.size c (bC x) (by rw[yR];omega) p (Bp x) (by unfold maxLen;omega) oM h.bl.size;have D:=wX (c:=c) zB t E C oM h.ow (yAD (P:=prog) (size:=1) W zB a x.size c (bC x) (by rw[yR];omega) p (Bp x)) oM F;have B:∀k,k<r.heap.size->l.ownBlock≠some k\/(sZ g b.size cap).ownBlock=some k:=λk y=>by
   rcases D with e|e
   ·by_cases hh:(sZ g b.size cap).ownBlock=some k
    ·exact UX hh
    ·left;rw[e];exact hh
   ·left;rw[e];intro hh;have:=UO.inj hh;omega
  refine⟨l,W',F,⟨⟨by rw[d.os,h.bl.os],by rw[d.tape,h.bl.tape],by rw[d.output,h.bl.output],UC h.bl.size d.size,λk y=>?_⟩,?_,?_,?_,?_,?_,?_,?_,h.l1,h.l2⟩⟩
  ·rw[d.block k (Ux y h.bl.size) (by simp[Wp];omega)];exact h.bl.block k y
  ·rw[Array.size_append,Qe];exact L
  ·rcases D with e|e<;>rw[e]
   ·simp[Wp]
   ·simp
  ·rcases B m h.l1 with e|e
   ·exact e
   ·exact absurd e h.n1
  ·rcases B n h.l2 with e|e
   ·exact e
   ·exact absurd e h.n2
  ·rw[d.block m (by have:=h.l1;omega) (λe=>h.n1 e.symm)];exact h.e1
  ·rw[d.block n (by have:=h.l2;omega) (λe=>h.n2 e.symm)];exact h.e2
  ·exact UC I d.size
theorem Dy{t n m size c:Nat}{T:U8}{i:TypeInfo}{z:Ut}{W W':Ur}{v w:Ut}{k:List Ut}{a:Ww}(G:prog.underlying T=some (.slice e))(H:prog.info? e=some i)(M:i.zero=some z)(D:i.size=size)(C:i.bytes<=1000)
 (b:W.ownsRow t e size v n xs) (s:Src prog size T (.slice (some a) m c) m k W) (d:n+m<=1000000000)
 (r:(Vt #[T,T] T #[v,.slice (some a) m c]).run prog W=.ok w W'):w.ownBlock=v.ownBlock\/(w.ownBlock=some W.heap.size/\kZ W W'):=by
 subst D;have f:∀(q:Option Ww) (cap:Nat) (olds:List Ut),v=.slice q n cap->cap<n+m->(Zj i.size n (.slice q n cap)).run prog W.drew=.ok olds.toArray W.drew->w.ownBlock=v.ownBlock\/(w.ownBlock=some W.heap.size/\kZ W W'):=λq cap olds hv J y=>by
  have F:=uC (n+m) cap J;have A:Yu (n+m) cap*i.bytes<=(2*(n+m)+768)*1000:=WS F C;have p:=run_append_grow_src (P:=prog) W T T T e i z G H M q n cap olds y (.slice (some a) m c) m k s J (by omega) (UC A (by clear F A;omega));rw[hv,p]at r;injection r with hr1 d
  right;refine⟨by rw[<-hr1];rfl,?_⟩;rw[<-d];exact(⟨rfl,rfl,rfl,Uw _,λ_ _=>rfl⟩:kZ W W.drew).trans (aO W.drew _)
 rcases id b with⟨-,⟨rfl,rfl⟩|⟨g,cap,cur,rfl,N,I,Q,R,K,O⟩⟩
 ·by_cases E:m=0
  ·subst E;have L:=r;obtain⟨o,d⟩:∃o,(Vt #[T,T] T #[.slice none 0 0,.slice (some a) 0 c]).run prog W=.ok (.slice none 0 0) o:=by
    rcases s.kind with⟨e',B⟩|B<;>exact⟨_,by simp[Vt,X0 G,X0 B,sizeOf,typeInfo,H,s.len,s.cells];rfl⟩
   rw[d]at r;injection r with hr1 d
   left;rw[<-hr1]
  ·exact f none 0 [] rfl (by omega) (run_firstCells_none W.drew i.size 0 0 0)
 ·by_cases o:n+m<=cap
  ·have p:=Y9 (P:=prog) W T T T e i G H g 0 n cap (.slice (some a) m c) m k s o
    (λj B=>by
     have E:n*i.size+j<cur.size:=by
      rw[K];have F:j<m*i.size:=by rw[<-s.newsLen];exact B
      have A:(n+m)*i.size<=cap*i.size:=Xu _ o;rw[XH]at A;omega
     simp[VY,I,UD,U0 E])
    (λj B=>by simp[WY,I])
   rw[p]at r;injection r with hr1 d
   left;rw[<-hr1];rfl
  ·refine f (some (aZ g)) cap xs rfl (by omega) ?_;exact run_firstCells_some W.drew i.size n (aZ g) n cap xs b.1 (λj u B=>by rw[Y0];exact b.cells (g:=g) rfl j u B)
structure Ap1(W W':Ur)(v v':Ut):Prop where
 os:W'.os=W.os
 tape:W'.tape=W.tape
 output:W'.output=W.output
 size:W.heap.size<=W'.heap.size
 keep:∀g,g<W.heap.size->v.ownBlock≠some g->W'.heap[g]? = W.heap[g]?
 mv:v'.ownBlock=v.ownBlock\/((∃g,v'.ownBlock=some g/\W.heap.size<=g)/\∀g,g<W.heap.size->W'.heap[g]? = W.heap[g]?)
theorem bZ{W W':Ur}{b n k:Nat}{v:Ut}(h:W.ownsRow b e k v n xs)(l:∀g,v.ownBlock=some g->W'.heap[g]? = W.heap[g]?):W'.ownsRow b e k v n xs:=by
 rcases h with⟨c,i|⟨g,cap,cur,rfl,d,j,f⟩⟩
 ·exact⟨c,U4 i⟩
 ·exact⟨c,UX ⟨g,cap,cur,rfl,d,by rw[l g rfl];exact j,f⟩⟩
theorem jG{W:Ur}{b n k g:Nat}{v:Ut}(h:W.ownsRow b e k v n xs)(c:v.ownBlock=some g):b<=g/\g<W.heap.size/\∃cur,W.heap[g]? = some (.cells cur e (0,0)):=by
 rcases h with⟨l,⟨rfl,-⟩|⟨f,cap,cur,rfl,i,d,j⟩⟩
 ·cases c
 ·obtain rfl:f=g:=UO.inj c;refine⟨i,?_,cur,d⟩;by_cases c:f<W.heap.size
  ·exact c
  ·rw[WP (by omega)]at d;cases d
theorem Dx{W:Ur}{B g c:Nat}{b:SP.Bs}(h:W.ownsRow B 5 1 (sZ g b.size c) b.size (bC b)):Holds SP.encB W g 0 b:=λk d=>by
 obtain⟨-,-,cur,f⟩:=jG h (g:=g) rfl;refine⟨?_,by simp[WY,f]⟩;have e:=h.cells (g:=g) rfl k (SP.encB b[k]!) (by
  unfold bC;rw[Vz,UG (by simpa using d),Option.map_some,getElem!_pos b k d];simp)
 rw[lH]at e;exact e
theorem FW{k n:Nat}{W:Ur}{v x:Ut}(b:W.ownsRow k 23 1 v n xs)(hx:x.oneCell'=true)(d:W.cell? ⟨ga,0,none⟩=some x)(I:n<=1000)(H:k<=W.heap.size):
 ∃f W',(Vt #[24,24] 24 #[v,sZ ga 1 1]).run prog W=.ok f W'/\W'.ownsRow k 23 1 f (n+1) (xs++[x])/\Ap1 W W' v f:=by
 obtain⟨i,y,r⟩:=Uy.1 Jf;simp only[V8.injEq]at r;obtain⟨s,E,F⟩:=r;obtain⟨z,t,p⟩:=Uy.1 F;have B:∀(j:Nat) u,[x][j]? = some u->W.cell? ((⟨ga,0,none⟩:Ww).add j)=some u:=λj u w=>by
  rw[lH,UD];have e:j=0:=by have:=(UF.1 w).1;simp at this;omega
  subst e;obtain rfl:x=u:=by simpa using w
  exact d
 have m:∀u∈[x],u.oneCell'=true:=λu D=>by
  obtain rfl:u=x:=by simpa using D
  exact hx
 obtain⟨f,W',A,G,e,-⟩:=Y3 (P:=prog) W k 24 24 23 i z 1 24 v7 y t s E p dC v n xs b (aZ ga) 1 1 [x] rfl B m (by unfold maxLen;omega) oM H;have C:=Dy (c:=1) v7 y t s oM b (yAD (P:=prog) (size:=1) W v7 (aZ ga) 1 1 [x] rfl B m) oM A;refine⟨f,W',A,G,e.os,e.tape,e.output,e.size,λg o hv=>e.block g o (λh=>hv h.symm),?_⟩;rcases C with h|⟨h,q⟩
 ·exact U4 h
 ·exact UX ⟨⟨_,h,Uw _⟩,λg o=>q.block g o⟩
section
variable {Q Q':Nat->Prop}{W:Ur}{v:Ut}{n:Nat}
theorem SmQ.mono2{l:List (Nat × Bs)}(h:SmQ Q W v l)(e:∀g,g<W.heap.size->Q g->Q' g):SmQ Q' W v l:=by
 obtain⟨g,c,b,f,d,k,i⟩:=h;exact⟨g,c,b,f,e g k d,k,i⟩
theorem SLq.mono2{a:Nat->Nat}(h:SLq Q W v n a)(e:∀g,g<W.heap.size->Q g->Q' g):SLq Q' W v n a:=by
 obtain⟨g,o,c,b,f,d,k,i⟩:=h;exact⟨g,o,c,b,f,e g k d,k,i⟩
theorem GLq.mono2{T:Nat->List (Nat × Bs)}(h:GLq Q W v n T)(k:∀g,g<W.heap.size->Q g->Q' g):GLq Q' W v n T:=by
 obtain⟨g,o,c,f,l,i,b,p⟩:=h;refine⟨g,o,c,f,l,k g b i,b,λj d=>?_⟩;obtain⟨x,e,m⟩:=p j d;exact⟨x,e,m.mono2 k⟩
theorem GRq.mono2{G H:Nat->List (Nat × Bs)}{U:List (Nat × Bs)}(h:GRq Q W v n G H U)(k:∀g,g<W.heap.size->Q g->Q' g):GRq Q' W v n G H U:=by
 obtain⟨e,j,f,c,i,d,b⟩:=h.ex;exact⟨e,j,f,c,i.mono2 k,d.mono2 k,b.mono2 k⟩
end
def ElQ(Q:Nat->Prop)(m:Nat)(W:Ur)(x:Ut)(b:Bs):Prop:=∃k c,x=sZ k m c/\m<=c/\b.size=m/\Q k/\k<W.heap.size/\Holds encB W k 0 b
section
variable {Q Q':Nat->Prop}{W W':Ur}{x:Ut}{m:Nat}{b:Bs}
theorem ElQ.keep(h:ElQ Q m W x b)(d:Kq Q W W'):ElQ Q m W' x b:=by
 obtain⟨k,c,n,p,o,f,g,l⟩:=h;refine⟨k,c,n,p,o,f,Ux g d.size,λj i=>?_⟩;have e:=d.block k f g;rw[UW (a:=⟨k,0+j,none⟩) e,VU (a:=⟨k,0+j,none⟩) e];exact l j i
theorem ElQ.mono2(h:ElQ Q m W x b)(j:∀g,g<W.heap.size->Q g->Q' g):ElQ Q' m W x b:=by
 obtain⟨k,c,f,l,i,n,d,e⟩:=h;exact⟨k,c,f,l,i,j k d n,d,e⟩
theorem ElQ.one(h:ElQ Q m W x b):x.cells=#[x]/\x.oneCell'=true:=by
 obtain⟨k,c,rfl,-⟩:=h;exact⟨rfl,rfl⟩
theorem ElQ.arg(h:ElQ Q 33 W x b):Arg33 W x b:=by
 obtain⟨k,c,rfl,f,e,-,g,d⟩:=h;exact⟨_,33,c,rfl,e,λ_=>⟨k,0,rfl,f,g,d⟩⟩
end
def r33(g:Nat):Ut:=sZ g 33 33
def r32(g:Nat):Ut:=sZ g 32 32
theorem fZ{a:Bs}(f:a.size=33)(w:Ur):UH prog 142 #[pvl a] w (rZ w λe w'=>ElQ (w.heap.size<=·) 33 w' e a/\∃g,e=r33 g):=by
 have i:=Hid.mk' (rM f w);obtain⟨c,b⟩:=hE (w.alloc (.cells (aA a).toArray 103));rw[b.out]at i;have K:Hid (Row c w.heap.size (aA a)/\kZ w c):=by rw[<-b.out];exact⟨aE w _ _,aC w _⟩
 obtain⟨va,k⟩:=hE (pvl a);have d:Hid ((Ve 103 va).run prog w=.ok (jZ w.heap.size) c):=by rw[<-k.out];exact i
 rw[k.out];have j:=QM w.heap.size;go_enter func142,ntmps142;go_wp2_with (first|(refine aF (u:=va) (v:=jZ w.heap.size) (w':=c) rfl 103 (.tmp 0) rfl ?_ ?_ ?_;rfl;exact d.out))
 go_ret;exact⟨_,rfl,K.2,⟨w.heap.size,33,rfl,oM,f,Uw _,K.1.1,row_holds K.1⟩,_,rfl⟩
structure TlL(Q:Nat->Prop)(base i:Nat)(W:Ur)(v:Ut)(B:Nat->Bs):Prop where
 ex:∃xs,W.ownsRow base 23 1 v i xs/\∀j,j<i->∃x,xs[j]? = some x/\ElQ Q 33 W x (B j)
def QH(r k:Nat)(b c:Ut)(g:Nat):Prop:=g≠r/\(g<k\/k+4<=g)/\b.ownBlock≠some g/\c.ownBlock≠some g
def Dj(W:Ur)(B i j:Nat)(v u:Ut):Prop:=∃l m:List Nat,(l++m).Nodup/\W.ownsRow 0 23 1 v i (l.map r33)/\W.ownsRow 0 23 1 u j (m.map r33)/\∀g,g∈l++m->B<=g/\g<W.heap.size
theorem O8{l m:List Nat}{g:Nat}(h:(l++m).Nodup)(k:g ∉ l++m):(l++[g]++m).Nodup:=by
 simp only[YY,WB,not_or,WO,XV,UY,not_false_eq_true,yBt,and_true,true_and]at *;grind
theorem MA{l m:List Nat}(h:(l++m).Nodup):(m++l).Nodup:=by
 simp only[YY]at *;grind
theorem IQ{W:Ur}{b d n:Nat}{T:U8}{v:Ut}(k:W.ownsRow b T 1 v n xs)(c:W.ownsRow d T 1 v n ys):xs=ys:=by
 have l:=k.1;have i:=c.1;rcases id k with⟨-,⟨-,e⟩|⟨g,cap,cur,rfl,-⟩⟩
 ·subst e;rw[ZP (by omega:xs.length=0),ZP (by omega:ys.length=0)]
 ·refine List.ext_getElem? λj=>?_
  by_cases m:j<n
  ·have f:=k.cells (g:=g) rfl j xs[j] (UG oM);have a2:=c.cells (g:=g) rfl j ys[j] (UG oM);rw[f]at a2;rw[UG (by omega:j<xs.length),UG (by omega:j<ys.length)];exact a2
  ·rw[Wz oM,Wz oM]
section
variable {W W' W1:Ur}{B i j:Nat}{v u:Ut}
theorem Dj.keep(h:Dj W B i j v u)(f:W.heap.size<=W'.heap.size)(hv:∀g,v.ownBlock=some g->W'.heap[g]? = W.heap[g]?)(d:∀g,u.ownBlock=some g->W'.heap[g]? = W.heap[g]?):Dj W' B i j v u:=by
 obtain⟨l,m,c,n,e,b⟩:=h;exact⟨l,m,c,bZ n hv,bZ e d,λg k=>⟨(b g k).1,Ux (b g k).2 f⟩⟩
theorem Dj.swap(h:Dj W B i j v u):Dj W B j i u v:=by
 obtain⟨l,m,b,d,c,e⟩:=h;exact⟨m,l,MA b,c,d,λg k=>e g (by rw[WB]at k⊢;exact k.symm)⟩
theorem Dj.app{g:Nat}{n:Ut}{b:Nat}(h:Dj W B i j v u)(p:B<=g/\W.heap.size<=g/\g<W'.heap.size)(w:W.heap.size<=W'.heap.size)(hx:W1.ownsRow b 23 1 v i xs)(hv:∀g,v.ownBlock=some g->W1.heap[g]? = W.heap[g]?)(t:∀g,u.ownBlock=some g->W'.heap[g]? = W.heap[g]?)(s:W'.ownsRow b 23 1 n (i+1) (xs++[r33 g])):Dj W' B (i+1) j n u:=by
 obtain⟨l,m,k,o,c,q⟩:=h;rw[IQ hx (bZ o hv)]at s;refine⟨l++[g],m,O8 k λe=>by have:=(q g e).2;omega,?_,bZ c t,λf d=>?_⟩
 ·rw[Wq];rcases s with⟨r,k|⟨g,cap,cur,rfl,o,c⟩⟩
  ·exact⟨r,U4 k⟩
  ·exact⟨r,UX ⟨g,cap,cur,rfl,WA _,c⟩⟩
 ·by_cases e:f=g
  ·rw[e];exact⟨p.1,p.2.2⟩
  ·have r:=q f (by simp only[WB,WO]at d⊢;grind);exact⟨r.1,Ux r.2 w⟩
end
def R3(W:Ur)(K:Nat)(x y:Ut):Prop:=K<W.heap.size/\∃k,k.length=2/\Row W K (x :: y :: k)
theorem R3.same{W W':Ur}{K:Nat}{x y:Ut}(h:R3 W K x y)(k:W.heap.size<=W'.heap.size)(e:W'.heap[K]? = W.heap[K]?):R3 W' K x y:=by
 obtain⟨c,b,f,d⟩:=h;exact⟨Ux c k,b,f,aV d k e⟩
structure Ph(w W:Ur)(r k iL iR n:Nat)(cL cR vL vR v va vb:Ut)(Lb Rb:Nat->Bs)(L:Bs)(a b:Nat->Nat)(G H:Nat->List (Nat × Bs))(U:List (Nat × Bs)):Prop where
 on:SP.Only r 0 32 w W
 rk:r<k
 wk:w.heap.size=k
 r0:Row W k [jZ r]
 r1:∃e:Array Ut,v=.agg e/\e.size=3/\e.all (·.oneCell')=true/\Row W (k+1) e.toList
 r2:Row W (k+2) [.slice none 0 0,.slice none 0 0,.slice none 0 0,.slice none 0 0]
 r3:R3 W (k+3) cL cR
 tL:TlL (QH r k vL vR) (k+4) iL W vL Lb
 tR:TlL (QH r k vL vR) (k+4) iR W vR Rb
 ne:∀g,vL.ownBlock=some g->vR.ownBlock≠some g
 la:SLq (QH r k vL vR) W va n a
 lb:SLq (QH r k vL vR) W vb n b
 gr:GRq (QH r k vL vR) W v n G H U
 lg:Holds encB W r 0 L
 ls:L.size=32
 dj:Dj W (k+4) iL iR vL vR
section
variable {w W W' W1:Ur}{r k iL iR n:Nat}{cL cR vL vR v va vb:Ut}{Lb Rb:Nat->Bs}{L:Bs}{a b:Nat->Nat}{G H:Nat->List (Nat × Bs)}{U:List (Nat × Bs)}
theorem TlL.lt{Q:Nat->Prop}{k i:Nat}{B:Nat->Bs}(h:TlL Q k i W v B){g:Nat}(c:v.ownBlock=some g):k<=g/\g<W.heap.size:=by
 obtain⟨xs,b,-⟩:=h.ex;have:=jG b c;exact⟨this.1,this.2.1⟩
theorem TlL.keep{Q:Nat->Prop}{k i:Nat}{B:Nat->Bs}(h:TlL Q k i W v B)(e:Kq Q W W')(ho:∀g,v.ownBlock=some g->W'.heap[g]? = W.heap[g]?):TlL Q k i W' v B:=by
 obtain⟨xs,d,l⟩:=h.ex;refine⟨xs,bZ d ho,λj b=>?_⟩;obtain⟨x,f,c⟩:=l j b;exact⟨x,f,c.keep e⟩
theorem TlL.mono2{Q Q':Nat->Prop}{k i:Nat}{B:Nat->Bs}(h:TlL Q k i W v B)(f:∀g,g<W.heap.size->Q g->Q' g):TlL Q' k i W v B:=by
 obtain⟨xs,d,l⟩:=h.ex;refine⟨xs,d,λj b=>?_⟩;obtain⟨x,e,c⟩:=l j b;exact⟨x,e,c.mono2 f⟩
theorem Ph.qn(h:Ph w W r k iL iR n cL cR vL vR v va vb Lb Rb L a b G H U):∀g,W.heap.size<=g->QH r k vL vR g:=λg c =>
 ⟨by have:=h.rk;have:=h.r0.1;omega,UX (by have:=h.r3.1;omega),λe=>by have:=h.tL.lt e;omega,λe=>by have:=h.tR.lt e;omega⟩
theorem Ph.any(h:Ph w W r k iL iR n cL cR vL vR v va vb Lb Rb L a b G H U)(q:SP.Only r 0 32 w W')(kq:Kq (QH r k vL vR) W W')(c:∀g,k<=g->g<k+4->W'.heap[g]? = W.heap[g]?)(i:∀g,vL.ownBlock=some g->W'.heap[g]? = W.heap[g]?)(j:∀g,vR.ownBlock=some g->W'.heap[g]? = W.heap[g]?){d:Bs}(p:Holds encB W' r 0 d)(f:d.size=32):Ph w W' r k iL iR n cL cR vL vR v va vb Lb Rb d a b G H U:=by
 obtain⟨e,l,m,e3,o⟩:=h.r1;exact⟨q,h.rk,h.wk,aV h.r0 kq.size (c k oM oM),⟨e,l,m,e3,aV o kq.size (c _ oM oM)⟩,aV h.r2 kq.size (c _ oM oM),h.r3.same kq.size (c _ oM oM),h.tL.keep kq i,h.tR.keep kq j,h.ne,h.la.keep kq,h.lb.keep kq,h.gr.keep kq,p,f,h.dj.keep kq.size i j⟩
theorem Ph.grow(h:Ph w W r k iL iR n cL cR vL vR v va vb Lb Rb L a b G H U)(c:kZ W W'):Ph w W' r k iL iR n cL cR vL vR v va vb Lb Rb L a b G H U:=by
 have e:=Holds.lt h.lg (by rw[h.ls];decide);exact h.any (h.on.trans (SP.Only.of_below c rfl e)) (Kq.of_below c) (λg f i=>c.block g (by have:=h.r3.1;omega)) (λg d=>c.block g (h.tL.lt d).2) (λg d=>c.block g (h.tR.lt d).2) (Holds.below h.lg c e) h.ls
theorem Ph.drew(h:Ph w W r k iL iR n cL cR vL vR v va vb Lb Rb L a b G H U):Ph w W.drew r k iL iR n cL cR vL vR v va vb Lb Rb L a b G H U:=h.grow ⟨rfl,rfl,rfl,Uw _,λ_ _=>rfl⟩
theorem Ph.say{e:Bs}(h:Ph w W r k iL iR n cL cR vL vR v va vb Lb Rb L a b G H U)(d:SP.Only r 0 32 W W')(i:Holds encB W' r 0 e)(f:e.size=32):Ph w W' r k iL iR n cL cR vL vR v va vb Lb Rb e a b G H U:=by
 have j:=h.rk;exact h.any (h.on.trans d) (Kq.of_only d λg c=>c.1) (λg l m=>d.block g (by have:=h.r3.1;omega) oM) (λg c=>d.block g (h.tL.lt c).2 (by have:=(h.tL.lt c).1;omega)) (λg c=>d.block g (h.tR.lt c).2 (by have:=(h.tR.lt c).1;omega)) i f
theorem FX{i n:Ut}{k:Nat}(b:SP.Only r 0 32 w W)(c:Ap1 W W' i n)(q:w.heap.size=k)(m:r<k)(hv:∀g,i.ownBlock=some g->k+4<=g):SP.Only r 0 32 w W':=by
 have p:=b.size;have f:∀j,j<k->W'.heap[j]? = W.heap[j]?:=λj l=>c.keep j oM λe=>by have:=hv j e;omega
 exact⟨c.os.trans b.os,c.tape.trans b.tape,c.output.trans b.output,UC b.size c.size,λj l d=>(f j oM).trans (b.block j l d),λo ho=>by rw[UW (a:=⟨r,o,none⟩) (f r m)];exact b.cell o ho,λo=>by rw[VU (a:=⟨r,o,none⟩) (f r m)];exact b.froz o⟩
theorem jM{W W':Ur}{r:Nat}{L:Bs}(h:Holds encB W r 0 L)(e:W'.heap[r]? = W.heap[r]?):Holds encB W' r 0 L:=λj k=>by
 rw[UW (a:=⟨r,0+j,none⟩) e,VU (a:=⟨r,0+j,none⟩) e];exact h j k
theorem TlL.app{Q Q':Nat->Prop}{k i:Nat}{B:Nat->Bs}{d x:Ut}(c:∀j,j<i->∃x,xs[j]? = some x/\ElQ Q 33 W x (B j))(b:xs.length=i)(ho:W'.ownsRow k 23 1 d (i+1) (xs++[x]))(hx:ElQ Q 33 W x (B i))(f:∀g,g<W.heap.size->Q g->Q' g)(kq:Kq Q' W W'):TlL Q' k (i+1) W' d B:=by
 refine⟨_,ho,λj n=>?_⟩;by_cases e:j=i
 ·subst e;exact⟨x,by rw[U1 oM,b];simp,(hx.mono2 f).keep kq⟩
 ·obtain⟨y,m,l⟩:=c j oM;exact⟨y,by rw[UT oM];exact m,(l.mono2 f).keep kq⟩
theorem Ph.appL{gx:Nat}(l:Ph w W1 r k iL iR n cL cR vL vR v va vb Lb Rb L a b G H U)(i:kZ W1 W)(o:ElQ (W1.heap.size<=·) 33 W (r33 gx) (Lb iL))(M:W.cell? ⟨ga,0,none⟩=some (r33 gx))(R:iL<=900):
 ∃j W',(Vt #[24,24] 24 #[vL,sZ ga 1 1]).run prog W=.ok j W'/\Ph w W' r k (iL+1) iR n cL cR j vR v va vb Lb Rb L a b G H U/\Ap1 W W' vL j:=by
 have h:=l.grow i;have hx:=o.mono2 λg _ c=>l.qn g c
 obtain⟨xs,s,C⟩:=h.tL.ex;obtain⟨j,W',K,t,A⟩:=FW s hx.one.2 M oM (by have:=h.r3.1;omega);have p:∀g,g<W.heap.size->QH r k vL vR g->QH r k j vR g:=λg c q=>⟨q.1,q.2.1,λe=>by
  rcases A.mv with m|⟨⟨B,m,z⟩,-⟩
  ·rw[m]at e;exact q.2.2.1 e
  ·rw[m]at e;have:=UO.inj e;omega,q.2.2.2⟩
 have kq:Kq (QH r k j vR) W W':=⟨A.size,λg q c=>by
  rcases A.mv with m|⟨-,m⟩
  ·exact A.keep g c (by rw[<-m];exact q.2.2.1)
  ·exact m g c⟩
 have d:∀g,vL.ownBlock=some g->k+4<=g:=λg c=>(h.tL.lt c).1
 have y:=h.on.size;have x:=h.wk;have N:=h.rk;have f:∀g,k<=g->g<k+4->W'.heap[g]? = W.heap[g]?:=λg O P=>A.keep g (by have:=h.r3.1;omega) λe=>by have:=d g e;omega
 obtain⟨e,F,E,e3,I⟩:=h.r1;refine⟨j,W',K,⟨FX h.on A h.wk h.rk d,h.rk,h.wk,aV h.r0 A.size (f k oM oM),⟨e,F,E,e3,aV I A.size (f _ oM oM)⟩,aV h.r2 A.size (f _ oM oM),h.r3.same A.size (f _ oM oM),TlL.app C (by have:=s.1;omega) t hx p kq,(h.tR.mono2 p).keep kq λg c=>A.keep g (h.tR.lt c).2 λe=>h.ne g e c,λg c e=>?_,(h.la.mono2 p).keep kq,(h.lb.mono2 p).keep kq,(h.gr.mono2 p).keep kq,jM h.lg (A.keep r oM λe=>by have:=d r e;omega),h.ls,(by
  obtain⟨u,Q,e,-,-,D,J,-⟩:=o;have e:=congrArg Wp e;obtain rfl:gx=u:=UO.inj e;exact(l.dj.app ⟨by have:=l.r3.1;omega,D,Ux J A.size⟩ (UC i.size A.size) s (λg c=>i.block g (l.tL.lt c).2) (λg c=>(A.keep g (h.tR.lt c).2 λe=>h.ne g e c).trans (i.block g (l.tR.lt c).2)) t))⟩,A⟩
 rcases A.mv with m|⟨⟨B,m,z⟩,-⟩
 ·rw[m]at c;exact h.ne g c e
 ·rw[m]at c;have:=UO.inj c;have:=(h.tR.lt e).2;omega
theorem Ph.appR{gx:Nat}(l:Ph w W1 r k iL iR n cL cR vL vR v va vb Lb Rb L a b G H U)(i:kZ W1 W)(o:ElQ (W1.heap.size<=·) 33 W (r33 gx) (Rb iR))(M:W.cell? ⟨ga,0,none⟩=some (r33 gx))(R:iR<=900):
 ∃j W',(Vt #[24,24] 24 #[vR,sZ ga 1 1]).run prog W=.ok j W'/\Ph w W' r k iL (iR+1) n cL cR vL j v va vb Lb Rb L a b G H U/\Ap1 W W' vR j:=by
 have h:=l.grow i;have hx:=o.mono2 λg _ c=>l.qn g c
 obtain⟨xs,s,C⟩:=h.tR.ex;obtain⟨j,W',K,t,A⟩:=FW s hx.one.2 M oM (by have:=h.r3.1;omega);have p:∀g,g<W.heap.size->QH r k vL vR g->QH r k vL j g:=λg c q=>⟨q.1,q.2.1,q.2.2.1,λe=>by
  rcases A.mv with m|⟨⟨B,m,z⟩,-⟩
  ·rw[m]at e;exact q.2.2.2 e
  ·rw[m]at e;have:=UO.inj e;omega⟩
 have kq:Kq (QH r k vL j) W W':=⟨A.size,λg q c=>by
  rcases A.mv with m|⟨-,m⟩
  ·exact A.keep g c (by rw[<-m];exact q.2.2.2)
  ·exact m g c⟩
 have d:∀g,vR.ownBlock=some g->k+4<=g:=λg c=>(h.tR.lt c).1
 have y:=h.on.size;have x:=h.wk;have N:=h.rk;have f:∀g,k<=g->g<k+4->W'.heap[g]? = W.heap[g]?:=λg O P=>A.keep g (by have:=h.r3.1;omega) λe=>by have:=d g e;omega
 obtain⟨e,F,E,e3,I⟩:=h.r1;refine⟨j,W',K,⟨FX h.on A h.wk h.rk d,h.rk,h.wk,aV h.r0 A.size (f k oM oM),⟨e,F,E,e3,aV I A.size (f _ oM oM)⟩,aV h.r2 A.size (f _ oM oM),h.r3.same A.size (f _ oM oM),(h.tL.mono2 p).keep kq λg c=>A.keep g (h.tL.lt c).2 λe=>h.ne g c e,TlL.app C (by have:=s.1;omega) t hx p kq,λg c e=>?_,(h.la.mono2 p).keep kq,(h.lb.mono2 p).keep kq,(h.gr.mono2 p).keep kq,jM h.lg (A.keep r oM λe=>by have:=d r e;omega),h.ls,(by
  obtain⟨u,Q,e,-,-,D,J,-⟩:=o;have e:=congrArg Wp e;obtain rfl:gx=u:=UO.inj e;exact(l.dj.swap.app ⟨by have:=l.r3.1;omega,D,Ux J A.size⟩ (UC i.size A.size) s (λg c=>i.block g (l.tR.lt c).2) (λg c=>(A.keep g (h.tL.lt c).2 λe=>h.ne g c e).trans (i.block g (l.tL.lt c).2)) t).swap)⟩,A⟩
 rcases A.mv with m|⟨⟨B,m,z⟩,-⟩
 ·rw[m]at e;exact h.ne g c e
 ·rw[m]at e;have:=UO.inj e;have:=(h.tL.lt c).2;omega
theorem kQ{W:Ur}{K o:Nat}{x:Ut}(h:Row W K vs)(ho:o<vs.length):Row (W.setCells K o [x]) K (vs.set o x):=by
 have c:W.there K o 1:=λt c=>by
  have k:t=0:=oM;subst k;have:=h.2.2 o ho;rwa[UD]at this
 refine⟨by rw[setCells_size];exact h.1,λj u b=>?_,by rw[yBe];exact VW h.2.2 _ _ _⟩;rw[List.getElem?_set]at b;by_cases e:o=j
 ·subst e;rw[yCl rfl,yCl ho]at b;obtain rfl:x=u:=by simpa using b
  have:=VO W K o [x] c 0 x rfl;rw[UD];exact this
 ·rw[yCm e]at b;have f:W.rangeAt K j [u]:=λt y d=>by
   have k:t=0:=by have:=(UF.1 d).1;simp at this;omega
   subst k;obtain rfl:u=y:=by simpa using d
   have:=h.2.1 j u b;rw[UD]at this;exact this
  have:=Vh f K o [x] (UX (by simp;omega)) 0 u rfl;rw[UD];exact this
theorem jF{k K o:Nat}(h:SP.Only r 0 32 w W)(b:w.heap.size=k)(c:r<k)(d:k<=K):SP.Only r 0 32 w (W.setCells K o vs):=dW h oM oM _
theorem Ph.put(h:Ph w W r k iL iR n cL cR vL vR v va vb Lb Rb L a b G H U):Ph w ((W.setCells (k+3) 0 [vL]).setCells (k+3) 1 [vR]) r k iL iR n vL vR vL vR v va vb Lb Rb L a b G H U:=by
 have s:=h.rk;have c:∀g,g≠k+3->((W.setCells (k+3) 0 [vL]).setCells (k+3) 1 [vR]).heap[g]? = W.heap[g]?:=λg f=>(aH (k+3) [vR] 1 _ g f).trans (aH (k+3) [vL] 0 W g f)
 have d:W.heap.size<=((W.setCells (k+3) 0 [vL]).setCells (k+3) 1 [vR]).heap.size:=by rw[setCells_size,setCells_size];exact Uw _
 have kq:Kq (QH r k vL vR) W ((W.setCells (k+3) 0 [vL]).setCells (k+3) 1 [vR]):=⟨d,λg q _=>c g (by have:=q.2.1;omega)⟩
 obtain⟨e,j,l,e3,m⟩:=h.r1;exact⟨jF (jF h.on h.wk h.rk oM) h.wk h.rk oM,h.rk,h.wk,aV h.r0 d (c _ oM),⟨e,j,l,e3,aV m d (c _ oM)⟩,aV h.r2 d (c _ oM),(by
  obtain⟨o,i,t,p⟩:=h.r3;exact⟨Ux o d,i,t,kQ (kQ p (Y2 _)) (yBb (Y2 _))⟩),h.tL.keep kq λg f=>c g (by have:=(h.tL.lt f).1;omega),h.tR.keep kq λg f=>c g (by have:=(h.tR.lt f).1;omega),h.ne,h.la.keep kq,h.lb.keep kq,h.gr.keep kq,jM h.lg (c r oM),h.ls,h.dj.keep d (λg f=>c g (by have:=(h.tL.lt f).1;omega)) (λg f=>c g (by have:=(h.tR.lt f).1;omega))⟩
theorem Ph.putA{o:Nat}{x:Ut}(h:Ph w W r k iL iR n cL cR vL vR v va vb Lb Rb L a b G H U)(ho:o<2):Ph w (W.setCells (k+3) (o+2) [x]) r k iL iR n cL cR vL vR v va vb Lb Rb L a b G H U:=by
 have u:=h.rk;have c:∀g,g≠k+3->(W.setCells (k+3) (o+2) [x]).heap[g]? = W.heap[g]?:=λg f=>aH (k+3) [x] _ _ g f
 have d:W.heap.size<=(W.setCells (k+3) (o+2) [x]).heap.size:=by rw[setCells_size];exact Uw _
 have kq:Kq (QH r k vL vR) W (W.setCells (k+3) (o+2) [x]):=⟨d,λg q _=>c g (by have:=q.2.1;omega)⟩
 obtain⟨e,s,l,e3,t⟩:=h.r1;exact⟨jF h.on h.wk h.rk oM,h.rk,h.wk,aV h.r0 d (c _ oM),⟨e,s,l,e3,aV t d (c _ oM)⟩,aV h.r2 d (c _ oM),(by
  obtain⟨m,i,j,p⟩:=h.r3;exact⟨Ux m d,i.set o x,by rw[yBe,j],kQ (o:=o+2) p (by simp;omega)⟩),h.tL.keep kq λg f=>c g (by have:=(h.tL.lt f).1;omega),h.tR.keep kq λg f=>c g (by have:=(h.tR.lt f).1;omega),h.ne,h.la.keep kq,h.lb.keep kq,h.gr.keep kq,jM h.lg (c r oM),h.ls,h.dj.keep d (λg f=>c g (by have:=(h.tL.lt f).1;omega)) (λg f=>c g (by have:=(h.tR.lt f).1;omega))⟩
theorem Ph.next{m:Nat}{j i:Ut}{e':Array Ut}{t o:Nat->Nat}{s p:Nat->List (Nat × Bs)}(h:Ph w W r k iL iR n cL cR vL vR v va vb Lb Rb L a b G H U)(z:SLq (QH r k vL vR) W j m t)(y:SLq (QH r k vL vR) W i m o)(d:GRq (QH r k vL vR) W (.agg e') m s p U):Ph w (W.setCells (k+1) 0 e'.toList) r k iL iR m cL cR vL vR (.agg e') j i Lb Rb L t o s p U:=by
 have B:=h.rk;have c:∀g,g≠k+1->(W.setCells (k+1) 0 e'.toList).heap[g]? = W.heap[g]?:=λg d=>aH (k+1) _ 0 W g d
 have f:W.heap.size<=(W.setCells (k+1) 0 e'.toList).heap.size:=by rw[setCells_size];exact Uw _
 have kq:Kq (QH r k vL vR) W (W.setCells (k+1) 0 e'.toList):=⟨f,λg q _=>c g (by have:=q.2.1;omega)⟩
 obtain⟨e,D,x,e3,A⟩:=h.r1;obtain⟨l,C,f2,u⟩:=d.ar;obtain rfl:e'=l:=by injection C
 exact⟨jF h.on h.wk h.rk oM,h.rk,h.wk,aV h.r0 f (c _ oM),⟨e',rfl,f2,u,A.put (by rw[UK,UK,f2,x])⟩,aV h.r2 f (c _ oM),h.r3.same f (c _ oM),h.tL.keep kq λg d=>c g (by have:=(h.tL.lt d).1;omega),h.tR.keep kq λg d=>c g (by have:=(h.tR.lt d).1;omega),h.ne,z.keep kq,y.keep kq,d.keep kq,jM h.lg (c r oM),h.ls,h.dj.keep f (λg d=>c g (by have:=(h.tL.lt d).1;omega)) (λg d=>c g (by have:=(h.tR.lt d).1;omega))⟩
end
end
section
open Go.RowKit Go.Sort Go.Deep SPA
variable {P:Nat}[NeZero P]{N:Nat}[NeZero N]
abbrev wP{P:Nat}[NeZero P](X:OnP P):Bs:=wr X.1
theorem kE(a b:Nat->Fin N):∀n,prS N (λi=>(a i).val) (λi=>(b i).val) n=(Md.pr a b n).val
 | 0=>(Nat.zero_mod N).symm
 | n+1=>by
  show sPl N (prS N _ _ n) (sTi N (b n).val (a n).val)=(Md.pr a b n+a n*b n).val;rw[kE a b n,mA,fL];unfold sTi;rw[Vv]
omit [NeZero N] in
theorem Cu(x y:Fin N)(n:Nat)(a:Nat->Fin N)(i:Nat):nM N x.val y.val n (λi=>(a i).val) i=(Md.fS x y n a i).val:=by
 show sPl N (sTi N (a i).val x.val) (sTi N (a (n+i)).val y.val)=(x*a i+y*a (n+i)).val;rw[mA,fL,fL];unfold sTi;rw[Vv (a i).val,Vv (a (n+i)).val]
omit [NeZero N] in
theorem sN{n c:Nat}{G H:Nat->List (Nat × Bs)}{U:List (Nat × Bs)}{g h:Nat->OnP P}{u:OnP P}(e:0<n)(l:0<c)(b:c*n<=64)(hG:Gd N n c G g)(d:Gd N n c H h)(f:Tl N U u)(m:0<U.length)(j:U.length<=16):GOk N n c G H U:=
 ⟨e,l,b,λi k=>⟨(hG.tl i k).ok,hG.len i k⟩,λi k=>⟨(d.tl i k).ok,d.len i k⟩,f.ok,m,j⟩
omit [NeZero N] in
theorem Tl.point(C:Fld P)(O:Ord N)(k:∀r:EC.Pt P,On r->mul N r=none){l:List (Nat × Bs)}{X:OnP P}(b:Tl N l X)(c:0<l.length)(d:l.length<=512){w:Ur}{v:Ut}(h:Sm 0 w v l):
 UH prog 67 #[v] w (rZ w λe w'=>e=pvl (wr X.1)):=by
 have:=h.point C O k c d b.lt b.pts;rw[b.sum]at this;exact this
theorem iCP:(prog.info? 103).map (·.size)=some 33:=kR
theorem Iq(C:Fld P)(O:Ord N)(k:∀r:EC.Pt P,On r->mul N r=none){Q:Nat->Prop}{m c:Nat}{G H:Nat->List (Nat × Bs)}{U:List (Nat × Bs)}{g h:Nat->OnP P}{u:OnP P}(s:0<m)(B:0<c)(n:c*m<=64)(hG:Gd N m c G g)(p:Gd N m c H h)(q:Tl N U u)(y:0<U.length)(A:U.length<=16)(a b:Nat->Fin N):
 ∃l,(∀(W:Ur) (v va f:Ut),GRq Q W v m G H U->SLq Q W va m (λi=>(a i).val)->SLq Q W f m (λi=>(b i).val)->UH prog 158 #[v,va,f] W (rZ W λe w'=>Sm W.heap.size w' e l)) /\
  (∀(W:Ur) (v:Ut),Sm 0 W v l->UH prog 67 #[v] W (rZ W λe w'=>e=pvl (wr ((aD C k).hd a b g h u m).1))):=by
 have z:=sN s B n hG p q y A;obtain⟨o,j⟩:=Jj C k hG p q (d:=U.length) rfl a b;rw[<-kE]at o j;refine⟨_,λW v va f w t x=>Fg O m c G H U z _ _ (λi _=>(a i).isLt) (λi _=>(b i).isLt) v va f W w t x,λW v hv=>o.point C O k (by rw[j];omega) (by rw[j];omega) hv⟩
end
section
open Go Go.RowKit
section
variable {P:VD}{ops:Array Vk}{Q:Yq->Act->Ur->Prop}{S:Array Bool->Ur->Prop}
theorem bI{o:Vk}(k:o.guard=none)(t:Array Ut):V4 o (yielded ops t)=true:=by
 unfold V4;rw[k]
def anyS(P:VD)(k:Array Vk)(Q:Yq->Act->Ur->Prop)(S:Array Bool->Ur->Prop):Nat->Array Bool->Act->Ur->Prop
 | 0,listed,a,w=>U7 .any k listed=[]/\Q .normal a w
 | fuel+1,listed,a,w=>(U7 .any k listed=[]->Q .normal a w) /\
  ∀i∈U7 .any k listed,wpOp P k Q i (λb w'=>S (listed.setIfInBounds i true) w'/\anyS P k Q S fuel (listed.setIfInBounds i true) b w') a w
theorem anyS.any:∀(b:Nat) (k:Array Bool) (a:Act) (w:Ur),anyS P ops Q S b k a w->wpAny P .any ops Q b k a w
 | 0,_,_,_,h=>h
 | b+1,_,_,_,h=>⟨h.1,λi c=>ZB (λd w' e=>anyS.any b _ d w' e.2) (h.2 i c)⟩
def Bef(S:Array Bool->Ur->Prop)(p:Nat)(w:Ur):Prop:=∃l:Array Bool,l.getD p false=false/\S l w
theorem anyS.first{p i:Nat}{y op:Vk}{v:Ut}(V:ops[i]? = some y)(hp:ops[p]? = some op)(L:∃e∈op.after,VP .any e=true/\e.on=i)(J:p≠i)(T:∀l w,S (X7 l i true) w->S l w)
 (s:∀(j:Nat) (o:Vk) cs b,ops[j]? = some o->o.op≠.select cs b) (hQ:∀c a w,Q (.panic c) (a.put y.dst v) w->Q (.panic c) a w) :
 ∀(g:Nat) (d:Array Bool) (a:Act) (w:Ur),d.getD p false=false ->
  (∀j u,ops[j]? = some u->j≠i->d.getD j true=false->(∀e∈u.after,VP .any e=true->e.on≠i)->y.apart ops u=true) ->
  i∈U7 .any ops d->YieldsIf P ops (Bef S p) y v a->Bef S p w->S (d.setIfInBounds i true) w ->
  anyS P ops Q S g (d.setIfInBounds i true) (a.put y.dst v) w->anyS P ops Q S (g+1) d a w:=by
 intro g;induction g with
 | zero =>
  intro d a w _ _ z E W t H;refine⟨λh=>absurd z (by rw[h];exact UY),λj G=>?_⟩;by_cases f:j=i
  ·subst f;exact E.wpOp V W ⟨t,H⟩
  ·exact absurd (ready_mono G f) (by rw[H.1];exact UY)
 | succ g ih =>
  intro d a w Y n z E W t H;refine⟨λh=>absurd z (by rw[h];exact UY),λj G=>?_⟩;by_cases f:j=i
  ·subst f;exact E.wpOp V W ⟨t,H⟩
  ·obtain⟨r,u,m,A⟩:=mem_ready.1 G;have q:∀e∈u.after,VP .any e=true->e.on≠i:=λe I R U=>by
    have x:=A e I R;have C:=(mem_ready.1 z).1;rw[U]at x;rcases Nat.lt_or_ge i d.size with B|B
    ·simp[B]at C x;rw[C]at x;cases x
    ·simp[WP B]at x
   have C:j≠p:=by
    intro h;subst h;rw[hp]at m;obtain⟨e,I,R,x⟩:=L;injection m with m
    subst m;exact q e I R x
   have Z:=wpOp_putIf m (n j u m f r q) (λcs b=>s i y cs b V) (λcs b=>s j u cs b m) hQ E (H.2 j (ready_mono G f));have K:(d.setIfInBounds j true).getD p false=false:=by rw[XT false C];exact Y
   refine ZB (λa' w' F=>?_) Z;have X:(d.setIfInBounds i true).setIfInBounds j true=(d.setIfInBounds j true).setIfInBounds i true:=(Array.setIfInBounds_comm _ _ (YD f))
   have x:=F.2.1;rw[X]at x;have N:Bef S p w':=⟨_,by rw[XT false C,XT false (YD J)];exact Y,F.2.1⟩
   refine⟨T _ _ x,ih (d.setIfInBounds j true) a' w' K (λk ok hk M B O=>?_) (ready_mono z (YD f)) F.1 N x ?_⟩
   ·refine n k ok hk M ?_ O;by_cases D:j=k
    ·subst D;exact r
    ·rw[XT true D]at B;exact B
   ·rw[<-X];exact F.2.2
theorem anyS.take{p i:Nat}{f:Vk}{v:Ut}{b:Nat}{k:Array Bool}{a:Act}{w:Ur}(o:ops[i]? = some f)(m:∀l w,S (X7 l i true) w->S l w)(s:YieldsIf P ops (Bef S p) f v a)(x:Bef S p w)(g:S (k.setIfInBounds i true) w)
 (h:anyS P ops Q S b (k.setIfInBounds i true) (a.put f.dst v) w) (d:waits ops p i=true:=by kernel_rfl) (t:XN ops=true:=by kernel_rfl)
 (n:(k.getD p false || p == i)=false:=by kernel_rfl) (hf:YN .any ops k i=true:=by kernel_rfl) (q:(U7 .any ops k).contains i=true:=by kernel_rfl)
 (u:∀c a w,Q (.panic c) (a.put f.dst v) w->Q (.panic c) a w:=by exact λ_ _ _ h=>h):anyS P ops Q S (b+1) k a w:=by
 rw[Bool.or_eq_false_iff]at n;unfold waits at d;cases ho:ops[p]? with
 | none=>rw[ho]at d;cases d
 | some op =>
  rw[ho]at d;obtain⟨e,r,j⟩:=Array.any_eq_true'.1 d;simp only[UL,beq_iff_eq]at j;exact anyS.first o ho ⟨e,r,j.1,j.2⟩ (by simpa using n.2) m (Region.noSelect_spec t) u b k a w n.1 (Region.free_spec o hf) (by simpa using q) s x g h
theorem anyS.step{i:Nat}{o:Vk}{b:Nat}{k:Array Bool}{a:Act}{w:Ur}(ho:ops[i]? = some o)(e:U7 .any ops k=[i])
 (h:∀c:Act->Ur->Prop,Shut (∀a w,S (k.setIfInBounds i true) w->anyS P ops Q S b (k.setIfInBounds i true) a w->c a w) ->
  if V4 o (yielded ops a.tmps)=true then VT P o a w c Q else c (a.put o.dst WR) w):anyS P ops Q S (b+1) k a w:=by
 refine⟨λf=>(by rw[e]at f;cases f),λj d=>?_⟩;rw[e,WO]at d;subst d;exact wpOp_step ho (λc g=>h c (λa w l m=>g a w ⟨l,m⟩))
theorem anyS.done{k:Array Bool}{a:Act}{w:Ur}(c:U7 .any ops k=[])(h:Q .normal a w):∀b,anyS P ops Q S b k a w
 | 0=>⟨c,h⟩
 | _+1=>⟨λ_=>h,by rw[c];intro i d;cases d⟩
theorem anyS.begin{a:Act}{w:Ur}(S:Array Bool->Ur->Prop)(k:P.follows .mixedOrders=true)(h:anyS P ops Q S ops.size (UJ ops.size false) a w.drew):(V6 id ops true).wp P Q a w:=
 wp_region_any k (anyS.any _ _ _ _ h)
section
variable {i p fuel:Nat}{o:Vk}{listed:Array Bool}{a:Act}{w w':Ur}{v:Ut}
theorem anyS.ins{d:Option WF}{I:Sem Ut}(ho:ops[i]? = some o)(hx:I.run P w=.ok v w')(b:S (listed.setIfInBounds i true) w')(h:anyS P ops Q S fuel (listed.setIfInBounds i true) (a.put d v) w')
 (c:U7 .any ops listed=[i]:=by kernel_rfl) (f:o.guard=none:=by rfl) (e:U5 a.eval o=I >>= λv=>pure (Xr v):=by kernel_rfl) (hd:o.dst=d:=by kernel_rfl):anyS P ops Q S (fuel+1) listed a w:=by
 subst hd;exact anyS.step ho c λK k=>by
  rw[yCl (bI f _)];unfold VT;rw[e,UV,hx];exact k.out _ _ b h
theorem anyS.cal{d:Option WF}(ho:ops[i]? = some o)(b:UH P f args w (Ret R))(h:∀v w',R v w'->S (listed.setIfInBounds i true) w'/\anyS P ops Q S fuel (listed.setIfInBounds i true) (a.put d v) w')
 (c:U7 .any ops listed=[i]:=by kernel_rfl) (g:o.guard=none:=by rfl) (hx:(U5 a.eval o).run P w=.ok (.enter f args) w:=by kernel_rfl) (hd:o.dst=d:=by kernel_rfl):anyS P ops Q S (fuel+1) listed a w:=by
 subst hd;exact anyS.step ho c λK k=>by
  rw[yCl (bI g _)];unfold VT;rw[hx,Oper.upon_enter];refine b.mono ?_;rintro e w' ⟨v,rfl,hR⟩;exact k.out _ _ (h v w' hR).1 (h v w' hR).2
theorem anyS.sto{d:Option WF}(ho:ops[i]? = some o)(k:U8)(x y:XI)(f:o.op=.store k x y)(b off:Nat)(u:Ut)(hv:u.cells=#[u])(n:u.oneCell'=true)(g:w.there b off 1)(p:(P.info? k).map (·.size)=some 1)
 (q:S (listed.setIfInBounds i true) (w.setCells b off [u])) (h:anyS P ops Q S fuel (listed.setIfInBounds i true) (a.put d WR) (w.setCells b off [u])) (hx:a.eval x=oZ b off:=by kernel_rfl) (j:a.eval y=u:=by kernel_rfl)
 (c:U7 .any ops listed=[i]:=by kernel_rfl) (m:o.guard=none:=by rfl) (hd:o.dst=d:=by kernel_rfl):anyS P ops Q S (fuel+1) listed a w:=by
 subst hd;exact anyS.step ho c λK l=>by
  rw[yCl (bI m _)];have c:=ZC (P:=P) w b off k #[u] g p (by simp[n]);have e:storeVar k ⟨b,off,none⟩ u=storeVar k ⟨b,off,none⟩ (.agg #[u]):=by
   unfold storeVar;rw[hv];rfl
  unfold VT U5;simp only[f,hx,j,Yy,X6,UV,Wt,Vm,e,c];exact l.out _ _ q h
theorem anyS.cel{d:Option WF}{x:Ut}(ho:ops[i]? = some o)(p:Nat)(f:∀l w,S (X7 l i true) w->S l w)(T:U8)(t:WF)(b off:Nat)(e:o.op=.load T (.tmp t))(m:(P.underlying T).map (·.isRow)=some false)(v:∀w,Bef S p w->w.cell? ⟨b,off,none⟩=some x)(u:Bef S p w)(k:S (listed.setIfInBounds i true) w)
 (h:anyS P ops Q S fuel (listed.setIfInBounds i true) (a.put d x) w) (hx:a.eval (.tmp t)=oZ b off:=by kernel_rfl) (q:o.guard=none:=by rfl) (y:waits ops p i=true:=by kernel_rfl) (n:XN ops=true:=by kernel_rfl)
 (s:(listed.getD p false || p == i)=false:=by kernel_rfl) (hf:YN .any ops listed i=true:=by kernel_rfl) (j:(U7 .any ops listed).contains i=true:=by kernel_rfl)
 (r:∀c a w,Q (.panic c) (a.put o.dst x) w->Q (.panic c) a w:=by exact λ_ _ _ h=>h) (hd:o.dst=d:=by kernel_rfl):anyS P ops Q S (fuel+1) listed a w:=by
 subst hd;exact anyS.take (p:=p) ho f (U4 ⟨bI q _,λw g=>by
  unfold U5;rw[e];dsimp only;rw[hx,UV,fD (v w g) m];rfl⟩) u k h y n s hf j r
theorem anyS.row{d:Option WF}{cs:List Ut}(ho:ops[i]? = some o)(p:Nat)(j:∀l w,S (X7 l i true) w->S l w)(T:U8)(t:WF)(b off:Nat)(k:TypeDesc)(g:o.op=.load T (.tmp t))(n:P.underlying T=some k)(f:k.isRow=true)(v:(P.info? T).map (·.size)=some cs.length)(y:∀w,Bef S p w->w.rangeAt b off cs)(x:Bef S p w)(e:S (listed.setIfInBounds i true) w)
 (h:anyS P ops Q S fuel (listed.setIfInBounds i true) (a.put d (.agg cs.toArray)) w) (hx:a.eval (.tmp t)=oZ b off:=by kernel_rfl) (r:o.guard=none:=by rfl) (z:waits ops p i=true:=by kernel_rfl) (q:XN ops=true:=by kernel_rfl)
 (u:(listed.getD p false || p == i)=false:=by kernel_rfl) (hf:YN .any ops listed i=true:=by kernel_rfl) (m:(U7 .any ops listed).contains i=true:=by kernel_rfl)
 (s:∀c a w,Q (.panic c) (a.put o.dst (.agg cs.toArray)) w->Q (.panic c) a w:=by exact λ_ _ _ h=>h) (hd:o.dst=d:=by kernel_rfl):anyS P ops Q S (fuel+1) listed a w:=by
 subst hd;exact anyS.take (p:=p) ho j (yieldsIf_load_mid (bI r _) T (.tmp t) g b off hx cs k y n f v) x e h z q u hf m s
theorem anyS.val{d:Option WF}{x:Ut}(ho:ops[i]? = some o)(p:Nat)(b:∀l w,S (X7 l i true) w->S l w)(n:Bef S p w)(k:S (listed.setIfInBounds i true) w)(h:anyS P ops Q S fuel (listed.setIfInBounds i true) (a.put d x) w)(hv:∀w,(U5 a.eval o).run P w=.ok (.value x) w:=by intro _;kernel_rfl)(g:o.guard=none:=by rfl)(q:waits ops p i=true:=by kernel_rfl)(f:XN ops=true:=by kernel_rfl)
 (m:(listed.getD p false || p == i)=false:=by kernel_rfl) (hf:YN .any ops listed i=true:=by kernel_rfl) (e:(U7 .any ops listed).contains i=true:=by kernel_rfl)
 (j:∀c a w,Q (.panic c) (a.put o.dst x) w->Q (.panic c) a w:=by exact λ_ _ _ h=>h) (hd:o.dst=d:=by kernel_rfl):anyS P ops Q S (fuel+1) listed a w:=by
 subst hd;exact anyS.take (p:=p) ho b (U4 ⟨bI g _,λw _=>hv w⟩) n k h q f m hf e j
theorem anyS.nxt{d:Option WF}{x:Ut}(ho:ops[i]? = some o)(b:S (listed.setIfInBounds i true) w)(h:anyS P ops Q S fuel (listed.setIfInBounds i true) (a.put d x) w)(hv:(U5 a.eval o).run P w=.ok (.value x) w:=by kernel_rfl)(c:U7 .any ops listed=[i]:=by kernel_rfl)(e:o.guard=none:=by rfl)(hd:o.dst=d:=by kernel_rfl):anyS P ops Q S (fuel+1) listed a w:=by
 subst hd;exact anyS.step ho c λK k=>by
  rw[yCl (bI e _)];unfold VT;rw[hv];exact k.out _ _ b h
end
end
end
section
open Go.RowKit Go.Sort Go.Deep SPA
variable {P:Nat}[NeZero P]{N:Nat}[NeZero N]
theorem Lg:(prog.underlying 26).map (·.isRow)=some true:=kR
theorem Jg:(prog.info? 26).map (·.size)=some 4:=kR
def DjF(B:Nat)(W:Ur)(t:Nat)(e f d c:Ut):Prop:=∃b k l m,d=r32 b/\c=r32 k/\(b :: k :: (l++m)).Nodup/\W.ownsRow 0 23 1 e t (l.map r33)/\W.ownsRow 0 23 1 f t (m.map r33)/\∀g,g∈b :: k :: (l++m)->B<=g/\g<W.heap.size
theorem DjF.keep{B f t:Nat}{W W':Ur}{k b e i:Ut}(h:DjF B W t k b e i)(w:f<=B)(p:W.heap.size<=W'.heap.size)(hv:∀g,k.ownBlock=some g->W'.heap[g]? = W.heap[g]?)(o:∀g,b.ownBlock=some g->W'.heap[g]? = W.heap[g]?):DjF f W' t k b e i:=by
 obtain⟨j,n,l,m,v,r,s,q,u,d⟩:=h;exact⟨j,n,l,m,v,r,s,bZ q hv,bZ u o,λg c=>⟨UC w (d g c).1,Ux (d g c).2 p⟩⟩
theorem DjF.of{B t b c:Nat}{W W':Ur}{v u:Ut}(h:Dj W B t t v u)(o:W.heap.size<=W'.heap.size)(hv:∀g,v.ownBlock=some g->W'.heap[g]? = W.heap[g]?)(i:∀g,u.ownBlock=some g->W'.heap[g]? = W.heap[g]?)(s:B<=W.heap.size)(q:W.heap.size<=b)(p:b<c)(r:c<W'.heap.size):DjF B W' t v u (r32 b) (r32 c):=by
 obtain⟨l,m,f,n,j,d⟩:=h;refine⟨b,c,l,m,rfl,rfl,?_,bZ n hv,bZ j i,λg k=>?_⟩
 ·rw[XV,XV];refine⟨λe=>?_,λe=>?_,f⟩
  ·rcases VX.1 e with e|e
   ·omega
   ·have:=(d _ e).2;omega
  ·have:=(d _ e).2;omega
 ·rcases VX.1 k with rfl|k
  ·exact⟨oM,oM⟩
  ·rcases VX.1 k with rfl|k
   ·exact⟨oM,oM⟩
   ·have:=d _ k;exact⟨this.1,oM⟩
structure PhR(w:Ur)(r t:Nat)(Lb Rb:Nat->Bs)(L:Bs)(A B:Bs)(e:Ut)(w':Ur):Prop where
 on:SP.Only r 0 32 w w'
 ex:∃vL vR vA vB,e=.agg #[vL,vR,vA,vB]/\TlL (λ_=>True) w.heap.size t w' vL Lb/\TlL (λ_=>True) w.heap.size t w' vR Rb/\ElQ (w.heap.size<=·) 32 w' vA A/\ElQ (w.heap.size<=·) 32 w' vB B
 lg:Holds encB w' r 0 L
 dj:∀vL vR vA vB,e=.agg #[vL,vR,vA,vB]->DjF w.heap.size w' t vL vR vA vB
theorem uLL:(prog.underlying 24).map (·.isRow)=some false:=kR
theorem iLL:(prog.info? 24).map (·.size)=some 1:=kR
theorem Ud(k:Nat)(n c:Nat)(w:Ur):(Vy 24 1 #[(0,sZ k n c)]).run prog w=.ok (sZ w.heap.size 1 1) (w.alloc (.cells #[sZ k n c] 23)):=kR
theorem SJ{Q:Nat->Prop}{W:Ur}{x:Ut}{b:Bs}(h:ElQ Q 33 W x b)(w:Ur):(Vy 24 1 #[(0,x)]).run prog w=.ok (sZ w.heap.size 1 1) (w.alloc (.cells #[x] 23)):=by
 obtain⟨k,c,rfl,-⟩:=h;exact Ud k 33 c w
theorem TlL.one{Q:Nat->Prop}{k i:Nat}{W:Ur}{v:Ut}{B:Nat->Bs}(h:TlL Q k i W v B):v.cells=#[v]/\v.oneCell'=true:=by
 obtain⟨xs,⟨-,⟨rfl,-⟩|⟨g,cap,cur,rfl,-⟩⟩,-⟩:=h.ex<;>exact⟨rfl,rfl⟩
theorem Ph.put'{w W W':Ur}{r k f i n:Nat}{l m c d v va g:Ut}{j Rb:Nat->Bs}{L:Bs}{a b:Nat->Nat}{G H:Nat->List (Nat × Bs)}{U:List (Nat × Bs)}(h:Ph w W r k f i n l m c d v va g j Rb L a b G H U)(e:W'=(W.setCells (k+3) 0 [c]).setCells (k+3) 1 [d]):Ph w W' r k f i n c d c d v va g j Rb L a b G H U:=e ▸ h.put
theorem anyS.fin{P:VD}{c:Array Vk}{Q:Yq->Act->Ur->Prop}{S:Array Bool->Ur->Prop}{k:Array Bool}{a:Act}{w:Ur}(d:U7 .any c k=[])(h:∀W,W=w->Q .normal a W)(b:Nat):anyS P c Q S b k a w:=anyS.done d (h w rfl) b
theorem JR(O:Ord N)(n:IsP N)(r:Nat)(L:Bs)(A B:OnP P)(X Y:Bs)(d:X=wP A)(l:Y=wP B):∃(s:Bs) (c:Fin N),Hid (chF N L A B=(s,c)/\s.size=32)/\Hid (∀W:Ur,Holds encB W r 0 L->L.size=32->UH prog 146 #[lgV r,.string ⟨#[108,101,102,116]⟩,pvl X,.string ⟨#[114,105,103,104,116]⟩,pvl Y] W (Ret λe w'=>SP.Only r 0 32 W w'/\Holds encB w' r 0 s/\e=nv c.val)):=by
 subst d l;have e:chF N L A B=(bB (jW [108,101,102,116] [114,105,103,104,116] L (wP A) (wP B)),kM N (jW [108,101,102,116] [114,105,103,104,116] L (wP A) (wP B))):=by unfold chF;dsimp only
 have m:=aT A.1;have i:=aT B.1;refine⟨_,_,⟨e,bE _ _⟩,λW j f=>?_⟩;have k:=sW O r L (wP A) (wP B) ⟨#[108,101,102,116]⟩ ⟨#[114,105,103,104,116]⟩ dC dC m i W j f;have g:jW (⟨#[108,101,102,116]⟩:ByteArray).data.toList (⟨#[114,105,103,104,116]⟩:ByteArray).data.toList L (wP A) (wP B)=jW [108,101,102,116] [114,105,103,104,116] L (wP A) (wP B):=rfl;rw[g]at k;have b:∀M,cha N M<N:=λM=>uU O _
 generalize jW [108,101,102,116] [114,105,103,104,116] L (wP A) (wP B)=M at k;rw[FG n.1 M (b M)]at k;exact k
theorem own_base{W:Ur}{c b n k:Nat}{v:Ut}(h:W.ownsRow c e k v n xs)(l:b<=c):W.ownsRow b e k v n xs:=by
 rcases h with⟨d,f|⟨g,cap,cur,rfl,j,i⟩⟩
 ·exact⟨d,U4 f⟩
 ·exact⟨d,UX ⟨g,cap,cur,rfl,UC l j,i⟩⟩
theorem Ph.fin{w W:Ur}{r k t n:Nat}{f i v va D l m:Ut}{z Rb:Nat->Bs}{L A B:Bs}{a b:Nat->Nat}{G H:Nat->List (Nat × Bs)}{U:List (Nat × Bs)}(h:Ph w W r k t t n f i f i v va D z Rb L a b G H U)(E:ElQ (k+4<=·) 32 W l A)(J:ElQ (k+4<=·) 32 W m B)(hd:DjF (k+4) W t f i l m):
 Row W (k+2) [.slice none 0 0,.slice none 0 0,.slice none 0 0,.slice none 0 0]/\Row (W.setCells (k+2) 0 [f,i,l,m]) (k+2) [f,i,l,m]/\PhR w r t z Rb L A B (.agg #[f,i,l,m]) (W.setCells (k+2) 0 [f,i,l,m]):=by
 have K:=h.rk;have C:=h.wk;have j:∀g,g≠k+2->(W.setCells (k+2) 0 [f,i,l,m]).heap[g]? = W.heap[g]?:=λg u=>aH (k+2) _ 0 _ g u
 have o:W.heap.size<=(W.setCells (k+2) 0 [f,i,l,m]).heap.size:=by rw[setCells_size];exact Uw _
 have kq:Kq (QH r k f i) W (W.setCells (k+2) 0 [f,i,l,m]):=⟨o,λg q _=>j g (by have:=q.2.1;omega)⟩
 have s:Kq (k+4<=·) W (W.setCells (k+2) 0 [f,i,l,m]):=⟨o,λg q _=>j g oM⟩
 have y:∀ {x:Ut}{B:Nat->Bs},TlL (QH r k f i) (k+4) t W x B->TlL (λ_=>True) w.heap.size t (W.setCells (k+2) 0 [f,i,l,m]) x B:=λhx=>by
  have F:=(hx.keep kq λg p=>j g (by have:=(hx.lt p).1;omega)).mono2 (Q':=λ_=>True) λ_ _ _=>trivial
  obtain⟨xs,u,I⟩:=F.ex;exact⟨xs,own_base u oM,I⟩
 exact⟨h.r2,h.r2.put rfl,jF h.on h.wk h.rk oM,⟨_,_,_,_,rfl,y h.tL,y h.tR,(E.keep s).mono2 λg _ p=>oM,(J.keep s).mono2 λg _ p=>oM⟩,jM h.lg (j r oM),λa b c d e=>by
  injection e with e
  simp only[Array.mk.injEq,List.cons.injEq,and_true]at e;obtain⟨rfl,rfl,rfl,rfl⟩:=e;exact hd.keep oM o (λg p=>j g (by have:=(h.tL.lt p).1;omega)) (λg p=>j g (by have:=(h.tR.lt p).1;omega))⟩
omit [NeZero N] in
theorem fW(O:Ord N){a:Nat}(c:a<N)(w:Ur):UH prog 141 #[nv a] w (rZ w λe w'=>ElQ (w.heap.size<=·) 32 w' e (bx a)/\∃g,e=r32 g):=by
 refine(qO O c w).mono ?_;rintro e w' ⟨v,rfl,k,b,rfl⟩;exact⟨_,rfl,b.bel,⟨k,32,rfl,Uw _,eE a,b.le,b.lt,cb_holds b.range b.there⟩,k,rfl⟩
theorem iB1:(prog.info? 23).map (·.size)=some 1:=kR
theorem hvI{P:VD}{I:Sem Ut}{c:Sem Next}{x:Ut}(k:∀w,I.run P w=.ok x w)(b:c=I >>= λv=>pure (Xr v)):∀w,c.run P w=.ok (.value x) w:=λw=>by rw[b,UV,k w,Vm,Wt]
theorem nfB{b:Bool}(h:b=true):¬b=false:=λe=>by rw[h]at e;cases e
theorem TC(m:Nat):((m+m:Nat):Int).tdiv 2=(m:Int):=by rw[Int.tdiv_eq_ediv_of_nonneg oM];omega
theorem Mc(C:Fld P)(O:Ord N)(f:∀r:EC.Pt P,On r->mul N r=none)(hP:IsP N)(t:Nat)(ht:t<=6)(q:Md.Ps Bs (Fin N) (OnP P))(u:OnP P)(G0 H0:Nat->List (Nat × Bs))(U:List (Nat × Bs))(fs:Gd N (2^t) 1 G0 q.g)(ed:Gd N (2^t) 1 H0 q.h)(hU:Tl N U u)(ds:0<U.length)(ex:U.length<=16)
 (Lb Rb:Nat->Bs) (gn:∀j,Lb j=wP ((aD C f).pLi (chF N) ivF u t q j)) (gq:∀j,Rb j=wP ((aD C f).pTi (chF N) ivF u t q j)) (r:Nat) (v0 cd d8:Ut) (w:Ur) (hL:Holds encB w r 0 q.s) (cq:q.s.size=32) (hv:GRq (·≠r) w v0 (2^t) G0 H0 U) (ha:SLq (·≠r) w cd (2^t) (λi=>(q.a i).val)) (K:SLq (·≠r) w d8 (2^t) (λi=>(q.b i).val)) :
 UH prog 83 #[lgV r,v0,cd,d8] w (Ret (PhR w r t Lb Rb ((aD C f).pst (chF N) ivF u t q t).s (bx (((aD C f).pst (chF N) ivF u t q t).a 0).val) (bx (((aD C f).pst (chF N) ivF u t q t).b 0).val))):=by
 have hr:=Holds.lt hL (by rw[cq];decide);obtain⟨k,hk⟩:∃k,Hid (w.heap.size=k):=⟨_,rfl⟩
 obtain⟨e0,fz,ft,dm⟩:=hv.ar;subst fz;obtain⟨w1,kh⟩:=hE (w.alloc (.cells #[jZ r] 145));obtain⟨w2,kk⟩:=hE (w1.alloc (.cells e0 133));obtain⟨w3,km⟩:=hE (w2.alloc (.cells #[.slice none 0 0,.slice none 0 0,.slice none 0 0,.slice none 0 0] 26));obtain⟨w4,ba⟩:∃w4,Hid (w3.alloc (.cells #[.slice none 0 0,.slice none 0 0,.slice none 0 0,.slice none 0 0] 26)=w4):=⟨_,rfl⟩
 have z1:w1.heap.size=k+1:=by rw[<-kh.out,UB,hk.out]
 have z2:w2.heap.size=k+2:=by rw[<-kk.out,UB,z1]
 have z3:w3.heap.size=k+3:=by rw[<-km.out,UB,z2]
 have g6:r<k:=by rw[<-hk.out];exact hr
 have K4:Hid (∃G H,Gd N (2^(t-0)) (2^0) G ((aD C f).pst (chF N) ivF u t q 0).g/\Gd N (2^(t-0)) (2^0) H ((aD C f).pst (chF N) ivF u t q 0).h/\Ph w w4 r k 0 0 (2^(t-0)) (.slice none 0 0) (.slice none 0 0) (.slice none 0 0) (.slice none 0 0) (.agg e0) cd d8 Lb Rb ((aD C f).pst (chF N) ivF u t q 0).s (λi=>(((aD C f).pst (chF N) ivF u t q 0).a i).val) (λi=>(((aD C f).pst (chF N) ivF u t q 0).b i).val) G H U):=by
  have b1:kZ w w1:=by rw[<-kh.out];exact aC _ _
  have E:kZ w1 w2:=by rw[<-kk.out];exact aC _ _
  have F:kZ w2 w3:=by rw[<-km.out];exact aC _ _
  have D:kZ w3 w4:=by rw[<-ba.out];exact aC _ _
  have S:Row w1 k [jZ r]:=by rw[<-kh.out,<-hk.out];exact aE w _ _
  have V:Row w2 (k+1) e0.toList:=by rw[<-kk.out,<-z1];exact aE w1 e0.toList 133
  have T:Row w3 (k+2) [.slice none 0 0,.slice none 0 0,.slice none 0 0,.slice none 0 0]:=by rw[<-km.out,<-z2];exact aE w2 _ _
  have R:Row w4 (k+3) [.slice none 0 0,.slice none 0 0,.slice none 0 0,.slice none 0 0]:=by rw[<-ba.out,<-z3];exact aE w3 _ _
  have bb:kZ w w4:=((b1.trans (E.mono b1.size)).trans (F.mono (UC b1.size E.size))).trans (D.mono (UC b1.size (UC E.size F.size)));have L:∀g,g<w.heap.size->g≠r->QH r k (.slice none 0 0) (.slice none 0 0) g:=λg M J=>⟨J,U4 (by rw[<-hk.out];exact M),(λe=>by cases e),(λe=>by cases e)⟩
  have A:∀(B:Nat->Bs) (Q:Nat->Prop),TlL Q (k+4) 0 w4 (.slice none 0 0) B:=λB Q=>⟨[],⟨rfl,U4 ⟨rfl,rfl⟩⟩,λj hj=>absurd hj (Yo _)⟩
  have kq:∀ {Q:Nat->Prop},Kq Q w w4:=Kq.of_below bb;exact⟨G0,H0,fs,ed,SP.Only.of_below bb rfl hr,g6,hk.out,((S.below E).below F).below D,⟨e0,rfl,ft,dm,(V.below F).below D⟩,T.below D,⟨R.1,[.slice none 0 0,.slice none 0 0],rfl,R⟩,A _ _,A _ _,(λg e=>by cases e),(ha.mono2 L).keep kq,(K.mono2 L).keep kq,(hv.mono2 L).keep kq,Holds.below hL bb hr,cq,⟨[],[],yBt,⟨rfl,U4 ⟨rfl,rfl⟩⟩,⟨rfl,U4 ⟨rfl,rfl⟩⟩,λg M=>absurd M UY⟩⟩
 obtain⟨vl,kv⟩:=hE (lgV r);obtain⟨vG,kz⟩:=hE (U3 e0);have B1:Hid ((Ve 145 vl).run prog w=.ok (jZ k) w1):=by rw[<-kv.out,<-kh.out,<-hk.out];exact Nb r w
 have B2:Hid ((Ve 133 vG).run prog w1=.ok (.pointer (some ⟨k+1,0,none⟩)) w2):=by
  obtain⟨a1,a2,a3,ea⟩:∃a b c,e0=#[a,b,c]:=by
   obtain⟨A,E,D,e,-⟩:=hv.ex;injection e with e
   exact⟨A,E,D,e⟩
  rw[<-kz.out,<-kk.out,<-z1,ea];exact CL a1 a2 a3 w1
 have HZ:=mk3 z2 z3 hk.out;have fm:=mk2 gn gq;have HF:Hid (Fld P/\Ord N/\IsP N/\Tl N U u/\0<U.length/\U.length<=16/\t<=6):=⟨C,O,hP,hU,ds,ex,ht⟩
 obtain⟨d,f8,eu⟩:=Uy.1 uGr;have HD:=mk2 f8 eu;rw[kz.out]at K4;rw[kv.out,kz.out];clear f8 eu z1 z2 z3 kh kk hk hL cq hv ha K fs ed hU ds ex ft dm hr O hP kz;go_enter func83,ntmps83;go_wp2_with (first|(refine aF (u:=vl) (v:=jZ k) (w':=w1) rfl 145 (.tmp 0) rfl ?_ ?_ ?_;rfl;exact B1.out)|(refine aF (u:=vG) (v:=.pointer (some ⟨k+1,0,none⟩)) (w':=w2) rfl 133 (.tmp 1) rfl ?_ ?_ ?_;rfl;exact B2.out)|(refine fB (v:=.pointer (some ⟨k+2,0,none⟩)) (w':=w3) rfl 26 8 rfl rfl ?_ ?_;(rw[<-km.out,<-HZ.1];kernel_rfl))|(refine fB (v:=.pointer (some ⟨k+3,0,none⟩)) (w':=w4) rfl 26 9 rfl rfl ?_ ?_;(rw[<-ba.out,<-HZ.2.1];kernel_rfl))|fail)
 clear B1 B2 km ba;simp only[UN,Us,Uu,Uv];go_loopg [2,3] t (λm s2 s3 W=>∃i:Nat,i+m=t/\Hid (∃E J v G H,Gd N (2^(t-i)) (2^i) G ((aD C f).pst (chF N) ivF u t q i).g/\Gd N (2^(t-i)) (2^i) H ((aD C f).pst (chF N) ivF u t q i).h/\Ph w W r k i i (2^(t-i)) E J E J v s2 s3 Lb Rb ((aD C f).pst (chF N) ivF u t q i).s (λj=>(((aD C f).pst (chF N) ivF u t q i).a j).val) (λj=>(((aD C f).pst (chF N) ivF u t q i).b j).val) G H U))
 case atStart=>exact⟨0,oM,_,_,_,K4.out⟩
 case round =>
  obtain⟨i,i2,KM⟩:=hrel;by_cases hi:i<t
  ·obtain⟨E,J,v,G,H,hG,hH,h0⟩:=KM.out;clear KM;have HI:=Hid.mk' hi;obtain⟨m,hm⟩:∃m,m=2^(t-(i+1)):=⟨_,rfl⟩
   have b9:2^(t-i)=m+m:=by rw[hm,show t-i=t-(i+1)+1 by omega,V9];omega
   have bc:0<m:=by rw[hm];exact XK dC
   obtain⟨c,hc⟩:∃c,c=2^i:=⟨_,rfl⟩
   have kg:0<c:=by rw[hc];exact XK dC
   have fj:c*(m+m)<=64:=by
    rw[<-b9,hc,<-Nat.pow_add,show i+(t-i)=t by omega];exact UC (Nat.pow_le_pow_right dC HF.2.2.2.2.2.2) dC
   have k0:c*m<=64:=by have:=Nat.mul_le_mul_left c (show m<=m+m by omega);omega
   have fg:m<=64:=by have:=Xu m kg;omega
   have eS:(aD C f).pst (chF N) ivF u t q (i+1)=(aD C f).qT (chF N) ivF u m ((aD C f).pst (chF N) ivF u t q i):=by rw[hm];rfl
   have eL:(aD C f).pLi (chF N) ivF u t q i=(aD C f).pL u m ((aD C f).pst (chF N) ivF u t q i):=by rw[hm];rfl
   have eT:(aD C f).pTi (chF N) ivF u t q i=(aD C f).pT u m ((aD C f).pst (chF N) ivF u t q i):=by rw[hm];rfl
   have HE:Hid (2^(t-(i+1))=m/\2^(i+1)=c+c):=⟨hm.symm,by rw[V9,hc];omega⟩
   rw[b9,<-hc]at hG hH;rw[b9]at h0;clear hm b9 hc;generalize (aD C f).pst (chF N) ivF u t q i=L at hG hH h0 eS eL eT;have HS:Hid ((aD C f).pst (chF N) ivF u t q (i+1)=(aD C f).qT (chF N) ivF u m L/\(aD C f).pLi (chF N) ivF u t q i=(aD C f).pL u m L/\(aD C f).pTi (chF N) ivF u t q i=(aD C f).pT u m L):=⟨eS,eL,eT⟩
   clear eS eL eT;obtain⟨ga,oa,ca,rfl,fa,-⟩:=id h0.la;obtain⟨Z,ob,F,rfl,dq,-⟩:=id h0.lb;have sG:=Hid.mk' (V3 hG (V3 hH (V3 bc (V3 kg (V3 fj (V3 fg k0))))));obtain⟨l1,er,e7⟩:=Iq (Q:=QH r k E J) C HF.2.1 f bc kg k0 hG.high hH.low HF.2.2.2.1 HF.2.2.2.2.1 HF.2.2.2.2.2.1 L.a (λj=>L.b (m+j));obtain⟨l2,en,e8⟩:=Iq (Q:=QH r k E J) C HF.2.1 f bc kg k0 hG.low hH.high HF.2.2.2.1 HF.2.2.2.2.1 HF.2.2.2.2.2.1 (λj=>L.a (m+j)) L.b;obtain⟨X,hX⟩:∃X,X=wP ((aD C f).pL u m L):=⟨_,rfl⟩
   obtain⟨Y,hY⟩:∃Y,Y=wP ((aD C f).pT u m L):=⟨_,rfl⟩
   have sX:X.size=33:=by rw[hX];exact aT _
   have sY:Y.size=33:=by rw[hY];exact aT _
   have c8:∀(W:Ur) (v:Ut),Sm 0 W v l1->UH prog 67 #[v] W (rZ W λe w'=>e=pvl X):=by rw[hX];exact e7
   have c6:∀(W:Ur) (v:Ut),Sm 0 W v l2->UH prog 67 #[v] W (rZ W λe w'=>e=pvl Y):=by rw[hY];exact e8
   clear e7 e8;obtain⟨PH,h4⟩:∃PH:Ur->Prop,Hid (∀W,PH W↔Ph w W r k i i (m+m) E J E J v (.slice (some ⟨ga,oa,none⟩) (m+m) ca) (.slice (some ⟨Z,ob,none⟩) (m+m) F) Lb Rb L.s (λj=>(L.a j).val) (λj=>(L.b j).val) G H U):=⟨_,λ_=>Iff.rfl⟩
   have k4:Hid (∀W W':Ur,kZ W W'->PH W->PH W'):=λW W' K h=>(h4 W').2 (((h4 W).1 h).grow K)
   have K0:Hid (PH wr):=(h4 wr).2 h0;have gg:Hid (∀W,PH W->UH prog 157 #[v] W (Ret (CrR (QH r k E J) W m G H U))):=λW h=>GP m bc oM G H U v W ((h4 W).1 h).gr
   have cS:Hid ((∀W (x:Ut),PH W->GRq (QH r k E J) W x m (λi=>G (m+i)) H U->UH prog 158 #[x,.slice (some ⟨ga,oa,none⟩) m ca,.slice (some ⟨Z,ob+m*4,none⟩) m (F-m)] W (rZ W λe w'=>Sm W.heap.size w' e l1))/\(∀W (x:Ut),PH W->GRq (QH r k E J) W x m G (λi=>H (m+i)) U->UH prog 158 #[x,.slice (some ⟨ga,oa+m*4,none⟩) m (ca-m),.slice (some ⟨Z,ob,none⟩) m F] W (rZ W λe w'=>Sm W.heap.size w' e l2))):=
    ⟨λW x h hx=>er W x _ _ hx ((h4 W).1 h).la.low ((h4 W).1 h).lb.high,λW x h hx=>en W x _ _ hx ((h4 W).1 h).la.high ((h4 W).1 h).lb.low⟩
   have cP:Hid ((∀(W:Ur) (v:Ut),Sm 0 W v l1->UH prog 67 #[v] W (rZ W λe w'=>e=pvl X))/\(∀(W:Ur) (v:Ut),Sm 0 W v l2->UH prog 67 #[v] W (rZ W λe w'=>e=pvl Y))):=⟨c8,c6⟩
   have bv:=Di ga oa (m+m) ca m oM;have kf:=Dh Z ob (m+m) F m oM dq;have k6:=Dh ga oa (m+m) ca m oM fa;have bi:=Di Z ob (m+m) F m oM;rw[Nat.add_sub_cancel]at kf k6;have h7:=mk4 sX sY hX hY;obtain⟨sx,cx,dx,dz⟩:∃(s:Bs) (c:Fin N),Hid (chF N L.s ((aD C f).pL u m L) ((aD C f).pT u m L)=(s,c)/\s.size=32)/\Hid (∀W:Ur,Holds encB W r 0 L.s->L.s.size=32->UH prog 146 #[lgV r,.string ⟨#[108,101,102,116]⟩,pvl X,.string ⟨#[114,105,103,104,116]⟩,pvl Y] W (Ret λe w'=>SP.Only r 0 32 W w'/\Holds encB w' r 0 s/\e=nv c.val)):=JR HF.2.1 HF.2.2.1 r L.s _ _ X Y hX hY;obtain⟨e1,fb,kc,bk,bn⟩:=h0.r1;have HV:=mk3 fb kc bk;have R1:Hid (wr.rangeAt (k+1) 0 e1.toList/\(prog.info? 133).map (·.size)=some e1.toList.length):=⟨bn.2.1,by rw[UK,kc];exact iGr⟩
   obtain⟨n,hn⟩:=hE (m+m);have hq:(n:Int).tdiv 2=(m:Int):=by rw[<-hn.out];exact TC m
   have i1:(1:Int)<(n:Int):=by rw[<-hn.out];omega
   rw[hn.out]at bv kf k6 bi;rw[hn.out];clear h0 er en c8 c6 sX sY hX hY fb kc bk bn hG hH fj k0 fa dq kg hi;go_wp2_with (first|(refine U6 rfl 133 (.tmp 5) rfl (k+1) 0 ?_ e1.toList d ?_ ?_ ?_ ?_ ?_;rfl;exact R1.1;exact HD.1;exact HD.2;exact R1.2;rw[show U3 e1.toList.toArray=v from HV.1.symm])|fail)
   refine(gg wr K0.out).mono ?_;rintro e W1 ⟨uu,rfl,gm,f1,f2,rfl,co,cn,gp,g7,gr,fu⟩;have K1:=mk1 (k4 wr W1 gm K0.out);obtain⟨b1,h8⟩:∃b,Hid (W1.heap.size=b):=⟨_,rfl⟩
   obtain⟨W2,b7⟩:∃W,Hid (W1.alloc (.cells #[.slice none 0 0,.slice none 0 0,.slice none 0 0] 133)=W):=⟨_,rfl⟩
   obtain⟨W3,cz⟩:∃W,Hid (W2.alloc (.cells #[.slice none 0 0,.slice none 0 0,.slice none 0 0] 133)=W):=⟨_,rfl⟩
   obtain⟨W4,fq⟩:∃W,Hid (W3.setCells b1 0 f1.toList=W):=⟨_,rfl⟩
   obtain⟨W5,et⟩:∃W,Hid (W4.setCells (b1+1) 0 f2.toList=W):=⟨_,rfl⟩
   have zz:W2.heap.size=b1+1:=by rw[<-b7.out,UB,h8.out]
   have c9:f1.toList.length=3:=by rw[UK];exact co
   have bg:f2.toList.length=3:=by rw[UK];exact cn
   have F3:kZ W1 W3/\Row W3 b1 [.slice none 0 0,.slice none 0 0,.slice none 0 0]/\Row W3 (b1+1) [.slice none 0 0,.slice none 0 0,.slice none 0 0]:=by
    have bA:kZ W1 W2:=by rw[<-b7.out];exact aC _ _
    have A:kZ W2 W3:=by rw[<-cz.out];exact aC _ _
    have D:Row W2 b1 [.slice none 0 0,.slice none 0 0,.slice none 0 0]:=by rw[<-b7.out,<-h8.out];exact aE W1 _ _
    have R:Row W3 (b1+1) [.slice none 0 0,.slice none 0 0,.slice none 0 0]:=by rw[<-cz.out,<-zz];exact aE W2 _ _
    exact⟨bA.trans (A.mono bA.size),D.below A,R⟩
   have F4:kZ W1 W4/\Row W4 b1 f1.toList/\Row W4 (b1+1) [.slice none 0 0,.slice none 0 0,.slice none 0 0]:=by
    rw[<-fq.out];exact⟨RG.below_setCells (by rw[h8.out];exact Uw _) _ _ _ F3.1,F3.2.1.put (by rw[c9];rfl),aR F3.2.2 oM⟩
   have F5:kZ W1 W5/\Row W5 b1 f1.toList/\Row W5 (b1+1) f2.toList:=by
    rw[<-et.out];exact⟨RG.below_setCells (by rw[h8.out];omega) _ _ _ F4.1,aR F4.2.1 oM,F4.2.2.put (by rw[bg];rfl)⟩
   have K5:=mk5 (k4 W1 W5 F5.1 K1.out) F5.2.1 F5.2.2 (gr.keep (Kq.of_below F5.1)) (fu.keep (Kq.of_below F5.1));have HT:Hid ((W2.heap.size=b1+1/\W3.there b1 0 f1.size/\W4.there (b1+1) 0 f2.size)/\f1.all (·.oneCell')=true/\f2.all (·.oneCell')=true/\(prog.info? 133).map (·.size)=some f1.size/\(prog.info? 133).map (·.size)=some f2.size/\(prog.info? 133).map (·.size)=some f1.toList.length/\(prog.info? 133).map (·.size)=some f2.toList.length):=⟨⟨zz,by rw[co];exact F3.2.1.2.2,by rw[cn];exact F4.2.2.2.2⟩,gp,g7,by rw[co];exact iGr,by rw[cn];exact iGr,by rw[c9];exact iGr,by rw[bg];exact iGr⟩
   obtain⟨y1,fh⟩:=hE (U3 f1);obtain⟨y2,fd⟩:=hE (U3 f2);rw[fh.out,fd.out];go_wp2_with (first|(refine alR 11 h8 b7 ?_)|(refine fB (v:=.pointer (some ⟨b1+1,0,none⟩)) (w':=W3) rfl 133 12 rfl rfl ?_ ?_;(rw[<-cz.out,<-HT.1.1];kernel_rfl))|(refine U2 rfl 133 (.tmp 11) _ rfl b1 0 f1 ?_ ?_ ?_ ?_ ?_ ?_;rfl;exact fh.symm;exact HT.1.2.1;exact HT.2.2.2.1;exact HT.2.1;rw[fq.out])|(refine U2 rfl 133 (.tmp 12) _ rfl (b1+1) 0 f2 ?_ ?_ ?_ ?_ ?_ ?_;rfl;exact fd.symm;exact HT.1.2.2;exact HT.2.2.2.2.1;exact HT.2.2.1;rw[et.out])|fail)
   refine(gwL [pE (.agg f1.toList.toArray),pE (.slice (some ⟨ga,oa,none⟩) n ca),pE (iZ m),pE (.slice (some ⟨ga,oa,none⟩) m ca),pE (.slice (some ⟨Z,ob,none⟩) n F),pE (iZ m),pE (.slice (some ⟨Z,ob+m*4,none⟩) m (F-m)),pM (λ_=>True) l1,pE (pvl X),RG.pN W5.heap.size z33] (λW=>kZ W5 W) (λW W' K h=>h.trans (K.mono h.size))).tail2 10 kR kR kR ⟨
    iD 133 11 b1 0 f1.toList uGr HT.2.2.2.2.2.1 rfl (λW S=>RG.range_below K5.2.1.2.1 S K5.2.1.1) (λ_=>rfl),
    gO 2 (.slice (some ⟨ga,oa,none⟩) n ca),
    gO 10 (iZ m),
    RG.gX 1 29 2 30 bv,
    gO 3 (.slice (some ⟨Z,ob,none⟩) n F),
    gO 10 (iZ m),
    RG.gX 4 32 5 33 kf,
    rG 0 28 3 31 6 34 158 (λx y z=>#[x,y,z]) (λx y z W hx D hz S=>by
     obtain rfl:x=.agg f1.toList.toArray:=hx;obtain rfl:y=(.slice (some ⟨ga,oa,none⟩) m ca):=D;obtain rfl:z=(.slice (some ⟨Z,ob+m*4,none⟩) m (F-m)):=hz;refine(cS.1 W _ (k4 W5 W S K5.1) (K5.2.2.2.1.keep (Kq.of_below S))).mono ?_;rintro e W' ⟨uu,rfl,K,hs⟩;exact⟨_,rfl,K,hs.q.mono λ_ _=>trivial⟩),
    oW 7 35 67 (λx=>#[x]) (λx W hx S=>by
     have hx:=hx;refine(cP.1 W x hx.sm).mono ?_;rintro e W' ⟨uu,rfl,K,rfl⟩;exact⟨_,rfl,K,rfl⟩),
    xP z33 103 (λW W' hR S=>⟨_,rfl,S.size,hR⟩),yCn⟩ (UR _ _).drew ?_
   intro V cj hR S;have ct:=hR 8 dC;obtain⟨A,cp,h5,kp⟩:∃k,V 9=jZ k/\W5.heap.size<=k/\Row cj k z33:=hR 9 dC;obtain⟨W7,d1⟩:=hE (cj.setCells A 0 (aA X));have ka:=aB h7.1;have d7:kZ W5 W7:=by rw[<-d1.out];exact RG.below_setCells h5 _ _ _ S
   have gs:Row W7 A (aA X):=by rw[<-d1.out];exact kp.put (by rw[ka];rfl)
   have c4:Hid (cj.there A 0 (aA X).toArray.size/\(prog.info? 103).map (·.size)=some (aA X).toArray.size):=by
    rw[VC,ka];exact⟨kp.2.2,iCP⟩
   dsimp only[bU,VK,Xn,Xo];simp only[UN,Us,Uu,Uv];obtain⟨gz,c5⟩:=hE (pvl X);rw[ct,cp,c5.out];have ec:=mk1 (Ux ((h4 W5).1 K5.1).r3.1 h5);have bh:Hid (∀g,E.ownBlock=some g\/J.ownBlock=some g->g<A):=λg M=>by
    have h:=(h4 W5).1 K5.1;rcases M with M|M
    ·exact Ux (h.tL.lt M).2 h5
    ·exact Ux (h.tR.lt M).2 h5
   have K7:=mk4 (k4 W5 W7 d7 K5.1) (K5.2.2.1.below d7) (K5.2.2.2.2.keep (Kq.of_below d7)) gs;go_wp2_with (first|(refine stR 13 d1 c5 c4.1 c4.2 (bW X) ?_)|fail)
   refine(gwL [pE (.agg f2.toList.toArray),pE (.slice (some ⟨ga,oa,none⟩) n ca),pE (iZ m),pE (.slice (some ⟨ga,oa+m*4,none⟩) m (ca-m)),pE (.slice (some ⟨Z,ob,none⟩) n F),pE (iZ m),pE (.slice (some ⟨Z,ob,none⟩) m F),pM (λ_=>True) l2,pE (pvl Y),RG.pN W7.heap.size z33] (λW=>kZ W7 W) (λW W' K h=>h.trans (K.mono h.size))).tail2 10 kR kR kR ⟨
    iD 133 12 (b1+1) 0 f2.toList uGr HT.2.2.2.2.2.2 rfl (λW S=>RG.range_below K7.2.1.2.1 S K7.2.1.1) (λ_=>rfl),
    gO 2 (.slice (some ⟨ga,oa,none⟩) n ca),
    gO 10 (iZ m),
    RG.gX 1 38 2 39 k6,
    gO 3 (.slice (some ⟨Z,ob,none⟩) n F),
    gO 10 (iZ m),
    RG.gX 4 41 5 42 bi,
    rG 0 37 3 40 6 43 158 (λx y z=>#[x,y,z]) (λx y z W hx D hz S=>by
     obtain rfl:x=.agg f2.toList.toArray:=hx;obtain rfl:y=(.slice (some ⟨ga,oa+m*4,none⟩) m (ca-m)):=D;obtain rfl:z=(.slice (some ⟨Z,ob,none⟩) m F):=hz;refine(cS.2 W _ (k4 W7 W S K7.1) (K7.2.2.1.keep (Kq.of_below S))).mono ?_;rintro e W' ⟨uu,rfl,K,hs⟩;exact⟨_,rfl,K,hs.q.mono λ_ _=>trivial⟩),
    oW 7 44 67 (λx=>#[x]) (λx W hx S=>by
     have hx:=hx;refine(cP.2 W x hx.sm).mono ?_;rintro e W' ⟨uu,rfl,K,rfl⟩;exact⟨_,rfl,K,rfl⟩),
    xP z33 103 (λW W' hR S=>⟨_,rfl,S.size,hR⟩),yCn⟩ (UR _ _).drew ?_
   intro V ck hR S;have ct:=hR 8 dC;obtain⟨D,cp,h5,kp⟩:∃k,V 9=jZ k/\W7.heap.size<=k/\Row ck k z33:=hR 9 dC;obtain⟨W9,da⟩:∃W,Hid (ck.setCells D 0 (aA Y)=W):=⟨_,rfl⟩
   have ka:=aB h7.2.1;have dk:kZ W7 W9:=by rw[<-da.out];exact RG.below_setCells h5 _ _ _ S
   have g0:Row W9 D (aA Y):=by rw[<-da.out];exact kp.put (by rw[ka];rfl)
   have bt:Hid (ck.there D 0 (aA Y).toArray.size/\(prog.info? 103).map (·.size)=some (aA Y).toArray.size):=by
    rw[VC,ka];exact⟨kp.2.2,iCP⟩
   dsimp only[bU,VK,Xn,Xo];simp only[UN,Us,Uu,Uv];obtain⟨i0,bo⟩:=hE (pvl Y);rw[ct,cp,bo.out];have K9:Hid (PH W9/\Row W9 A (aA X)/\Row W9 D (aA Y)/\W9.heap.size<=W9.heap.size):=⟨k4.out W7 W9 dk K7.1,K7.2.2.2.below dk,g0,Uw _⟩
   have es:=mk2 ec.out (Ux ((h4 W7).1 K7.1).r3.1 h5);have bu:Hid (∀g,E.ownBlock=some g\/J.ownBlock=some g->g<D):=λg M=>by
    have h:=(h4 W7).1 K7.1;rcases M with M|M
    ·exact Ux (h.tL.lt M).2 h5
    ·exact Ux (h.tR.lt M).2 h5
   go_wp2_with (first|(refine stR 14 da bo bt.1 bt.2 (bW Y) ?_)|fail)
   obtain⟨dP,hw,k3⟩:=Uy.1 uCP;have ke:(prog.info? 103).map (·.size)=some (aA X).length:=by rw[aB h7.1];exact iCP
   have kn:(prog.info? 103).map (·.size)=some (aA Y).length:=by rw[aB h7.2.1];exact iCP
   have k7:∀W W':Ur,kZ W W'->k+3<W.heap.size->A<W.heap.size->D<W.heap.size->(W.cell? ⟨k+3,0,none⟩=some E/\W.cell? ⟨k+3,1,none⟩=some J/\W.rangeAt A 0 (aA X)/\W.rangeAt D 0 (aA Y))->(W'.cell? ⟨k+3,0,none⟩=some E/\W'.cell? ⟨k+3,1,none⟩=some J/\W'.rangeAt A 0 (aA X)/\W'.rangeAt D 0 (aA Y)):=λW W' K h3 g8 kt h=>⟨by rw[K.cell (p:=⟨k+3,0,none⟩) h3];exact h.1,by rw[K.cell (p:=⟨k+3,1,none⟩) h3];exact h.2.1,RG.range_below h.2.2.1 K g8,RG.range_below h.2.2.2 K kt⟩
   have dd:∀W W':Ur,W'.heap[k+3]? = W.heap[k+3]?->W'.heap[A]? = W.heap[A]?->W'.heap[D]? = W.heap[D]?->(W.cell? ⟨k+3,0,none⟩=some E/\W.cell? ⟨k+3,1,none⟩=some J/\W.rangeAt A 0 (aA X)/\W.rangeAt D 0 (aA Y))->(W'.cell? ⟨k+3,0,none⟩=some E/\W'.cell? ⟨k+3,1,none⟩=some J/\W'.rangeAt A 0 (aA X)/\W'.rangeAt D 0 (aA Y)):=λW W' e3 fy g3 h=>⟨by rw[UW (a:=⟨k+3,0,none⟩) e3];exact h.1,by rw[UW (a:=⟨k+3,1,none⟩) e3];exact h.2.1,λj u hj=>by rw[UW (a:=⟨A,0+j,none⟩) fy];exact h.2.2.1 j u hj,λj u hj=>by rw[UW (a:=⟨D,0+j,none⟩) g3];exact h.2.2.2 j u hj⟩
   have P9:=(h4 W9).1 K9.1;have fx:=P9.r3.1;obtain⟨-,gw,-,f5⟩:=P9.r3;have S9:W9.drew.cell? ⟨k+3,0,none⟩=some E/\W9.drew.cell? ⟨k+3,1,none⟩=some J/\W9.drew.rangeAt A 0 (aA X)/\W9.drew.rangeAt D 0 (aA Y):=⟨f5.2.1 0 _ rfl,f5.2.1 1 _ rfl,K9.2.1.2.1,K9.2.2.1.2.1⟩
   have z9:k+3<W9.drew.heap.size/\A<W9.drew.heap.size/\D<W9.drew.heap.size:=⟨P9.r3.1,K9.2.1.1,K9.2.2.1.1⟩
   have P9:=P9.drew;have ei:Lb i=X:=by rw[fm.1 i,HS.2.1];exact h7.2.2.1.symm
   have dp:Rb i=Y:=by rw[fm.2 i,HS.2.2];exact h7.2.2.2.symm
   have h9:∀(i:Nat),i≠13->i≠15->∀(l:Array Bool) (W:Ur),(((l.setIfInBounds i true).getD 13 false=false->W.cell? ⟨k+3,0,none⟩=some E)/\((l.setIfInBounds i true).getD 15 false=false->W.cell? ⟨k+3,1,none⟩=some J)/\W.rangeAt A 0 (aA X)/\W.rangeAt D 0 (aA Y))->((l.getD 13 false=false->W.cell? ⟨k+3,0,none⟩=some E)/\(l.getD 15 false=false->W.cell? ⟨k+3,1,none⟩=some J)/\W.rangeAt A 0 (aA X)/\W.rangeAt D 0 (aA Y)):=λi h1 h2 l W h=>⟨λe=>h.1 (by rw[XT false h1];exact e),λe=>h.2.1 (by rw[XT false h2];exact e),h.2.2⟩
   have mS:∀(l:Array Bool) (W:Ur),(W.cell? ⟨k+3,0,none⟩=some E/\W.cell? ⟨k+3,1,none⟩=some J/\W.rangeAt A 0 (aA X)/\W.rangeAt D 0 (aA Y))->((l.getD 13 false=false->W.cell? ⟨k+3,0,none⟩=some E)/\(l.getD 15 false=false->W.cell? ⟨k+3,1,none⟩=some J)/\W.rangeAt A 0 (aA X)/\W.rangeAt D 0 (aA Y)):=λl W h=>⟨λ_=>h.1,λ_=>h.2.1,h.2.2⟩
   refine anyS.begin (λl W=>(l.getD 13 false=false->W.cell? ⟨k+3,0,none⟩=some E)/\(l.getD 15 false=false->W.cell? ⟨k+3,1,none⟩=some J)/\W.rangeAt A 0 (aA X)/\W.rangeAt D 0 (aA Y)) kR ?_;have bS:∀(p:Nat),Bef (λl W=>(yBS l 13 false=false->VY W ⟨k+3,0,none⟩=some E)/\(yBS l 15 false=false->VY W ⟨k+3,1,none⟩=some J)/\YU W A 0 (aA X)/\YU W D 0 (aA Y)) p W9.drew:=λp=>⟨#[],by simp,mS _ _ S9⟩
   refine anyS.val (i:=0) (d:=some 46) (x:=.pointer (some ⟨k+3,0,none⟩)) rfl 13 (h9 0 dC dC) (bS 13) (mS _ _ S9) ?_;refine anyS.cel (i:=1) (d:=some 47) (x:=E) rfl 13 (h9 1 dC dC) 24 46 (k+3) 0 rfl uLL (λW ⟨l,e,h⟩=>h.1 e) (bS 13) (mS _ _ S9) ?_;refine anyS.row (i:=2) (d:=some 48) (cs:=aA X) rfl 13 (h9 2 dC dC) 103 13 A 0 dP rfl hw k3 ke (λW ⟨l,e,h⟩=>h.2.2.1) (bS 13) (mS _ _ S9) ?_;refine anyS.val (i:=6) (d:=some 52) (x:=.pointer (some ⟨k+3,1,none⟩)) rfl 13 (h9 6 dC dC) (bS 13) (mS _ _ S9) ?_;refine anyS.cel (i:=7) (d:=some 53) (x:=J) rfl 15 (h9 7 dC dC) 24 52 (k+3) 1 rfl uLL (λW ⟨l,e,h⟩=>h.2.1 e) (bS 15) (mS _ _ S9) ?_;refine anyS.row (i:=8) (d:=some 54) (cs:=aA Y) rfl 14 (h9 8 dC dC) 103 14 D 0 dP rfl hw k3 kn (λW ⟨l,e,h⟩=>h.2.2.2) (bS 14) (mS _ _ S9) ?_;refine anyS.cal (i:=3) (d:=some 49) rfl (fZ h7.1 W9.drew) (λxa Wa hu=>?_);have Pa:=P9.grow hu.1;have Sa:=k7 _ _ hu.1 z9.1 z9.2.1 z9.2.2 S9;have za:k+3<Wa.heap.size/\A<Wa.heap.size/\D<Wa.heap.size:=by have:=hu.1.size;omega
   obtain⟨gx,rfl⟩:=hu.2.2;have Ea:=hu.2.1.mono2 λg _ M=>P9.qn g M
   have dh:=mk2 hu.1 hu.2.1;refine⟨mS _ _ Sa,?_⟩;have bb:=aC Wa (.cells #[r33 gx] 23);have ge:=SJ Ea Wa;have Pb:=Pa.grow bb;have Sb:=k7 _ _ bb za.1 za.2.1 za.2.2 Sa;have zb:k+3<(Wa.alloc (.cells #[r33 gx] 23)).heap.size/\A<(Wa.alloc (.cells #[r33 gx] 23)).heap.size/\D<(Wa.alloc (.cells #[r33 gx] 23)).heap.size:=by have:=bb.size;omega
   have gc:=(aE Wa [r33 gx] 23).2.1 0 _ rfl;refine anyS.ins (i:=4) (d:=some 50) (v:=sZ Wa.heap.size 1 1) (w':=Wa.alloc (.cells #[r33 gx] 23)) (I:=Vy 24 1 #[(0,r33 gx)]) rfl ge (mS _ _ Sb) ?_;obtain⟨R,Wc,gv,Pc,A1⟩:=P9.appL (ga:=Wa.heap.size) (gx:=gx) (dh.1.trans (bb.mono dh.1.size)) (by rw[ei];exact dh.2.keep (Kq.of_below bb)) gc oM;have Sc:=dd _ _ (A1.keep (k+3) zb.1 λe=>by have:=(Pb.tL.lt e).1;omega) (A1.keep A zb.2.1 λe=>by have:=bh.out _ (U4 e);omega) (A1.keep D zb.2.2 λe=>by have:=bu.out _ (U4 e);omega) Sb;have zc:k+3<Wc.heap.size/\A<Wc.heap.size/\D<Wc.heap.size:=by have:=A1.size;omega
   refine anyS.ins (i:=5) (d:=some 51) (v:=R) (w':=Wc) (I:=Vt #[24,24] 24 #[E,sZ Wa.heap.size 1 1]) rfl gv (mS _ _ Sc) ?_;refine anyS.val (i:=12) (d:=some 58) (x:=.pointer (some ⟨k+3,0,none⟩)) rfl 13 (h9 12 dC dC) ⟨#[],by simp,mS _ _ Sc⟩ (mS _ _ Sc) ?_;refine anyS.cal (i:=9) (d:=some 55) rfl (fZ h7.2.1 Wc) (λxd Wd he=>?_);have Pd:=Pc.grow he.1;have Sd:=k7 _ _ he.1 zc.1 zc.2.1 zc.2.2 Sc;have zd:k+3<Wd.heap.size/\A<Wd.heap.size/\D<Wd.heap.size:=by have:=he.1.size;omega
   obtain⟨gy,rfl⟩:=he.2.2;have Ed:=he.2.1.mono2 λg _ M=>Pc.qn g M
   have d0:=mk2 he.1 he.2.1;refine⟨mS _ _ Sd,?_⟩;have bd:=aC Wd (.cells #[r33 gy] 23);have fl:=SJ Ed Wd;have Pe:=Pd.grow bd;have Se:=k7 _ _ bd zd.1 zd.2.1 zd.2.2 Sd;have ze:k+3<(Wd.alloc (.cells #[r33 gy] 23)).heap.size/\A<(Wd.alloc (.cells #[r33 gy] 23)).heap.size/\D<(Wd.alloc (.cells #[r33 gy] 23)).heap.size:=by have:=bd.size;omega
   have gu:(Wd.alloc (.cells #[r33 gy] 23)).cell? ⟨Wd.heap.size,0,none⟩=some (r33 gy):=(aE Wd [r33 gy] 23).2.1 0 _ rfl;refine anyS.ins (i:=10) (d:=some 56) (v:=sZ Wd.heap.size 1 1) (w':=Wd.alloc (.cells #[r33 gy] 23)) (I:=Vy 24 1 #[(0,r33 gy)]) rfl fl (mS _ _ Se) ?_;have gh:ElQ (Wc.heap.size<=·) 33 (Wd.alloc (.cells #[r33 gy] 23)) (r33 gy) (Rb i):=by rw[dp];exact d0.2.keep (Kq.of_below bd)
   have gj:i<=900:=oM;have f4:=Pc.appR (ga:=Wd.heap.size) (gx:=gy) (d0.1.trans (bd.mono d0.1.size)) gh gu gj;obtain⟨T,Wf,gt,Pf,A2⟩:=f4;have Sf:=dd _ _ (A2.keep (k+3) ze.1 λe=>by have:=(Pe.tR.lt e).1;omega) (A2.keep A ze.2.1 λe=>by have:=bh.out _ (UX e);omega) (A2.keep D ze.2.2 λe=>by have:=bu.out _ (UX e);omega) Se;have zf:A<Wf.heap.size/\D<Wf.heap.size:=by have:=A2.size;omega
   refine anyS.ins (i:=11) (d:=some 57) (v:=T) (w':=Wf) (I:=Vt #[24,24] 24 #[J,sZ Wd.heap.size 1 1]) rfl gt (mS _ _ Sf) ?_;have ko:=Pf.tL.one;have ki:=Pf.tR.one;obtain⟨-,i3,-,ci⟩:=Pf.r3;have e5:Wf.there (k+3) 0 1:=λj hj=>ci.2.2 j (Ux hj (Nat.succ_le_succ (WA _)))
   have ff:Wf.there (k+3) 1 1:=λj hj=>by
    have kl:j=0:=oM;subst kl;exact ci.2.2 1 (yBb (Y2 _))
   have g5:A≠k+3:=by have:=es.1;omega
   have g9:D≠k+3:=by have:=es.2;omega
   have rg:∀(o:Nat) (x:Ut) (W:Ur),W.rangeAt A 0 (aA X)/\W.rangeAt D 0 (aA Y)->(W.setCells (k+3) o [x]).rangeAt A 0 (aA X)/\(W.setCells (k+3) o [x]).rangeAt D 0 (aA Y):=λo x W h=>⟨Vh h.1 _ _ _ (U4 g5),Vh h.2 _ _ _ (U4 g9)⟩
   have d9:=(kQ (x:=R) (o:=0) ci (Y2 _)).2.1 1 _ rfl;refine anyS.sto (i:=13) (d:=none) rfl 24 (.tmp 58) (.tmp 51) rfl (k+3) 0 R ko.1 ko.2 e5 iLL ⟨λe=>absurd e (nfB kR),λ_=>d9,rg _ _ _ Sf.2.2⟩ ?_;refine anyS.nxt (i:=14) (d:=some 59) (x:=.pointer (some ⟨k+3,1,none⟩)) rfl ⟨λe=>absurd e (nfB kR),λ_=>d9,rg _ _ _ Sf.2.2⟩ ?_;refine anyS.sto (i:=15) (d:=none) rfl 24 (.tmp 59) (.tmp 57) rfl (k+3) 1 T ki.1 ki.2 (VW ff _ _ _) iLL ⟨λe=>absurd e (nfB kR),λe=>absurd e (nfB kR),rg _ _ _ (rg _ _ _ Sf.2.2)⟩ ?_;simp only[UN,Us,Uu,Uv];refine anyS.fin kR (λWg eg=>?_) _;have Pg:=Pf.put' eg;have ek:Wg.rangeAt A 0 (aA X)/\Wg.rangeAt D 0 (aA Y):=by rw[eg];exact rg 1 T _ (rg 0 R _ Sf.2.2)
   have zg:A<Wg.heap.size/\D<Wg.heap.size:=by rw[eg,setCells_size,setCells_size];exact zf
   clear Pf Sf ko ki e5 ff rg d9 zf mS h9 S9 P9 z9 k7 dd eg;have KG:=Hid.mk' (V3 Pg (V3 ek zg));clear Pg ek zg;obtain⟨dL,c3,bl⟩:=Uy.1 uLg;have cy:Hid ((prog.underlying 145=some dL/\dL.isRow=true)/\prog.underlying 103=some dP/\dP.isRow=true):=⟨⟨c3,bl⟩,hw,k3⟩
   have k9:Hid ((prog.info? 103).map (·.size)=some (aA X).length/\(prog.info? 103).map (·.size)=some (aA Y).length):=⟨ke,kn⟩
   clear c3 bl hw k3 ke kn ei dp fx;obtain⟨pX,eo⟩:∃v,Hid (pvl X=v):=⟨_,rfl⟩
   obtain⟨pY,ew⟩:∃v,Hid (pvl Y=v):=⟨_,rfl⟩
   have em:Hid (UH prog 146 #[vl,.string ⟨#[108,101,102,116]⟩,pX,.string ⟨#[114,105,103,104,116]⟩,pY] Wg (Ret λe w'=>SP.Only r 0 32 Wg w'/\Holds encB w' r 0 sx/\e=nv cx.val)):=by
    rw[<-kv.out,<-eo.out,<-ew.out];exact dz.out Wg KG.1.lg KG.1.ls
   go_wp2_with (first|(refine U6 rfl 145 (.tmp 4) rfl k 0 ?_ [jZ r] dL ?_ ?_ ?_ ?_ ?_;rfl;exact KG.1.r0.2.1;exact cy.1.1;exact cy.1.2;exact iLg;rw[show U3 [jZ r].toArray=vl from kv.out])|(refine ldR 13 KG.2.1.1 eo uCP k9.1 ?_)|(refine ldR 14 KG.2.1.2 ew uCP k9.2 ?_)|fail)
   refine em.mono ?_;rintro e Wh ⟨uu,rfl,eh,fn,rfl⟩;have ez:Hid (Ph w Wh r k (i+1) (i+1) (m+m) R T R T v (.slice (some ⟨ga,oa,none⟩) (m+m) ca) (.slice (some ⟨Z,ob,none⟩) (m+m) F) Lb Rb sx (λj=>(L.a j).val) (λj=>(L.b j).val) G H U):=KG.1.say eh fn dx.2;clear eh fn em KG cy k9 dz;obtain⟨x,hp⟩:∃x,Hid (cx.val=x):=⟨_,rfl⟩
   obtain⟨xi,h6⟩:∃x,Hid ((ivF cx).val=x):=⟨_,rfl⟩
   have fr:Hid (∀W:Ur,UH prog 159 #[nv x] W (rZ W λe w'=>e=nv xi)):=by
    rw[<-hp.out,<-h6.out];exact λW=>uS HF.2.1 cx.val cx.isLt W
   rw[hp.out];obtain⟨b5,b8⟩:∃b,Hid (Wh.heap.size=b):=⟨_,rfl⟩
   obtain⟨Wi,d2⟩:∃W,Hid (Wh.alloc (.cells #[uZ 0,uZ 0,uZ 0,uZ 0] 49)=W):=⟨_,rfl⟩
   obtain⟨Wj,kx⟩:∃W,Hid (Wi.setCells b5 0 (wn x)=W):=⟨_,rfl⟩
   have Fi:Hid (Row Wi b5 [uZ 0,uZ 0,uZ 0,uZ 0]/\kZ Wh Wi):=by rw[<-d2.out,<-b8.out];exact⟨aE Wh _ _,aC _ _⟩
   have bj:kZ Wh Wj:=by rw[<-kx.out];exact RG.below_setCells (by rw[b8.out];exact Uw _) _ _ _ Fi.2
   have Kj:Hid (Ph w Wj r k (i+1) (i+1) (m+m) R T R T v (.slice (some ⟨ga,oa,none⟩) (m+m) ca) (.slice (some ⟨Z,ob,none⟩) (m+m) F) Lb Rb sx (λj=>(L.a j).val) (λj=>(L.b j).val) G H U/\Row Wj b5 (wn x)):=⟨ez.grow bj,by rw[<-kx.out];exact Fi.1.put rfl⟩
   obtain⟨vx,ku⟩:∃v,Hid (nv x=v):=⟨_,rfl⟩
   have bp:Hid (∀W:Ur,UH prog 159 #[vx] W (rZ W λe w'=>e=nv xi)):=by rw[<-ku.out];exact fr.out
   rw[ku.out];clear bj ez fr;go_wp2_with (first|(refine alR 15 b8 d2 ?_)|(refine stR 15 kx ku Fi.1.2.2 nSc (aM x) ?_)|(refine ldR 15 Kj.2.2.1 ku rSc nSc ?_)|fail)
   refine(bp Wj).mono ?_;rintro e Wk ⟨uu,rfl,h5,rfl⟩;obtain⟨b6,kw⟩:∃b,Hid (Wk.heap.size=b):=⟨_,rfl⟩
   obtain⟨Wl,cg⟩:∃W,Hid (Wk.alloc (.cells #[uZ 0,uZ 0,uZ 0,uZ 0] 49)=W):=⟨_,rfl⟩
   obtain⟨Wm,be⟩:∃W,Hid (Wl.setCells b6 0 (wn xi)=W):=⟨_,rfl⟩
   have Fl:Hid (Row Wl b6 [uZ 0,uZ 0,uZ 0,uZ 0]/\kZ Wk Wl):=by rw[<-cg.out,<-kw.out];exact⟨aE Wk _ _,aC _ _⟩
   have bm:kZ Wj Wm:=by
    have:kZ Wk Wm:=by rw[<-be.out];exact RG.below_setCells (by rw[kw.out];exact Uw _) _ _ _ Fl.2
    exact h5.trans (this.mono h5.size)
   have Km:Hid (Ph w Wm r k (i+1) (i+1) (m+m) R T R T v (.slice (some ⟨ga,oa,none⟩) (m+m) ca) (.slice (some ⟨Z,ob,none⟩) (m+m) F) Lb Rb sx (λj=>(L.a j).val) (λj=>(L.b j).val) G H U/\Row Wm b5 (wn x)/\Row Wm b6 (wn xi)):=⟨Kj.1.grow bm,Kj.2.below bm,by rw[<-be.out];exact Fl.1.put rfl⟩
   obtain⟨vi,f9⟩:∃v,Hid (nv xi=v):=⟨_,rfl⟩
   rw[f9.out];clear bm h5 Kj Fi bp d2 kx b8;go_wp2_with (first|(refine alR 16 kw cg ?_)|(refine stR 16 be f9 Fl.1.2.2 nSc (aM xi) ?_)|fail)
   clear Fl cg be kw;simp only[UN,Us,Uu,Uv];have bf:x<N:=by rw[<-hp.out];exact cx.isLt
   have kj:xi<N:=by rw[<-h6.out];exact(ivF cx).isLt
   have fk:sIn N x=xi:=by rw[<-hp.out,<-h6.out];rfl
   have dw:GOk N (m+m) c G H U:=sN (by have:=sG.2.2.1;omega) sG.2.2.2.1 sG.2.2.2.2.1 sG.1 sG.2.1 HF.2.2.2.1 HF.2.2.2.2.1 HF.2.2.2.2.2.1;have PW:Hid (∀W,kZ Wm W->Ph w W r k (i+1) (i+1) (m+m) R T R T v (.slice (some ⟨ga,oa,none⟩) (m+m) ca) (.slice (some ⟨Z,ob,none⟩) (m+m) F) Lb Rb sx (λj=>(L.a j).val) (λj=>(L.b j).val) G H U):=λW K=>Km.1.grow K
   have cF:Hid ((∀W,kZ Wm W->UH prog 160 #[.slice (some ⟨ga,oa,none⟩) n ca,nv x,nv xi] W (rZ W λe w'=>SLq (QH r k R T) w' e m (nM N x xi m (λj=>(L.a j).val))))/\(∀W,kZ Wm W->UH prog 160 #[.slice (some ⟨Z,ob,none⟩) n F,nv xi,nv x] W (rZ W λe w'=>SLq (QH r k R T) w' e m (nM N xi x m (λj=>(L.b j).val))))/\(∀W,kZ Wm W->UH prog 161 #[v,nv x] W (rZ W λe w'=>GRq (QH r k R T) w' e m (kY N xi x m G) (kY N x xi m H) U))):=by
    rw[<-hn.out];refine⟨λW K=>?_,λW K=>?_,λW K=>?_⟩
    ·refine(Jz HF.2.1 m (by have:=sG.2.2.2.2.2.1;omega) _ x xi bf kj (λj _=>(L.a j).isLt) _ W (PW W K).la).mono ?_;rintro e w' ⟨uu,rfl,h1,h2⟩;exact⟨_,rfl,h1,h2.mono λg M=>(PW W K).qn g M⟩
    ·refine(Jz HF.2.1 m (by have:=sG.2.2.2.2.2.1;omega) _ xi x kj bf (λj _=>(L.b j).isLt) _ W (PW W K).lb).mono ?_;rintro e w' ⟨uu,rfl,h1,h2⟩;exact⟨_,rfl,h1,h2.mono λg M=>(PW W K).qn g M⟩
    ·have:=Fq HF.2.1 m c sG.2.2.1 G H U dw x bf v W (PW W K).qn (PW W K).gr;rw[fk]at this;exact this
   obtain⟨ev,fp,kd,fe,bq⟩:=Km.1.r1;have k5:Hid (v=.agg ev/\Row Wm (k+1) ev.toList/\(prog.info? 133).map (·.size)=some ev.toList.length/\ev.size=3):=⟨fp,bq,by rw[UK,kd];exact iGr,kd⟩
   clear fp kd fe bq bf kj fk dw;refine(gwL [pE (.slice (some ⟨ga,oa,none⟩) n ca),pE (nv x),pE (nv xi),RG.pS (QH r k R T) m (nM N x xi m (λj=>(L.a j).val)),pE (.slice (some ⟨Z,ob,none⟩) n F),pE (nv xi),pE (nv x),RG.pS (QH r k R T) m (nM N xi x m (λj=>(L.b j).val)),pE (.agg ev.toList.toArray),pE (nv x),pR (QH r k R T) m (kY N xi x m G) (kY N x xi m H) U] (λW=>kZ Wm W) (λW W' K h=>h.trans (K.mono h.size))).tail2 11 kR kR kR ⟨
    gO 2 (.slice (some ⟨ga,oa,none⟩) n ca),
    gLo 15 (λW S=>RG.range_below Km.2.1.2.1 S Km.2.1.1) rSc nSc,
    gLo 16 (λW S=>RG.range_below Km.2.2.2.1 S Km.2.2.1) rSc nSc,
    rG 0 66 1 67 2 68 160 (λx y z=>#[x,y,z]) (λa1 a2 a3 W h1 h2 h3 S=>by
     obtain rfl:a1=(.slice (some ⟨ga,oa,none⟩) n ca):=h1;obtain rfl:a2=nv x:=h2;obtain rfl:a3=nv xi:=h3;refine(cF.1 W S).mono ?_;rintro e W' ⟨uu,rfl,K,hs⟩;exact⟨_,rfl,K,hs⟩),
    gO 3 (.slice (some ⟨Z,ob,none⟩) n F),
    gLo 16 (λW S=>RG.range_below Km.2.2.2.1 S Km.2.2.1) rSc nSc,
    gLo 15 (λW S=>RG.range_below Km.2.1.2.1 S Km.2.1.1) rSc nSc,
    rG 4 70 5 71 6 72 160 (λx y z=>#[x,y,z]) (λa1 a2 a3 W h1 h2 h3 S=>by
     obtain rfl:a1=(.slice (some ⟨Z,ob,none⟩) n F):=h1;obtain rfl:a2=nv xi:=h2;obtain rfl:a3=nv x:=h3;refine(cF.2.1 W S).mono ?_;rintro e W' ⟨uu,rfl,K,hs⟩;exact⟨_,rfl,K,hs⟩),
    iD 133 5 (k+1) 0 ev.toList uGr k5.2.2.1 kR (λW S=>RG.range_below k5.2.1.2.1 S k5.2.1.1) (λ_=>rfl),
    gLo 15 (λW S=>RG.range_below Km.2.1.2.1 S Km.2.1.1) rSc nSc,
    eD 8 74 9 75 161 (λx y=>#[x,y]) (λa1 a2 W h1 h2 S=>by
     obtain rfl:a1=v:=(show a1=.agg ev.toList.toArray from h1).trans k5.1.symm;obtain rfl:a2=nv x:=h2;refine(cF.2.2 W S).mono ?_;rintro e W' ⟨uu,rfl,K,hs⟩;exact⟨_,rfl,K,hs⟩),yCn⟩ (UR _ _).drew ?_
   intro V Wn hR S;have cv:SLq (QH r k R T) Wn (V 3) m (nM N x xi m (λj=>(L.a j).val)):=hR 3 dC;have cf:SLq (QH r k R T) Wn (V 7) m (nM N xi x m (λj=>(L.b j).val)):=hR 7 dC;have k2:GRq (QH r k R T) Wn (V 10) m (kY N xi x m G) (kY N x xi m H) U:=hR 10 dC;obtain⟨ef,d4,kr,c0⟩:=k2.ar;rw[d4]at k2;dsimp only[bU,VK,Xn,Xo];simp only[UN,Us,Uu,Uv];rw[d4];generalize V 3=na at cv⊢;generalize V 7=nb at cf⊢;have Pn:=(PW Wn S).next cv cf k2;obtain⟨Wo,ej⟩:∃W,Hid (Wn.setCells (k+1) 0 ef.toList=W):=⟨_,rfl⟩
   rw[ej.out]at Pn;have d3:Hid (Wn.there (k+1) 0 ef.size/\(prog.info? 133).map (·.size)=some ef.size/\ef.all (·.oneCell')=true):=by
    refine⟨?_,by rw[kr];exact iGr,c0⟩;rw[kr];have:=(k5.2.1.below S).2.2;rw[UK,k5.2.2.2]at this;exact this
   have c7:(aD C f).qT (chF N) ivF u m L=⟨sx,Md.fS cx (ivF cx) m L.a,Md.fS (ivF cx) cx m L.b,(aD C f).fP (ivF cx) cx m L.g,(aD C f).fP cx (ivF cx) m L.h⟩:=by
    unfold Md.qT;rw[dx.1]
   have dy:Hid (∃E J v G H,Gd N (2^(t-(i+1))) (2^(i+1)) G ((aD C f).pst (chF N) ivF u t q (i+1)).g/\Gd N (2^(t-(i+1))) (2^(i+1)) H ((aD C f).pst (chF N) ivF u t q (i+1)).h/\Ph w Wo r k (i+1) (i+1) (2^(t-(i+1))) E J E J v na nb Lb Rb ((aD C f).pst (chF N) ivF u t q (i+1)).s (λj=>(((aD C f).pst (chF N) ivF u t q (i+1)).a j).val) (λj=>(((aD C f).pst (chF N) ivF u t q (i+1)).b j).val) G H U):=by
    show ∃E J v G H,_;rw[HS.1,c7,HE.1,HE.2];have ea:nM N x xi m (λj=>(L.a j).val)=λj=>(Md.fS cx (ivF cx) m L.a j).val:=by
     rw[<-hp.out,<-h6.out];funext j;exact Cu cx (ivF cx) m L.a j
    have eb:nM N xi x m (λj=>(L.b j).val)=λj=>(Md.fS (ivF cx) cx m L.b j).val:=by
     rw[<-hp.out,<-h6.out];funext j;exact Cu (ivF cx) cx m L.b j
    rw[ea,eb]at Pn;have g1:=sG.1.fold C f (ivF cx) cx;have g2:=sG.2.1.fold C f cx (ivF cx);rw[hp.out,h6.out]at g1 g2;exact⟨_,_,_,_,_,g1,g2,Pn⟩
   obtain⟨vf,ey⟩:∃v,Hid (U3 ef=v):=⟨_,rfl⟩
   rw[ey.out];clear hR S cv cf k2 d4 kr c0 Pn c7 cF PW Km;generalize V 0=q0;generalize V 1=q1;generalize V 2=q2;generalize V 4=q4;generalize V 5=q5;generalize V 6=q6;generalize V 8=q8;generalize V 9=q9;go_wp2_with (first|(refine U2 rfl 133 (.tmp 5) _ rfl (k+1) 0 ef ?_ ?_ ?_ ?_ ?_ ?_;rfl;exact ey.symm;exact d3.1;exact d3.2.1;exact d3.2.2;rw[ej.out])|fail)
   go_roundg (gk-1)
   case measure=>have:=HI.out;omega
   case rel=>exact⟨i+1,by have:=HI.out;omega,dy⟩
  ·have g4:i=t:=oM;subst g4;obtain⟨E,J,v,G,H,-,-,h0⟩:=KM.out;clear KM;rw[Nat.sub_self,Nat.pow_zero]at h0;obtain⟨ga,oa,ca,rfl,-,qa,f6,X⟩:=id h0.la;obtain⟨Z,ob,F,rfl,-,qb,du,V⟩:=id h0.lb;have X:=X 0 dC;have V:=V 0 dC;obtain⟨a0,d6⟩:∃a,Hid ((((aD C f).pst (chF N) ivF u i q i).a 0).val=a):=⟨_,rfl⟩
   obtain⟨b0,de⟩:∃a,Hid ((((aD C f).pst (chF N) ivF u i q i).b 0).val=a):=⟨_,rfl⟩
   have X:wr.rangeAt ga (oa+4*0) (wn a0):=by rw[<-d6.out];exact X
   have V:wr.rangeAt Z (ob+4*0) (wn b0):=by rw[<-de.out];exact V
   have e9:Hid (a0<N/\b0<N):=⟨by rw[<-d6.out];exact Fin.isLt _,by rw[<-de.out];exact Fin.isLt _⟩
   have KP:=Hid.mk' h0;have KR:Hid (wr.rangeAt ga (oa+4*0) (wn a0)/\wr.rangeAt Z (ob+4*0) (wn b0)/\ga<wr.heap.size/\Z<wr.heap.size):=⟨X,V,f6,du⟩
   have hz:k+4<=wr.heap.size:=h0.r3.1;have d5:=Hid.mk' hz;obtain⟨dS,k8,kb⟩:=Uy.1 rSc;have na:ga≠k+3:=by have:=qa.2.1;omega
   have nb:Z≠k+3:=by have:=qb.2.1;omega
   have L:∀W,kZ wr W->W.rangeAt ga (oa+4*0) (wn a0)/\W.rangeAt Z (ob+4*0) (wn b0):=λW K=>⟨RG.range_below X K f6,RG.range_below V K du⟩
   have db:∀(o:Nat) (x:Ut) (W:Ur),W.rangeAt ga (oa+4*0) (wn a0)/\W.rangeAt Z (ob+4*0) (wn b0)->(W.setCells (k+3) o [x]).rangeAt ga (oa+4*0) (wn a0)/\(W.setCells (k+3) o [x]).rangeAt Z (ob+4*0) (wn b0):=λo x W h=>⟨Vh h.1 _ _ _ (U4 na),Vh h.2 _ _ _ (U4 nb)⟩
   have bd:kZ wr wr.drew:=(UR _ _).drew;clear h0 hz hi;go_wp2_with fail
   refine anyS.begin (λ_ W=>W.rangeAt ga (oa+4*0) (wn a0)/\W.rangeAt Z (ob+4*0) (wn b0)) kR ?_;have bS:Bef (λ_ W=>YU W ga (oa+4*0) (wn a0)/\YU W Z (ob+4*0) (wn b0)) 11 wr.drew:=⟨#[],by simp,L _ bd⟩
   refine anyS.val (i:=0) (d:=some 77) (x:=.slice (some ⟨ga,oa,none⟩) 1 ca) rfl 11 (λ_ _ h=>h) bS (L _ bd) ?_;simp only[UN,Us,Uu,Uv];refine anyS.val (i:=1) (d:=some 78) (x:=.pointer (some ⟨ga,oa+4*0,none⟩)) rfl 11 (λ_ _ h=>h) bS (L _ bd) ?_ (hv:=hvI (lF ga oa 1 ca 0 dC) kR);simp only[UN,Us,Uu,Uv];refine anyS.row (i:=2) (d:=some 79) (cs:=wn a0) rfl 11 (λ_ _ h=>h) 49 78 ga (oa+4*0) dS rfl k8 kb nSc (λW ⟨l,e,h⟩=>h.1) bS (L _ bd) ?_;simp only[UN,Us,Uu,Uv];refine anyS.val (i:=4) (d:=some 81) (x:=(.slice (some ⟨Z,ob,none⟩) 1 F)) rfl 11 (λ_ _ h=>h) bS (L _ bd) ?_;simp only[UN,Us,Uu,Uv];refine anyS.val (i:=5) (d:=some 82) (x:=.pointer (some ⟨Z,ob+4*0,none⟩)) rfl 11 (λ_ _ h=>h) bS (L _ bd) ?_ (hv:=hvI (lF Z ob 1 F 0 dC) kR);simp only[UN,Us,Uu,Uv];refine anyS.row (i:=6) (d:=some 83) (cs:=wn b0) rfl 11 (λ_ _ h=>h) 49 82 Z (ob+4*0) dS rfl k8 kb nSc (λW ⟨l,e,h⟩=>h.2) bS (L _ bd) ?_;simp only[UN,Us,Uu,Uv];clear bS;refine anyS.cal (i:=3) (d:=some 80) rfl (fW HF.2.1 e9.1 wr.drew) (λxA W1 Y=>?_);obtain⟨D,rfl⟩:=Y.2.2;have bA:kZ wr W1:=bd.trans Y.1;refine⟨L _ bA,?_⟩;simp only[UN,Us,Uu,Uv];refine anyS.val (i:=8) (d:=some 85) (x:=.pointer (some ⟨k+3,2,none⟩)) rfl 11 (λ_ _ h=>h) ⟨#[],by simp,L _ bA⟩ (L _ bA) ?_;simp only[UN,Us,Uu,Uv];have P1:=KP.grow bA;have lA:wr.heap.size<=D/\D<W1.heap.size:=by
    obtain⟨k1,c1,e1,-,-,q1,l1,-⟩:=Y.2.1;obtain rfl:D=k1:=UO.inj (congrArg Wp e1);exact⟨q1,l1⟩
   have f7:ElQ (k+4<=·) 32 W1 (r32 D) (bx a0):=Y.2.1.mono2 λg _ M=>UC d5.out M
   have R:∀(W:Ur) (o:Nat) (x:Ut),Kq (k+4<=·) W (W.setCells (k+3) o [x]):=λW o x=>Kq.set λg M e=>oM
   have S:∀g,E.ownBlock=some g->g<wr.heap.size/\g≠k+3:=λg M=>⟨(KP.tL.lt M).2,by have:=(KP.tL.lt M).1;omega⟩
   have T:∀g,J.ownBlock=some g->g<wr.heap.size/\g≠k+3:=λg M=>⟨(KP.tR.lt M).2,by have:=(KP.tR.lt M).1;omega⟩
   have key:∀(W:Ur),(∀g,g<wr.heap.size->g≠k+3->W.heap[g]? = wr.heap[g]?)->wr.heap.size<=W.heap.size->∀A,D<A->A<W.heap.size->DjF (k+4) W i E J (r32 D) (r32 A):=λW hk hs A h1 h2=>DjF.of KP.dj hs (λg M=>hk g (S g M).1 (S g M).2) (λg M=>hk g (T g M).1 (T g M).2) d5.out lA.1 h1 h2
   have dl:∀ {W:Ur},R3 W (k+3) E J->∃z,Row (W.setCells (k+3) 2 [r32 D]) (k+3) [E,J,r32 D,z]/\W.there (k+3) 2 1:=λh=>by
    obtain⟨-,rs,hl,hr⟩:=h;match rs,hl,hr with
    | [x,z],_,hr =>
     refine⟨z,kQ (x:=r32 D) (o:=2) hr (Yv rfl),λj hj=>?_⟩;have kl:j=0:=oM;subst kl;exact hr.2.2 2 (Yv rfl)
   obtain⟨PH,p1,pF⟩:∃PH:Ur->Prop,(∀W W',kZ W1 W->W'=W.setCells (k+3) 2 [r32 D]->PH W'/\R3 W (k+3) E J)/\(∀W A,PH W->ElQ (k+4<=·) 32 (W.setCells (k+3) 3 [r32 A]) (r32 D) (bx a0)->ElQ (k+4<=·) 32 (W.setCells (k+3) 3 [r32 A]) (r32 A) (bx b0)->DjF (k+4) (W.setCells (k+3) 3 [r32 A]) i E J (r32 D) (r32 A)->Row (W.setCells (k+3) 3 [r32 A]) (k+2) [.slice none 0 0,.slice none 0 0,.slice none 0 0,.slice none 0 0]/\Row ((W.setCells (k+3) 3 [r32 A]).setCells (k+2) 0 [E,J,r32 D,r32 A]) (k+2) [E,J,r32 D,r32 A]/\PhR w r i Lb Rb ((aD C f).pst (chF N) ivF u i q i).s (bx a0) (bx b0) (.agg #[E,J,r32 D,r32 A]) ((W.setCells (k+3) 3 [r32 A]).setCells (k+2) 0 [E,J,r32 D,r32 A])):=⟨λW=>Ph w W r k i i 1 E J E J v (.slice (some ⟨ga,oa,none⟩) 1 ca) (.slice (some ⟨Z,ob,none⟩) 1 F) Lb Rb ((aD C f).pst (chF N) ivF u i q i).s (λj=>(((aD C f).pst (chF N) ivF u i q i).a j).val) (λj=>(((aD C f).pst (chF N) ivF u i q i).b j).val) G H U,λW W' K e=>by rw[e];exact⟨(P1.grow K).putA (o:=0) dC,(P1.grow K).r3⟩,λW A h e1 e2 e3=>(h.putA (o:=1) dC).fin e1 e2 e3⟩
   have lB:∀ {W W':Ur}{A:Nat}{b:Bs},ElQ (W.heap.size<=·) 32 W' (r32 A) b->W.heap.size<=A/\A<W'.heap.size:=λh=>by
    obtain⟨k1,c1,e1,-,-,q1,l1,-⟩:=h;obtain rfl:=UO.inj (congrArg Wp e1);exact⟨q1,l1⟩
   have kt:k+4<=W1.heap.size:=UC d5.out bA.size;refine anyS.cal (i:=7) (d:=some 84) rfl (fW HF.2.1 e9.2 W1) ?_;rintro v W' ⟨ky,df,A,rfl⟩;have bw:=bA.trans (ky.mono bA.size);obtain⟨ph,br⟩:=p1 W' _ ky rfl;obtain⟨z,hz,f3⟩:=dl br;have l2:=lB df;have e1:=(f7.keep (Kq.of_below ky)).keep (R W' 2 (r32 D));have e2:=(df.mono2 (Q':=(k+4<=·)) λg _ M=>UC kt M).keep (R W' 2 (r32 D));have e3:=key (W'.setCells (k+3) 2 [r32 D]) (λg h1 h2=>(aH (k+3) _ _ _ g h2).trans (bw.block g h1)) (by rw[setCells_size];exact bw.size) A (Ux lA.2 l2.1) (by rw[setCells_size];exact l2.2);have rr:=db 2 (r32 D) _ (L _ bw);refine⟨L _ bw,?_⟩;simp only[UN,Us,Uu,Uv];refine anyS.sto (i:=9) (d:=none) rfl 23 (.tmp 85) (.tmp 80) rfl (k+3) 2 (r32 D) rfl rfl f3 iB1 rr ?_;simp only[UN,Us,Uu,Uv];generalize W'.setCells (k+3) 2 [r32 D]=W at ph hz e1 e2 e3 rr⊢;have KF:=pF W A ph (e1.keep (R _ _ _)) (e2.keep (R _ _ _)) (e3.keep (Uw _) (by rw[setCells_size];exact Uw _) (λg M=>aH (k+3) _ _ _ g (S g M).2) (λg M=>aH (k+3) _ _ _ g (T g M).2));have cu:Row (W.setCells (k+3) 3 [r32 A]) (k+3) [E,J,r32 D,r32 A]:=kQ (x:=r32 A) (o:=3) hz (Yv rfl);have ep:W.there (k+3) 3 1:=λj hj=>by
    have kl:j=0:=oM;subst kl;exact hz.2.2 3 (Yv rfl)
   refine anyS.nxt (i:=10) (d:=some 86) (x:=.pointer (some ⟨k+3,3,none⟩)) rfl rr ?_;simp only[UN,Us,Uu,Uv];refine anyS.sto (i:=11) (d:=none) rfl 23 (.tmp 86) (.tmp 84) rfl (k+3) 3 (r32 A) rfl rfl ep iB1 (db _ _ _ rr) ?_;simp only[UN,Us,Uu,Uv];refine anyS.fin kR ?_ _;intro WZ ee;rw[<-ee]at KF cu;obtain⟨Wd,f0⟩:=hE (WZ.setCells (k+2) 0 [E,J,r32 D,r32 A]);rw[f0.out]at KF;have ON:Hid ((#[E,J,r32 D,r32 A]:Array Ut).all (·.oneCell')=true):=by show _=_;simp[KP.tL.one.2,KP.tR.one.2,e1.one.2,e2.one.2]
   have KF:=mk2 KF cu;obtain⟨dI,bz,bs⟩:=Uy.1 Lg;have e4:=mk2 bz bs;obtain⟨vO,e6⟩:=hE (U3 #[E,J,r32 D,r32 A]);clear L db bd KP P1 ee rr ph ky df bw cu f3 l2 br e1 e2 e3 hz ep pF p1 key dl f7 R S T Y kt lA bz bs k8 kb na nb qa qb;go_wp2_with (first|(refine U6 rfl 26 (.tmp 9) rfl (k+3) 0 ?_ [E,J,r32 D,r32 A] dI ?_ ?_ ?_ ?_ ?_;rfl;exact KF.2.2.1;exact e4.1;exact e4.2;exact Jg;rw[show U3 [E,J,r32 D,r32 A].toArray=vO from e6.out])|(refine U2 rfl 26 (.tmp 8) _ rfl (k+2) 0 #[E,J,r32 D,r32 A] ?_ ?_ ?_ ?_ ?_ ?_;rfl;exact e6.symm;exact KF.1.1.2.2;exact Jg;exact ON.out;rw[show(#[E,J,r32 D,r32 A]:Array Ut).toList=[E,J,r32 D,r32 A] from rfl,f0.out])|fail)
   refine UE (aG 8 26 rfl KF.1.2.1 rfl Lg Jg) rfl ?_;refine⟨_,rfl,?_⟩;have:=KF.1.2.2;rw[<-d6.out,<-de.out]at this;exact this
end
section
open Go.RowKit Go.Sort Go.Deep SPA
variable {P:Nat}[NeZero P]{N:Nat}
def hvA(n:Nat):Ut:=if n=1 then .tuple #[iZ 0,.bool true] else if n=2 then .tuple #[iZ 1,.bool true] else if n=4 then .tuple #[iZ 2,.bool true] else if n=8 then .tuple #[iZ 3,.bool true] else if n=16 then .tuple #[iZ 4,.bool true] else if n=32 then .tuple #[iZ 5,.bool true] else if n=64 then .tuple #[iZ 6,.bool true] else .tuple #[iZ 0,.bool false]
theorem Px(n:Nat)(d:n=1\/n=2\/n=4\/n=8\/n=16\/n=32\/n=64\/n=128)(w:Ur):UH prog 57 #[iZ n] w (rZ w λe w'=>e=hvA n):=by
 obtain⟨b,k⟩:∃b,b=n:=⟨_,rfl⟩
 rcases d with rfl|rfl|rfl|rfl|rfl|rfl|rfl|rfl
 all_goals
  go_enter func57,ntmps57;go_wp2;go_loopg [5] 7 (λm s5 W=>W=w/\((m=7/\s5=iZ 0)\/(m=6/\s5=iZ 1/\1<b)\/(m=5/\s5=iZ 2/\2<b)\/(m=4/\s5=iZ 3/\4<b)\/(m=3/\s5=iZ 4/\8<b)\/(m=2/\s5=iZ 5/\16<b)\/(m=1/\s5=iZ 6/\32<b)\/(m=0/\s5=iZ 7/\64<b)))
  case atStart=>exact⟨rfl,U4 ⟨rfl,rfl⟩⟩
  case round =>
   obtain⟨rfl,h⟩:=hrel;rcases h with⟨rfl,rfl⟩|⟨rfl,rfl,c⟩|⟨rfl,rfl,c⟩|⟨rfl,rfl,c⟩|⟨rfl,rfl,c⟩|⟨rfl,rfl,c⟩|⟨rfl,rfl,c⟩|⟨rfl,rfl,c⟩
   all_goals
    first
     | (exfalso;omega)
     | skip
   all_goals
    go_wp2;first
     | (go_ret2;exact⟨_,rfl,UR _ _,rfl⟩)
     | (go_roundg 6;(case measure=>omega);(case rel=>exact⟨rfl,by simp[k]⟩))
     | (go_roundg 5;(case measure=>omega);(case rel=>exact⟨rfl,by simp[k]⟩))
     | (go_roundg 4;(case measure=>omega);(case rel=>exact⟨rfl,by simp[k]⟩))
     | (go_roundg 3;(case measure=>omega);(case rel=>exact⟨rfl,by simp[k]⟩))
     | (go_roundg 2;(case measure=>omega);(case rel=>exact⟨rfl,by simp[k]⟩))
     | (go_roundg 1;(case measure=>omega);(case rel=>exact⟨rfl,by simp[k]⟩))
     | (go_roundg 0;(case measure=>omega);(case rel=>exact⟨rfl,by simp[k]⟩))
end
section
open Go.RowKit Go.Sort Go.Deep SPA
variable {P:Nat}[NeZero P]{N:Nat}[NeZero N]
noncomputable def gPt (C:Fld P) (lb:ByteArray) (i:Nat):OnP P:=⟨.some (hpt P lb (hZ i).toList),AY C lb _⟩
noncomputable def lPt (C:Fld P) (lb:ByteArray) (x:List UInt8):OnP P:=⟨.some (hpt P lb x),AY C lb x⟩
noncomputable def uPt (C:Fld P):OnP P:=lPt C ⟨#[105,110,110,101,114]⟩ []
omit [NeZero N] in
theorem Nu(C:Fld P)(k:1<N)(lb:ByteArray)(i:Nat):Tl N [(1,hpN P lb i)] (gPt C lb i):=Tl.one C k (gPt C lb i)
omit [NeZero N] in
theorem QG(C:Fld P)(k:1<N)(lb:ByteArray)(x:List UInt8):Tl N [(1,wr (.some (hpt P lb x):EC.Pt P))] (lPt C lb x):=Tl.one C k (lPt C lb x)
omit [NeZero N] in
theorem vE(C:Fld P)(k:1<N)(n:Nat):Gd N n 1 (gGT P) (gPt C ⟨#[108,101,102,116]⟩):=⟨λi _=>Nu C k _ i,λ_ _=>rfl⟩
omit [NeZero N] in
theorem nK(C:Fld P)(k:1<N)(n:Nat):Gd N n 1 (hGT P) (gPt C ⟨#[114,105,103,104,116]⟩):=⟨λi _=>Nu C k _ i,λ_ _=>rfl⟩
omit [NeZero N] in
theorem mR(C:Fld P)(k:1<N):Tl N (uGT P) (uPt C):=QG C k _ _
omit [NeZero N] in
theorem Kg(O:Ord N)(n cap:Nat)(l:n<=512)(q:Option Ww)(L:Nat->Bs)(a:Nat->Nat)(w:Ur)(o:Args w q n L)(g:∀j,j<n->rq N (L j)=some (a j)):UH prog 121 #[(.func (.func 16) #[] #[]),.slice q n cap] w (rZ w λe w'=>∃k,e=.tuple #[sZ k n n,.bool true]/\SLq (w.heap.size<=·) w' (sZ k n n) n a):=by
 refine(Nm O n cap l q L w o).mono ?_;rintro e w' ⟨v,rfl,h⟩;rcases h with⟨⟨j,p,d⟩,-⟩|⟨-,k,r,b,hR,rfl⟩
 ·rw[g j p]at d;cases d
 ·refine⟨_,rfl,b.bel,k,rfl,k,0,n,rfl,Uw _,b.le,b.lt,λj i t u c=>?_⟩;have m:=(UF.1 c).1;have f:=hR.row j t i m;rw[g j i]at f;have:=b.range (4*j+t) u (by rw[f];exact c);rw[show 0+(4*j+t)=0+4*j+t by omega]at this;exact this
theorem Pu(t:Nat)(k:t<=6):hvA (2^t)=.tuple #[iZ t,.bool true]:=by
 match t,k with
 | 0,_=>rfl
 | 1,_=>rfl
 | 2,_=>rfl
 | 3,_=>rfl
 | 4,_=>rfl
 | 5,_=>rfl
 | 6,_=>rfl
 | n+7,h=>omega
theorem OT(t:Nat)(k:t<=6):2^t=1\/2^t=2\/2^t=4\/2^t=8\/2^t=16\/2^t=32\/2^t=64\/2^t=128:=by
 match t,k with
 | 0,_=>decide
 | 1,_=>decide
 | 2,_=>decide
 | 3,_=>decide
 | 4,_=>decide
 | 5,_=>decide
 | 6,_=>decide
 | n+7,h=>omega
theorem anyS.sta{P:VD}{c:Array Vk}{Q:Yq->Act->Ur->Prop}{S:Array Bool->Ur->Prop}{i e:Nat}{o:Vk}{k:Array Bool}{a:Act}{w:Ur}{d:Option WF}(ho:c[i]? = some o)(j:U8)(x y:XI)(g:o.op=.store j x y)(b off:Nat)(us:Array Ut)(q:us.all (·.oneCell')=true)(l:w.there b off us.size)(r:(P.info? j).map (·.size)=some us.size)
 (s:S (k.setIfInBounds i true) (w.setCells b off us.toList)) (h:anyS P c Q S e (k.setIfInBounds i true) (a.put d WR) (w.setCells b off us.toList)) (hx:a.eval x=oZ b off:=by kernel_rfl) (m:a.eval y=.agg us:=by kernel_rfl)
 (f:U7 .any c k=[i]:=by kernel_rfl) (p:o.guard=none:=by rfl) (hd:o.dst=d:=by kernel_rfl):anyS P c Q S (e+1) k a w:=by
 subst hd;exact anyS.step ho f λK n=>by
  rw[yCl (bI p _)];have f:=ZC (P:=P) w b off j us l r q;unfold VT U5;simp only[g,hx,m,Yy,X6,UV,Wt,Vm,f];exact n.out _ _ s h
theorem ElQ.off{Q:Nat->Prop}{m k:Nat}{W:Ur}{x:Ut}{b:Bs}(h:ElQ Q m W x b)(p:0<m)(i:Row W k (.slice none 0 0 :: vs)):ElQ (·≠k) m W x b:=by
 obtain⟨g,c,n,j,o,q,l,f⟩:=h;refine⟨g,c,n,j,o,?_,l,f⟩;rintro rfl;have d:=(f 0 oM).1;have e:=i.2.1 0 _ rfl;rw[show(0+0:Nat)=0 from rfl]at d e;rw[e]at d;cases d
theorem wY{w W:Ur}{r o m B:Nat}(h:SP.Only r o m w W)(k:B<=w.heap.size)(b:B<=r):Below B w W:=⟨h.os,h.tape,h.output,h.size,λg c=>h.block g oM oM⟩
end
section
open Go Go.RowKit
structure Iv where
 p:Ur->Prop
 gr:∀W W',kZ W W'->p W->p W'
 b:Bool
abbrev Iv.bel(k:Ur):Iv:=⟨λW=>kZ k W,λ_ _ b h=>h.trans (b.mono h.size),true⟩
abbrev Iv.only{r:Nat}{k:Ur}(b:r<k.heap.size):Iv:=⟨λW=>SP.Only r 0 32 k W,λ_ _ c h=>h.trans (SP.Only.of_below c rfl (Ux b h.size)),false⟩
section
variable {P:VD}{ops:Array Vk}{Q:Yq->Act->Ur->Prop}{p r:Nat}{J:Iv}{W:Ur}
def Sa(p r:Nat)(J:Iv)(l:Array Bool)(W:Ur):Prop:=(J.b=true/\l.getD p false=true/\l.getD r false=true)\/J.p W
theorem Sa.back{i:Nat}(h:p≠i)(b:r≠i)(l:Array Bool)(W:Ur)(k:Sa p r J (l.setIfInBounds i true) W):Sa p r J l W:=by
 rcases k with k|k
 ·rw[XT false (YD h),XT false (YD b)]at k;exact U4 k
 ·exact UX k
def qw(k:Array Vk)(b:Bool)(p r i:Nat):Nat:=bif b then bif waits k p i then p else r else((VG k.size).find? λj=>waits k j i).getD 0
theorem Sa.bel{i:Nat}(h:Bef (Sa p r J) (qw ops J.b p r i) W):J.p W:=by
 obtain⟨l,k,⟨d,b⟩|b⟩:=h
 ·exfalso;unfold qw at k;rw[d]at k;cases c:waits ops p i with
  | true=>rw[c]at k;exact Yz (k.symm.trans b.1)
  | false=>rw[c]at k;exact Yz (k.symm.trans b.2)
 ·exact b
theorem Sa.bef{q:Nat}(h:J.p W):Bef (Sa p r J) q W:=⟨#[],by simp,UX h⟩
def AW(P:VD)(c:Array Vk)(Q:Yq->Act->Ur->Prop)(p r:Nat)(J:Iv)(b:Nat)(k:Array Bool)(a:Act)(w:Ur):Prop:=J.p w->anyS P c Q (Sa p r J) b k a w
theorem AW.beg{a:Act}{w:Ur}(p r:Nat)(J:Iv)(k:J.p w.drew)(h:AW P ops Q p r J ops.size (UJ ops.size false) a w.drew)(b:P.follows .mixedOrders=true:=by kernel_rfl):(V6 id ops true).wp P Q a w:=anyS.begin (Sa p r J) b (h k)
theorem AW.begin{a:Act}{w:Ur}(p r:Nat)(h:AW P ops Q p r (Iv.bel w) ops.size (UJ ops.size false) a w.drew)(k:P.follows .mixedOrders=true:=by kernel_rfl):(V6 id ops true).wp P Q a w:=AW.beg p r (Iv.bel w) (UR _ w).drew h k
def aw1(b:Array Vk)(p r q i:Nat)(k:Array Bool):Bool:=waits b q i && XN b && !(k.getD q false || q == i) && YN .any b k i && (U7 .any b k).contains i && !(p == i) && !(r == i)
def fw(k:Array Vk)(i:Nat):Nat:=((VG k.size).find? λj=>waits k j i).getD 0
variable {i fuel:Nat}{o:Vk}{listed:Array Bool}{a a':Act}{w w':Ur}{d:Option WF}{x v:Ut}{t:WF}{T:U8}{b off:Nat}{cs:List Ut}
theorem AW.take(i q:Nat)(ho:ops[i]? = some o)(hd:o.dst=d)(e:YieldsIf P ops (Bef (Sa p r J) q) o x a)(s:a.put d x=a')(b:aw1 ops p r q i listed=true)(n:∀c a w,Q (.panic c) (a.put o.dst x) w->Q (.panic c) a w)(h:AW P ops Q p r J fuel (listed.setIfInBounds i true) a' w):AW P ops Q p r J (fuel+1) listed a w:=λk=>by
 subst s hd;simp only[aw1,UL,Bool.not_eq_true']at b;obtain⟨⟨⟨⟨⟨⟨l,f⟩,m⟩,g⟩,j⟩,t⟩,u⟩:=b;exact anyS.take (p:=q) ho (Sa.back (by simpa using t) (by simpa using u)) e (Sa.bef k) (UX k) (h k) l f m g j n
theorem AW.va(i:Nat)(x:Ut)(h:AW P ops Q p r J fuel (listed.setIfInBounds i true) a' w)(ho:ops[i]? = some o:=by(simp only[Vg,U9,Vf])<;>rfl)(hd:o.dst=d:=by rfl)(f:o.guard=none:=by rfl)(hv:∀w,(U5 a.eval o).run P w=.ok (.value x) w:=by intro _;kernel_rfl)
 (k:a.put d x=a':=by(simp only[UN,Us,Uu,Uv])<;>rfl) (b:aw1 ops p r (fw ops i) i listed=true:=by kernel_rfl) (e:∀c a w,Q (.panic c) (a.put o.dst x) w->Q (.panic c) a w:=by exact λ_ _ _ h=>h):AW P ops Q p r J (fuel+1) listed a w:=
 AW.take i (fw ops i) ho hd (U4 ⟨bI f _,λw _=>hv w⟩) k b e h
theorem AW.iv(i:Nat){I:Sem Ut}(b:∀w,I.run P w=.ok x w)(h:AW P ops Q p r J fuel (listed.setIfInBounds i true) a' w)(ho:ops[i]? = some o:=by(simp only[Vg,U9,Vf])<;>rfl)(hd:o.dst=d:=by rfl)(j:o.guard=none:=by rfl)(g:U5 a.eval o=I >>= λv=>pure (Xr v):=by kernel_rfl)
 (k:a.put d x=a':=by(simp only[UN,Us,Uu,Uv])<;>rfl) (e:aw1 ops p r (fw ops i) i listed=true:=by kernel_rfl) (f:∀c a w,Q (.panic c) (a.put o.dst x) w->Q (.panic c) a w:=by exact λ_ _ _ h=>h):AW P ops Q p r J (fuel+1) listed a w:=
 AW.take i (fw ops i) ho hd (U4 ⟨bI j _,λw _=>by rw[g,UV,b w];rfl⟩) k e f h
theorem P6{b:Array U8}{s t k:WF}{y:Ut}(hf:∀args W,(callFunc f args).run P W=.ok (.enter f args) W)(ho:o.op=.call ⟨.value (.tmp s),#[.tmp t,.tmp k],b⟩)(c:a.eval (.tmp s)=.func (.func f) #[] #[])(hx:a.eval (.tmp t)=x)(d:a.eval (.tmp k)=y):(U5 a.eval o).run P w=.ok (.enter f #[x,y]) w:=by
 unfold U5;rw[ho];have e:(#[yBi t,yBi k].map a.eval)=#[x,y]:=by simp[hx,d]
 simp only[resolve,c,Deferred.ofValue,UV,Wt,Vm,invoke,e];exact hf _ w
theorem AW.mv(i:Nat)(h:AW P ops Q p r J fuel (listed.setIfInBounds i true) a' w)(ho:ops[i]? = some o:=by(simp only[Vg,U9,Vf])<;>rfl)(hd:o.dst=d:=by rfl)(g:o.guard=none:=by rfl)(k:o.op=.move (.tmp t):=by rfl)(hx:a.eval (.tmp t)=x:=by(conv=>lhs;whnf)<;>rfl)
 (b:a.put d x=a':=by(simp only[UN,Us,Uu,Uv])<;>rfl) (e:aw1 ops p r (fw ops i) i listed=true:=by kernel_rfl) (f:∀c a w,Q (.panic c) (a.put o.dst x) w->Q (.panic c) a w:=by exact λ_ _ _ h=>h):AW P ops Q p r J (fuel+1) listed a w:=
 AW.take i (fw ops i) ho hd (U4 ⟨bI g _,λw _=>by unfold U5;rw[k];dsimp only;rw[hx];rfl⟩) b e f h
theorem AW.ce(i:Nat)(j:(P.underlying T).map (·.isRow)=some false)(l:∀W,J.p W->W.cell? ⟨b,off,none⟩=some x)(h:AW P ops Q p r J fuel (listed.setIfInBounds i true) a' w)(ho:ops[i]? = some o:=by(simp only[Vg,U9,Vf])<;>rfl)(hd:o.dst=d:=by rfl)(n:o.guard=none:=by rfl)(e:o.op=.load T (.tmp t):=by rfl)(hx:a.eval (.tmp t)=oZ b off:=by rfl)
 (f:a.put d x=a':=by(simp only[UN,Us,Uu,Uv])<;>rfl) (g:aw1 ops p r (qw ops J.b p r i) i listed=true:=by kernel_rfl) (m:∀c a w,Q (.panic c) (a.put o.dst x) w->Q (.panic c) a w:=by exact λ_ _ _ h=>h):AW P ops Q p r J (fuel+1) listed a w:=
 AW.take i (qw ops J.b p r i) ho hd (U4 ⟨bI n _,λw k=>by
  unfold U5;rw[e];dsimp only;rw[hx,UV,fD (l w (Sa.bel k)) j];rfl⟩) f g m h
theorem AW.ro(i:Nat)(u:∀W,J.p W->W.rangeAt b off cs)(hv:Hid (.agg cs.toArray=x))(f:(P.underlying T).map (·.isRow)=some true)(q:(P.info? T).map (·.size)=some cs.length)(h:AW P ops Q p r J fuel (listed.setIfInBounds i true) a' w)(ho:ops[i]? = some o:=by(simp only[Vg,U9,Vf])<;>rfl)(hd:o.dst=d:=by rfl)(j:o.guard=none:=by rfl)(k:o.op=.load T (.tmp t):=by rfl)(hx:a.eval (.tmp t)=oZ b off:=by rfl)
 (n:a.put d x=a':=by(simp only[UN,Us,Uu,Uv])<;>rfl) (s:aw1 ops p r (qw ops J.b p r i) i listed=true:=by kernel_rfl) (m:∀c a w,Q (.panic c) (a.put o.dst x) w->Q (.panic c) a w:=by exact λ_ _ _ h=>h):AW P ops Q p r J (fuel+1) listed a w:=by
 obtain rfl:=hv.out;obtain⟨e,l,g⟩:=Uy.1 f;exact AW.take i (qw ops J.b p r i) ho hd (yieldsIf_load_mid (bI j _) T (.tmp t) k b off hx cs e (λw v=>u w (Sa.bel v)) l g q) n s m h
theorem AW.ca(i:Nat)(g:J.p w->UH P f args w (Ret R))(hR:∀e w',R e w'->kZ w w')(h:∀e w',R e w'->AW P ops Q p r J fuel (listed.setIfInBounds i true) (a.put d e) w')(ho:ops[i]? = some o:=by(simp only[Vg,U9,Vf])<;>rfl)(hd:o.dst=d:=by rfl)(j:o.guard=none:=by rfl)(hx:(U5 a.eval o).run P w=.ok (.enter f args) w:=by kernel_rfl)(b:U7 .any ops listed=[i]:=by kernel_rfl):AW P ops Q p r J (fuel+1) listed a w:=λc =>
 anyS.cal ho (g c) (λe w' b=>by
  have k:=J.gr w w' (hR e w' b) c;exact⟨UX k,h e w' b k⟩) b j hx hd
theorem AW.cw(i:Nat)(c:J.p w->UH P f args w (Ret R))(hR:∀e w',J.p w->R e w'->J.p w')(h:∀e w',R e w'->AW P ops Q p r J fuel (listed.setIfInBounds i true) (a.put d e) w')(ho:ops[i]? = some o:=by(simp only[Vg,U9,Vf])<;>rfl)(hd:o.dst=d:=by rfl)(g:o.guard=none:=by rfl)(hx:(U5 a.eval o).run P w=.ok (.enter f args) w:=by kernel_rfl)(k:U7 .any ops listed=[i]:=by kernel_rfl):AW P ops Q p r J (fuel+1) listed a w:=λb =>
 anyS.cal ho (c b) (λe w' k=>⟨UX (hR e w' b k),h e w' k (hR e w' b k)⟩) k g hx hd
theorem AW.gi(i:Nat)(c:J.p w->UH P f args w (rZ w λe w'=>e=x))(h:∀w',kZ w w'->AW P ops Q p r J fuel (listed.setIfInBounds i true) a' w')(ho:ops[i]? = some o:=by(simp only[Vg,U9,Vf])<;>rfl)(hd:o.dst=d:=by rfl)(j:o.guard=none:=by rfl)(hx:(U5 a.eval o).run P w=.ok (.enter f args) w:=by kernel_rfl)
 (k:a.put d x=a':=by(simp only[UN,Us,Uu,Uv])<;>rfl) (g:U7 .any ops listed=[i]:=by kernel_rfl):AW P ops Q p r J (fuel+1) listed a w:=AW.ca i c (λe w' h=>h.1) (λe w' hR=>by
 obtain⟨b,rfl⟩:=hR;subst k;exact h w' b) ho hd j hx g
theorem AW.ns(i:Nat){I:Sem Ut}(hx:I.run P w=.ok x w')(b:kZ w w')(h:AW P ops Q p r J fuel (listed.setIfInBounds i true) a' w')(ho:ops[i]? = some o:=by(simp only[Vg,U9,Vf])<;>rfl)(hd:o.dst=d:=by rfl)(g:o.guard=none:=by rfl)(f:U5 a.eval o=I >>= λv=>pure (Xr v):=by kernel_rfl)
 (c:a.put d x=a':=by(simp only[UN,Us,Uu,Uv])<;>rfl) (e:U7 .any ops listed=[i]:=by kernel_rfl):AW P ops Q p r J (fuel+1) listed a w:=λj=>by
 subst c;have k:=J.gr w w' b j;exact anyS.ins ho hx (UX k) (h k) e g f hd
theorem AW.nx(i:Nat)(x:Ut)(h:AW P ops Q p r J fuel (listed.setIfInBounds i true) a' w)(ho:ops[i]? = some o:=by(simp only[Vg,U9,Vf])<;>rfl)(hd:o.dst=d:=by rfl)(e:o.guard=none:=by rfl)(hv:(U5 a.eval o).run P w=.ok (.value x) w:=by kernel_rfl)
 (b:a.put d x=a':=by(simp only[UN,Us,Uu,Uv])<;>rfl) (c:U7 .any ops listed=[i]:=by kernel_rfl):AW P ops Q p r J (fuel+1) listed a w:=λk=>by
 subst b;exact anyS.nxt ho (UX k) (h k) hv c e hd
theorem AW.dn(h:J.p w->Q .normal a w)(k:U7 .any ops listed=[]:=by kernel_rfl):AW P ops Q p r J fuel listed a w:=λb=>anyS.done k (h b) _
theorem AW.fi{k off:Nat}(hv:Hid (.agg us.toArray=v))(e:us.toArray.all (·.oneCell')=true)(m:(P.info? T).map (·.size)=some us.length)(h:J.p w->w.there k off us.length/\Q .normal a' (w.setCells k off us))(ho:ops[p]? = some o:=by(simp only[Vg,U9,Vf])<;>rfl)(hd:o.dst=none:=by rfl)(g:o.guard=none:=by rfl){y:XI}(c:o.op=.store T (.tmp t) y:=by rfl)(hx:a.eval (.tmp t)=oZ k off:=by rfl)(d:a.eval y=v:=by rfl)
 (l:a.put none WR=a':=by(simp only[UN])<;>rfl) (b:(U7 .any ops listed,U7 .any ops (listed.setIfInBounds p true),J.b,(listed.setIfInBounds p true).getD p false,(listed.setIfInBounds p true).getD r false)=([p],[],true,true,true):=by kernel_rfl):AW P ops Q p r J (fuel+1) listed a w:=λj=>by
 simp only[V8.injEq]at b;obtain⟨i,f⟩:=h j;subst l;exact anyS.sta ho T (.tmp t) y c k off us.toArray e i m (U4 b.2.2) (anyS.done b.2.1 f _) hx (d.trans hv.out.symm) b.1 g hd
theorem AW.ss(i:Nat){k off:Nat}(hv:Hid (.agg us.toArray=v))(g:us.toArray.all (·.oneCell')=true)(s:(P.info? T).map (·.size)=some us.length)(n:Hid (w.setCells k off us=w'))(h:J.p w->w.there k off us.length/\J.p w')(d:AW P ops Q p r J fuel (listed.setIfInBounds i true) a' w')(ho:ops[i]? = some o:=by(simp only[Vg,U9,Vf])<;>rfl)(hd:o.dst=none:=by rfl)(j:o.guard=none:=by rfl){y:XI}(b:o.op=.store T (.tmp t) y:=by rfl)(hx:a.eval (.tmp t)=oZ k off:=by rfl)(f:a.eval y=v:=by rfl)
 (q:a.put none WR=a':=by(simp only[UN])<;>rfl) (e:U7 .any ops listed=[i]:=by kernel_rfl):AW P ops Q p r J (fuel+1) listed a w:=λm=>by
 obtain⟨l,c⟩:=h m;obtain rfl:=n.out;subst q;exact anyS.sta ho T (.tmp t) y b k off us.toArray g l s (UX c) (d c) hx (f.trans hv.out.symm) e j hd
theorem AW.f2{us':List Ut}{k d:Nat}{B:Ut}{f:U8}(hv:Hid (.agg us.toArray=v))(u:Hid (.agg us'.toArray=B))(G:us.toArray.all (·.oneCell')=true)(U:(P.info? T).map (·.size)=some us.length)(x:us'.toArray.all (·.oneCell')=true)(q:(P.info? f).map (·.size)=some us'.length)(h:J.p w->w.there k 0 us.length/\(w.setCells k 0 us).there d 0 us'.length/\Q .normal a' ((w.setCells k 0 us).setCells d 0 us'))(ho:ops[p]? = some o:=by(simp only[Vg,U9,Vf])<;>rfl)(hd:o.dst=none:=by rfl)(I:o.guard=none:=by rfl){y:XI}(n:o.op=.store T (.tmp t) y:=by rfl)(hx:a.eval (.tmp t)=jZ k:=by rfl)(F:a.eval y=v:=by rfl)
 (S:a.put none WR=a':=by(simp only[UN])<;>rfl){c:Vk}{j:XI}{z:WF}(s:ops[p+1]? = some c:=by(simp only[Vg,U9,Vf])<;>rfl) (l:c.dst=none:=by rfl) (m:c.guard=none:=by rfl) (b:c.op=.store f (.tmp z) j:=by rfl) (g:a'.eval (.tmp z)=jZ d:=by rfl) (e:a'.eval j=B:=by rfl) (i:a'.put none WR=a':=by rfl)
 (A:(U7 .any ops listed,U7 .any ops (listed.setIfInBounds p true),U7 .any ops ((listed.setIfInBounds p true).setIfInBounds (p+1) true),J.b,(listed.setIfInBounds p true).getD p false,(listed.setIfInBounds p true).getD r false,((listed.setIfInBounds p true).setIfInBounds (p+1) true).getD p false,((listed.setIfInBounds p true).setIfInBounds (p+1) true).getD r false)=([p],[p+1],[],true,true,true,true,true):=by kernel_rfl):AW P ops Q p r J (fuel+2) listed a w:=λR=>by
 simp only[V8.injEq]at A;obtain⟨V,O,C,c,E,D,N,K⟩:=A;obtain⟨L,H,M⟩:=h R;subst S;exact anyS.sta ho T (.tmp t) y n k 0 us.toArray G L U (U4 ⟨c,E,D⟩) (anyS.sta s f (.tmp z) j b d 0 us'.toArray x H q (U4 ⟨c,N,K⟩) (anyS.done C (by rw[i];exact M) _) g (e.trans u.out.symm) O m l) hx (F.trans hv.out.symm) V I hd
end
end
section
open Go.RowKit Go.Sort Go.Deep
variable {P:Nat}[NeZero P]{N:Nat}
theorem uBy:(prog.underlying 23).map (·.isRow)=some false:=kR
theorem Ua(q:Option Ww)(n c k:Nat)(w:Ur):(Vy 24 2 #[(0,.slice q n c),(1,sZ k 4 4)]).run prog w=.ok (sZ w.heap.size 2 2) (w.alloc (.cells #[.slice q n c,sZ k 4 4] 23)):=kR
theorem OX{w:Ur}{u v:Ut}{x y:List UInt8}(d:PartOk w u x)(e:PartOk w v y)(T:U8):PartsOk (w.alloc (.cells #[u,v] T)) (some (aZ w.heap.size)) [x,y]:=by
 have b:=aC w (.cells #[u,v] T);refine UX ⟨_,_,rfl,λj k=>?_⟩;have c:=(aE w [u,v] T).2.1 j;match j,k with
 | 0,_=>exact⟨u,c u rfl,d.below b⟩
 | 1,_=>exact⟨v,c v rfl,e.below b⟩
theorem P0(O:Ord N)(b:ByteArray)(a:b.size<=1000)(j:List UInt8)(q:Option Ww)(n c i l o:Nat)(I:i<4294967296)(w:Ur)(B:l<w.heap.size)(A:o<w.heap.size)(c1:w.cell? ⟨l,0,none⟩=some (.string b))(c2:w.cell? ⟨o,0,none⟩=some (.slice q n c))(J:PartOk w (.slice q n c) j):
 UH prog 199 #[iZ i,jZ l,jZ o] w (rZ w λe w'=>e=nv (chL N b.data.toList [j,(hZ i).toList])):=by
 obtain⟨k,y⟩:=hE (w.heap.size);obtain⟨H,d⟩:=hE (w.alloc (.cells (RG.z 4).toArray 49));have f:=aN y d;have u:=λ(W:Ur) (z:Option Ww) (h:PartsOk W z [j,(hZ i).toList])=>CB O b z 2 2 [j,(hZ i).toList] W oM rfl dC h
 generalize chL N b.data.toList [j,(hZ i).toList]=x at u⊢;have C:=mk1 u;obtain⟨K,s⟩:=hE (nv x);rw[s.out]at C;clear u;go_enter func199,ntmps199;go_wp2_with (first|(refine alR 4 y d ?_)|fail)
 refine AW.begin 6 6 ?_;refine AW.ce 0 u9s (λW g=>by rw[g.cell (p:=⟨l,0,none⟩) (Ux B f.1.size),f.1.cell (p:=⟨l,0,none⟩) B];exact c1) ?_;refine AW.ce 1 uBy (λW g=>by rw[g.cell (p:=⟨o,0,none⟩) (Ux A f.1.size),f.1.cell (p:=⟨o,0,none⟩) A];exact c2) ?_;refine AW.mv 2 ?_;refine AW.ca 3 (λ_=>xC i I _) (λe w' h=>h.1) ?_;rintro e E ⟨v,r,rfl,D,t⟩;simp only[UN,Us,Uu,Uv];refine AW.ns 4 (Ua q n c r E) (aC _ _) ?_;refine AW.gi 5 (λg=>C _ _ (OX (J.below (f.1.trans (((UR _ H).drew.trans v).mono f.1.size))) (IL t) _)) ?_;intro F G;refine AW.fi (us:=wn x) s (aM x) i40 (λg=>?_);obtain⟨L,m⟩:=hE (F.setCells k 0 (wn x));have R:=rU y d g m;rw[m.out];refine⟨R.1,?_⟩;go_wp2_with fail
 refine UE (aG 4 49 rfl R.2.2 rfl u40 i40) rfl ?_;exact⟨_,rfl,R.2.1,rfl⟩
theorem SB(O:Ord N)(k:ByteArray)(d:k.size<=1000)(o:List UInt8)(q:Option Ww)(n c m:Nat)(A:m<=64)(w:Ur)(a:PartOk w (.slice q n c) o):
 UH prog 133 #[.string k,iZ m,.slice q n c] w (rZ w λe w'=>SLq (w.heap.size<=·) w' e m (λi=>chL N k.data.toList [o,(hZ i).toList])):=by
 obtain⟨z,f⟩:=hE ((w.alloc (.cells #[.string k] 9)).alloc (.cells #[.slice q n c] 23));have b1:=aC w (.cells #[.string k] 9);have t:=aC (w.alloc (.cells #[.string k] 9)) (.cells #[.slice q n c] 23);have p:=(aE w [.string k] 9).below t;have j:=aE (w.alloc (.cells #[.string k] 9)) [.slice q n c] 23;have b:=b1.trans (t.mono b1.size);rw[UB]at j;simp only[f.out]at p j b;have u:=mk1 (jB m (by omega) 199 #[jZ w.heap.size,.pointer (some ⟨w.heap.size+1,0,none⟩)] (λ_ _=>kR) (λi=>chL N k.data.toList [o,(hZ i).toList]) z (λi W C l=>P0 O k d o q n c i _ _ (by omega) W (Ux p.1 l.size) (Ux j.1 l.size) ((p.below l).2.1 0 _ rfl) ((j.below l).2.1 0 _ rfl) ((a.below b).below l)));have r:=mk1 b;clear b1 t p j b;go_enter func133,ntmps133;go_wp2_with fail
 rw[f.out];refine u.mono ?_;rintro e B ⟨v,rfl,s,hG⟩;have x:=mk2 (r.trans (s.mono r.size)) (hG.mono λg y=>UC r.size y);go_wp2;go_ret;exact⟨_,rfl,x.out⟩
end
section
open Go.RowKit Go.Sort Go.Deep
variable {N:Nat}
theorem uLi:(prog.underlying 126).map (·.isRow)=some true:=kR
theorem iLi:(prog.info? 126).map (·.size)=some 2:=kR
structure Ln(Q:Nat->Prop)(W:Ur)(v:Ut)(n:Nat)(a b:Nat->Nat):Prop where
 ex:∃x y,v=.agg #[x,y]/\SLq Q W x n a/\SLq Q W y n b
section
variable {Q Q':Nat->Prop}{W W':Ur}{v:Ut}{n:Nat}{a b:Nat->Nat}
theorem Ln.keep(h:Ln Q W v n a b)(k:Kq Q W W'):Ln Q W' v n a b:=by
 obtain⟨x,y,c,e,d⟩:=h.ex;exact⟨x,y,c,e.keep k,d.keep k⟩
theorem Ln.mono(h:Ln Q W v n a b)(k:∀g,Q g->Q' g):Ln Q' W v n a b:=by
 obtain⟨x,y,c,e,d⟩:=h.ex;exact⟨x,y,c,e.mono k,d.mono k⟩
end
theorem bY{Q:Nat->Prop}{W:Ur}{x:Ut}{n:Nat}{a:Nat->Nat}(h:SLq Q W x n a):x.oneCell'=true/\∃g o c,x=.slice (some ⟨g,o,none⟩) n c:=by
 obtain⟨g,o,c,rfl,-⟩:=h;exact⟨rfl,_,_,_,rfl⟩
theorem RI(O:Ord N)(v:Nat)(hv:v<18446744073709551616)(m:Nat)(hm:m<=64)(D:List UInt8)(q:Option Ww)(n c:Nat)(w:Ur)(hp:PartOk w (.slice q n c) D):
 UH prog 61 #[uZ v,iZ m,.slice q n c] w (rZ w λe w'=>∃x y,e=.tuple #[x,y]/\Ln (w.heap.size<=·) w' x m (λi=>v/2^i%2) (λi=>chL N [115,108] [D,(hZ i).toList])/\Ln (w.heap.size<=·) w' y m (λi=>sMi N (v/2^i%2) 1) (λi=>chL N [115,114] [D,(hZ i).toList])):=by
 obtain⟨vf,d⟩:=hE (Z2 (.func 129) #[] #[jZ w.heap.size]);obtain⟨k,J⟩:=hE (w.heap.size);obtain⟨wa,X⟩:=hE (w.alloc (.cells [uZ v].toArray 22));obtain⟨P,B⟩:=hE (wa.heap.size);obtain⟨wb,Z⟩:=hE (wa.alloc (.cells [.slice none 0 0,.slice none 0 0].toArray 126));obtain⟨K,I⟩:=hE (wb.heap.size);obtain⟨wc,U⟩:=hE (wb.alloc (.cells [.slice none 0 0,.slice none 0 0].toArray 126));obtain⟨t,u⟩:=hE (wc.heap.size);obtain⟨wd,z⟩:=hE (wc.alloc (.cells [.nilFunc].toArray 219));obtain⟨p,L⟩:=hE (wd.setCells t 0 [vf]);have Fa:=aN J X;have Fb:=aN B Z;have Y:=aN I U;have Fe:=ET u z L rfl;rw[J.out]at d;have bc:=Fb.1.trans (Y.1.mono Fb.1.size);have be:=bc.trans (Fe.2.1.mono bc.size);have b:=mk6 (Fa.1.trans (be.mono Fa.1.size)) (Fa.2.below be) (Fb.2.below (Y.1.trans (Fe.2.1.mono Y.1.size))) (Y.2.below Fe.2.1) Fe.2.2 (show k<P/\P<K/\K<t from⟨by rw[<-B.out];exact Fa.2.1,by rw[<-I.out];exact Fb.2.1,by rw[<-u.out];exact Y.2.1⟩);have h6:∀(fn:Fn) (first cap:Array Ut) (w:Ur),(Yp fn first cap).run prog w=.ok (.func fn first cap) w:=λ_ _ _ _=>rfl
 have h3:=mk1 (aN u z).2.2.2;have h5:p.cell? ⟨t,0,none⟩=some vf:=b.2.2.2.2.1.2.1 0 _ rfl;have H1:Hid (∀W,kZ p W->UH prog 132 #[iZ m,vf] W (rZ W λe w'=>SLq (W.heap.size<=·) w' e m (λi=>v/2^i%2))):=λW s=>by
  rw[<-d.out];exact jB m (by omega) 129 #[jZ k] (λ_ _=>kR) _ W λi V j f=>Jc v i k hv (by omega) V (Ux b.2.1.1 (UC s.size f.size)) (((b.2.1.below s).below f).2.1 0 _ rfl)
 have H2:Hid (∀W,kZ p W->UH prog 132 #[iZ m,.func (.func 130) #[] #[jZ t]] W (rZ W λe w'=>SLq (W.heap.size<=·) w' e m (λi=>sMi N (v/2^i%2) 1))):=λW s =>
  jB m (by omega) 130 #[jZ t] (λ_ _=>kR) _ W λi V j f=>Pm O v i k t hv (by omega) V (Ux b.2.1.1 (UC s.size f.size)) (Ux b.2.2.2.2.1.1 (UC s.size f.size)) (((b.2.1.below s).below f).2.1 0 _ rfl) (by rw[((b.2.2.2.2.1.below s).below f).2.1 0 _ rfl,d.out])
 have HC:Hid (∀(l:ByteArray) W,l.size<=1000->kZ p W->UH prog 133 #[.string l,iZ m,.slice q n c] W (rZ W λe w'=>SLq (W.heap.size<=·) w' e m (λi=>chL N l.data.toList [D,(hZ i).toList]))):=λl W hl s=>SB O l hl D q n c m hm W ((hp.below b.1).below s)
 go_enter func61,ntmps61;go_wp2_with (first|(refine alR 3 J X ?_)|(refine alR 6 B Z ?_)|(refine alR 7 I U ?_)|(refine alR 8 u z ?_)|(refine fV rfl 219 _ _ rfl t 0 vf ?_ ?_ ?_ ?_ h3.out kR ?_;rfl;exact d.out;(rw[<-d.out];rfl);(rw[<-d.out];rfl);rw[L.out])|fail)
 refine(H1 p (UR _ _)).mono ?_;rintro e w1 ⟨x1,rfl,j,H⟩;go_wp2_with fail
 refine(HC _ w1 dC j).mono ?_;rintro e w2 ⟨x2,rfl,o,E⟩;have b2:=j.trans (o.mono j.size);obtain⟨-,g1,o1,c1,e1⟩:=bY H;obtain⟨-,g2,o2,c2,e2⟩:=bY E;subst e1 e2;go_wp2_with fail
 refine(H2 w2 b2).mono ?_;rintro e w3 ⟨x3,rfl,f,F⟩;have V:=b2.trans (f.mono b2.size);go_wp2_with fail
 refine(HC _ w3 dC V).mono ?_;rintro e w4 ⟨x4,rfl,r,G⟩;have b4:=V.trans (r.mono V.size);obtain⟨-,g3,o3,c3,e3⟩:=bY F;obtain⟨-,g4,o4,c4,e4⟩:=bY G;subst e3 e4;obtain⟨w5,Q⟩:=hE (w4.setCells P 0 [.slice (some ⟨g1,o1,none⟩) m c1,.slice (some ⟨g2,o2,none⟩) m c2]);obtain⟨A,T⟩:=hE (w5.setCells K 0 [.slice (some ⟨g3,o3,none⟩) m c3,.slice (some ⟨g4,o4,none⟩) m c4]);obtain⟨h4,h1,h0⟩:=b.2.2.2.2.2;have h2:=b.2.2.2.2.1.1;have s1:=j.size;have s2:=o.size;have s3:=f.size;have R4:=mk2 (b.2.2.1.below b4) (b.2.2.2.1.below b4);have R:Hid (kZ w A/\Row A P [.slice (some ⟨g1,o1,none⟩) m c1,.slice (some ⟨g2,o2,none⟩) m c2]/\Row A K [.slice (some ⟨g3,o3,none⟩) m c3,.slice (some ⟨g4,o4,none⟩) m c4]/\w5.there K 0 2/\Kq (t < ·) w4 A):=by
  rw[<-T.out,<-Q.out];have C:Row (w4.setCells P 0 [.slice (some ⟨g1,o1,none⟩) m c1,.slice (some ⟨g2,o2,none⟩) m c2]) K _:=aR R4.2 (by omega);refine⟨RG.below_setCells (by rw[J.out];omega) _ _ _ (RG.below_setCells (by rw[J.out];omega) _ _ _ (b.1.trans (b4.mono b.1.size))),aR (R4.1.put rfl) (by omega),C.put rfl,C.2.2,?_⟩;exact⟨by rw[setCells_size,setCells_size];exact Uw _,λg hg _=>by rw[aH _ _ _ _ g (by omega),aH _ _ _ _ g (by omega)]⟩
 have M:∀ {W:Ur}{x:Ut}{a:Nat->Nat},p.heap.size<=W.heap.size->SLq (W.heap.size<=·) w4 x m a->SLq (w.heap.size<=·) A x m a:=λhW h=>((h.mono (Q':=(t < ·)) λg hg=>by omega).keep R.2.2.2.2).mono λg hg=>by rw[J.out];omega
 have C:=f.trans (r.mono f.size);have S:=o.trans (C.mono o.size);have KR:Hid (Ln (w.heap.size<=·) A (.agg #[.slice (some ⟨g1,o1,none⟩) m c1,.slice (some ⟨g2,o2,none⟩) m c2]) m (λi=>v/2^i%2) (λi=>chL N [115,108] [D,(hZ i).toList])/\Ln (w.heap.size<=·) A (.agg #[.slice (some ⟨g3,o3,none⟩) m c3,.slice (some ⟨g4,o4,none⟩) m c4]) m (λi=>sMi N (v/2^i%2) 1) (λi=>chL N [115,114] [D,(hZ i).toList])):=
  ⟨⟨_,_,rfl,M (Uw _) (H.keep (Kq.of_below S)),M s1 (E.keep (Kq.of_below C))⟩,⟨_,_,rfl,M (by omega) (F.keep (Kq.of_below r)),M (by omega) G⟩⟩
 clear M C S H E F G s1 s2 s3 h4 h1 h0 h2 j o f r b2 V b4 H1 H2 HC;go_wp2_with (first|(refine stR 6 Q (Hid.mk' rfl) R4.1.2.2 iLi kR ?_)|(refine stR 7 T (Hid.mk' rfl) R.2.2.2.1 iLi kR ?_)|fail)
 refine UE (qE 6 7 126 126 rfl R.2.1 R.2.2.1 rfl rfl uLi iLi uLi iLi) rfl ?_;exact⟨_,rfl,R.1,_,_,rfl,KR.out⟩
theorem uF2:(prog.underlying 237).map (·.isRow)=some false:=kR
theorem uSl:(prog.underlying 124).map (·.isRow)=some false:=kR
theorem D8{w c W:Ur}{k:Nat}{x:Ut}(b:kZ w c)(d:k<w.heap.size)(e:w.cell? ⟨k,0,none⟩=some x)(f:kZ c W):W.cell? ⟨k,0,none⟩=some x:=by
 rw[f.cell (p:=⟨k,0,none⟩) (Ux d b.size),b.cell (p:=⟨k,0,none⟩) d];exact e
theorem row_of{w c W:Ur}{k o:Nat}{cs:List Ut}(b:kZ w c)(d:k<w.heap.size)(e:w.rangeAt k o cs)(f:kZ c W):W.rangeAt k o cs:=RG.range_below (RG.range_below e b d) f (Ux d b.size)
theorem OY(f:Xs)(hf:∀args W,(callFunc f args).run prog W=.ok (.enter f args) W)(x y z:Nat)(A:Gives f #[nv x,nv y] (nv z))(i t r u n v q c1 o s p c2:Nat)(H:i<q)(E:i<p)(w:Ur)(lf:t<w.heap.size)(C:r<w.heap.size)(L:u<w.heap.size)(N:n<w.heap.size)(K:o<w.heap.size)(F:w.cell? ⟨t,0,none⟩=some (.func (.func f) #[] #[]))(M:w.cell? ⟨r,0,none⟩=some (.slice (some ⟨n,v,none⟩) q c1))(G:w.cell? ⟨u,0,none⟩=some (.slice (some ⟨o,s,none⟩) p c2))(O:w.rangeAt n (v+4*i) (wn x))(I:w.rangeAt o (s+4*i) (wn y)):
 UH prog 212 #[iZ i,jZ t,jZ r,jZ u] w (rZ w λe w'=>e=nv z):=by
 obtain⟨k,a⟩:=hE (w.heap.size);obtain⟨S,c⟩:=hE (w.alloc (.cells (RG.z 4).toArray 49));have g:=aN a c;obtain⟨P,m⟩:=hE (nv x);obtain⟨Q,l⟩:=hE (nv y);obtain⟨T,d⟩:=hE (nv z);rw[m.out,l.out,d.out]at A;have D:=mk1 A;go_enter func212,ntmps212;go_wp2_with (first|(refine alR 5 a c ?_)|fail)
 refine AW.begin 10 10 ?_;refine AW.ce 0 uF2 (λW b=>D8 g.1 lf F b) ?_;refine AW.ce 1 uSl (λW b=>D8 g.1 C M b) ?_;refine AW.mv 2 ?_;refine AW.iv 3 (lF n v q c1 i H) ?_;refine AW.ro 4 (λW b=>row_of g.1 N O b) m rSc nSc ?_;refine AW.ce 5 uSl (λW b=>D8 g.1 L G b) ?_;refine AW.mv 6 ?_;refine AW.iv 7 (lF o s p c2 i E) ?_;refine AW.ro 8 (λW b=>row_of g.1 K I b) l rSc nSc ?_;refine AW.gi 9 (λ_=>D _) ?_ (hx:=P6 hf rfl rfl rfl rfl);intro B J;refine AW.fi (us:=wn z) d (aM z) i40 (λb=>?_);obtain⟨U,j⟩:=hE (B.setCells k 0 (wn z));have R:=rU a c b j;rw[j.out];refine⟨R.1,?_⟩;go_wp2_with fail
 refine UE (aG 5 49 rfl R.2.2 rfl u40 i40) rfl ?_;exact⟨_,rfl,R.2.1,rfl⟩
theorem Nc{w i j k:Ur}{l m n:Nat}{x y z:List Ut}{T U V:U8}(g:Hid (w.heap.size=l))(p:Hid (w.alloc (.cells x.toArray T)=i))(f:Hid (i.heap.size=m))(o:Hid (i.alloc (.cells y.toArray U)=j))(e:Hid (j.heap.size=n))(q:Hid (j.alloc (.cells z.toArray V)=k)):Hid (kZ w k/\Row k l x/\Row k m y/\Row k n z):=by
 have a:=(aN g p).out;have b:=(aN f o).out;have c:=(aN e q).out;have d:=b.1.trans (c.1.mono b.1.size);exact⟨a.1.trans (d.mono a.1.size),a.2.below d,b.2.below c.1,c.2⟩
theorem NC{Q:Nat->Prop}(f:Xs)(hf:∀args W,(callFunc f args).run prog W=.ok (.enter f args) W)(F:Nat->Nat->Nat)(n:Nat)(hn:n<=64)(a b:Nat->Nat)(M:∀i,i<n->Gives f #[nv (a i),nv (b i)] (nv (F (a i) (b i))))(va D:Ut)(w:Ur)(S:SLq Q w va n a)(P:SLq Q w D n b):
 UH prog 151 #[.func (.func f) #[] #[],va,D] w (rZ w λe w'=>SLq (w.heap.size<=·) w' e n (λi=>F (a i) (b i))):=by
 obtain⟨y,C,c1,rfl,-,-,N,Z⟩:=S;obtain⟨H,E,c2,rfl,-,-,X,V⟩:=P;obtain⟨vf,k⟩:=hE (Z2 (.func f) #[] #[]);obtain⟨r,p⟩:=hE (w.heap.size);obtain⟨t,m⟩:=hE (w.alloc (.cells [vf].toArray 237));obtain⟨A,j⟩:=hE (t.heap.size);obtain⟨J,l⟩:=hE (t.alloc (.cells [.slice (some ⟨y,C,none⟩) n c1].toArray 124));obtain⟨K,d⟩:=hE (J.heap.size);obtain⟨G,o⟩:=hE (J.alloc (.cells [.slice (some ⟨H,E,none⟩) n c2].toArray 124));have B:=Nc p m j l d o;have z:Hid ((Ve 237 vf).run prog w=.ok (jZ r) t):=by rw[<-m.out,<-p.out,<-k.out];exact Hid.mk' (by kernel_rfl)
 have O:G.cell? ⟨A,0,none⟩=some (.slice (some ⟨y,C,none⟩) n c1):=B.2.2.1.2.1 0 _ rfl;have L:=mk1 (jB n (by omega) 212 #[jZ r,jZ A,jZ K] (λ_ _=>kR) (λi=>F (a i) (b i)) G λi W q c=>by
  have x:=B.1.trans (c.mono B.1.size);have s:=x.size;exact OY f hf (a i) (b i) _ (M i q) i r A K y C n c1 H E n c2 q q W (B.2.1.below c).1 (B.2.2.1.below c).1 (B.2.2.2.below c).1 (by omega) (by omega) (by rw[(B.2.1.below c).2.1 0 _ rfl,k.out]) ((B.2.2.1.below c).2.1 0 _ rfl) ((B.2.2.2.below c).2.1 0 _ rfl) (RG.range_below (Z i q) x N) (RG.range_below (V i q) x X))
 have U:∀(I:Fn) (first cap:Array Ut) (w:Ur),(Yp I first cap).run prog w=.ok (.func I first cap) w:=λ_ _ _ _=>rfl
 rw[k.out];go_enter func151,ntmps151;go_wp2_with (first|(refine aF (u:=vf) (v:=jZ r) (w':=t) rfl _ (.tmp 0) rfl ?_ ?_ ?_;rfl;exact z.out)|(refine alR 4 j l ?_)|(refine alR 5 d o ?_)|fail)
 refine L.mono ?_;rintro e w4 ⟨v,rfl,x,Y⟩;have T:=mk2 (B.1.trans (x.mono B.1.size)) (Y.mono λg R=>UC B.1.size R);go_wp2;go_ret;exact⟨_,rfl,T.out⟩
theorem SLq.set{W:Ur}{B k o n:Nat}{x:Ut}{a:Nat->Nat}(h:SLq (B<=·) W x n a)(b:k<B):SLq (B<=·) (W.setCells k o vs) x n a:=h.keep (Kq.set λg c=>by omega)
section
variable {Q:Nat->Prop}{w:Ur}{n:Nat}{v u:Ut}{a b c:Nat->Nat}
theorem EZ(x y:Ut)(hx:x.oneCell'=true)(m:y.oneCell'=true)(w:Ur):∃k b i d,Hid (w.heap.size=k)/\Hid (w.alloc (.cells [x,y].toArray 126)=b)/\Hid (b.heap.size=i)/\Hid (b.alloc (.cells [.slice none 0 0,.slice none 0 0].toArray 126)=d)/\Hid (kZ w d/\Row d k [x,y]/\Row d i [.slice none 0 0,.slice none 0 0]/\k<i):=by
 obtain⟨k,l⟩:=hE (w.heap.size);obtain⟨b,j⟩:=hE (w.alloc (.cells [x,y].toArray 126));obtain⟨i,c⟩:=hE (b.heap.size);obtain⟨d,e⟩:=hE (b.alloc (.cells [.slice none 0 0,.slice none 0 0].toArray 126));have f:=(aN l j).out;have g:=(aN c e).out;exact⟨k,b,i,d,l,j,c,e,f.1.trans (g.1.mono f.1.size),f.2.below g.1,g.2,by rw[<-c.out];exact f.2.1⟩
theorem NE(O:Ord N)(K:n<=64)(V:∀i,i<n->a i<N)(X:∀i,i<n->c i<N)(h:Ln Q w v n a b)(M:SLq Q w u n c):
 UH prog 72 #[v,u] w (rZ w λe w'=>Ln (λg=>Q g\/w.heap.size<=g) w' e n (λi=>sPl N (a i) (c i)) b):=by
 obtain⟨x,y,rfl,hx,D⟩:=h.ex;obtain⟨T,Z,o1,c1,rfl⟩:=bY hx;obtain⟨P,m,l,c2,rfl⟩:=bY D;obtain⟨k,w1,s,w2,I,t,z,r,F⟩:=EZ _ _ T P w;have Y:=mk1 (λ(W:Ur) (d:kZ w W)=>NC (Q:=λ_=>True) 80 (λ_ _=>kR) (sPl N) n K a c (λi H=>mY O _ _ (V i H) (X i H)) _ _ W ((hx.keep (Kq.of_below d)).mono λ_ _=>trivial) ((M.keep (Kq.of_below d)).mono λ_ _=>trivial));go_enter func72,ntmps72;go_wp2_with (first|(refine alR 2 I t ?_)|(refine alR 4 z r ?_)|fail)
 refine AW.begin 7 7 ?_;refine AW.va 0 (jZ k) ?_;refine AW.ce 1 uSl (λW d=>(F.2.1.below d).2.1 0 _ rfl) ?_;refine AW.mv 2 ?_;refine AW.va 4 (oZ k 1) ?_;refine AW.ce 5 uSl (λW d=>(F.2.1.below d).2.1 1 _ rfl) ?_;refine AW.ca 3 (λd=>Y _ (F.1.trans (d.mono F.1.size))) (λe w' h=>h.1) ?_;rintro e G ⟨U,J⟩;simp only[UN,Us,Uu,Uv];obtain⟨h5,j,o,f,rfl⟩:=bY J;refine AW.va 6 (.agg #[.slice (some ⟨j,o,none⟩) n f,.slice (some ⟨m,l,none⟩) n c2]) ?_;refine AW.fi (us:=[.slice (some ⟨j,o,none⟩) n f,.slice (some ⟨m,l,none⟩) n c2]) (Hid.mk' rfl) kR iLi (λd=>?_);have C:=F.2.2.1.below d;refine⟨C.2.2,?_⟩;obtain⟨B,p⟩:=hE (G.setCells s 0 [.slice (some ⟨j,o,none⟩) n f,.slice (some ⟨m,l,none⟩) n c2]);have R:Hid (kZ w B/\Row B s [.slice (some ⟨j,o,none⟩) n f,.slice (some ⟨m,l,none⟩) n c2]/\Ln (λg=>Q g\/w.heap.size<=g) B (.agg #[.slice (some ⟨j,o,none⟩) n f,.slice (some ⟨m,l,none⟩) n c2]) n (λi=>sPl N (a i) (c i)) b):=by
  have L:=F.1.trans (d.mono F.1.size);have q:w.heap.size<=s:=by rw[I.out];exact XM F.2.2.2
  have E:=RG.below_setCells q [.slice (some ⟨j,o,none⟩) n f,.slice (some ⟨m,l,none⟩) n c2] 0 G L;rw[<-p.out];exact⟨E,C.put rfl,_,_,rfl,(J.set F.2.2.1.1).mono λg S=>UX (UC F.1.size S),(D.keep (Kq.of_below E)).mono λ_ h=>U4 h⟩
 rw[p.out];go_wp2_with fail
 refine UE (aG 4 126 rfl R.2.1 rfl uLi iLi) rfl ?_;exact⟨_,rfl,R.1,R.2.2⟩
theorem RD(O:Ord N)(T:n<=64)(H:∀i,i<n->a i<N)(d:∀i,i<n->b i<N)(hc:∀i,i<n->c i<N)(h:Ln Q w v n a b)(X:SLq Q w u n c):
 UH prog 73 #[v,u] w (rZ w λe w'=>Ln (w.heap.size<=·) w' e n (λi=>sTi N (a i) (c i)) (λi=>sTi N (b i) (c i))):=by
 obtain⟨x,y,rfl,hx,K⟩:=h.ex;obtain⟨Z,g1,o1,c1,rfl⟩:=bY hx;obtain⟨Y,g2,o2,c2,rfl⟩:=bY K;obtain⟨k,w1,B,w2,M,D,G,A,F⟩:=EZ _ _ Z Y w;have S:=mk1 (λ(x:Ut) (a:Nat->Nat) (H:∀i,i<n->a i<N) (hx:SLq Q w x n a) (W:Ur) (d:kZ w W)=>NC (Q:=λ_=>True) 79 (λ_ _=>kR) (sTi N) n T a c (λi L=>iI O _ _ (H i L) (hc i L)) _ _ W ((hx.keep (Kq.of_below d)).mono λ_ _=>trivial) ((X.keep (Kq.of_below d)).mono λ_ _=>trivial));go_enter func73,ntmps73;go_wp2_with (first|(refine alR 2 M D ?_)|(refine alR 4 G A ?_)|fail)
 refine AW.begin 9 9 ?_;refine AW.va 0 (jZ k) ?_;refine AW.ce 1 uSl (λW d=>(F.2.1.below d).2.1 0 _ rfl) ?_;refine AW.mv 2 ?_;refine AW.va 4 (oZ k 1) ?_;refine AW.ce 5 uSl (λW d=>(F.2.1.below d).2.1 1 _ rfl) ?_;refine AW.mv 6 ?_;refine AW.ca 3 (λd=>S _ a H hx _ (F.1.trans (d.mono F.1.size))) (λe w' h=>h.1) ?_;rintro e W3 ⟨q,P⟩;simp only[UN,Us,Uu,Uv];obtain⟨h5,j,r,f,rfl⟩:=bY P;refine AW.ca 7 (λz=>S _ b d K _ (F.1.trans (z.mono F.1.size))) (λe w' h=>h.1) ?_;rintro e U ⟨E,s⟩;simp only[UN,Us,Uu,Uv];obtain⟨h6,p,m,l,rfl⟩:=bY s;refine AW.va 8 (.agg #[.slice (some ⟨j,r,none⟩) n f,.slice (some ⟨p,m,none⟩) n l]) ?_;refine AW.fi (us:=[.slice (some ⟨j,r,none⟩) n f,.slice (some ⟨p,m,none⟩) n l]) (Hid.mk' rfl) kR iLi (λd=>?_);have J:=F.2.2.1.below d;refine⟨J.2.2,?_⟩;obtain⟨I,o⟩:=hE (U.setCells B 0 [.slice (some ⟨j,r,none⟩) n f,.slice (some ⟨p,m,none⟩) n l]);have R:Hid (kZ w I/\Row I B [.slice (some ⟨j,r,none⟩) n f,.slice (some ⟨p,m,none⟩) n l]/\Ln (w.heap.size<=·) I (.agg #[.slice (some ⟨j,r,none⟩) n f,.slice (some ⟨p,m,none⟩) n l]) n (λi=>sTi N (a i) (c i)) (λi=>sTi N (b i) (c i))):=by
  have V:=F.1.trans (d.mono F.1.size);have t:w.heap.size<=B:=by rw[M.out];exact XM F.2.2.2
  rw[<-o.out];exact⟨RG.below_setCells t _ _ _ V,J.put rfl,_,_,rfl,((P.keep (Kq.of_below E)).set F.2.2.1.1).mono λg C=>UC F.1.size C,(s.set (Ux F.2.2.1.1 q.size)).mono λg C=>UC F.1.size (UC q.size C)⟩
 rw[o.out];go_wp2_with fail
 refine UE (aG 4 126 rfl R.2.1 rfl uLi iLi) rfl ?_;exact⟨_,rfl,R.1,R.2.2⟩
end
end
section
open Go.RowKit Go.Sort Go.Deep
variable {P:Nat}[NeZero P]{N:Nat}
theorem Po(O:Ord N)(x y z:Nat)(hx:x<N)(G:y<N)(P:z<N)(i p F o C v c1 q a u c2:Nat)(J:i<v)(I:i<u)(w:Ur)(Q:o<w.heap.size)(L:q<w.heap.size)(E:Row w p [.slice (some ⟨o,C,none⟩) v c1,.slice (some ⟨q,a,none⟩) u c2])(M:Row w F (wn z))(S:w.rangeAt o (C+4*i) (wn x))(K:w.rangeAt q (a+4*i) (wn y)):
 UH prog 153 #[iZ i,jZ p,jZ F] w (rZ w λe w'=>e=nv (sPl N x (sTi N y z))):=by
 obtain⟨k,D⟩:=hE (w.heap.size);obtain⟨X,c⟩:=hE (w.alloc (.cells (RG.z 4).toArray 49));have g:=aN D c;have B:=iI O y z G P;have A:sTi N y z<N:=V7 _ O.pos;have t:=mY O x (sTi N y z) hx A;generalize sTi N y z=s at B t⊢;generalize sPl N x s=r at t⊢;obtain⟨T,n⟩:=hE (nv x);obtain⟨U,l⟩:=hE (nv y);obtain⟨Z,f⟩:=hE (nv z);obtain⟨vs,m⟩:=hE (nv s);obtain⟨Y,d⟩:=hE (nv r);rw[l.out,f.out,m.out]at B;rw[n.out,m.out,d.out]at t;go_enter func153,ntmps153;go_wp2_with (first|(refine alR 4 D c ?_)|fail)
 refine AW.begin 13 13 ?_;refine AW.va 0 (jZ p) ?_;refine AW.ce 1 uSl (λW b=>((E.below g.1).below b).2.1 0 _ rfl) ?_;refine AW.mv 2 ?_;refine AW.iv 3 (lF o C v c1 i J) ?_;refine AW.ro 4 (λW b=>row_of g.1 Q S b) n rSc nSc ?_;refine AW.va 5 (oZ p 1) ?_;refine AW.ce 6 uSl (λW b=>((E.below g.1).below b).2.1 1 _ rfl) ?_;refine AW.mv 7 ?_;refine AW.iv 8 (lF q a u c2 i I) ?_;refine AW.ro 9 (λW b=>row_of g.1 L K b) l rSc nSc ?_;refine AW.ro 10 (λW b=>((M.below g.1).below b).2.1) f rSc nSc ?_;refine AW.gi 11 (λ_=>B _) λV _=>?_
 refine AW.gi 12 (λ_=>t _) λH _=>?_
 refine AW.fi (us:=wn r) d (aM r) i40 (λb=>?_);obtain⟨W5,j⟩:=hE (H.setCells k 0 (wn r));have R:=rU D c b j;rw[j.out];refine⟨R.1,?_⟩;go_wp2_with fail
 refine UE (aG 4 49 rfl R.2.2 rfl u40 i40) rfl ?_;exact⟨_,rfl,R.2.1,rfl⟩
theorem RL(O:Ord N){Q:Nat->Prop}{n:Nat}(Y:n<=64){a b:Nat->Nat}(T:∀i,i<n->a i<N)(R:∀i,i<n->b i<N){z:Nat}(U:z<N){v:Ut}{w:Ur}(h:Ln Q w v n a b):
 UH prog 77 #[v,nv z] w (rZ w λe w'=>SLq (w.heap.size<=·) w' e n (λi=>sPl N (a i) (sTi N (b i) z))):=by
 obtain⟨x,y,rfl,hx,H⟩:=h.ex;obtain⟨o,p,c1,rfl,-,-,I,X⟩:=hx;obtain⟨t,r,c2,rfl,-,-,S,P⟩:=H;obtain⟨k,C⟩:=hE (w.heap.size);obtain⟨B,l⟩:=hE (w.alloc (.cells [.slice (some ⟨o,p,none⟩) n c1,.slice (some ⟨t,r,none⟩) n c2].toArray 126));obtain⟨E,d⟩:=hE (B.heap.size);obtain⟨D,j⟩:=hE (B.alloc (.cells (wn z).toArray 49));have f:=aN C l;have g:=aN d j;have F:=mk3 (f.1.trans (g.1.mono f.1.size)) (f.2.below g.1) g.2;have G:=mk1 (jB n (by omega) 153 #[jZ k,jZ E] (λ_ _=>kR) (λi=>sPl N (a i) (sTi N (b i) z)) D λi W c q=>by
  have m:=F.1.trans (q.mono F.1.size);have s:=m.size;exact Po O (a i) (b i) z (T i c) (R i c) U i k E o p n c1 t r n c2 c c W (by omega) (by omega) (F.2.1.below q) (F.2.2.below q) (RG.range_below (X i c) m I) (RG.range_below (P i c) m S))
 have M:∀(u:Fn) (first cap:Array Ut) (w:Ur),(Yp u first cap).run prog w=.ok (.func u first cap) w:=λ_ _ _ _=>rfl
 have J:D.cell? ⟨k,0,none⟩=some (.slice (some ⟨o,p,none⟩) n c1):=F.2.1.2.1 0 _ rfl;go_enter func77,ntmps77;go_wp2_with (first|(refine alR 2 C l ?_)|(refine alR 3 d j ?_)|fail)
 refine G.mono ?_;rintro e Z ⟨v,rfl,m,V⟩;have L:=mk2 (F.1.trans (m.mono F.1.size)) (V.mono λg K=>UC F.1.size K);go_wp2;go_ret;exact⟨_,rfl,L.out⟩
theorem RH(O:Ord N){Q:Nat->Prop}{n:Nat}(hn:n<=64){a b c d:Nat->Nat}(B:∀i,i<n->a i<N/\b i<N/\c i<N/\d i<N){v u:Ut}{w:Ur}(h:Ln Q w v n a b)(h':Ln Q w u n c d):
 UH prog 75 #[v,u] w (rZ w λe w'=>e=.tuple #[nv (sPl N (prS N a d n) (prS N b c n)),nv (prS N b d n)]):=by
 obtain⟨x,y,rfl,hx,hy⟩:=h.ex;obtain⟨-,g1,o1,c1,rfl⟩:=bY hx;obtain⟨-,g2,o2,c2,rfl⟩:=bY hy;obtain⟨x',y',rfl,J,o⟩:=h'.ex;obtain⟨-,g3,o3,c3,rfl⟩:=bY J;obtain⟨-,g4,o4,c4,rfl⟩:=bY o;obtain⟨k,V⟩:=hE (w.heap.size);obtain⟨w1,s⟩:=hE (w.alloc (.cells [.slice (some ⟨g1,o1,none⟩) n c1,.slice (some ⟨g2,o2,none⟩) n c2].toArray 126));obtain⟨k3,r⟩:=hE (w1.heap.size);obtain⟨w2,z⟩:=hE (w1.alloc (.cells [.slice (some ⟨g3,o3,none⟩) n c3,.slice (some ⟨g4,o4,none⟩) n c4].toArray 126));obtain⟨A,t⟩:=hE (w2.heap.size);obtain⟨w3,M⟩:=hE (w2.alloc (.cells (RG.z 4).toArray 49));obtain⟨I,m⟩:=hE (w3.heap.size);obtain⟨w4,C⟩:=hE (w3.alloc (.cells (RG.z 4).toArray 49));have f:=Nc V s r z t M;have g:=aN m C;have F:=mk5 (f.1.trans (g.1.mono f.1.size)) (f.2.1.below g.1) (f.2.2.1.below g.1) (f.2.2.2.below g.1) g.2;have h0:w.heap.size<=A/\A<I:=⟨by rw[<-t.out];exact UC (aN V s).1.size (aN r z).1.size,by rw[<-m.out];exact f.2.2.2.1⟩
 have HC:Hid (∀ {p q:Nat->Nat}{x y:Ut},(∀i,i<n->p i<N/\q i<N)->SLq Q w x n p->SLq Q w y n q->∀W,kZ w4 W->UH prog 78 #[x,y] W (rZ W λe w'=>e=nv (prS N p q n))):=λ{p q x y} hp h1 h2 W j=>by
  have b:=F.1.trans (j.mono F.1.size);exact Bc O (Q:=Q) n (by omega) p q (λi l=>(hp i l).1) (λi l=>(hp i l).2) x y W (h1.keep (Kq.of_below b)) (h2.keep (Kq.of_below b))
 have C1:=HC (λi l=>⟨(B i l).1,(B i l).2.2.2⟩) hx o;have Y:=HC (λi l=>⟨(B i l).2.1,(B i l).2.2.1⟩) hy J;have Z:=HC (λi l=>⟨(B i l).2.1,(B i l).2.2.2⟩) hy o;have S:=mY O _ _ (AN O.pos a d n) (AN O.pos b c n);generalize prS N a d n=p1 at C1 S⊢;generalize prS N b c n=p2 at Y S⊢;generalize prS N b d n=T at Z⊢;generalize sPl N p1 p2=L at S⊢;obtain⟨v1,K⟩:=hE (nv p1);obtain⟨v2,E⟩:=hE (nv p2);obtain⟨v3,G⟩:=hE (nv T);obtain⟨v4,H⟩:=hE (nv L);rw[K.out]at C1;rw[E.out]at Y;rw[G.out]at Z;rw[K.out,E.out,H.out]at S;go_enter func75,ntmps75;go_wp2_with (first|(refine alR 2 V s ?_)|(refine alR 3 r z ?_)|(refine alR 4 t M ?_)|(refine alR 5 m C ?_)|fail)
 refine AW.begin 16 15 ?_;refine AW.va 0 (jZ k) ?_;refine AW.ce 1 uSl (λW j=>(F.2.1.below j).2.1 0 _ rfl) ?_;refine AW.va 2 (oZ k3 1) ?_;refine AW.ce 3 uSl (λW j=>(F.2.2.1.below j).2.1 1 _ rfl) ?_;refine AW.va 5 (oZ k 1) ?_;refine AW.ce 6 uSl (λW j=>(F.2.1.below j).2.1 1 _ rfl) ?_;refine AW.va 7 (jZ k3) ?_;refine AW.ce 8 uSl (λW j=>(F.2.2.1.below j).2.1 0 _ rfl) ?_;refine AW.va 11 (oZ k 1) ?_;refine AW.ce 12 uSl (λW j=>(F.2.1.below j).2.1 1 _ rfl) ?_;refine AW.va 13 (oZ k3 1) ?_;refine AW.ce 14 uSl (λW j=>(F.2.2.1.below j).2.1 1 _ rfl) ?_;refine AW.gi 4 (λj=>C1 _ j) λW1 _=>?_
 refine AW.gi 9 (λj=>Y _ j) λW2 _=>?_
 refine AW.gi 10 (λ_=>S _) λW3 _=>?_
 refine AW.gi 15 (λj=>Z _ j) λX _=>?_
 refine AW.f2 (us:=wn L) (us':=wn T) H G (aM _) i40 (aM _) i40 (λj=>?_);obtain⟨W5,D⟩:=hE (X.setCells A 0 (wn L));obtain⟨U,P⟩:=hE (W5.setCells I 0 (wn T));have R:Hid (X.there A 0 4/\W5.there I 0 4/\Row U A (wn L)/\Row U I (wn T)/\kZ w U):=by
  have r4:=F.2.2.2.1.below j;have r5:Row (X.setCells A 0 (wn L)) I _:=aR (F.2.2.2.2.below j) (by omega);rw[<-P.out,<-D.out];exact⟨r4.2.2,r5.2.2,aR (r4.put rfl) (by omega),r5.put rfl,RG.below_setCells (by omega) _ _ _ (RG.below_setCells (by omega) _ _ _ (F.1.trans (j.mono F.1.size)))⟩
 rw[D.out,P.out];refine⟨R.1,R.2.1,?_⟩;go_wp2_with fail
 refine UE (qE 4 5 49 49 rfl R.2.2.1 R.2.2.2.1 rfl rfl u40 i40 u40 i40) rfl ?_;exact⟨_,rfl,R.2.2.2.2,rfl⟩
theorem OU(O:Ord N)(p x:Nat)(Q:p<N)(hx:x<N)(i:Int)(b n:Nat)(F:n≠b)(w:Ur)(A:Row w b (wn p))(L:Row w n (wn x)):
 UH prog 152 #[iZ i,jZ b,jZ n] w (Ret λe w'=>Kz (·≠b) w w'/\(Row w' b (wn (sTi N p x))/\Row w' n (wn x))/\e=nv p):=by
 have I:=iI O p x Q hx;generalize sTi N p x=q at I⊢;obtain⟨W,k⟩:=hE (nv p);obtain⟨R,z⟩:=hE (nv x);obtain⟨V,o⟩:=hE (nv q);rw[k.out,z.out,o.out]at I;obtain⟨s,f⟩:=hE (w.heap.size);obtain⟨K,u⟩:=hE (w.alloc (.cells (RG.z 4).toArray 49));obtain⟨E,g⟩:=hE (K.heap.size);obtain⟨M,r⟩:=hE (K.alloc (.cells (RG.z 4).toArray 49));obtain⟨l,v⟩:=hE (M.setCells E 0 (wn p));have t:=aN f u;have C:=aN g r;have D:=t.1.trans (C.1.mono t.1.size);have T:=A.1;have Y:=L.1;have U:=t.2.1;have Z:=f.out;have X:=g.out;have d:Hid (kZ w l/\Row l b (wn p)/\Row l n (wn x)/\Row l s (RG.z 4)/\Row l E (wn p)/\M.there E 0 4):=by
  rw[<-v.out];exact⟨RG.below_setCells (by omega) _ _ _ D,aR (A.below D) (by omega),aR (L.below D) (by omega),aR (t.2.below C.1) (by omega),C.2.put rfl,C.2.2.2⟩
 have P:=mk1 (A.below D);go_enter func152,ntmps152;go_wp2_with (first|(refine alR 4 f u ?_)|(refine ldR 1 (A.below t.1).2.1 k u40 i40 ?_)|(refine alR 5 g r ?_)|(refine stR 5 v k d.2.2.2.2.2 i40 (aM p) ?_)|(refine ldR 1 d.2.1.2.1 k u40 i40 ?_)|(refine ldR 2 d.2.2.1.2.1 z u40 i40 ?_)|fail)
 refine(I l).mono ?_;rintro e G ⟨S,rfl,c,rfl⟩;obtain⟨H,a⟩:=hE (G.setCells b 0 (wn q));obtain⟨B,y⟩:=hE (H.setCells s 0 (wn p));have m:=mk5 (d.1.trans (c.mono d.1.size)) (d.2.1.below c) (d.2.2.1.below c) (d.2.2.2.1.below c) (d.2.2.2.2.1.below c);have j:Hid (G.there b 0 4/\Row H E (wn p)/\H.there s 0 4/\Kz (·≠b) w B/\Row B b (wn q)/\Row B n (wn x)/\Row B s (wn p)):=by
  have J:Row (G.setCells b 0 (wn q)) s _:=aR m.2.2.2.1 (by omega);rw[<-y.out,<-a.out];exact⟨m.2.1.2.2,aR m.2.2.2.2 (by omega),J.2.2,((Kz.of m.1).set (UX (by simp))).set (U4 (by omega)),aR (m.2.1.put rfl) (by omega),aR (aR m.2.2.1 F) (by omega),J.put rfl⟩
 go_wp2_with (first|(refine stR 1 a o j.1 i40 (aM q) ?_)|(refine ldR 5 j.2.1.2.1 k u40 i40 ?_)|(refine stR 4 y k j.2.2.1 i40 (aM p) ?_)|fail)
 refine UE (aG 4 49 rfl j.2.2.2.2.2.2 rfl u40 i40) rfl ?_;exact⟨_,rfl,j.2.2.2.1,⟨j.2.2.2.2.1,j.2.2.2.2.2.1⟩,rfl⟩
def pwN(N x:Nat):Nat->Nat
 | 0=>1
 | i+1=>sTi N (pwN N x i) x
theorem wT(O:Ord N)(x:Nat):∀i,pwN N x i<N
 | 0=>by show 1<N;have:=O.n2;omega
 | _+1=>V7 _ O.pos
theorem EG[NeZero N](k:1<N)(x:Fin N):∀i,(pwF x i).val=pwN N x.val i
 | 0=>US k
 | i+1=>by
  show(pwF x i*x).val=_;rw[fL,EG k x i];rfl
theorem Kz.bw{Z:Nat->Prop}{w d c:Ur}(h:kZ w d)(k:Kz Z d c)(e:∀g,g<w.heap.size->Z g):kZ w c:=⟨k.os.trans h.os,k.tape.trans h.tape,k.output.trans h.output,UC h.size k.size,λg b=>(k.block g (Ux b h.size) (e g b)).trans (h.block g b)⟩
theorem EK(O:Ord N)(x:Nat)(hx:x<N)(n:Nat)(I:n<=512)(w:Ur):
 UH prog 74 #[nv x,iZ n] w (rZ w λe w'=>SLq (w.heap.size<=·) w' e n (pwN N x)/\∃g c,e=sZ g n c):=by
 obtain⟨E,r⟩:=hE (nv x);obtain⟨v1,s⟩:=hE (nv 1);have S:Hid (Gives 70 #[uZ 1] v1):=by rw[<-s.out];exact IY
 obtain⟨q,k⟩:=hE (w.heap.size);obtain⟨B,m⟩:=hE (w.alloc (.cells (wn x).toArray 49));have A:Hid ((Ve 49 E).run prog w=.ok (jZ q) B):=by rw[<-r.out,<-m.out,<-k.out];exact boxS x w
 have z:=aN k m;have R:∀(F:Fn) (first cap:Array Ut) (w:Ur),(Yp F first cap).run prog w=.ok (.func F first cap) w:=λ_ _ _ _=>rfl
 rw[r.out];go_enter func74,ntmps74;go_wp2_with (first|(refine aF (u:=E) (v:=jZ q) (w':=B) rfl _ (.tmp 0) rfl ?_ ?_ ?_;rfl;exact A.out)|fail)
 refine(S B).mono ?_;rintro e H ⟨V,rfl,d,rfl⟩;obtain⟨t,f⟩:=hE (H.heap.size);obtain⟨P,p⟩:=hE (H.alloc (.cells (RG.z 4).toArray 49));obtain⟨L,l⟩:=hE (P.setCells t 0 (wn 1));have y:=ET f p l rfl;have C:=z.2.below d;have b:=C.1;rw[f.out]at b;have D:=z.1.trans (d.mono z.1.size);have j:=mk4 (D.trans (y.2.1.mono D.size)) (C.below y.2.1) y.2.2 b;have s4:=j.2.2.1.1;have J:=mk1 (zZ n I 152 #[jZ t,jZ q] (λ_ _=>kR) (pwN N x) (·≠t) (λi W=>Row W t (wn (pwN N x i))/\Row W q (wn x)) L (λg a=>by omega) (λW G=>⟨j.2.2.1.below G,j.2.1.below G⟩) (λi W K o vs X h=>⟨aR h.1 (by omega),aR h.2 (by omega)⟩) λi W hi _ h=>OU O _ x (wT O x i) hx _ t q (by omega) W h.1 h.2);clear D C d b s4;go_wp2_with (first|(refine alR 5 f p ?_)|(refine stR 5 l s y.1 i40 (aM 1) ?_)|fail)
 refine J.mono ?_;rintro e Y ⟨v,rfl,T,-,U,M⟩;have Z:=k.out;have Q:=mk3 (Kz.bw j.1 T λg a=>by have:=j.2.2.2;omega) (U.mono λg a=>UC j.1.size a) M;go_wp2;go_ret;exact⟨_,rfl,Q.out⟩
theorem Nz(O:Ord N)(x:Nat)(hx:x<N)(n:Nat)(k:n<=512)(w:Ur):
 UH prog 74 #[nv x,iZ n] w (rZ w λe w'=>SLq (w.heap.size<=·) w' e n (pwN N x)):=
 (EK O x hx n k w).mono λ_ _ ⟨v,h,b,c,_⟩=>⟨v,h,b,c⟩
theorem uLs:(prog.underlying 129).map (·.isRow)=some false:=kR
theorem uSm:(prog.underlying 131).map (·.isRow)=some false:=kR
theorem Ow(O:Ord N)(l:List (Nat × Bs))(u:TOk N l)(d:l.length<=512)(z:Nat)(H:z<N)(i q s f m o c1 j r n c2:Nat)(v0 v2 x:Ut)(C:i<o)(A:i<n)(w:Ur)(J:f<w.heap.size)(F:j<w.heap.size)(v:Row w q [v0,.slice (some ⟨f,m,none⟩) o c1,v2])(G:Row w s [.slice (some ⟨j,r,none⟩) n c2])(L:w.cell? ⟨f,m+1*i,none⟩=some x)(hx:Sm 0 w x l)(D:w.rangeAt j (r+4*i) (wn z)):
 UH prog 163 #[iZ i,jZ q,jZ s] w (rZ w λe w'=>Sm w.heap.size w' e (l.map (tmT N z))):=by
 obtain⟨M,b⟩:=hE (nv z);have t:=mk1 (λ(W:Ur) (k:kZ w W)=>eG O H 0 x l d u.szm u.lt W (hx.grow k));rw[b.out]at t;obtain⟨a,y⟩:x.oneCell'=true/\∃g c,x=sZ g l.length c:=by
  obtain⟨g,c,rfl,-⟩:=hx;exact⟨rfl,_,_,rfl⟩
 go_enter func163,ntmps163;go_wp2_with fail
 refine AW.begin 10 10 ?_;refine AW.va 0 (oZ q 1) ?_;refine AW.ce 1 uLs (λW k=>(v.below k).2.1 1 _ rfl) ?_;refine AW.mv 2 ?_;refine AW.iv 3 (atS f m o c1 i C) ?_;refine AW.ce 4 uSm (λW k=>by rw[k.cell (p:=⟨f,m+1*i,none⟩) J];exact L) ?_;refine AW.ce 5 uSl (λW k=>(G.below k).2.1 0 _ rfl) ?_;refine AW.mv 6 ?_;refine AW.iv 7 (lF j r n c2 i A) ?_;refine AW.ro 8 (λW k=>RG.range_below D k F) b rSc nSc ?_;refine AW.ca 9 (λk=>t _ k) (λe w' h=>h.1) ?_;rintro e B ⟨E,I⟩;simp only[UN,Us,Uu,Uv];refine AW.nx 10 e ?_;refine AW.dn λk=>?_
 have K:=mk2 k (show Sm w.heap.size B e _ from I);go_wp2;go_ret;exact⟨_,rfl,K.out⟩
theorem OI(O:Ord N)(z q y t:Nat)(hz:z<N)(U:q<N)(S:y<N)(P:t<N)(i I K M J u D B c1 v C x c2:Nat)(X:i<B)(V:i<x)(w:Ur)(lg:u<w.heap.size)(Z:v<w.heap.size)(Q:Row w I (wn z))(R2:Row w K [.slice (some ⟨u,D,none⟩) B c1])(R3:Row w M (wn q))(R4:Row w J [.slice (some ⟨v,C,none⟩) x c2])(r1:w.rangeAt u (D+4*i) (wn y))(Y:w.rangeAt v (C+4*i) (wn t)):
 UH prog 150 #[iZ i,jZ I,jZ K,jZ M,jZ J] w (rZ w λe w'=>e=nv (sPl N (sTi N z y) (sTi N q t))):=by
 obtain⟨k,E⟩:=hE (w.heap.size);obtain⟨w1,d⟩:=hE (w.alloc (.cells (RG.z 4).toArray 49));have f:=aN E d;have F:=iI O z y hz S;have A:=iI O q t U P;have H:sTi N z y<N:=V7 _ O.pos;have L:sTi N q t<N:=V7 _ O.pos;generalize sTi N z y=a at F H⊢;generalize sTi N q t=b at A L⊢;have G:=mY O a b H L;generalize sPl N a b=r at G⊢;obtain⟨vz,j⟩:=hE (nv z);obtain⟨vq,l⟩:=hE (nv q);obtain⟨vy,n⟩:=hE (nv y);obtain⟨vt,o⟩:=hE (nv t);obtain⟨va,s⟩:=hE (nv a);obtain⟨vb,p⟩:=hE (nv b);obtain⟨vr,g⟩:=hE (nv r);rw[j.out,n.out,s.out]at F;rw[l.out,o.out,p.out]at A;rw[s.out,p.out,g.out]at G;go_enter func150,ntmps150;go_wp2_with (first|(refine alR 6 E d ?_)|fail)
 refine AW.begin 13 13 ?_;refine AW.ro 0 (λW c=>((Q.below f.1).below c).2.1) j rSc nSc ?_;refine AW.ce 1 uSl (λW c=>((R2.below f.1).below c).2.1 0 _ rfl) ?_;refine AW.mv 2 ?_;refine AW.iv 3 (lF u D B c1 i X) ?_;refine AW.ro 4 (λW c=>row_of f.1 lg r1 c) n rSc nSc ?_;refine AW.ro 6 (λW c=>((R3.below f.1).below c).2.1) l rSc nSc ?_;refine AW.ce 7 uSl (λW c=>((R4.below f.1).below c).2.1 0 _ rfl) ?_;refine AW.mv 8 ?_;refine AW.iv 9 (lF v C x c2 i V) ?_;refine AW.ro 10 (λW c=>row_of f.1 Z Y c) o rSc nSc ?_;refine AW.gi 5 (λ_=>F _) λW2 _=>?_
 refine AW.gi 11 (λ_=>A _) λW3 _=>?_
 refine AW.gi 12 (λ_=>G _) λT _=>?_
 refine AW.fi (us:=wn r) g (aM r) i40 (λc=>?_);obtain⟨W5,m⟩:=hE (T.setCells k 0 (wn r));have R:=rU E d c m;rw[m.out];refine⟨R.1,?_⟩;go_wp2_with fail
 refine UE (aG 6 49 rfl R.2.2 rfl u40 i40) rfl ?_;exact⟨_,rfl,R.2.1,rfl⟩
end
namespace RG
open Go Go.RowKit
variable {P:VD}{ops:Array Vk}{Q:Yq->Act->Ur->Prop}{w:Ur}{a0:Act}{L:Array Bool}{F:Flow}{m:Nat}
def Fr(a k:Act)(d:Option WF):Prop:=∃v,k.tmps=(a.put d v).tmps
theorem Ld{o:Vk}{a:Act}:∀ {r:Result Next},o.upon P a K Q r->o.upon P a (λb w'=>K b w'/\Fr a b o.dst) Q r
 | .ok (.value v) _,h=>⟨h,v,rfl⟩
 | .ok .skip _,h=>⟨h,WR,rfl⟩
 | .ok (.defer d) _,h=>⟨h,WR,by cases o.dst<;>rfl⟩
 | .ok (.enter f args) _,h=>Calls.mono h λe w' k=>by
  cases e with
  | returned v=>exact⟨k,v,rfl⟩
  | panicked c=>exact k
  | outgrown=>exact k
 | .ok (.row row args) _,h=>Rows.mono h λv w' k=>⟨k,v,rfl⟩
 | .halt (.panic v) _,h=>h
 | .halt (.exit _) _,h=>h.elim
theorem KT{i:Nat}{o:Vk}{a:Act}(ho:ops[i]? = some o)(h:wpOp P ops Q i K a w):wpOp P ops Q i (λk w'=>K k w'/\Fr a k o.dst) a w:=by
 unfold wpOp at *;rw[ho]at h⊢;dsimp only at h⊢;split
 ·rename_i hw
  rw[yCl hw]at h;rcases h with h|h
  ·exact U4 (Ld h)
  ·exact UX h
 ·rename_i hw
  rw[yCm hw]at h;exact⟨h,WR,rfl⟩
theorem Ht{i:Nat}{o:Vk}{a:Act}{v:Ut}{c:Ur}(ho:ops[i]? = some o)(d:o.guard=none)(b:(U5 a.eval o).run P w=.ok (.value v) c)(h:wpOp P ops Q i K a w):wpOp P ops Q i (λk w'=>K k w'/\k=a.put o.dst v) a w:=by
 unfold wpOp at *;rw[ho]at h⊢;dsimp only at h⊢;have e:V4 o (yielded ops a.tmps)=true:=by
  unfold V4;rw[d]
 rw[yCl e]at h⊢;rcases h with h|h
 ·unfold VT at h⊢;rw[b]at h⊢;exact U4 ⟨h,rfl⟩
 ·exact UX h
def rC(k:Array Vk)(i:Nat):Bool:=match k[i]? with
 | some o=>match o.op with | .alloc _=>true|_=>false
 | none=>false
def Sep(k:Array Vk)(L:Array Bool)(a:Act):Prop:=∀i j di dj,on L i=true->on L j=true->i≠j->rC k i=true->rC k j=true->aX k i=some di->aX k j=some dj->a.tmps[di]?≠a.tmps[dj]?
def Als(P:VD)(F:Flow)(b:Array Vk)(n:Nat):Prop:=∀i o,i<n->b[i]? = some o->rC b i=true->o.guard=none/\F.kill i=[]/\(∀(a:Act) w,∃c,(U5 a.eval o).run P w=.ok (.value (jZ w.heap.size)) c)/\∀v w,F.R i v w->∃k,v=jZ k/\k<w.heap.size
theorem kC{a:Act}{d e:WF}{v:Ut}(h:d≠e):(a.put (some d) v).tmps[e]? = a.tmps[e]?:=by
 unfold UN;dsimp only;rw[WE,yCm h]
theorem stepS{k:Nat}{o:Vk}{a:Act}(R:RegF P Q F ops a0 m)(U:Als P F ops m)(G:k<m)(D:∀i,on L i=true->i<m)(ho:ops[k]? = some o)(O:on L k=false)(C:∀e∈o.after,VP .any e=true->on L e.on=true)(h:InvF F ops a0 L a w)(X:Sep ops L a):
 wpOp P ops Q k (λJ w'=>InvF F ops a0 (L.setIfInBounds k true) J w'/\Sep ops (L.setIfInBounds k true) J) a w:=by
 have W:=Ey R G D ho O C h;have M:=(Array.getElem?_eq_some_iff.1 ho).1;have N:k<L.size:=by rw[h.size];exact M
 have H:=eX ho;have c:∀i,on (L.setIfInBounds k true) i=true->i≠k->on L i=true:=λi g z=>by
  rw[eC N]at g;rcases Xx _ _ ▸ g with g|g
  ·exact g
  ·exact absurd (by simpa using g:k=i).symm z
 have d:∀i di s,i≠k->aX ops i=some di->o.dst=some s->s≠di:=λi di s z g hk e=>by
  subst e;exact z ((R.of ho).2 s hk |>.2 i g)
 cases A:rC ops k with
 | false =>
  refine ZB (λJ w' hh=>⟨hh.1,λi j di dj g I f p t b l=>?_⟩) (KT ho W);have r:i≠k:=by rintro rfl;rw[A]at p;cases p
  have u:j≠k:=by rintro rfl;rw[A]at t;cases t
  have n:=X i j di dj (c i g r) (c j I u) f p t b l;obtain⟨v,hv⟩:=hh.2;rw[hv];cases hd:o.dst with
  | none=>exact n
  | some s=>rw[kC (d i di s r b hd),kC (d j dj s u l hd)];exact n
 | true =>
  obtain⟨hg,-,E,-⟩:=U k o G ho A;obtain⟨w1,Y⟩:=E a w;obtain⟨V,K,S⟩:=h.all;have y:∀i di,i≠k->on L i=true->rC ops i=true->aX ops i=some di->a.tmps[di]?≠some (jZ w.heap.size):=λi di r g p b e=>by
   have T:i<ops.size:=by rw[<-h.size];exact zV g
   obtain⟨-,B,-,hb⟩:=U i _ (D i g) (U0 T) p;obtain⟨q,Z,h0⟩:=hb (V i) w (S i g λx hx=>by rw[B]at hx;cases hx);rw[K i di g b,Z]at e;injection e with e
   injection e with e
   injection e with e
   injection e with e
   omega
  refine ZB (λJ w' hh=>⟨hh.1,λi j di dj g I f p t b l=>?_⟩) (Ht ho hg Y W);rw[hh.2];have B:∀s,o.dst=some s->(a.put o.dst (jZ w.heap.size)).tmps[s]? = some (jZ w.heap.size):=λs hd=>by
   rw[hd];unfold UN;dsimp only;rw[WE,yCl rfl,yCl (by rw[h.sz];exact((R.of ho).2 s hd).1)]
  by_cases r:i=k
  ·subst r;have hd:o.dst=some di:=by rw[<-H];exact b
   rw[B di hd,hd,kC (d j dj di (YD f) l hd)];exact(y j dj (YD f) (c j I (YD f)) t l).symm
  ·by_cases u:j=k
   ·subst u;have hd:o.dst=some dj:=by rw[<-H];exact l
    rw[B dj hd,hd,kC (d i di dj f b hd)];exact y i di f (c i g f) p b
   ·have n:=X i j di dj (c i g r) (c j I u) f p t b l;cases hd:o.dst with
    | none=>exact n
    | some s=>rw[kC (d i di s r b hd),kC (d j dj s u l hd)];exact n
structure Al1(P:VD)(G:Gw)(ops:Array Vk)(i:Nat):Prop where
 o:∃o,ops[i]? = some o/\o.guard=none/\(∀(a:Act) w,∃w1,(U5 a.eval o).run P w=.ok (.value (jZ w.heap.size)) w1)
 r:∀v w,G.R i v w->∃k,v=jZ k/\k<w.heap.size
def AlL(P:VD)(G:Gw)(k:Array Vk):List Nat->Prop
 | []=>True
 | i :: r=>Al1 P G k i/\AlL P G k r
theorem AlL.of{G:Gw}{i:Nat}:∀ {l:List Nat},AlL P G ops l->l.contains i=true->Al1 P G ops i
 | [],_,h=>by cases h
 | x :: r,hl,h=>by
  rw[List.contains_cons,Xx]at h;rcases h with h|h
  ·rw[show i=x by simpa using h];exact hl.1
  ·exact hl.2.of h
theorem Ke{G:Gw}{n:Nat}(l:List Nat)(h:AlL P G ops l)(b:(VG n).all (λi=>!rC ops i || l.contains i)=true:=by kernel_rfl):Als P G.flow ops n:=λi o d ho c=>by
 have k:=List.all_eq_true.1 b i (List.mem_range.2 d);rw[c,Bool.not_true,Bool.false_or]at k;obtain⟨⟨e,j,g,f⟩,m⟩:=h.of k;obtain rfl:o=e:=UO.inj (ho.symm.trans j);exact⟨g,rfl,f,m⟩
theorem al1{G:Gw}{i:Nat}(cs:List Ut)(T:U8)(d:∀v w,G.R i v w->∃k,v=jZ k/\k<w.heap.size)(ho:(ops[i]?.map (·.guard))=some none:=by kernel_rfl)(e:∀o,ops[i]? = some o->∀W,(dA [] o,(U5 (evo (evl [])) o).run P W)=(true,.ok (.value (jZ W.heap.size)) (W.alloc (.cells cs.toArray T))):=by(intro _ h _;cases h;kernel_rfl)):Al1 P G ops i:=by
 refine⟨?_,d⟩;cases h:ops[i]? with
 | none=>rw[h]at ho;cases ho
 | some o =>
  rw[h]at ho;refine⟨o,rfl,UO.inj ho,λa w=>?_⟩;have b:=e o h w;simp only[V8.injEq]at b;exact⟨_,by rw[iU (a:=a) (evl []) [] b.1 (λt c=>by cases c)];exact b.2⟩
theorem Gw.tail3(G:Gw)(n:Nat)(z:Als P G.flow ops n)(g:(decide (n<ops.size) && mG ops n)=true)(v:P.follows .mixedOrders=true)(u:Be ops a0.tmps.size=true)(h:iK P Q G.flow ops a0 0 (ops.toList.take n))(B:G.B w.drew)
 (E:∀(V:Nat->Ut) (w':Ur),(∀i,i<n->G.R i (V i) w')->G.B w'->(∀i j,i<n->j<n->i≠j->rC ops i=true->rC ops j=true->(aX ops i).isSome=true->(aX ops j).isSome=true->V i≠V j)->wpList P ops Q (ops.toList.drop n) (bU V (ops.toList.take n) 0 a0) w'):(V6 id ops true).wp P Q a0 w:=by
 rw[UL,decide_eq_true_eq]at g;refine xW G.flow n (Sep ops) g.1 g.2 v (Gw.reg u h) (λ_=>B) (λL h i j di dj d=>by rw[h]at d;cases d) (λk o L a w q p r x y A D=>stepS (Gw.reg u h) z q p r x y A D) λV w' q p r=>E V w' (λi d=>q i d rfl) (p 0 rfl) λi j d t l s m c b e=>?_
 obtain⟨L,a,C,f⟩:=r;obtain⟨di,c⟩:=Vr.1 c;obtain⟨dj,b⟩:=Vr.1 b;refine C i j di dj (f i d).1 (f j t).1 l s m c b ?_;rw[(f i d).2 di c,(f j t).2 dj b,e]
end RG
section
open Go.RowKit Go.Sort Go.Deep
variable {N:Nat}
theorem SLq.from{B:Nat}{W W':Ur}{x:Ut}{n:Nat}{a:Nat->Nat}(h:B<=W.heap.size)(k:SLq (W.heap.size<=·) W' x n a):SLq (B<=·) W' x n a:=k.mono λg b=>UC h b
def pZ(B n:Nat)(a:Nat->Nat):S1:=⟨λv w=>SLq (B<=·) w v n a/\∃g c,v=sZ g n c,λ_ _ _ k h=>⟨h.1.keep (Kq.of_below k),h.2⟩⟩
theorem wJ{Q:Nat->Prop}{W:Ur}{g k n c:Nat}{a:Nat->Nat}{u:Ut}{r:List Ut}(h:SLq Q W (sZ g n c) n a)(d:0<n)(R:Row W k (u :: r))(f:u≠uZ ((a 0%18446744073709551616:Nat):Int)):g≠k:=by
 rintro rfl;obtain⟨l,m,o,e,-,-,-,i⟩:=h;injection e with e
 injection e with e
 injection e with e1 e2
 subst e1 e2;have b:=i 0 d 0 _ rfl;have j:=R.2.1 0 u rfl;rw[j]at b;exact f (UO.inj b)
theorem pO{B g k n c:Nat}{W:Ur}{a:Nat->Nat}(h:SLq (B<=·) W (sZ g n c) n a)(b:g≠k):SLq (B<=·) (W.setCells k 0 vs) (sZ g n c) n a:=by
 obtain⟨q,d,o,e,l,f,m,i⟩:=h;have e':=e;injection e with e
 injection e with e
 injection e with e1 e2
 subst e1;exact⟨g,d,o,e',l,f,by rw[setCells_size];exact m,λj p=>Vh (i j p) k 0 vs (U4 b)⟩
section
variable {P:VD}{ops:Array Vk}{rest:List Vk}{op:Vk}{a:Act}{w w':Ur}{Q:Yq->Act->Ur->Prop}{T:U8}{y:XI}{g o:Nat}{u:Ut}
theorem OB(t:WF)(j:Hid (w.setCells g o [u]=w'))(th:w.there g o 1)(d:(P.info? T).map (·.size)=some 1)(hv:u.cells=#[u])(f:u.oneCell'=true)(h:wpList P ops Q rest (a.put op.dst WR) w')(k:op.guard=none:=by rfl)(ho:op.op=.store T (.tmp t) y:=by rfl)(hx:a.eval (.tmp t)=oZ g o:=by rfl)(i:a.eval y=u:=by rfl):wpList P ops Q (op :: rest) a w:=
 Xi k λK c=>by
  have b:=ZC (P:=P) w g o T #[u] th d (by simp[f]);have e:storeVar T ⟨g,o,none⟩ u=storeVar T ⟨g,o,none⟩ (.agg #[u]):=by
   unfold storeVar;rw[hv];rfl
  rw[show(#[u]:Array Ut).toList=[u] from rfl,j.out]at b;unfold VT U5;simp only[ho,hx,i,Yy,X6,UV,Wt,Vm,e,b];exact c _ _ h
theorem inR{v:Ut}(t:WF)(I:Sem Ut)(b:I.run P w=.ok v w')(h:wpList P ops Q rest (a.put op.dst v) w')(hd:op.dst=some t:=by rfl)(k:op.guard=none:=by rfl)(c:U5 a.eval op=I >>= λv=>pure (Xr v):=by kernel_rfl):wpList P ops Q (op :: rest) a w:=
 Xi k λK d=>by
  unfold VT;rw[c,UV,b];exact d _ _ h
end
theorem SG(n:Nat)(w:Ur):(Vy 124 1 #[(0,nv n)]).run prog w=.ok (sZ w.heap.size 1 1) (w.alloc (.cells (wn n).toArray 49)):=kR
theorem iSl:(prog.info? 124).map (·.size)=some 1:=kR
theorem zS{B:Nat}{cs:List Ut}(v:Ut)(W:Ur)(h:(RG.pN B cs).p v W):∃k,v=jZ k/\k<W.heap.size:=by
 obtain⟨k,b,-,c⟩:=h;exact⟨k,b,c.1⟩
theorem QO(O:Ord N)(h2:2<N)(y z:Nat)(hy:y<N)(hz:z<N)(n:Nat)(hn:n<=512)(w:Ur)(R:∀x g W,Row W g (wn x)->UH prog 148 #[sZ g 1 1,iZ n] W (rZ W λe W'=>SLq (W.heap.size<=·) W' e n (λ_=>x))):
 UH prog 71 #[nv y,nv z,iZ n] w (rZ w λe w'=>∃l r,e=.tuple #[l,r]/\SLq (w.heap.size<=·) w' l n (λ_=>sMi N 0 z)/\SLq (w.heap.size<=·) w' r n (λi=>sPl N (sTi N z (pwN N y i)) (sTi N (sTi N z z) (pwN N 2 i)))):=by
 obtain⟨vy,he⟩:=hE (nv y);obtain⟨vz,J⟩:=hE (nv z);obtain⟨k3,h6⟩:=hE (w.heap.size);obtain⟨w1,h8⟩:=hE (w.alloc (.cells (wn y).toArray 49));obtain⟨k4,h9⟩:=hE (w1.heap.size);obtain⟨p,hc⟩:=hE (w1.alloc (.cells (wn z).toArray 49));have k1:Hid ((Ve 49 vy).run prog w=.ok (jZ k3) w1):=by rw[<-he.out,<-h8.out,<-h6.out];exact boxS y w
 have k0:Hid ((Ve 49 vz).run prog w1=.ok (jZ k4) p):=by rw[<-J.out,<-hc.out,<-h9.out];exact boxS z w1
 have F1:=aN h6 h8;have F2:=aN h9 hc;have R3:=F1.2.below F2.1;have b2:=F1.1.trans (F2.1.mono F1.1.size);rw[he.out,J.out];have L:=mk3 b2 R3 F2.2;clear b2 R3 F1 F2;go_enter func71,ntmps71;go_wp2_with (first|(refine aF (u:=vy) (v:=jZ k3) (w':=w1) rfl _ (.tmp 0) rfl ?_ ?_ ?_;rfl;exact k1.out)|(refine aF (u:=vz) (v:=jZ k4) (w':=p) rfl _ (.tmp 1) rfl ?_ ?_ ?_;rfl;exact k0.out)|fail)
 obtain⟨b,hb⟩:=hE (p.heap.size);have A:∀ {W},kZ p W->b<=W.heap.size:=λh=>hb.out ▸ h.size
 refine(gwL [pE (nv y),pE (iZ n),pZ b n (pwN N y),pE (nv 2),pE (iZ n),pZ b n (pwN N 2),pE (nv z),pE (nv z),pE (nv (sTi N z z)),RG.pN b [.slice none 0 0],RG.pN b [.slice none 0 0],RG.pN b (RG.z 4)] (λW=>kZ p W) (λW W' hb h=>h.trans (hb.mono h.size))).tail3 12 (Ke [9,10,11] ⟨al1 [.slice none 0 0] 124 zS,al1 [.slice none 0 0] 124 zS,al1 (RG.z 4) 49 zS,yCn⟩) kR kR kR ⟨
  gLo 3 (λW c=>(L.2.1.below c).2.1) u40 i40,
  gO 2 (iZ n),
  eD 0 11 1 12 74 (λx y=>#[x,y]) (λx u W C G c=>by
   obtain rfl:x=nv y:=C;obtain rfl:u=iZ n:=G;exact(EK O y hy n hn W).mono λe W' ⟨v,k,h2,f,d⟩=>⟨v,k,h2,f.from (A c),d⟩),
  NP 70 #[uZ 2] (λW _=>zW 2 oM W),
  gO 2 (iZ n),
  eD 3 14 4 15 74 (λx y=>#[x,y]) (λx u W C G c=>by
   obtain rfl:x=nv 2:=C;obtain rfl:u=iZ n:=G;exact(EK O 2 h2 n hn W).mono λe W' ⟨v,k,h2,f,d⟩=>⟨v,k,h2,f.from (A c),d⟩),
  gLo 4 (λW c=>(L.2.2.below c).2.1) u40 i40,
  gLo 4 (λW c=>(L.2.2.below c).2.1) u40 i40,
  gC2 6 17 7 18 (λW=>iI O z z hz hz W),
  xP [.slice none 0 0] 124 (λW W' h c=>⟨_,rfl,A c,h⟩),
  xP [.slice none 0 0] 124 (λW W' h c=>⟨_,rfl,A c,h⟩),
  xP (RG.z 4) 49 (λW W' h c=>⟨_,rfl,A c,h⟩),yCn⟩ ⟨rfl,rfl,rfl,Uw _,λ_ _=>rfl⟩ ?_
 intro V w3 hR c hD;obtain⟨S1,g1,c1,G⟩:=hR 2 dC;obtain⟨Z,g2,c2,e5⟩:=hR 5 dC;rw[G]at S1;rw[e5]at Z;have e8:V 8=nv (sTi N z z):=hR 8 dC;obtain⟨D,e9,l8,R8⟩:=hR 9 dC;obtain⟨t,F,l9,R9⟩:=hR 10 dC;obtain⟨k,H,k2,I⟩:=hR 11 dC;have d1:=hD 9 10 dC dC dC kR kR kR kR;have d2:=hD 9 11 dC dC dC kR kR kR kR;have d3:=hD 10 11 dC dC dC kR kR kR kR;dsimp only[bU,VK,Xn,Xo];simp only[UN,Us,Uu,Uv];rw[G,e5,e8,e9,F,H];rw[e9,F]at d1;rw[e9,H]at d2;rw[F,H]at d3;have n1:D≠t:=λe=>d1 (by rw[e])
 have n2:D≠k:=λe=>d2 (by rw[e])
 have n3:t≠k:=λe=>d3 (by rw[e])
 clear d1 d2 d3 hD hR G e5 e8 e9 F H;generalize V 0=s0;generalize V 1=s1;generalize V 3=s3;generalize V 4=s4;generalize V 6=s6;generalize V 7=s7;obtain⟨q,hq⟩:=hE (sTi N z z);obtain⟨ka,Q⟩:=hE (nv q);rw[hq.out,Q.out];obtain⟨P,s⟩:=hE (sZ g1 n c1);obtain⟨Y,B⟩:=hE (sZ g2 n c2);have x1:0<n->(g1≠D/\g1≠t/\g1≠k)/\g2≠D/\g2≠t/\g2≠k:=λE=>⟨⟨wJ S1 E R8 (by simp),wJ S1 E R9 (by simp),wJ S1 E I (by simp[pwN])⟩,wJ Z E R8 (by simp),wJ Z E R9 (by simp),wJ Z E I (by simp[pwN])⟩
 obtain⟨U,f⟩:=hE (w3.setCells D 0 [P]);obtain⟨X,j⟩:=hE (U.setCells t 0 [Y]);obtain⟨S,hg⟩:=hE (X.setCells k 0 (wn q));have k5:=hb.out;have q8:Row U D [P]:=by rw[<-f.out];exact R8.put rfl
 have q9:Row U t [.slice none 0 0]:=by rw[<-f.out];exact R9.other (YD n1)
 have hk:Row U k (RG.z 4):=by rw[<-f.out];exact I.other (YD n2)
 have u8:Row X D [P]:=by rw[<-j.out];exact q8.other n1
 have u9:Row X t [Y]:=by rw[<-j.out];exact q9.put rfl
 have u10:Row X k (RG.z 4):=by rw[<-j.out];exact hk.other (YD n3)
 have HT:Hid (w3.there D 0 1/\U.there t 0 1/\X.there k 0 (wn q).toArray.size):=⟨R8.2.2,q9.2.2,u10.2.2⟩
 have HV:Hid ((P.cells=#[P]/\P.oneCell'=true)/\Y.cells=#[Y]/\Y.oneCell'=true):=by rw[<-s.out,<-B.out];exact⟨⟨rfl,rfl⟩,rfl,rfl⟩
 have a:Hid (kZ p S/\Row S D [P]/\Row S t [Y]/\Row S k (wn q)/\(0<n->SLq (b<=·) S P n (pwN N y)/\SLq (b<=·) S Y n (pwN N 2))):=by
  have B4:kZ p U:=by rw[<-f.out];exact RG.below_setCells (by omega) _ _ _ c
  have M:kZ p X:=by rw[<-j.out];exact RG.below_setCells (by omega) _ _ _ B4
  rw[<-hg.out];refine⟨RG.below_setCells (by omega) _ _ _ M,u8.other n2,u9.other n3,u10.put rfl,λE=>?_⟩;rw[<-j.out,<-f.out];obtain⟨⟨d,a2,o⟩,a4,K,T⟩:=x1 E;rw[<-s.out,<-B.out];exact⟨pO (pO (pO S1 d) a2) o,pO (pO (pO Z a4) K) T⟩
 rw[s.out,B.out];clear x1 q8 q9 hk u8 u9 u10 c S1 Z R8 R9 I n1 n2 n3 l8 l9 k2 k5;refine OB (w:=w3) 8 f HT.1 iSl HV.1.1 HV.1.2 ?_;refine OB (w:=U) 9 j HT.2.1 iSl HV.2.1 HV.2.2 ?_;refine stR (w:=X) 10 hg Q HT.2.2 i40 (aM q) ?_;go_wp2_with (first|(refine ldR 4 (L.2.2.below a.1).2.1 J u40 i40 ?_)|fail)
 have HO:=mk1 (IV O hz S);rw[J.out]at HO;refine HO.mono ?_;clear HO HT HV;rintro e w7 ⟨uu,rfl,T,rfl⟩;obtain⟨m,hm⟩:=hE (sMi N 0 z);rw[hm.out];obtain⟨vo,hj⟩:=hE (nv m);obtain⟨h5,K⟩:=hE (w7.heap.size);obtain⟨w8,hl⟩:=hE (w7.alloc (.cells (wn m).toArray 49));have hp:Hid ((Vy 124 1 #[(0,vo)]).run prog w7=.ok (sZ h5 1 1) w8):=by rw[<-hj.out,<-hl.out,<-K.out];exact SG m w7
 have F8:=aN K hl;have b68:=mk1 (T.trans (F8.1.mono T.size));rw[hj.out];have HR:=mk1 (R m h5 w8 F8.2);clear T R;go_wp2_with (first|(refine inR 22 (Vy 124 1 #[(0,vo)]) hp.out ?_)|fail)
 refine HR.mono ?_;clear HR;rintro e w9 ⟨lv,rfl,ha,h7⟩;have d:=b68.trans (ha.mono b68.size);have b9:=mk1 (L.1.trans ((a.1.trans (d.mono a.1.size)).mono L.1.size));have KZ:=mk6 ((L.2.2.below a.1).below d) (a.2.1.below d) (a.2.2.2.1.below d) (a.2.2.1.below d) (λ(E:0<n)=>V3 ((a.2.2.2.2 E).1.keep (Kq.of_below d)) ((a.2.2.2.2 E).2.keep (Kq.of_below d))) b9;have lq:q<N:=by rw[<-hq.out];exact V7 _ O.pos
 have HL:=mk1 (jB n hn 150 #[jZ k4,jZ D,jZ k,jZ t] (λ_ _=>kR) (λi=>sPl N (sTi N z (pwN N y i)) (sTi N q (pwN N 2 i))) w9 λi W hi o=>by
  obtain⟨T1,T2⟩:=KZ.2.2.2.2.1 (by omega);rw[<-s.out]at T1;rw[<-B.out]at T2;have Ra:=(KZ.1.below o)
  have Rb:=(KZ.2.1.below o)
  have Rc:=(KZ.2.2.1.below o)
  have Rd:=(KZ.2.2.2.1.below o)
  rw[<-s.out]at Rb;rw[<-B.out]at Rd;obtain⟨hw,M,hr,C,-,-,t1,f1⟩:=T1.keep (Kq.of_below o);obtain⟨hu,ht,hs,G,-,-,t2,f2⟩:=T2.keep (Kq.of_below o);rw[C]at Rb;rw[G]at Rd;exact OI O z q (pwN N y i) (pwN N 2 i) hz lq (wT O y i) (wT O 2 i) i k4 D k t hw M n hr hu ht n hs hi hi W t1 t2 Ra Rb Rc Rd (f1 i hi) (f2 i hi))
 have k7:∀(fn:Fn) (first cap:Array Ut) (w:Ur),(Yp fn first cap).run prog w=.ok (.func fn first cap) w:=λ_ _ _ _=>rfl
 have hS:=mk1 (SLq.from (UC L.1.size (UC a.1.size b68.size)) h7);clear h7 ha d lq a;go_wp2_with fail
 refine HL.mono ?_;clear HL;rintro e k6 ⟨rv,rfl,C,M⟩;have KE:=mk3 (b9.trans (C.mono b9.size)) (hS.keep (Kq.of_below C)) (SLq.from b9.size M);clear hS M C KZ;go_wp2
 go_ret2
 rw[<-hm.out,<-hq.out]at KE;exact⟨_,rfl,KE.1,_,_,rfl,KE.2.1,KE.2.2⟩
end
section
open Go.RowKit Go.Sort Go.Deep
variable {P:Nat}[NeZero P]{N:Nat}
theorem Dm{P:VD}(w:Ur)(t sT B k:U8)(b o c g:Nat)(a:Ww)(d l s n:Nat)(cs:List Ut)
 (y:P.underlying t=some (.slice k)) (u:(P.info? k).map (·.size)=some s) (x:n=XR d c) (A:cs.length=n*s)
 (f:∀j v,cs[j]? = some v->w.cell? (a.add j)=some v) (r:w.there b o cs.length) (z:∀v∈cs,v.oneCell'=true) :
 (X1 #[t,sT] B #[.slice (some ⟨b,o,none⟩) c g,.slice (some a) d l]).run P w=.ok (goInt n) (w.setCells b o cs):=by
 have e:=run_loadCells_list (P:=P) w a cs f;have p:=run_storeCells_cells (P:=P) b o cs 0 w (λj q=>by rw[XD];exact(r j q).1) (λj q=>by rw[XD];exact(r j q).2) z;rw[A]at e;cases m:P.info? k with
 | none=>simp[m]at u
 | some i =>
  have C:i.size=s:=by simpa[m]using u
  simp[X1,X0 y,Builtin.lenOf,Zj,sizeOf,typeInfo,m,C,<-x,e,p]
def cw(x i:Nat):Ut:=(wn x).getD (i%4) WR
theorem PX(x i:Nat):(cw x i).oneCell'=true:=by
 unfold cw;have:i%4=0\/i%4=1\/i%4=2\/i%4=3:=by omega
 rcases this with h|h|h|h<;>rw[h]<;>rfl
structure Rs(g m n x:Nat)(w:Ur):Prop where
 lt:g<w.heap.size
 th:w.there g 0 (4*m)
 c:∀i,i<4*n->w.cell? ⟨g,i,none⟩=some (cw x i)
theorem Rs.copy{g m n k r sl sc dc x:Nat}{w:Ur}(h:Rs g m n x w)(t:k=XR sl (m-n))(y:n<=m)(e:∀i,i<4*k->w.cell? ⟨r,i,none⟩=some (cw x i)):
 ∃w',(∀l,(X1 #[124,124] l #[.slice (some ⟨g,n*4,none⟩) (m-n) dc,sZ r sl sc]).run prog w=.ok (goInt k) w')/\Rs g m (n+k) x w'/\(∀B,B<=g->Below B w w'):=by
 have s:n+k<=m:=by have:XR sl (m-n)<=m-n:=ZZ _ _;omega
 obtain⟨cs,d⟩:∃cs,cs=(VG (4*k)).map (cw x):=⟨_,rfl⟩
 have q:cs.length=4*k:=by rw[d,List.length_map,List.length_range]
 have c:∀j,j<4*k->cs[j]? = some (cw x j):=λj b=>by rw[d,Vz,List.getElem?_range b];rfl
 have o:w.there g (n*4) cs.length:=λj b=>by
  have:=h.th (n*4+j) (by omega);rwa[UD]at this
 refine⟨w.setCells g (n*4) cs,λl=>Dm w _ _ l 49 g (n*4) (m-n) dc (aZ r) sl sc 4 k cs uS4 i40 t (by omega) (λj v b=>?_) o (λv hv=>?_),⟨by rw[setCells_size];exact h.lt,VW h.th _ _ _,λi z=>?_⟩,λB u=>RG.below_setCells u _ _ _ (UR _ _)⟩
 ·have f:j<4*k:=by have:=(UF.1 b).1;omega
  rw[c j f]at b;rw[Addr.add_mid,UD,e j f];exact b
 ·rw[d]at hv;obtain⟨i,-,rfl⟩:=Vn.1 hv;exact PX x i
 ·by_cases f:i<4*n
  ·rw[World.cell?_setCells_out g cs (n*4) w ⟨g,i,none⟩ (λ_ _=>U4 (by show i<n*4;omega))];exact h.c i f
  ·have b:i-n*4<cs.length:=by omega
   have p:=World.cell?_setCells_in g cs (n*4) w (λj b=>(o j b).1) (i-n*4) b;rw[show n*4+(i-n*4)=i by omega]at p;rw[p,<-UG b,c _ (by omega)];unfold cw;rw[show(i-n*4)%4=i%4 by omega]
theorem Pi(m:Nat)(c:m<=1000)(w:Ur):UH prog 174 #[uZ 1,uZ m] w λe w'=>e=.returned (.tuple #[uZ 0,uZ m])/\w'=w:=by
 have d:bits .and .u64 1 4294967295=1:=rfl;have a2:bits .and .u64 (m:Int) 4294967295=(m:Int):=by
  have h:=bits_and_u64_nat m 4294967295 (by omega) (by omega);rw[show(4294967295:Nat)=2^32-1 from rfl,Nat.and_two_pow_sub_one_eq_mod,US (by omega)]at h;exact h
 have a0:bits .and .u64 0 4294967295=0:=rfl;have k:(m:Int)/4294967296=0:=by omega
 have b:Vo.wrap (m:Int)=(m:Int):=by rw[XW];omega
 go_enter func174,ntmps174;go_wp2
 go_ret2
 exact⟨rfl,rfl⟩
theorem O9(m:Nat)(k:m<=1000)(w:Ur):UH prog 211 #[uZ 1,uZ m] w λe w'=>e=.returned (.tuple #[uZ 0,uZ m])/\w'=w:=by
 have h:=Pi m k w;go_enter func211,ntmps211;go_wp2_with fail
 refine h.mono ?_;rintro e w' ⟨rfl,rfl⟩;clear h;go_wp2
 go_ret2
 exact⟨rfl,rfl⟩
theorem BH{P:VD}{k:Array Vk}{o:Vk}{a:Act}{w:Ur}{Q:Yq->Act->Ur->Prop}{E:Prop}(g:o.guard=none)(d s:XI)(t b:U8)
 (ho:o.op=.call { callee:=.builtin .copy,args:=#[d,s],argTypes:=#[t,b] }) (v u:Ut) (hd:a.eval d=v) (f:a.eval s=u)
 (c:Ut) (w':Ur) (e:(X1 #[t,b] o.type #[v,u]).run P w=.ok c w') (h:K (a.put o.dst c) w'):if V4 o (yielded k a.tmps)=true then VT P o a w K Q else E:=by
 have c:V4 o (yielded k a.tmps)=true:=by simp[V4,g]
 rw[yCl c];exact Lib.wp_copy_run w d s t b ho v u hd f e h
theorem ID(x r m:Nat)(S:m<=512)(w:Ur)(hR:Row w r (wn x)):
 UH prog 148 #[.slice (some ⟨r,0,none⟩) 1 1,.int .i64 m] w (Ret λe w'=>Below w.heap.size w w'/\SLq (w.heap.size<=·) w' e m (λ_=>x)):=by
 have L:=O9 m (by omega) w;have X:¬(m:Int)<0:=by omega
 have Z:Vo.wrap (m:Int)=(m:Int):=by rw[XW];omega
 have Y:¬(9223372036854775807:Int)<(m:Int):=by omega
 obtain⟨C0,y,C⟩:=Ch uS4 iS4 m S;obtain⟨g,z⟩:=hE (w.heap.size);obtain⟨M,s⟩:=hE (w.alloc (.cells C0.toArray 49));have F:=aN z s;have a:Rs g m 0 x M:=⟨F.2.1,by have:=F.2.2.2;rwa[y]at this,λi G=>absurd G (Yo _)⟩
 have l:=hR.below F.1;have A:∀i,i<4->M.cell? ⟨r,i,none⟩=some (cw x i):=λi G=>by
  have N:i=0\/i=1\/i=2\/i=3:=by omega
  rcases N with rfl|rfl|rfl|rfl
  ·exact l.2.1 0 _ rfl
  ·exact l.2.1 1 _ rfl
  ·exact l.2.1 2 _ rfl
  ·exact l.2.1 3 _ rfl
 obtain⟨E,d,c,f⟩:=a.copy (k:=XR 1 m) (r:=r) (sl:=1) (sc:=1) (dc:=m) (by rw[YV]) (WA _) (λi G=>A i (by have:XR 1 m<=1:=Z9 _ _;omega));rw[YV,Nat.zero_mul]at d;rw[UD]at c;have O:Hid (Below w.heap.size w E/\Rs g m (XR 1 m) x E):=⟨F.1.trans (f _ (YQ z.out)),c⟩
 have K:XR 1 m<=m:=ZZ _ _;have J:0<m->0<XR 1 m:=λh=>by show 0<min 1 m;omega
 have b:=d 3;have p:=C w;rw[s.out,z.out]at p;generalize XR 1 m=U at *;unfold goInt at b;clear a l hR A f c d F C y s;go_enter func148,ntmps148;go_wp2_with fail
 refine L.mono ?_;rintro e w' ⟨rfl,rfl⟩;clear L;go_wp2_with (at_builtin;refine Lib.wpList_copy_run _ rfl _ _ 124 124 rfl _ _ rfl rfl b ?_)
 clear b p;go_loopg [8] m (λgk s8 wr=>∃n:Nat,n<=m/\(0<m->0<n)/\m<=n+gk/\s8=.int .i64 n/\Hid (Below w'.heap.size w' wr/\Rs g m n x wr))
 case atStart=>exact⟨U,K,J,by omega,rfl,O⟩
 case round =>
  clear O;obtain⟨n,B,W,P,rfl,o⟩:=hrel;by_cases H:n<m
  ·have D:(n:Int)<(m:Int):=by omega
   have Q:0<XR n (m-n):=by show 0<min n (m-n);omega
   have I:n+XR n (m-n)<=m:=by show n+min n (m-n)<=m;omega
   have T:XR n (m-n)<=n:=Z9 _ _;have q:Rs g m n x wr.drew:=⟨o.2.lt,o.2.th,o.2.c⟩
   obtain⟨E,d,c,f⟩:=q.copy (k:=XR n (m-n)) (r:=g) (sl:=n) (sc:=m) (dc:=m-n) rfl B (λi G=>q.c i (by omega));have b:=d 3;have V:=Di g 0 m m n B;have u:=Dh g 0 m m n H (Uw _);rw[UD]at u;have R:Hid (Below w'.heap.size w' E/\Rs g m (n+XR n (m-n)) x E):=⟨o.out.1.drew.trans (f _ (YQ z.out)),c⟩
   generalize XR n (m-n)=k at *;unfold goInt at b;clear d c f q o;go_wp2_with fail
   go_region_law (refine BH rfl (.tmp 41) (.tmp 44) 124 124 rfl (.slice (some ⟨g,n*4,none⟩) (m-n) (m-n)) (.slice (some ⟨g,0,none⟩) n m) (by simp[yAE,UN]) (by simp[yAE,UN]) _ _ b ?_)
   go_wp2;go_roundg (gk-1)
   case measure=>omega
   case rel=>exact⟨n+k,I,λ_=>by omega,by omega,congrArg (Value.int VS) (show VS.wrap ((n:Int)+(k:Int))=((n+k:Nat):Int) by rw[Yl];omega),R⟩
  ·have D:¬(n:Int)<(m:Int):=by omega
   obtain rfl:n=m:=by omega
   have u:Hid (Below w'.heap.size w' wr/\SLq (w'.heap.size<=·) wr (.slice (some ⟨g,0,none⟩) n n) n (λ_=>x)):=⟨o.1,g,0,n,rfl,Uw _,YQ z.out,o.2.lt,λj I t v q=>by
    have N:t<4:=(UF.1 q).1;rw[UD,o.2.c (4*j+t) (by omega)];unfold cw;rw[show(4*j+t)%4=t by omega,List.getD_eq_getElem?_getD,q];rfl⟩
   clear o;go_wp2;go_ret;exact⟨_,rfl,u.out⟩
theorem EE(O:Ord N)(c:2<N)(y z:Nat)(b:y<N)(d:z<N)(n:Nat)(k:n<=512)(w:Ur):
 UH prog 71 #[nv y,nv z,iZ n] w (rZ w λe w'=>∃l r,e=.tuple #[l,r]/\SLq (w.heap.size<=·) w' l n (λ_=>sMi N 0 z)/\SLq (w.heap.size<=·) w' r n (λi=>sPl N (sTi N z (pwN N y i)) (sTi N (sTi N z z) (pwN N 2 i)))):=
 QO O c y z b d n k w λx g W hR=>ID x g n k W hR
def oQ(N y:Nat)(H:Nat->List (Nat × Bs))(i:Nat):List (Nat × Bs):=(H i).map (tmT N (pwN N (sIn N y) i))
theorem H8(O:Ord N){Q:Nat->Prop}(n:Nat)(k0:0<n)(hn:n<=64)(G H:Nat->List (Nat × Bs))(U:List (Nat × Bs))(hH:∀i,i<n->TOk N (H i)/\(H i).length<=512)(hU:TOk N U)(k9:U.length<=512)(y z:Nat)(hy:y<N)(hz:z<N)(v:Ut)(w:Ur)(hQ:∀g,w.heap.size<=g->Q g)(h0:GRq Q w v n G H U):
 UH prog 84 #[v,nv y,nv z] w (rZ w λe w'=>GRq Q w' e n G (oQ N y H) (U.map (tmT N z))):=by
 obtain⟨vg,vh,vu,rfl,h3,h4,h5⟩:=h0.ex;obtain⟨I,L,K,eg⟩:∃g o c,vg=.slice (some ⟨g,o,none⟩) n c:=by obtain⟨g,o,c,h,-⟩:=h3;exact⟨g,o,c,h⟩
 subst eg;have ka:vu.oneCell'=true:=h5.one.2;obtain⟨C,J,ch,rfl,kb,kc,hp,ha⟩:=h4;obtain⟨D,A⟩:=hE (sIn N y);have hw:D<N:=by rw[<-A.out];exact V7 _ O.pos
 have HI:=mk1 (λW=>uS O y hy W);rw[A.out]at HI;obtain⟨vy,hq⟩:=hE (nv y);obtain⟨vz,B⟩:=hE (nv z);obtain⟨k,hk⟩:=hE (w.heap.size);obtain⟨w1,he⟩:=hE (w.alloc (.cells [.slice (some ⟨I,L,none⟩) n K,.slice (some ⟨C,J,none⟩) n ch,vu].toArray 133));obtain⟨k4,hj⟩:=hE (w1.heap.size);obtain⟨w2,hm⟩:=hE (w1.alloc (.cells (wn y).toArray 49));obtain⟨k5,h9⟩:=hE (w2.heap.size);obtain⟨w3,hu⟩:=hE (w2.alloc (.cells (wn z).toArray 49));obtain⟨k6,R⟩:=hE (w3.heap.size);obtain⟨l,h8⟩:=hE (w3.alloc (.cells [.slice none 0 0,.slice none 0 0,.slice none 0 0].toArray 133));have f:=Nc hk he hj hm h9 hu;have g6:=aN R h8;have F:=mk5 (f.1.trans (g6.1.mono f.1.size)) (f.2.1.below g6.1) (f.2.2.1.below g6.1) (f.2.2.2.below g6.1) g6.2;have X:w.heap.size<=k6:=by rw[<-R.out];exact f.1.size
 obtain⟨v0,hs⟩:=hE (U3 #[.slice (some ⟨I,L,none⟩) n K,.slice (some ⟨C,J,none⟩) n ch,vu]);have B0:Hid ((Ve 133 v0).run prog w=.ok (jZ k) w1):=by rw[<-hs.out,<-he.out,<-hk.out];exact CL _ _ _ _
 have B1:Hid ((Ve 49 vy).run prog w1=.ok (jZ k4) w2):=by rw[<-hq.out,<-hm.out,<-hj.out];exact boxS y w1
 have B2:Hid ((Ve 49 vz).run prog w2=.ok (jZ k5) w3):=by rw[<-B.out,<-hu.out,<-h9.out];exact boxS z w2
 rw[hq.out,B.out,hs.out];have HT:=mk2 hH (λ(W:Ur) (d:Below w.heap.size w W)=>eG O hz 0 vu U k9 hU.szm hU.lt W (h5.sm.grow d));rw[B.out]at HT;have T:=mk2 ha hp;have HK:=mk3 h3 hQ A;clear f g6 ha hp hH hU h0 h3 h5;go_enter func84,ntmps84;go_wp2_with (first|(refine aF (u:=v0) (v:=jZ k) (w':=w1) rfl _ (.tmp 0) rfl ?_ ?_ ?_;rfl;exact B0.out)|(refine aF (u:=vy) (v:=jZ k4) (w':=w2) rfl _ (.tmp 1) rfl ?_ ?_ ?_;rfl;exact B1.out)|(refine aF (u:=vz) (v:=jZ k5) (w':=w3) rfl _ (.tmp 2) rfl ?_ ?_ ?_;rfl;exact B2.out)|(refine alR 6 R h8 ?_)|fail)
 obtain⟨b,d⟩:=hE (l.heap.size);have hl:∀ {W},Below l.heap.size l W->b<=W.heap.size:=λh=>d.out ▸ h.size
 refine(gwL [pE (nv y),pE (nv D),pE (.pointer (some ⟨k,1,none⟩)),pE (.slice (some ⟨C,J,none⟩) n ch),pE (iZ n),pZ b n (pwN N D),RG.pN b [.slice none 0 0]] (λW=>Below l.heap.size l W) (λW W' d h=>h.trans (d.mono h.size))).tail2 7 kR kR kR ⟨
  gLo 4 (λW s=>(F.2.2.1.below s).2.1) u40 i40,
  oW 0 9 159 (λx=>#[x]) (λx W j s=>by
   obtain rfl:x=nv y:=j;exact HI W),
  gP 3 (jZ k) (.pointer (some ⟨k,1,none⟩)),
  fF 129 2 11 k 1 (.slice (some ⟨C,J,none⟩) n ch) uGL (λx W h=>h) (λW s=>(F.2.1.below s).2.1 1 _ rfl) (λ_=>rfl),
  rF 3 12 (.slice (some ⟨C,J,none⟩) n ch) (iZ n) (λx W h=>h) (λ_=>rfl),
  eD 1 10 4 13 74 (λx y=>#[x,y]) (λx u W j r s=>by
   obtain rfl:x=nv D:=j;obtain rfl:u=iZ n:=r;exact(EK O D hw n (by omega) W).mono λe W' ⟨v,t,E,h3,h4⟩=>⟨v,t,E,h3.from (hl s),h4⟩),
  xP [.slice none 0 0] 124 (λW W' h s=>⟨_,rfl,hl s,h⟩),yCn⟩ ⟨rfl,rfl,rfl,Uw _,λ_ _=>rfl⟩ ?_
 intro V w5 hR s;obtain⟨S1,g1,c1,e5⟩:=hR 5 dC;rw[e5]at S1;obtain⟨k7,e6,l7,R7⟩:=hR 6 dC;dsimp only[bU,VK,Xn,Xo];simp only[UN,Us,Uu,Uv];rw[e5,e6];clear hR e5 e6;generalize V 0=s0;generalize V 1=s1;generalize V 2=s2;generalize V 3=s3;generalize V 4=s4;have n7:g1≠k7:=wJ S1 k0 R7 (by simp);obtain⟨l1,P⟩:=hE (Vw (some (aZ g1)) n c1);obtain⟨w6,hr⟩:=hE (w5.setCells k7 0 [l1]);have E:Hid (Below l.heap.size l w6/\Row w6 k7 [l1]/\SLq (b<=·) w6 l1 n (pwN N D)):=by
  rw[<-hr.out,<-P.out];exact⟨RG.below_setCells (by rw[d.out];exact l7) _ _ _ s,R7.put rfl,pO S1 n7⟩
 have Y:=mk2 R7.2.2 (show l1.cells=#[l1]/\l1.oneCell'=true by rw[<-P.out];exact⟨rfl,rfl⟩);rw[P.out];clear S1 R7 n7 s l7;refine OB (w:=w5) 7 hr Y.1 iSl Y.2.1 Y.2.2 ?_;have ke:w6.cell? ⟨k,1,none⟩=some (.slice (some ⟨C,J,none⟩) n ch):=(F.2.1.below E.1).2.1 1 _ rfl;have kd:∀(fn:Fn) (first cap:Array Ut) (w:Ur),(Yp fn first cap).run prog w=.ok (.func fn first cap) w:=λ_ _ _ _=>rfl
 have S:=F.1.trans (E.1.mono F.1.size);have HL:=mk1 (Aa n (by omega) 163 #[jZ k,jZ k7] (λ_ _=>kR) (oQ N y H) w6 λi W hi t=>by
  have bb:=S.trans (t.mono S.size);obtain⟨x,k3,M⟩:=T.1 i hi;have T1:=E.2.2.keep (Kq.of_below t);have Rb:=E.2.1.below t;obtain⟨k8,r,Z,j,-,-,t1,f1⟩:=T1;rw[j]at Rb;have hT:=Ow O (H i) (HT.1 i hi).1 (HT.1 i hi).2 (pwN N D i) (wT O D i) i k k7 C J n ch k8 r n Z _ vu x hi hi W (Ux T.2 bb.size) t1 ((F.2.1.below E.1).below t) Rb (by rw[Nat.one_mul,bb.cell (p:=⟨C,J+i,none⟩) T.2];exact k3) (M.sm.grow bb) (f1 i hi);rw[<-A.out]at hT;exact hT)
 clear S;go_wp2_with fail
 refine HL.mono ?_;clear HL;rintro e w7 ⟨vn,rfl,hc,Z⟩;have h7:=E.1.trans (hc.mono E.1.size);obtain⟨gn,on,cn,en⟩:∃g o c,vn=.slice (some ⟨g,o,none⟩) n c:=by obtain⟨g,o,c,h,-⟩:=Z;exact⟨g,o,c,h⟩
 subst en;have M:=mk3 h7 (Z.mono (Q':=(l.heap.size<=·)) λg hg=>UC E.1.size hg) X;clear hc Z h7;go_wp2_with fail
 refine AW.begin 8 8 ?_;refine AW.va 0 (jZ k) ?_;refine AW.ce 1 uGL (λW d=>((F.2.1.below M.1).below d).2.1 0 _ rfl) ?_;refine AW.mv 2 ?_;refine AW.va 3 (.pointer (some ⟨k,2,none⟩)) ?_;refine AW.ce 4 AB (λW d=>((F.2.1.below M.1).below d).2.1 2 _ rfl) ?_;refine AW.ro 5 (λW d=>((F.2.2.2.1.below M.1).below d).2.1) B u40 i40 ?_;have j:=mk1 (F.1.trans (M.1.mono F.1.size));refine AW.ca 6 (λd=>HT.2 _ (j.trans (d.mono j.size))) (λe w' h=>h.1) ?_;rintro e w8 ⟨kf,h6⟩;simp only[UN,Us,Uu,Uv];obtain⟨ge,me,ce,ee⟩:∃g m c,e=.slice (some (aZ g)) m c:=by obtain⟨g,c,h,-⟩:=h6;exact⟨g,_,c,h⟩
 subst ee;refine AW.nx 7 (.agg #[.slice (some ⟨I,L,none⟩) n K,.slice (some ⟨gn,on,none⟩) n cn,.slice (some (aZ ge)) me ce]) ?_;refine AW.fi (us:=[.slice (some ⟨I,L,none⟩) n K,.slice (some ⟨gn,on,none⟩) n cn,.slice (some (aZ ge)) me ce]) (Hid.mk' rfl) kR iGr (λd=>?_);obtain⟨w9,r⟩:=hE (w8.setCells k6 0 [.slice (some ⟨I,L,none⟩) n K,.slice (some ⟨gn,on,none⟩) n cn,.slice (some (aZ ge)) me ce]);have KE:Hid (w8.there k6 0 3/\Row w9 k6 [.slice (some ⟨I,L,none⟩) n K,.slice (some ⟨gn,on,none⟩) n cn,.slice (some (aZ ge)) me ce]/\Below w.heap.size w w9/\GRq Q w9 (.agg #[.slice (some ⟨I,L,none⟩) n K,.slice (some ⟨gn,on,none⟩) n cn,.slice (some (aZ ge)) me ce]) n G (oQ N y H) (U.map (tmT N z))):=by
  have k2:=M.1.trans (d.mono M.1.size);have r6:=F.2.2.2.2.below k2;have l6:k6<l.heap.size:=F.2.2.2.2.1;have kq:Kq (l.heap.size<=·) w8 w9:=by rw[<-r.out];exact Kq.set λg hg=>by omega
  have k1:Kq Q w w9:=by
   have ht:Below w.heap.size w (w8.setCells k6 0 [.slice (some ⟨I,L,none⟩) n K,.slice (some ⟨gn,on,none⟩) n cn,.slice (some (aZ ge)) me ce]):=RG.below_setCells X _ _ _ (j.trans (d.mono j.size));rw[r.out]at ht;exact Kq.of_below ht
  rw[<-r.out];refine⟨r6.2.2,r6.put rfl,RG.below_setCells X _ _ _ (j.trans (d.mono j.size)),?_⟩;rw[r.out];have q:∀g,l.heap.size<=g->Q g:=λg hg=>HK.2.1 g (UC F.1.size hg)
  exact⟨_,_,_,rfl,HK.1.keep k1,((M.2.1.keep (Kq.of_below d)).keep kq).mono q,((h6.q.mono λg hg=>UC M.1.size hg).keep kq).mono q⟩
 rw[r.out];refine⟨KE.1,?_⟩;go_wp2_with fail
 refine UE (aG 6 133 rfl KE.2.1 rfl uGr iGr) rfl ?_;exact⟨_,rfl,KE.2.2.1,KE.2.2.2⟩
end
section
open Go.RowKit Go.Sort Go.Deep
variable {N:Nat}
section
variable {P:VD}{ops:Array Vk}{Q:Yq->Act->Ur->Prop}{p r:Nat}{I:Iv}{fuel:Nat}{o:Vk}{listed:Array Bool}{a:Act}{w:Ur}{d:Option WF}
theorem AW.fc(c:I.p w->UH P f args w (Ret R))(h:∀e w',I.p w->R e w'->Q .normal (a.put d e) w')(ho:ops[p]? = some o:=by(simp only[Vg,U9,Vf])<;>rfl)(hd:o.dst=d:=by rfl)(g:o.guard=none:=by rfl)(hx:(U5 a.eval o).run P w=.ok (.enter f args) w:=by kernel_rfl)(k:(U7 .any ops listed,U7 .any ops (listed.setIfInBounds p true),I.b,(listed.setIfInBounds p true).getD p false,(listed.setIfInBounds p true).getD r false)=([p],[],true,true,true):=by kernel_rfl):AW P ops Q p r I (fuel+1) listed a w:=λb=>by
 simp only[V8.injEq]at k;exact anyS.cal ho (c b) (λe w' hR=>⟨U4 k.2.2,anyS.done k.2.1 (h e w' b hR) _⟩) k.1 g hx hd
end
theorem rnF{W:Ur}{k o:Nat}(h:W.rangeAt k o (xs++ys)):W.rangeAt k o xs:=λj v b=>h j v (by rw[UT (UF.1 b).1];exact b)
theorem rnB{W:Ur}{k o m:Nat}(h:W.rangeAt k o (xs++ys))(c:o+xs.length=m):W.rangeAt k m ys:=λj v b=>by
 have:=h (xs.length+j) v (by rw[U1 (by omega),Nat.add_sub_cancel_left];exact b);rw[<-WT,c]at this;exact this
theorem rnC{W:Ur}{k o m:Nat}(c:W.rangeAt k o xs)(e:W.rangeAt k m ys)(d:o+xs.length=m):W.rangeAt k o (xs++ys):=λj v b=>by
 by_cases h:j<xs.length
 ·exact c j v (by rwa[UT h]at b)
 ·rw[U1 (by omega)]at b;have:=e (j-xs.length) v b;rwa[<-d,WT,Nat.add_sub_cancel' (by omega)]at this
theorem Row.mid{W:Ur}{k m:Nat}{zs l l':List Ut}(h:Row W k l)(e:l=xs++(ys++zs))(e':l'=xs++(us++zs))(f:us.length=ys.length)(g:xs.length=m):W.there k m us.length/\Row (W.setCells k m us) k l':=by
 subst e e' g;obtain⟨i,c,d⟩:=h;have b:W.there k xs.length us.length:=λj n=>by
  have:=d (xs.length+j) (by simp only[UA];omega);rwa[UD]at this
 have z:=UD xs.length;refine⟨b,by rw[setCells_size];exact i,rnC (Vh (rnF c) k _ us (UX (U4 (by omega)))) (rnC (VO W k _ us b) (Vh (rnB (rnB c z) rfl) k _ us (UX (UX (by omega)))) (by rw[f])) z,?_⟩;have:=VW d k xs.length us;simp only[UA,f]at this⊢;exact this
structure Rp where
 a:Bs
 s:Bs
 c:Bs
 d:Bs
 u:Nat
 m:Nat
 t:Nat
namespace Rp
def l(p:Rp):List Ut:=aA p.a++(aA p.s++(aA p.c++(aA p.d++(wn p.u++(wn p.m++wn p.t)))))
structure Ok(p:Rp):Prop where
 a:p.a.size=33
 s:p.s.size=33
 c:p.c.size=33
 d:p.d.size=33
variable {p:Rp}{W:Ur}{k:Nat}
theorem len(h:p.Ok):p.l.length=144:=by
 unfold l;simp only[UA,aB h.a,aB h.s,aB h.c,aB h.d];rfl
theorem one(p:Rp):p.l.toArray.all (·.oneCell')=true:=by
 unfold l;have h:∀b:Bs,(aA b).all (·.oneCell')=true:=λb=>by have:=bW b;rwa[Yc]at this
 have k:∀n,(wn n).all (·.oneCell')=true:=λn=>by have:=aM n;rwa[Yc]at this
 rw[Yc];simp only[List.all_append,h,k,Bool.and_true]
theorem at7(h:p.Ok)(d:W.rangeAt k 0 p.l):W.rangeAt k 0 (aA p.a)/\W.rangeAt k 33 (aA p.s)/\W.rangeAt k 66 (aA p.c)/\W.rangeAt k 99 (aA p.d)/\W.rangeAt k 132 (wn p.u)/\W.rangeAt k 136 (wn p.m)/\W.rangeAt k 140 (wn p.t):=by
 have b:=rnB (m:=33) d (by rw[aB h.a]);have e:=rnB (m:=66) b (by rw[aB h.s]);have c:=rnB (m:=99) e (by rw[aB h.c]);have f:=rnB (m:=132) c (by rw[aB h.d]);have g:=rnB (m:=136) f rfl;have i:=rnB (m:=140) g rfl;exact⟨rnF d,rnF b,rnF e,rnF c,rnF f,rnF g,i⟩
theorem Tx(h:p.Ok)(c:Row W k p.l){x:Bs}(hx:x.size=33):W.there k 0 (aA x).length/\Row (W.setCells k 0 (aA x)) k { p with a:=x }.l/\{ p with a:=x }.Ok:=by
 obtain⟨b,d⟩:=Row.mid (xs:=[]) (us:=aA x) (l':={ p with a:=x }.l) c rfl rfl (by rw[aB hx,aB h.a]) rfl;exact⟨b,d,hx,h.s,h.c,h.d⟩
theorem sets(h:p.Ok)(c:Row W k p.l){x:Bs}(hx:x.size=33):W.there k 33 (aA x).length/\Row (W.setCells k 33 (aA x)) k { p with s:=x }.l/\{ p with s:=x }.Ok:=by
 obtain⟨b,d⟩:=Row.mid (xs:=aA p.a) (us:=aA x) (l':={ p with s:=x }.l) c rfl rfl (by rw[aB hx,aB h.s]) (aB h.a);exact⟨b,d,h.a,hx,h.c,h.d⟩
theorem Tw(h:p.Ok)(d:Row W k p.l){x:Bs}(hx:x.size=33):W.there k 66 (aA x).length/\Row (W.setCells k 66 (aA x)) k { p with c:=x }.l/\{ p with c:=x }.Ok:=by
 obtain⟨b,e⟩:=Row.mid (m:=66) (xs:=aA p.a++aA p.s) (ys:=aA p.c) (zs:=aA p.d++(wn p.u++(wn p.m++wn p.t))) (us:=aA x) (l':={ p with c:=x }.l) d (by unfold l;simp only[Vx]) (by unfold l;simp only[Vx]) (by rw[aB hx,aB h.c]) (by rw[UA,aB h.a,aB h.s]);exact⟨b,e,h.a,h.s,hx,h.d⟩
theorem Tv(h:p.Ok)(c:Row W k p.l){x:Bs}(hx:x.size=33):W.there k 99 (aA x).length/\Row (W.setCells k 99 (aA x)) k { p with d:=x }.l/\{ p with d:=x }.Ok:=by
 obtain⟨b,e⟩:=Row.mid (m:=99) (xs:=aA p.a++(aA p.s++aA p.c)) (ys:=aA p.d) (zs:=wn p.u++(wn p.m++wn p.t)) (us:=aA x) (l':={ p with d:=x }.l) c (by unfold l;simp only[Vx]) (by unfold l;simp only[Vx]) (by rw[aB hx,aB h.d]) (by simp only[UA,aB h.a,aB h.s,aB h.c]);exact⟨b,e,h.a,h.s,h.c,hx⟩
theorem Ts(h:p.Ok)(c:Row W k p.l)(x:Nat):W.there k 132 (wn x).length/\Row (W.setCells k 132 (wn x)) k { p with u:=x }.l/\{ p with u:=x }.Ok:=by
 obtain⟨b,d⟩:=Row.mid (m:=132) (xs:=aA p.a++(aA p.s++(aA p.c++aA p.d))) (ys:=wn p.u) (zs:=wn p.m++wn p.t) (us:=wn x) (l':={ p with u:=x }.l) c (by unfold l;simp only[Vx]) (by unfold l;simp only[Vx]) rfl (by simp only[UA,aB h.a,aB h.s,aB h.c,aB h.d]);exact⟨b,d,h.a,h.s,h.c,h.d⟩
theorem Tu(h:p.Ok)(c:Row W k p.l)(x:Nat):W.there k 136 (wn x).length/\Row (W.setCells k 136 (wn x)) k { p with m:=x }.l/\{ p with m:=x }.Ok:=by
 obtain⟨b,d⟩:=Row.mid (m:=136) (xs:=aA p.a++(aA p.s++(aA p.c++(aA p.d++wn p.u)))) (ys:=wn p.m) (zs:=wn p.t) (us:=wn x) (l':={ p with m:=x }.l) c (by unfold l;simp only[Vx]) (by unfold l;simp only[Vx]) rfl (by simp only[UA,aB h.a,aB h.s,aB h.c,aB h.d];rfl);exact⟨b,d,h.a,h.s,h.c,h.d⟩
theorem Tt(h:p.Ok)(c:Row W k p.l)(x:Nat):W.there k 140 (wn x).length/\Row (W.setCells k 140 (wn x)) k { p with t:=x }.l/\{ p with t:=x }.Ok:=by
 obtain⟨b,d⟩:=Row.mid (m:=140) (xs:=aA p.a++(aA p.s++(aA p.c++(aA p.d++(wn p.u++wn p.m))))) (ys:=wn p.t) (zs:=[]) (us:=wn x) (l':={ p with t:=x }.l) c (by unfold l;simp only[Vx,Xw]) (by unfold l;simp only[Vx,Xw]) rfl (by simp only[UA,aB h.a,aB h.s,aB h.c,aB h.d];rfl);exact⟨b,d,h.a,h.s,h.c,h.d⟩
end Rp
theorem uRd:(prog.underlying 137).map (·.isRow)=some true:=kR
theorem iRd:(prog.info? 137).map (·.size)=some 144:=kR
theorem J3{p:Rp}(h:p.Ok)(w:Ur):(Ve 137 (.agg p.l.toArray)).run prog w=.ok (jZ w.heap.size) (w.alloc (.cells p.l.toArray 137)):=by
 unfold Rp.l;rw[dF h.a,dF h.s,dF h.c,dF h.d];kernel_rfl
end
end Go.Proofs.YtdoammpgchejcaaGreat
