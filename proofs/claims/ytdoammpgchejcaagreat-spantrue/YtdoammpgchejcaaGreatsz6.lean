import Derived.Lib.AppendZeros
import Derived.Deep.MidRow
import Derived.BigQuiet
import Derived.Lib.ConvBytes
import Derived.BigRegion
import Derived.Deep.RegionLaw
import Derived.Laws.OwnMore
import Derived.ArgAppend
import Derived.Laws.IdiomCopy
import Derived.Lib.SlBuf
import Derived.Test.YtdoammpgchejcaaGreatsz5
set_option linter.unusedVariables false
set_option linter.constructorNameAsVariable false
set_option linter.unusedSimpArgs false
set_option maxRecDepth 1000000
set_option maxHeartbeats 4000000
namespace Go.Proofs.YtdoammpgchejcaaGreat
open EC NT RG SP
open _root_.And renaming intro->V1
open _root_.Array renaming eq_empty_of_size_eq_zero->ZG,getD->yBQ,getElem?_eq_getElem->U0,getElem?_eq_none->WN,getElem?_push_size->WU,getElem?_setIfInBounds->WB,length_toList->UK,replicate->UJ,setIfInBounds->X5,size->V3
open _root_.Bool renaming and_eq_true->UL,noConfusion->Yx,or_eq_true->Xv
open _root_.Go renaming Addr->Wu,Calls->UH,Exit->Yo,FuncId->Xq,Oper->Vk,Operand->XG,Program->VD,Tmp->WC,TypeId->U8,Value->Ut,World->Ur,bodyPost_ret->UE,execOp->U5,getD_set_ne->XQ,run_append_own->Y1,run_append_room_src->Y6,run_storeVar_mid->ZA,run_underlying->XY,undef->WP,wpList_load_mid->U6,wpList_plain->Xg,wpList_store_mid->U2,wpOp_mono->Zz
open _root_.Go.Act renaming eval->yAC,put->UN
open _root_.Go.Builtin renaming append_->Vt,copy_->XZ,firstCells->Zh,nextslicecap->Ys
open _root_.Go.Code renaming region->V4
open _root_.Go.Instr renaming box->Ve,buildSlice->Vy,indexAt->Vl,makeFunc->Yn,storeAt->Yw,sureAddr->X4
open _root_.Go.IntKind renaming i64->VS,u64->Vo,wrap_i64->Yj,wrap_u64->XU
open _root_.Go.Lib renaming wpList_append_run->WI
open _root_.Go.Next renaming value->Xp
open _root_.Go.Oper renaming wp->VT
open _root_.Go.Operand renaming tmp->yBg
open _root_.Go.Region renaming binds->VP,free->YL,noSelect->XL,ready->U7,wanted->V2
open _root_.Go.Result renaming andThen_ok->Vm
open _root_.Go.RowKit.Below renaming refl->UR
open _root_.Go.Sem renaming run_bind->UV,run_pure->Wr
open _root_.Go.Src renaming ofSlice->yAB
open _root_.Go.Value renaming agg->U3,func->Z0,oneCell'->yBf,ownBlock->V9,slice->Vw
open _root_.Go.World renaming cell?->VY,cell?_drew->YY,cell?_of_block->UW,frozen?->WW,frozen?_of_block->VU,rangeAt->YS,rangeAt_setCells_apart->Vh,rangeAt_setCells_same->VO,size_alloc->UB,size_drew->yA6,there_setCells->VW
open _root_.List renaming all_toArray->Ya,append_assoc->Vx,append_nil->Xu,drop->Xm,eq_nil_of_length_eq_zero->ZN,getElem?_append_left->UT,getElem?_append_right->U1,getElem?_cons_succ->U9,getElem?_cons_zero->Vf,getElem?_eq_getElem->UG,getElem?_eq_none->Wx,getElem?_eq_some_iff->UF,getElem?_map->Vz,getElem?_toArray->Vg,length_append->UA,length_cons->Vj,length_nil->WG,length_set->yBc,map_append->We,mem_append->Wz,mem_cons->VX,mem_map->Vn,mem_singleton->WM,nodup_append->YW,nodup_cons->XT,nodup_nil->yBr,not_mem_nil->UY,range->VG,setIfInBounds_toArray->Us,set_cons_succ->Uu,set_cons_zero->Uv,size_toArray->VC,take->Xl
open _root_.Nat renaming add_assoc->WR,add_mul->XF,add_zero->XB,le_of_eq->YO,le_of_lt->XK,le_refl->Uw,le_trans->UC,lt_of_lt_of_le->Ux,lt_of_sub_eq_succ->Yt,min->XP,min_le_left->Z7,min_le_right->ZX,mod_eq_of_lt->US,mod_lt->V5,mul_comm->Vv,mul_le_mul->WQ,mul_le_mul_right->Xs,not_lt_zero->Ym,pow_pos->XI,pow_succ->V7,reduceAdd->VK,sub_zero->YT,succ_lt_succ->yA9,zero_add->UD,zero_le->Wy,zero_lt_succ->Y0
open _root_.Ne renaming symm->YB
open _root_.Option renaming isSome_iff_exists->Vr,map_eq_some_iff->Uy,some->UO
open _root_.Or renaming inl->U4,inr->UX
open _root_.Prod renaming mk->V6
open Go.Proofs.Tryz
open Go.RowKit Go.Sort Go.Deep
section
theorem Hid.mkP{p:Prop}(h:p):Hid p:=h
section
variable {P:VD}{ops:Array Vk}{rest:List Vk}{op:Vk}{a:Act}{w w':Ur}{v:Ut}{Q:Yo->Act->Ur->Prop}
theorem aY(k:op.guard=none)(X:Op)(_:op.op=X)(c:(U5 a.eval op).run P w=.ok (.value v) w')(h:wpList P ops Q rest (a.put op.dst v) w'):wpList P ops Q (op :: rest) a w:=
 Xg k λK b=>by
  unfold VT;rw[c];exact b _ _ h
end
theorem aO(w:Ur)(o:Obj):kZ w (w.alloc o):=(UR _ _).alloc (Uw _) _
theorem cZ(w:Ur)(cs:Array Ut)(T:U8)(j:Nat)(v:Ut)(h:cs[j]? = some v):(w.alloc (.cells cs T)).cell? ⟨w.heap.size,j,none⟩=some v:=by
 unfold World.alloc VY;simp[h]
theorem MJ(w:Ur):GLs w (w.alloc (.cells #[] 23)) (sZ w.heap.size 0 0) []:=
 ⟨aO w _,⟨rfl,.inr ⟨w.heap.size,0,#[],rfl,Uw _,WU,Uw _,Wy _,rfl,rfl⟩⟩,by simp[V9]⟩
theorem Hw(w:Ur)(ys:List Ut)(T:U8)(k:∀u∈ys,u.oneCell'=true):VL (w.alloc (.cells ys.toArray T)) (some (aZ w.heap.size)) ys.length ys:=
 ⟨rfl,λh=>by(cases h),UX ⟨w.heap.size,0,rfl,by rw[UB];omega,λj u b=>by rw[UD];exact cZ w _ T j u (by simpa using b)⟩,k⟩
theorem AX{B a qA qB:Option Wu}{x c1 y c2 nA cA nB cB:Nat}{k f:List Ut}(w:Ur)(D:VL w B x k)(hR:VL w a y f)(X:x<=1000)(h2:y<=1000):
 UH prog 46 #[.agg #[.slice B x c1,.slice a y c2,.slice qA nA cA,.slice qB nB cB]] w λe w'=>∃v,e=.returned v/\GLs w w' v (k++f++[.slice qA nA cA,.slice qB nB cB]):=by
 obtain⟨l,n⟩:=hE (w.alloc (.cells #[.slice B x c1,.slice a y c2,.slice qA nA cA,.slice qB nB cB] 26));obtain⟨A,r⟩:=hE (l.alloc (.cells #[] 23));have R:l.heap.size=w.heap.size+1:=by rw[<-n.out,UB]
 have b1:kZ w l:=by rw[<-n.out];exact aO _ _
 have C:GLs l A (sZ l.heap.size 0 0) []:=by rw[<-r.out];exact MJ l
 have l1:=D.len;have V:=hR.len;obtain⟨v3,J,i,t⟩:=C.app (c:=c1) ((D.below b1).below (by rw[<-r.out];exact aO _ _)) (by rw[WG];omega);rw[List.nil_append]at t;obtain⟨Z,o,d,z⟩:=t.app (c:=c2) ((hR.below b1).below t.bl) oM;obtain⟨F,s⟩:=hE (o.alloc (.cells #[.slice qA nA cA,.slice qB nB cB] 23));have H:kZ o F:=by rw[<-s.out];exact aO _ _
 obtain⟨v6,K,b,u⟩:=(z.below H).app (c:=2) (q:=some (aZ o.heap.size)) (m:=2) (ys:=[.slice qA nA cA,.slice qB nB cB]) (by
  rw[<-s.out];exact Hw o [.slice qA nA cA,.slice qB nB cB] 23 (by simp[yBf])) (by rw[UA];omega)
 have cell:∀(W:Ur) (j:Nat) v,kZ l W->(#[.slice B x c1,.slice a y c2,.slice qA nA cA,.slice qB nB cB]:Array Ut)[j]? = some v->W.cell? ⟨w.heap.size,j,none⟩=some v:=λW j v S N=>by
  rw[S.cell (p:=⟨w.heap.size,j,none⟩) (by show w.heap.size<_;omega),<-n.out];exact cZ w _ _ j v N
 have Y:=cell A 0 _ C.bl rfl;have k1:=cell J 1 _ t.bl rfl;have U:=cell o 2 _ z.bl rfl;have k3:=cell o 3 _ z.bl rfl;obtain⟨a3,p3,rfl,-⟩:=t.lt;obtain⟨T,p4,rfl,-⟩:=z.lt;obtain⟨L,p6,rfl,-⟩:=u.lt;have G:Hid (GLs w K (sZ L (k++f++[Vw qA nA cA,Vw qB nB cB]).length p6) (k++f++[.slice qA nA cA,.slice qB nB cB])):=by
  refine⟨b1.trans (u.bl.mono b1.size),?_,u.nn⟩;rcases u.ow with⟨I,E|⟨g,cap,cur,E,O,M⟩⟩
  ·exact⟨I,U4 E⟩
  ·exact⟨I,UX ⟨g,cap,cur,E,oM,M⟩⟩
 generalize O:(k++f++[Vw qA nA cA,Vw qB nB cB]).length=N6 at b G;generalize M:(k++f).length=N4 at d b;generalize I:k.length=N3 at i d;have Q:=Hid.mkP i;have E:=Hid.mkP d;have P:=Hid.mkP b;clear i d b cell C t z u b1 H D hR R;go_enter func46,ntmps46;go_wp2_with (first|(refine aY (v:=jZ w.heap.size) (w':=l) rfl (.box 26 (.tmp 0)) rfl ?_ ?_;(rw[<-n.out];kernel_rfl))|(refine aY (v:=sZ l.heap.size 0 0) (w':=A) rfl (.buildSlice 24 0 #[]) rfl ?_ ?_;(rw[<-r.out];kernel_rfl))|(refine aY (v:=sZ o.heap.size 2 2) (w':=F) rfl (.buildSlice 24 2 #[(0,.tmp 14),(1,.tmp 16)]) rfl ?_ ?_;(rw[<-s.out];kernel_rfl))|(at_builtin;refine WI A rfl _ _ _ _ rfl _ _ rfl rfl _ _ Q.out ?_)|(at_builtin;refine WI J rfl _ _ _ _ rfl _ _ rfl rfl _ _ E.out ?_)|(at_builtin;refine WI F rfl _ _ _ _ rfl _ _ rfl rfl _ _ P.out ?_)|fail)
 go_ret;exact⟨_,rfl,G.out⟩
end
section
variable {P:Nat}[NeZero P]{N:Nat}
structure Sv where
 q:Option Wu
 n:Nat
 c:Nat
def Sv.v(s:Sv):Ut:=.slice s.q s.n s.c
def rgC(a b c d e f g l r x y:Sv):List Ut:=[a.v,b.v,c.v,d.v,e.v,f.v,g.v,l.v,r.v,x.v,y.v]
theorem uIn:(prog.underlying 26).map (·.isRow)=some true:=kR
theorem iIn:(prog.info? 26).map (·.size)=some 4:=kR
theorem N5(a b c d e f g l r x y:Sv){n i:List Ut}(w:Ur)(hL:VL w l.q l.n n)(hR:VL w r.q r.n i)(h1:l.n<=1000)(h2:r.n<=1000):
 UH prog 9 #[.agg (rgC a b c d e f g l r x y).toArray] w λe' w'=>∃v,e'=.returned v/\GLs w w' v (n++i++[x.v,y.v]++[a.v,b.v,c.v,d.v,e.v,f.v,g.v]):=by
 obtain⟨Q,O,ca⟩:=a;obtain⟨A,B,cb⟩:=b;obtain⟨D,K,cc⟩:=c;obtain⟨C,nd,T⟩:=d;obtain⟨F,ne,ce⟩:=e;obtain⟨R,G,J⟩:=f;obtain⟨S,L,E⟩:=g
 obtain⟨ql,nl,cl⟩:=l;obtain⟨Z,nr,cr⟩:=r;obtain⟨H,nx,M⟩:=x;obtain⟨z,N,P⟩:=y
 dsimp only[Sv.v,rgC]at *;obtain⟨cs,k⟩:=hE ([.slice Q O ca,.slice A B cb,.slice D K cc,.slice C nd T,.slice F ne ce,.slice R G J,.slice S L E,.slice ql nl cl,.slice Z nr cr,.slice H nx M,.slice z N P]:List Ut);rw[k.out];obtain⟨I,s⟩:=hE (w.alloc (.cells cs.toArray 28));have e1:I.heap.size=w.heap.size+1:=by rw[<-s.out,UB]
 have b1:kZ w I:=by rw[<-s.out];exact aO _ _
 have l1:=hL.len;have l2:=hR.len;have hc:=AX (c1:=cl) (c2:=cr) (qA:=H) (nA:=nx) (cA:=M) (qB:=z) (nB:=N) (cB:=P) I (hL.below b1) (hR.below b1) h1 h2;have cell:Hid (∀(W:Ur) (j:Nat) v,kZ I W->cs[j]? = some v->W.cell? ⟨w.heap.size,j,none⟩=some v):=λW j v hb hj=>by
  rw[hb.cell (p:=⟨w.heap.size,j,none⟩) (by show w.heap.size<_;omega),<-s.out];exact cZ w _ _ j v (by simpa using hj)
 have h3:Hid (I.rangeAt w.heap.size 7 [.slice ql nl cl,.slice Z nr cr,.slice H nx M,.slice z N P]):=λj u hj=>by
  refine cell.out I (7+j) u (UR _ _) ?_;rw[<-k.out];match j,hj with
  | 0,h=>exact h
  | 1,h=>exact h
  | 2,h=>exact h
  | 3,h=>exact h
 obtain⟨dI,h0,h4⟩:=Uy.1 uIn;have X:=Hid.mkP b1;have HL:Hid (n.length+i.length<=2000):=by show _<=_;omega
 go_enter func9,ntmps9;go_wp2_with (first|(refine aY (v:=jZ w.heap.size) (w':=I) rfl (.box 28 (.tmp 0)) rfl ?_ ?_;(rw[<-s.out,<-k.out];kernel_rfl))|(refine U6 rfl 26 _ rfl w.heap.size 7 ?_ [.slice ql nl cl,.slice Z nr cr,.slice H nx M,.slice z N P] dI ?_ ?_ ?_ ?_ ?_;rfl;exact h3.out;exact h0;exact h4;exact iIn;skip)|fail)
 refine hc.mono ?_;rintro e' o ⟨v2,rfl,t⟩;have k0:=cell.out o 0 (.slice Q O ca) t.bl (by rw[<-k.out];rfl);have k1:=cell.out o 1 (.slice A B cb) t.bl (by rw[<-k.out];rfl);have k2:=cell.out o 2 (.slice D K cc) t.bl (by rw[<-k.out];rfl);have k3:=cell.out o 3 (.slice C nd T) t.bl (by rw[<-k.out];rfl);have k4:=cell.out o 4 (.slice F ne ce) t.bl (by rw[<-k.out];rfl);have k5:=cell.out o 5 (.slice R G J) t.bl (by rw[<-k.out];rfl);have k6:=cell.out o 6 (.slice S L E) t.bl (by rw[<-k.out];rfl);obtain⟨w3,V⟩:=hE (o.alloc (.cells #[.slice Q O ca,.slice A B cb,.slice D K cc,.slice C nd T,.slice F ne ce,.slice R G J,.slice S L E] 23));have b3:kZ o w3:=by rw[<-V.out];exact aO _ _
 obtain⟨v4,w4,U,Y⟩:=(t.below b3).app (c:=7) (q:=some (aZ o.heap.size)) (m:=7) (ys:=[.slice Q O ca,.slice A B cb,.slice D K cc,.slice C nd T,.slice F ne ce,.slice R G J,.slice S L E]) (by
  rw[<-V.out];exact Hw o [.slice Q O ca,.slice A B cb,.slice D K cc,.slice C nd T,.slice F ne ce,.slice R G J,.slice S L E] 23 (by simp[yBf])) (by have:=HL.out;rw[UA,UA];simp only[Vj,WG];omega)
 obtain⟨a2,p2,rfl,-⟩:=t.lt;obtain⟨a4,p4,rfl,-⟩:=Y.lt;have K4:Hid (GLs w w4 (sZ a4 (n++i++[Vw H nx M,Vw z N P]++[Vw Q O ca,Vw A B cb,Vw D K cc,Vw C nd T,Vw F ne ce,Vw R G J,Vw S L E]).length p4) (n++i++[Vw H nx M,Vw z N P]++[Vw Q O ca,Vw A B cb,Vw D K cc,Vw C nd T,Vw F ne ce,Vw R G J,Vw S L E])):=by
  refine⟨X.trans (Y.bl.mono X.size),?_,Y.nn⟩;have:=X.size;rcases Y.ow with⟨x0,x1|⟨g,cap,cur,x1,x2,x3⟩⟩
  ·exact⟨x0,U4 x1⟩
  ·exact⟨x0,UX ⟨g,cap,cur,x1,oM,x3⟩⟩
 generalize h6:(n++i++[Vw H nx M,Vw z N P]++[Vw Q O ca,Vw A B cb,Vw D K cc,Vw C nd T,Vw F ne ce,Vw R G J,Vw S L E]).length=N4 at U K4;generalize h5:(n++i++[Vw H nx M,Vw z N P]).length=N2 at U⊢;have H1:=Hid.mkP U;go_wp2_with (first|(refine aY (v:=sZ o.heap.size 7 7) (w':=w3) rfl (.buildSlice 24 7 #[(0,.tmp 9),(1,.tmp 11),(2,.tmp 13),(3,.tmp 15),(4,.tmp 17),(5,.tmp 19),(6,.tmp 21)]) rfl ?_ ?_;(rw[<-V.out];kernel_rfl))|(at_builtin;refine WI w3 rfl _ _ _ _ rfl _ _ rfl rfl _ _ H1.out ?_)|fail)
 go_ret;exact⟨_,rfl,K4.out⟩
theorem uRg:(prog.underlying 28).map (·.isRow)=some true:=kR
theorem iRg:(prog.info? 28).map (·.size)=some 11:=kR
theorem GLs.cell{w W:Ur}{g n c:Nat}{xs:List Ut}(h:GLs w W (sZ g n c) xs)(j:Nat)(u:Ut)(k:xs[j]? = some u):W.cell? ⟨g,j,none⟩=some u:=by
 have:=h.ow.cells (g:=g) rfl j u k;rw[lH,UD]at this;exact this
theorem MF(g n c i:Nat)(k:i<n)(w:Ur):(Vl 24 (sZ g n c) (iZ i)).run prog w=.ok (oZ g i) w:=by
 go_simp
def Pt(W:Ur)(u:Ut)(b:SP.Bs):Prop:=∃q c,u=.slice q (V3 b) c/\(b.size=0\/∃g o,q=some ⟨g,o,none⟩/\g<W.heap.size/\Holds SP.encB W g o b)
theorem Pt.below{W W':Ur}{u:Ut}{b:SP.Bs}(h:Pt W u b)(e:kZ W W'):Pt W' u b:=by
 obtain⟨q,c,d,i|⟨g,o,f,k,j⟩⟩:=h
 ·exact⟨q,c,d,U4 i⟩
 ·exact⟨q,c,d,UX ⟨g,o,f,Ux k e.size,SP.Holds.below j e k⟩⟩
theorem Pt.conv{W:Ur}{u:Ut}{b:SP.Bs}(h:Pt W u b):(convert 23 9 u).run prog W=.ok (.string ⟨b⟩) W:=by
 obtain⟨q,c,rfl,k|⟨g,o,rfl,f,e⟩⟩:=h
 ·obtain rfl:b=#[]:=ZG k;cases q with
  | none=>exact run_convert_bytes_nil (P:=prog) (w:=W) 23 5 SP.slice22 SP.int5 0 c 9 SP.str9
  | some a=>exact run_convert_bytes_back (P:=prog) W 23 9 5 a c [] SP.slice22 SP.int5 SP.str9 (λj d=>by cases d)
 ·exact SP.conv_str prog 23 9 5 SP.slice22 SP.int5 SP.str9 W g o _ c b e rfl
def inV(l r x y:Sv):List Ut:=[l.v,r.v,x.v,y.v]
theorem eI(w:Ur)(cs:List Ut)(T:U8):(w.alloc (.cells cs.toArray T)).rangeAt w.heap.size 0 cs:=λj u k=>by rw[UD];exact cZ w _ _ j u (by simpa using k)
theorem range_below{w w':Ur}{b o:Nat}{cs:List Ut}(h:w.rangeAt b o cs)(c:kZ w w')(k:b<w.heap.size):w'.rangeAt b o cs:=λj u d=>by rw[c.cell (p:=⟨b,o+j,none⟩) k];exact h j u d
theorem BO(l r x y l' G I J:Sv){z s p t:List Ut}(w:Ur)(hL:VL w l.q l.n z)(hR:VL w r.q r.n s)(D:VL w l'.q l'.n p)(E:VL w G.q G.n t)(h1:l.n<=1000)(h2:r.n<=1000)(hl:l'.n=l.n)(hr:G.n=r.n)
 (hE:∀(j:Nat),j<l.n+r.n+2->∃u v b,(z++s++[x.v,y.v])[j]? = some u/\(p++t++[I.v,J.v])[j]? = some v/\Pt w u b/\Pt w v b) :
 UH prog 45 #[.agg (inV l r x y).toArray,.agg (inV l' G I J).toArray] w λe' w'=>e'=.returned (.bool true)/\Below w.heap.size w w':=by
 obtain⟨cs,g⟩:∃cs:List Ut,Hid (inV l r x y=cs):=⟨_,rfl⟩
 obtain⟨A,f⟩:∃A:List Ut,Hid (inV l' G I J=A):=⟨_,rfl⟩
 obtain⟨c,a⟩:∃c,Hid (w.alloc (.cells cs.toArray 26)=c):=⟨_,rfl⟩
 obtain⟨k,C⟩:∃k,Hid (c.alloc (.cells A.toArray 26)=k):=⟨_,rfl⟩
 have e1:c.heap.size=w.heap.size+1:=by rw[<-a.out,UB]
 have e2:k.heap.size=c.heap.size+1:=by rw[<-C.out,UB]
 have b1:Below w.heap.size w c:=by rw[<-a.out];exact aO _ _
 have b2:Below c.heap.size c k:=by rw[<-C.out];exact aO _ _
 have m:=b1.trans (b2.mono b1.size);have R:=range_below (w:=c) (by rw[<-a.out];exact eI w cs _) b2 oM;have W:k.rangeAt c.heap.size 0 A:=by rw[<-C.out];exact eI c A _
 have c0:=R 0 l.v (by rw[<-g.out];rfl);have c1:=R 1 r.v (by rw[<-g.out];rfl);have d0:=W 0 l'.v (by rw[<-f.out];rfl);have d1:=W 1 G.v (by rw[<-f.out];rfl);rw[UD]at c0 c1 d0 d1;have len1:Hid (cs.length=4):=by rw[<-g.out];rfl
 have len2:Hid (A.length=4):=by rw[<-f.out];rfl
 have hA:Hid (UH prog 46 #[.agg cs.toArray] k λe w'=>∃v,e=.returned v/\GLs k w' v (z++s++[x.v,y.v])):=by
  rw[<-g.out];exact AX k (hL.below m) (hR.below m) h1 h2
 have hB:Hid (∀d,Below k.heap.size k d->UH prog 46 #[.agg A.toArray] d λe w'=>∃v,e=.returned v/\GLs d w' v (p++t++[I.v,J.v])):=λd Y=>by
  rw[<-f.out];exact AX d ((D.below m).below Y) ((E.below m).below Y) oM oM
 have F:Hid ((z++s++[x.v,y.v]).length=l.n+r.n+2):=by
  show _=_;rw[UA,UA,hL.len,hR.len];rfl
 have B:Hid ((p++t++[I.v,J.v]).length=l.n+r.n+2):=by
  show _=_;rw[UA,UA,D.len,E.len,hl,hr];rfl
 have S:=Hid.mkP hE;generalize z++s++[x.v,y.v]=XS at hA F S;generalize p++t++[I.v,J.v]=ZS at hB B S;have HB:=Hid.mkP m;have K:Hid (∀d,Below k.heap.size k d->d.rangeAt c.heap.size 0 A):=λd Y=>range_below W Y oM
 have h3:=Hid.mkP R;rw[g.out,f.out];obtain⟨ql,nl,cl⟩:=l;obtain⟨qr,nr,cr⟩:=r;obtain⟨h6,h5,h8⟩:=l';obtain⟨ha,h0,h7⟩:=G
 dsimp only[Sv.v]at *;subst hl hr;obtain⟨dI,L,O⟩:=Uy.1 uIn;obtain⟨M,hM⟩:∃M,Hid (h5+h0+2=M):=⟨_,rfl⟩
 rw[hM.out]at F B S;have h9:M<=2002:=by have:=hM.out;omega
 clear e1 e2 b1 b2 m R W hL hR D E hE;go_enter func45,ntmps45;go_wp2_with (first|(refine aY (v:=.pointer (some ⟨w.heap.size,0,none⟩)) (w':=c) rfl (.box 26 (.tmp 0)) rfl ?_ ?_;(rw[<-a.out,<-g.out];kernel_rfl))|(refine aY (v:=.pointer (some ⟨c.heap.size,0,none⟩)) (w':=k) rfl (.box 26 (.tmp 1)) rfl ?_ ?_;(rw[<-C.out,<-f.out];kernel_rfl))|(refine U6 rfl 26 _ rfl w.heap.size 0 ?_ cs dI ?_ ?_ ?_ ?_ ?_;rfl;exact h3.out;exact L;exact O;(rw[len1.out];exact iIn);skip)|fail)
 refine hA.mono ?_;rintro e' d ⟨v3,rfl,N⟩;have Z:=Hid.mkP (K d N.bl);have h4:=Hid.mkP (hB d N.bl);obtain⟨T,X,rfl,-⟩:=N.lt;have K3:=Hid.mkP N;clear N hA hB K c0 c1 d0 d1;rw[F.out]at K3⊢;go_wp2_with (first|(refine U6 rfl 26 _ rfl c.heap.size 0 ?_ A dI ?_ ?_ ?_ ?_ ?_;rfl;exact Z.out;exact L;exact O;(rw[len2.out];exact iIn);skip)|fail)
 refine h4.mono ?_;rintro e' w4 ⟨v4,rfl,U⟩;obtain⟨Q,V,rfl,-⟩:=U.lt;have o:Hid (GLs k w4 (.slice (some ⟨T,0,none⟩) M X) XS/\GLs d w4 (.slice (some ⟨Q,0,none⟩) M V) ZS/\Below w.heap.size w w4):=by
  rw[B.out]at U;have n:=K3.below U.bl;exact⟨n,U,HB.trans (n.bl.mono HB.size)⟩
 rw[B.out];go_wp2;go_loopg [7] M (λgk s7 wr=>∃i:Nat,i+gk=M/\s7=.int .i64 i/\Hid (GLs k wr (.slice (some ⟨T,0,none⟩) M X) XS/\GLs d wr (.slice (some ⟨Q,0,none⟩) M V) ZS/\Below w.heap.size w wr))
 case atStart=>exact⟨0,oM,rfl,o⟩
 case round =>
  obtain⟨i,hi,rfl,o⟩:=hrel;by_cases H:i<M
  ·have P:=oM;obtain⟨u,v,b,hu,hv,pu,pv⟩:=S.out i H;have n:∀q,Below wr.heap.size wr (wr.drewN q):=λq=>⟨rfl,rfl,rfl,Uw _,λ_ _=>rfl⟩
   have k1:=λq=>((pu.below o.2.2).below (n q)).conv
   have k2:=λq=>((pv.below o.2.2).below (n q)).conv
   have x1:=o.1.cell i u hu;have x2:=o.2.1.cell i v hv;have K5:Hid (∀q,GLs k (wr.drewN q) (.slice (some ⟨T,0,none⟩) M X) XS/\GLs d (wr.drewN q) (.slice (some ⟨Q,0,none⟩) M V) ZS/\Below w.heap.size w (wr.drewN q)):=λq=>⟨o.1.below (n q),o.2.1.below (n q),o.2.2.trans ((n q).mono o.2.2.size)⟩
   obtain⟨qu,cu,rfl,-⟩:=pu;obtain⟨qv,cv,rfl,-⟩:=pv;have j1:=MF T M X i H;have j2:=MF Q M V i H;go_wp2;go_quiet (fail);go_wp2;go_roundg (gk-1)
   case measure=>omega
   case rel=>exact⟨i+1,oM,rfl,K5.out _⟩
  ·have P:=oM;go_wp2;go_ret;exact⟨rfl,o.2.2⟩
structure Rg where
 a:Sv
 b:Sv
 c:Sv
 d:Sv
 e:Sv
 f:Sv
 g:Sv
 l:Sv
 r:Sv
 x:Sv
 y:Sv
def Rg.cs(p:Rg):List Ut:=rgC p.a p.b p.c p.d p.e p.f p.g p.l p.r p.x p.y
def Rg.all(p:Rg)(k b:List Ut):List Ut:=k++b++[p.x.v,p.y.v]++[p.a.v,p.b.v,p.c.v,p.d.v,p.e.v,p.f.v,p.g.v]
theorem BN(p k:Rg){s o n r:List Ut}(w:Ur)(hL:VL w p.l.q p.l.n s)(hR:VL w p.r.q p.r.n o)(a:VL w k.l.q k.l.n n)(A:VL w k.r.q k.r.n r)(h1:p.l.n<=1000)(h2:p.r.n<=1000)(hl:k.l.n=p.l.n)(hr:k.r.n=p.r.n)
 (hE:∀(j:Nat),j<p.l.n+p.r.n+9->∃u v b,(p.all s o)[j]? = some u/\(k.all n r)[j]? = some v/\Pt w u b/\Pt w v b) :
 UH prog 7 #[.agg p.cs.toArray,.agg k.cs.toArray] w λe' w'=>e'=.returned (.bool true)/\Below w.heap.size w w':=by
 obtain⟨cs,x⟩:∃cs:List Ut,Hid (p.cs=cs):=⟨_,rfl⟩
 obtain⟨D,t⟩:∃D:List Ut,Hid (k.cs=D):=⟨_,rfl⟩
 obtain⟨g,B⟩:∃g,Hid (w.alloc (.cells cs.toArray 28)=g):=⟨_,rfl⟩
 obtain⟨f,F⟩:∃f,Hid (g.alloc (.cells D.toArray 28)=f):=⟨_,rfl⟩
 have e1:g.heap.size=w.heap.size+1:=by rw[<-B.out,UB]
 have e2:f.heap.size=g.heap.size+1:=by rw[<-F.out,UB]
 have b1:Below w.heap.size w g:=by rw[<-B.out];exact aO _ _
 have b2:Below g.heap.size g f:=by rw[<-F.out];exact aO _ _
 have d:Below w.heap.size w f:=b1.trans (b2.mono b1.size);have r1:f.rangeAt w.heap.size 0 cs:=range_below (w:=g) (by rw[<-B.out];exact eI w cs _) b2 oM;have r2:f.rangeAt g.heap.size 0 D:=by rw[<-F.out];exact eI g D _
 have len1:Hid (cs.length=11):=by rw[<-x.out];rfl
 have len2:Hid (D.length=11):=by rw[<-t.out];rfl
 have i1:Hid (f.rangeAt w.heap.size 7 (inV p.l p.r p.x p.y)):=λj u J=>by
  have:=r1 (7+j) u (by
   rw[<-x.out];match j,J with
   | 0,h=>exact h
   | 1,h=>exact h
   | 2,h=>exact h
   | 3,h=>exact h)
  rw[UD]at this;exact this
 have i2:Hid (f.rangeAt g.heap.size 7 (inV k.l k.r k.x k.y)):=λj u J=>by
  have:=r2 (7+j) u (by
   rw[<-t.out];match j,J with
   | 0,h=>exact h
   | 1,h=>exact h
   | 2,h=>exact h
   | 3,h=>exact h)
  rw[UD]at this;exact this
 have lX:(s++o++[p.x.v,p.y.v]).length=p.l.n+p.r.n+2:=by rw[UA,UA,hL.len,hR.len];rfl
 have lZ:(n++r++[k.x.v,k.y.v]).length=p.l.n+p.r.n+2:=by rw[UA,UA,a.len,A.len,hl,hr];rfl
 have hI:Hid (UH prog 45 #[.agg (inV p.l p.r p.x p.y).toArray,.agg (inV k.l k.r k.x k.y).toArray] f λe' w'=>e'=.returned (.bool true)/\Below f.heap.size f w'):=by
  refine BO p.l p.r p.x p.y k.l k.r k.x k.y f (hL.below d) (hR.below d) (a.below d) (A.below d) h1 h2 hl hr (λj J=>?_);obtain⟨u,v,b,l,c,m,y⟩:=hE j oM;unfold Rg.all at l c;rw[UT (by rw[lX];exact J)]at l;rw[UT (by rw[lZ];exact J)]at c;exact⟨u,v,b,l,c,m.below d,y.below d⟩
 have hA:Hid (∀c,Below f.heap.size f c->UH prog 9 #[.agg cs.toArray] c λe w'=>∃v,e=.returned v/\GLs c w' v (p.all s o)):=λc G=>by
  rw[<-x.out];exact N5 p.a p.b p.c p.d p.e p.f p.g p.l p.r p.x p.y c ((hL.below d).below G) ((hR.below d).below G) h1 h2
 have hB:Hid (∀c,Below f.heap.size f c->UH prog 9 #[.agg D.toArray] c λe w'=>∃v,e=.returned v/\GLs c w' v (k.all n r)):=λc G=>by
  rw[<-t.out];exact N5 k.a k.b k.c k.d k.e k.f k.g k.l k.r k.x k.y c ((a.below d).below G) ((A.below d).below G) oM oM
 have H:Hid ((p.all s o).length=p.l.n+p.r.n+9):=by
  show _=_;unfold Rg.all;rw[UA,lX];rfl
 have E:Hid ((k.all n r).length=p.l.n+p.r.n+9):=by
  show _=_;unfold Rg.all;rw[UA,lZ];rfl
 have HE:=Hid.mkP hE;generalize p.all s o=XS at hA H HE;generalize k.all n r=ZS at hB E HE;have HB:=Hid.mkP d;have L:Hid (∀c,Below f.heap.size f c->c.rangeAt w.heap.size 0 cs):=λc G=>range_below r1 G oM
 have N:Hid (∀c,Below f.heap.size f c->c.rangeAt g.heap.size 0 D):=λc G=>range_below r2 G oM
 rw[x.out,t.out];obtain⟨dI,P,X⟩:=Uy.1 uIn;obtain⟨dR,Q,V⟩:=Uy.1 uRg;obtain⟨M,hM⟩:∃M,Hid (p.l.n+p.r.n+9=M):=⟨_,rfl⟩
 rw[hM.out]at H E HE;have h5:M<=2009:=by have:=hM.out;omega
 obtain⟨iv,T⟩:∃iv,Hid (inV p.l p.r p.x p.y=iv):=⟨_,rfl⟩
 obtain⟨jv,O⟩:∃jv,Hid (inV k.l k.r k.x k.y=jv):=⟨_,rfl⟩
 have h4:Hid (iv.length=4):=by rw[<-T.out];rfl
 have h3:Hid (jv.length=4):=by rw[<-O.out];rfl
 rw[T.out]at i1 hI;rw[O.out]at i2 hI;clear e1 e2 b1 b2 d r1 r2 hL hR a A hE lX lZ hl hr h1 h2;go_enter func7,ntmps7;go_wp2_with (first|(refine aY (v:=.pointer (some ⟨w.heap.size,0,none⟩)) (w':=g) rfl (.box 28 (.tmp 0)) rfl ?_ ?_;(rw[<-B.out,<-x.out];kernel_rfl))|(refine aY (v:=.pointer (some ⟨g.heap.size,0,none⟩)) (w':=f) rfl (.box 28 (.tmp 1)) rfl ?_ ?_;(rw[<-F.out,<-t.out];kernel_rfl))|(refine U6 rfl 26 _ rfl w.heap.size 7 ?_ iv dI ?_ ?_ ?_ ?_ ?_;rfl;exact i1.out;exact P;exact X;(rw[h4.out];exact iIn);skip)|(refine U6 rfl 26 _ rfl g.heap.size 7 ?_ jv dI ?_ ?_ ?_ ?_ ?_;rfl;exact i2.out;exact P;exact X;(rw[h3.out];exact iIn);skip)|fail)
 refine hI.mono ?_;rintro e' y ⟨rfl,z⟩;have W:=Hid.mkP z;have S:=Hid.mkP (L y z);clear z hI i1 i2;go_wp2_with (first|(refine U6 rfl 28 _ rfl w.heap.size 0 ?_ cs dR ?_ ?_ ?_ ?_ ?_;rfl;exact S.out;exact Q;exact V;(rw[len1.out];exact iRg);skip)|fail)
 refine(hA y W.out).mono ?_;rintro e' c ⟨v3,rfl,g3⟩;have C:Below f.heap.size f c:=W.trans (g3.bl.mono W.size);have K:=Hid.mkP (N c C);have U:=Hid.mkP (hB c C);obtain⟨a3,p3,rfl,-⟩:=g3.lt;have K3:=Hid.mkP g3;have h0:=Hid.mkP C;clear g3 C hA hB N L S;rw[H.out]at K3⊢;go_wp2_with (first|(refine U6 rfl 28 _ rfl g.heap.size 0 ?_ D dR ?_ ?_ ?_ ?_ ?_;rfl;exact K.out;exact Q;exact V;(rw[len2.out];exact iRg);skip)|fail)
 refine U.mono ?_;rintro e' w4 ⟨v4,rfl,R⟩;obtain⟨Z,p4,rfl,-⟩:=R.lt;have m:Hid (GLs y w4 (.slice (some ⟨a3,0,none⟩) M p3) XS/\GLs c w4 (.slice (some ⟨Z,0,none⟩) M p4) ZS/\Below w.heap.size w w4):=by
  rw[E.out]at R;have l:=HB.trans (W.mono HB.size);have I:=K3.below R.bl;exact⟨I,R,l.trans (I.bl.mono l.size)⟩
 clear R U K3 K h0 W;rw[E.out];go_wp2;go_loopg [8] M (λgk s7 wr=>∃i:Nat,i+gk=M/\s7=.int .i64 i/\Hid (GLs y wr (.slice (some ⟨a3,0,none⟩) M p3) XS/\GLs c wr (.slice (some ⟨Z,0,none⟩) M p4) ZS/\Below w.heap.size w wr))
 case atStart=>exact⟨0,oM,rfl,m⟩
 case round =>
  clear m;obtain⟨i,hi,rfl,m⟩:=hrel;by_cases I:i<M
  ·have Y:(i:Int)<(M:Int):=oM;obtain⟨u,v,b,hu,hv,pu,pv⟩:=HE.out i I;have l:∀q,Below wr.heap.size wr (wr.drewN q):=λq=>⟨rfl,rfl,rfl,Uw _,λ_ _=>rfl⟩
   have k1:=λq=>((pu.below m.2.2).below (l q)).conv
   have k2:=λq=>((pv.below m.2.2).below (l q)).conv
   have x1:=m.1.cell i u hu;have x2:=m.2.1.cell i v hv;have K5:Hid (∀q,GLs y (wr.drewN q) (.slice (some ⟨a3,0,none⟩) M p3) XS/\GLs c (wr.drewN q) (.slice (some ⟨Z,0,none⟩) M p4) ZS/\Below w.heap.size w (wr.drewN q)):=λq=>⟨m.1.below (l q),m.2.1.below (l q),m.2.2.trans ((l q).mono m.2.2.size)⟩
   obtain⟨qu,cu,rfl,-⟩:=pu;obtain⟨qv,cv,rfl,-⟩:=pv;generalize V3 b=nb at k1 k2 x1 x2;have j1:=MF a3 M p3 i I;have j2:=MF Z M p4 i I;clear hu hv l m;go_wp2;go_quiet (fail);go_wp2;go_roundg (gk-1)
   case measure=>omega
   case rel=>exact⟨i+1,oM,rfl,K5.out _⟩
  ·have Y:¬(i:Int)<(M:Int):=oM;go_wp2;go_ret;exact⟨rfl,m.2.2⟩
theorem uC(n c:Nat)(h:c<n):Ys n c<=2*n+768:=by
 unfold Ys;split
 ·omega
 ·split
  ·omega
  ·simp only[Builtin.growBy];repeat' split
   all_goals omega
theorem wX{t n m size c:Nat}{T e:U8}{i:TypeInfo}{z:Ut}{W W':Ur}{v y:Ut}{xs f:List Ut}{a:Wu}(D:prog.underlying T=some (.slice e))(E:prog.info? e=some i)(K:i.zero=some z)(F:i.size=size)(H:i.bytes<=1000)
 (k:W.ownsRow t e size v n xs) (s:Src prog size T (.slice (some a) m c) m f W) (b:n+m<=1000000000)
 (r:(Vt #[T,T] T #[v,.slice (some a) m c]).run prog W=.ok y W'):y.ownBlock=v.ownBlock\/y.ownBlock=some W.heap.size:=by
 subst F;have d:∀(q:Option Wu) (cap:Nat) (olds:List Ut),v=.slice q n cap->cap<n+m->(Zh i.size n (.slice q n cap)).run prog W.drew=.ok olds.toArray W.drew->y.ownBlock=v.ownBlock\/y.ownBlock=some W.heap.size:=λq cap olds hv I w=>by
  have G:=uC (n+m) cap I;have B:Ys (n+m) cap*i.bytes<=(2*(n+m)+768)*1000:=WQ G H;have p:=run_append_grow_src (P:=prog) W T T T e i z D E K q n cap olds w (.slice (some a) m c) m f s I oM (UC B (by clear G B;omega));rw[hv,p]at r;injection r with hr1 o
  right;rw[<-hr1];rfl
 rcases id k with⟨-,⟨rfl,rfl⟩|⟨g,cap,cur,rfl,R,J,O,Q,M,N⟩⟩
 ·by_cases L:m=0
  ·subst L;have C:=r;obtain⟨A,o⟩:∃A,(Vt #[T,T] T #[.slice none 0 0,.slice (some a) 0 c]).run prog W=.ok (.slice none 0 0) A:=by
    rcases s.kind with⟨e',b⟩|b<;>exact⟨_,by simp[Vt,XY D,XY b,sizeOf,typeInfo,E,s.len,s.cells];rfl⟩
   rw[o]at r;injection r with hr1 o
   left;rw[<-hr1]
  ·exact d none 0 [] rfl oM (run_firstCells_none W.drew i.size 0 0 0)
 ·by_cases b:n+m<=cap
  ·have p:=Y6 (P:=prog) W T T T e i D E g 0 n cap (.slice (some a) m c) m f s b
    (λj A=>by
     have C:n*i.size+j<cur.size:=by
      rw[M];have G:j<m*i.size:=by rw[<-s.newsLen];exact A
      have B:(n+m)*i.size<=cap*i.size:=Xs _ b;rw[XF]at B;omega
     simp[VY,J,UD,U0 C])
    (λj A=>by simp[WW,J])
   rw[p]at r;injection r with hr1 o
   left;rw[<-hr1];rfl
  ·refine d (some (aZ g)) cap xs rfl oM ?_;exact run_firstCells_some W.drew i.size n (aZ g) n cap xs k.1 (λj u A=>by rw[YY];exact k.cells (g:=g) rfl j u A)
theorem Gn{P:VD}{k:Array Vk}{o:Vk}{a:Act}{w:Ur}{K:Act->Ur->Prop}{Q:Yo->Act->Ur->Prop}{E:Prop}(g:o.guard=none)(s x:XG)(t c:U8)
 (ho:o.op=.call { callee:=.builtin .append,args:=#[s,x],argTypes:=#[t,c] }) (vs b:Ut) (e:a.eval s=vs) (hx:a.eval x=b)
 (d:Ut) (w':Ur) (i:(Vt #[t,c] o.type #[vs,b]).run P w=.ok d w') (h:K (a.put o.dst d) w'):if V2 o (yielded k a.tmps)=true then VT P o a w K Q else E:=by
 have f:V2 o (yielded k a.tmps)=true:=by simp[V2,g]
 rw[yCj f];exact Lib.wp_append_run w s x t c ho vs b e hx d w' i h
theorem Hy:prog.underlying 107=some (.slice 112):=kR
theorem Pr:(prog.info? 112).map (λi=>(i.size,i.bytes,i.zero.map λz=>z.cells.size))=some (2,16,some 2):=kR
def pC(x:Wu × Nat):List Ut:=[.pointer (some x.1),iZ (x.2:Int)]
def psC(k:List (Wu × Nat)):List Ut:=k.flatMap pC
theorem nX:∀k:List (Wu × Nat),(psC k).length=k.length*2
 | []=>rfl
 | x :: r=>by
  have:=nX r;unfold psC at *;rw[List.flatMap_cons,UA,this,Vj];show 2+_=_;omega
theorem LZ(a b:List (Wu × Nat)):psC (a++b)=psC a++psC b:=List.flatMap_append
theorem EJ:∀(k:List (Wu × Nat)),∀u∈psC k,u.oneCell'=true:=by
 intro k u b;obtain⟨x,-,hx⟩:=List.mem_flatMap.1 b;unfold pC at hx;simp only[VX,UY,or_false]at hx;rcases hx with rfl|rfl<;>rfl
theorem II:∀(k:List (Wu × Nat)) (j:Nat) (x:Wu × Nat),k[j]? = some x->(psC k)[2*j]? = some (.pointer (some x.1))/\(psC k)[2*j+1]? = some (iZ (x.2:Int))
 | [],j,x,h=>by simp at h
 | y :: r,0,x,h=>by
  obtain rfl:y=x:=by simpa using h
  exact⟨rfl,rfl⟩
 | y :: r,j+1,x,h=>by
  have:=II r j x (by simpa using h);have e:psC (y :: r)=pC y++psC r:=rfl;rw[e,U1 (by show 2<=_;omega),U1 (by show 2<=_;omega)];show(psC r)[2*(j+1)-2]? = _/\(psC r)[2*(j+1)+1-2]? = _;rw[show 2*(j+1)-2=2*j by omega,show 2*(j+1)+1-2=2*j+1 by omega];exact this
structure PLs(w W:Ur)(v:Ut)(ps:List (Wu × Nat)):Prop where
 bl:kZ w W
 ow:W.ownsRow w.heap.size 112 2 v ps.length (psC ps)
 nn:v.ownBlock≠none
theorem PLs.lt{w W:Ur}{v:Ut}{k:List (Wu × Nat)}(h:PLs w W v k):∃g cap,v=sZ g k.length cap/\w.heap.size<=g/\g<W.heap.size:=by
 rcases id h.ow with⟨-,⟨rfl,e⟩|⟨g,cap,cur,rfl,d,b,-⟩⟩
 ·exact absurd rfl h.nn
 ·refine⟨g,cap,rfl,d,?_⟩;by_cases c:g<W.heap.size
  ·exact c
  ·rw[WN oM]at b;cases b
theorem PLs.below{w W W':Ur}{v:Ut}{c:List (Wu × Nat)}(h:PLs w W v c)(e:kZ W W'):PLs w W' v c:=by
 refine⟨h.bl.trans (e.mono h.bl.size),?_,h.nn⟩;rcases h.ow with⟨d,b|⟨g,cap,cur,b,f,k,i⟩⟩
 ·exact⟨d,U4 b⟩
 ·refine⟨d,UX ⟨g,cap,cur,b,f,?_,i⟩⟩;rw[e.block g (by
   by_cases j:g<W.heap.size
   ·exact j
   ·rw[WN oM]at k;cases k)]
  exact k
theorem PLs.app{w W:Ur}{v:Ut}{f ys:List (Wu × Nat)}{b m c:Nat}(h:PLs w W v f)(hx:W.rangeAt b 0 (psC ys))(n:ys.length=m)(J:f.length+m<=1000000)(E:0<m):
 ∃e W',(Vt #[107,107] 107 #[v,sZ b m c]).run prog W=.ok e W'/\PLs w W' e (f++ys)/\W.grownBy W' v.ownBlock/\(e.ownBlock=v.ownBlock\/e.ownBlock=some W.heap.size):=by
 obtain⟨i,x,t⟩:=Uy.1 Pr;simp only[V6.injEq]at t;obtain⟨a,F,A⟩:=t;obtain⟨z,o,l⟩:=Uy.1 A;obtain⟨g,cap,rfl,I,C⟩:=h.lt;have p:∀(j:Nat) u,(psC ys)[j]? = some u->W.cell? ((⟨b,0,none⟩:Wu).add j)=some u:=λj u B=>by rw[lH];exact hx j u B
 obtain⟨e,W',s,q,d,G⟩:=Y1 (P:=prog) W w.heap.size 107 107 112 i z 2 16 Hy x o a F l dC _ f.length (psC f) h.ow (aZ b) m c (psC ys) (by rw[nX,n]) p (EJ ys) (by unfold maxLen;omega) oM h.bl.size;have H:=wX (c:=c) Hy x o a oM h.ow (yAB (P:=prog) (size:=2) W Hy (aZ b) m c (psC ys) (by rw[nX,n]) p (EJ ys)) oM s;refine⟨e,W',s,⟨⟨by rw[d.os,h.bl.os],by rw[d.tape,h.bl.tape],by rw[d.output,h.bl.output],UC h.bl.size d.size,λk r=>?_⟩,?_,?_⟩,d,H⟩
 ·rw[d.block k (Ux r h.bl.size) (by simp[V9];omega)];exact h.bl.block k r
 ·rw[UA,n,LZ];exact q
 ·rcases q.2 with⟨D,-⟩|⟨K,y,cur,rfl,-⟩
  ·have:=(G.1 D).1;exact absurd this (by simp)
  ·simp[V9]
theorem PLs.at{w W:Ur}{g n c:Nat}{b:List (Wu × Nat)}(h:PLs w W (sZ g n c) b)(j:Nat)(x:Wu × Nat)(e:b[j]? = some x):W.rangeAt g (2*j) (pC x):=λk u f=>by
 have d:=II b j x e;have:=h.ow.cells (g:=g) rfl (2*j+k) u (by
  match k,f with
  | 0,h=>rw[<-h];exact d.1
  | 1,h=>rw[<-h];exact d.2)
 rw[lH,UD]at this;exact this
theorem Mi(w:Ur)(k:List (Wu × Nat))(b:k.length<=1000000):PLs w (w.alloc (.cells (psC k).toArray 112)) (sZ w.heap.size k.length k.length) k:=
 ⟨aO w _,⟨nX k,.inr ⟨w.heap.size,k.length,(psC k).toArray,rfl,Uw _,WU,Uw _,by unfold maxLen;omega,by rw[VC,nX],by rw[<-nX k];simp⟩⟩,by simp[V9]⟩
def lp(b o n:Nat):List (Wu × Nat):=(VG n).map λj=>((⟨b,o+j,none⟩:Wu),33)
def tH(k:Nat):List (Wu × Nat):=[(⟨k,0,none⟩,33),(⟨k,1,none⟩,33),(⟨k,2,none⟩,33),(⟨k,3,none⟩,33),(⟨k,4,none⟩,32),(⟨k,5,none⟩,32),(⟨k,6,none⟩,32)]
def endP(k:Nat):List (Wu × Nat):=[(⟨k,9,none⟩,32),(⟨k,10,none⟩,32)]
theorem MC(b o n:Nat):lp b o (n+1)=lp b o n++[(⟨b,o+n,none⟩,33)]:=by
 unfold lp;rw[List.range_succ,We];rfl
theorem jK(b o n:Nat):(lp b o n).length=n:=by unfold lp;simp
def sU(k d b c f or e:Nat):Nat->List (Wu × Nat)
 | 0=>tH k
 | 1=>tH k++lp d b c
 | _=>tH k++lp d b c++lp f or e
structure PI(w w1 w2 W:Ur)(v:Ut)(ps:List (Wu × Nat)):Prop where
 pl:PLs w W v ps
 ne:v.ownBlock≠some w1.heap.size
 eq:W.heap[w1.heap.size]? = w2.heap[w1.heap.size]?
 sz:w2.heap.size<=W.heap.size
theorem PI.app{w k f W:Ur}{v:Ut}{d:List (Wu × Nat)}{x:Wu × Nat}(h:PI w k f W v d)(p:k.heap.size<f.heap.size)(t:d.length<=10000):
 ∃b W',(Vt #[107,107] 107 #[v,sZ W.heap.size 1 1]).run prog (W.alloc (.cells (pC x).toArray 112))=.ok b W'/\PI w k f W' b (d++[x]):=by
 have i:=aO W (.cells (pC x).toArray 112);have r:(W.alloc (.cells (pC x).toArray 112)).rangeAt W.heap.size 0 (psC [x]):=by
  have e:psC [x]=pC x:=Xu _;rw[e];exact eI W (pC x) _
 obtain⟨b,W',o,l,g,q⟩:=(h.pl.below i).app (m:=1) (c:=1) r rfl oM dC;have s:=h.sz;have j:(W.alloc (.cells (pC x).toArray 112)).heap.size=W.heap.size+1:=UB _ _;refine⟨b,W',o,l,?_,?_,?_⟩
 ·rcases q with e|e
  ·rw[e];exact h.ne
  ·rw[e,j];intro h;have:=UO.inj h;omega
 ·rw[g.block k.heap.size oM (λn=>h.ne n.symm),i.block k.heap.size oM];exact h.eq
 ·have:=g.size;omega
theorem TT(b o n c i:Nat)(f:i<n)(w:Ur):(Vl 24 (.slice (some ⟨b,o,none⟩) n c) (iZ i)).run prog w=.ok (.pointer (some ⟨b,o+i,none⟩)) w:=by
 have e:¬(i:Int)<0:=oM;have d:(i:Int)<(n:Int):=oM;have k:=lH b o i;go_simp
theorem zP(d:Nat)(l r:Sv)(t u z or:Nat)(w:Ur)(L:d<w.heap.size)(h7:w.cell? ⟨d,7,none⟩=some l.v)(h8:w.cell? ⟨d,8,none⟩=some r.v)
 (H:l.n=0\/l.q=some ⟨t,u,none⟩) (N:r.n=0\/r.q=some ⟨z,or,none⟩) (C:l.n<=1000) (E:r.n<=1000) :
 UH prog 55 #[.pointer (some ⟨d,0,none⟩)] w λe w'=>∃v,e=.returned v/\PLs w w' v (tH d++lp t u l.n++lp z or r.n++endP d):=by
 obtain⟨R,s,cl⟩:=l;obtain⟨Q,y,cr⟩:=r;dsimp only[Sv.v]at *;obtain⟨f,D⟩:∃f,Hid ((w.alloc (.cells #[.pointer (some ⟨d,0,none⟩),.int .i64 33,.pointer (some ⟨d,1,none⟩),.int .i64 33,.pointer (some ⟨d,2,none⟩),.int .i64 33,.pointer (some ⟨d,3,none⟩),.int .i64 33,.pointer (some ⟨d,4,none⟩),.int .i64 32,.pointer (some ⟨d,5,none⟩),.int .i64 32,.pointer (some ⟨d,6,none⟩),.int .i64 32] 112)).drew=f):=⟨_,rfl⟩
 obtain⟨a,A⟩:∃a,Hid ((f.alloc (.cells #[.slice R s cl,.slice Q y cr] 24)).drew=a):=⟨_,rfl⟩
 have F:∀W:Ur,Below W.heap.size W W.drew:=λW=>⟨rfl,rfl,rfl,Uw _,λ_ _=>rfl⟩
 have p1:PLs w f (.slice (some ⟨w.heap.size,0,none⟩) 7 7) (tH d):=by
  rw[<-D.out];exact(Mi w (tH d) (by show 7<=_;omega)).below (F _)
 have b2:Below f.heap.size f a:=by
  rw[<-A.out];exact(aO f _).trans ((F _).mono (by rw[UB];omega))
 have p2:=p1.below b2;have c7:f.cell? ⟨d,7,none⟩=some (.slice R s cl):=by rw[p1.bl.cell (p:=⟨d,7,none⟩) L];exact h7
 have c8:f.cell? ⟨d,8,none⟩=some (.slice Q y cr):=by rw[p1.bl.cell (p:=⟨d,8,none⟩) L];exact h8
 have d0:a.cell? ⟨f.heap.size,0,none⟩=some (.slice R s cl):=by rw[<-A.out,YY];exact cZ f _ _ 0 _ rfl
 have Y:a.cell? ⟨f.heap.size,1,none⟩=some (.slice Q y cr):=by rw[<-A.out,YY];exact cZ f _ _ 1 _ rfl
 have s2:f.heap.size<a.heap.size:=by rw[<-A.out,yA6,UB];omega
 have V:Hid (PI w f a a (.slice (some ⟨w.heap.size,0,none⟩) 7 7) (sU d t u s z or y 0)):=⟨p2,by
  have:f.heap.size=w.heap.size+1:=by rw[<-D.out,yA6,UB]
  simp[V9];omega,rfl,Uw _⟩
 have HN:Hid (∀(i:Nat) (W:Ur),i<2->W.heap[f.heap.size]? = a.heap[f.heap.size]?->∃q n c b o,W.cell? ⟨f.heap.size,i,none⟩=some (.slice q n c)/\(n=0\/q=some ⟨b,o,none⟩)/\n<=1000/\sU d t u s z or y (i+1)=sU d t u s z or y i++lp b o n/\(sU d t u s z or y i).length<=1007):=λi W O hW=>by
  have B:∀k,W.cell? ⟨f.heap.size,k,none⟩=a.cell? ⟨f.heap.size,k,none⟩:=λk=>by
   unfold VY;rw[hW]
  match i,O with
  | 0,_=>exact⟨R,s,cl,t,u,by rw[B];exact d0,H,C,rfl,by show 7<=_;omega⟩
  | 1,_=>exact⟨Q,y,cr,z,or,by rw[B];exact Y,N,E,rfl,by show(tH d++lp t u s).length<=_;rw[UA,jK];show 7+s<=_;omega⟩
 have X:=Hid.mkP s2;clear p1 p2 b2 h7 h8 d0 Y s2 F H N;go_enter func55,ntmps55;go_wp2;go_region
 rw[D.out];go_wp2;go_region
 rw[A.out];go_wp2;go_loopg [4,50] 2 (λgk s4 s50 wr=>∃i:Nat,i+gk=2/\s50=.int .i64 i/\Hid (PI w f a wr s4 (sU d t u s z or y i)))
 case atStart=>exact⟨0,rfl,rfl,V⟩
 case round =>
  obtain⟨i,O,rfl,K⟩:=hrel;by_cases h2:i<2
  ·obtain⟨q,n,c,b,o,e1,J,e3,e4,e5⟩:=HN.out i wr h2 K.eq;have T:(i:Int)<2:=oM;have Z:∀W:Ur,(Vl 213 (.slice (some ⟨f.heap.size,0,none⟩) 2 2) (.int .i64 i)).run prog W=.ok (.pointer (some ⟨f.heap.size,i,none⟩)) W:=λW=>by
    have C:¬(i:Int)<0:=oM;have B:=lH f.heap.size 0 i;rw[UD]at B;go_simp
   have E2:=Hid.mkP J;have E4:=Hid.mkP e4;have E5:=Hid.mkP e5;clear J e4 e5;obtain⟨g,cap,rfl,-,-⟩:=K.pl.lt;have U:Hid (i+gk=2):=O;clear O;go_wp2;go_loopg [4,56] n (λm s4 s56 wi=>∃j:Nat,j+m=n/\s56=.int .i64 j/\Hid (PI w f a wi s4 (sU d t u s z or y i++lp b o j)))
   case atStart=>exact⟨0,oM,rfl,by
    have e:lp b o 0=[]:=rfl;rw[e,Xu];exact K⟩
   case round =>
    clear K;obtain⟨j,hj,rfl,K⟩:=hrel;obtain⟨g,cap,rfl,-,-⟩:=K.pl.lt;have H:(sU d t u s z or y i++lp b o j).length<=10000:=by
     have:=E5.out;rw[UA,jK];omega
    by_cases S:j<n
    ·have I:(j:Int)<(n:Int):=oM;obtain rfl:q=some ⟨b,o,none⟩:=by
      rcases E2.out with h|h
      ·omega
      ·exact h
     have h0:=TT b o n c j S;obtain⟨P,B⟩:∃P,Hid (wr.alloc (.cells (pC (⟨b,o+j,none⟩,33)).toArray 112)=P):=⟨_,rfl⟩
     obtain⟨v',W',E,C⟩:=K.app (x:=(⟨b,o+j,none⟩,33)) X.out H;rw[B.out]at E;obtain⟨g',G,rfl,-,-⟩:=C.pl.lt;generalize (sU d t u s z or y i++lp b o j++[((⟨b,o+j,none⟩:Wu),33)]).length=N2 at E C;rw[Vx,<-MC]at C;have M:=Hid.mkP C;have R1:=Hid.mkP E;generalize (sU d t u s z or y i++lp b o j).length=N1 at R1⊢;clear K E C H;go_wp2_with (first|(refine aY (v:=.slice (some ⟨wr.heap.size,0,none⟩) 1 1) (w':=P) rfl (.buildSlice 107 1 #[(0,.tmp 63)]) rfl ?_ ?_;(rw[<-B.out];kernel_rfl))|(at_builtin;refine WI P rfl _ _ _ _ rfl _ _ rfl rfl _ _ R1.out ?_)|fail)
     go_roundg (gk-1)
     case measure=>omega
     case rel=>exact⟨j+1,oM,rfl,M⟩
    ·have I:¬(j:Int)<(n:Int):=oM;obtain rfl:j=n:=oM;rw[<-E4.out]at K⊢;go_wp2;go_roundg (1-i)
     case measure =>
      have:=U.out;omega
     case rel=>exact⟨i+1,oM,rfl,K⟩
  ·have T:¬(i:Int)<2:=oM;obtain rfl:i=2:=oM;obtain⟨g,cap,rfl,-,-⟩:=K.pl.lt;have I:(sU d t u s z or y 2).length<=2007:=by
    show(tH d++lp t u s++lp z or y).length<=_;rw[UA,UA,jK,jK];show 7+_+_<=_;omega
   have P:=(aO wr (.cells (psC (endP d)).toArray 112)).trans (⟨rfl,rfl,rfl,Uw _,λ_ _=>rfl⟩:Below wr.heap.size (wr.alloc (.cells (psC (endP d)).toArray 112)) (wr.alloc (.cells (psC (endP d)).toArray 112)).drew);have N:(wr.alloc (.cells (psC (endP d)).toArray 112)).drew.rangeAt wr.heap.size 0 (psC (endP d)):=by
    rw[World.rangeAt_drew];exact eI wr _ _
   obtain⟨v',W',E,C,-,-⟩:=(K.pl.below P).app (m:=2) (c:=2) N rfl oM dC;have B:Hid ((Vt #[107,107] 107 #[.slice (some ⟨g,0,none⟩) (sU d t u s z or y 2).length cap,.slice (some ⟨wr.heap.size,0,none⟩) 2 2]).run prog (wr.alloc (.cells #[.pointer (some ⟨d,9,none⟩),.int .i64 32,.pointer (some ⟨d,10,none⟩),.int .i64 32] 112)).drew=.ok v' W'):=E;have M:=Hid.mkP C;obtain⟨g',G,rfl,-,-⟩:=C.lt;have J:sU d t u s z or y 2++endP d=tH d++lp t u s++lp z or y++endP d:=rfl;rw[J]at M B;generalize (tH d++lp t u s++lp z or y++endP d).length=N2 at M B;generalize (sU d t u s z or y 2).length=N1 at B⊢;clear K I E C P N J;go_wp2;go_region_law (refine Gn rfl (.tmp 68) (.tmp 77) 107 107 rfl (.slice (some ⟨g,0,none⟩) N1 cap) (.slice (some ⟨wr.heap.size,0,none⟩) 2 2) (by simp[yAC,UN]) (by simp[yAC,UN]) _ _ B.out ?_)
   go_wp2;go_ret;exact⟨_,rfl,M.out⟩
theorem Jd:(prog.info? 5).map (λi=>(i.size,i.bytes,i.zero.map λz=>z.cells.size))=some (1,1,some 1):=kR
def bC(b:SP.Bs):List Ut:=b.toList.map SP.encB
theorem yR(b:SP.Bs):(bC b).length=b.size:=by unfold bC;simp
theorem Bp(b:SP.Bs):∀u∈bC b,u.oneCell'=true:=by
 intro u k;obtain⟨x,-,rfl⟩:=Vn.1 k;rfl
theorem Qe(a b:SP.Bs):bC (a++b)=bC a++bC b:=by unfold bC;simp
theorem Pt.vl{W:Ur}{q:Option Wu}{n c:Nat}{b:SP.Bs}(h:Pt W (.slice q n c) b):n=b.size/\VL W q n (bC b):=by
 obtain⟨p,r,m,k⟩:=h;injection m with e1 e2 e3
 subst e1 e2;refine⟨rfl,⟨yR b,?_,?_,Bp b⟩⟩
 ·intro d;rcases k with k|⟨g,o,e,-⟩
  ·exact k
  ·rw[d]at e;cases e
 ·rcases k with k|⟨g,o,e,i,l⟩
  ·left;have:(bC b).length=0:=by rw[yR];exact k
   exact List.length_eq_zero_iff.1 this
  ·right;refine⟨g,o,e,i,λj u f=>?_⟩;unfold bC at f;rw[Vz]at f;obtain⟨x,hx,rfl⟩:=Uy.1 f;have d:j<b.size:=by
    have:=(UF.1 hx).1;simpa using this
   rw[(l j d).1];rw[getElem!_pos b j d];have:=(UF.1 hx).2;rw[Array.getElem_toList]at this;rw[this]
structure PuI(w w4 W:Ur)(gp gq:Nat)(v:Ut)(b:SP.Bs):Prop where
 bl:kZ w W
 ow:W.ownsRow w.heap.size 5 1 v b.size (bC b)
 nn:v.ownBlock≠none
 n1:v.ownBlock≠some gp
 n2:v.ownBlock≠some gq
 e1:W.heap[gp]? = w4.heap[gp]?
 e2:W.heap[gq]? = w4.heap[gq]?
 sz:w4.heap.size<=W.heap.size
 l1:gp<w4.heap.size
 l2:gq<w4.heap.size
theorem PuI.lt{w e W:Ur}{f i:Nat}{v:Ut}{b:SP.Bs}(h:PuI w e W f i v b):∃g cap,v=sZ g b.size cap/\w.heap.size<=g/\g<W.heap.size:=by
 rcases id h.ow with⟨-,⟨rfl,j⟩|⟨g,cap,cur,rfl,d,k,-⟩⟩
 ·exact absurd rfl h.nn
 ·refine⟨g,cap,rfl,d,?_⟩;by_cases c:g<W.heap.size
  ·exact c
  ·rw[WN oM]at k;cases k
theorem PuI.below{w j W W':Ur}{d e:Nat}{v:Ut}{b:SP.Bs}(h:PuI w j W d e v b)(k:kZ W W'):PuI w j W' d e v b:=by
 have m:=h.sz;refine⟨h.bl.trans (k.mono h.bl.size),?_,h.nn,h.n1,h.n2,by rw[k.block d (by have:=h.l1;omega)];exact h.e1,by rw[k.block e (by have:=h.l2;omega)];exact h.e2,UC m k.size,h.l1,h.l2⟩;rcases h.ow with⟨i,f|⟨g,cap,cur,f,o,c,l⟩⟩
 ·exact⟨i,U4 f⟩
 ·refine⟨i,UX ⟨g,cap,cur,f,o,?_,l⟩⟩;rw[k.block g (by
   by_cases n:g<W.heap.size
   ·exact n
   ·rw[WN oM]at c;cases c)]
  exact c
theorem zB:prog.underlying 23=some (.slice 5):=kR
theorem PuI.app{w y W:Ur}{n p:Nat}{v:Ut}{b x:SP.Bs}{q:Option Wu}{c:Nat}(h:PuI w y W n p v b)(hx:VL W q x.size (bC x))(M:b.size+x.size<=1000000):
 ∃l W',(Vt #[23,23] 23 #[v,.slice q x.size c]).run prog W=.ok l W'/\PuI w y W' n p l (b++x):=by
 obtain⟨i,t,C⟩:=Uy.1 Jd;simp only[V6.injEq]at C;obtain⟨D,K,G⟩:=C;obtain⟨z,A,s⟩:=Uy.1 G;obtain⟨g,cap,rfl,L,J⟩:=h.lt;have I:=h.sz;cases q with
 | none =>
  have E:=hx.nil rfl;obtain rfl:x=#[]:=ZG E;rcases id h.ow with⟨-,⟨d,-⟩|⟨N,r,cur,d,O,F,B,H⟩⟩
  ·cases d
  ·injection d with d _ h0'
   injection d with d
   injection d with d
   subst d h0';have m:=Y6 (P:=prog) W 23 23 23 5 i zB t g 0 b.size cap (.slice none 0 c) 0 [] (Src.ofNil (e':=5) _ zB c) B (λj f=>by cases f) (λj f=>by cases f);refine⟨_,_,m,?_⟩;rw[Array.append_empty];exact h
 | some a =>
  have m:∀(j:Nat) u,(bC x)[j]? = some u->W.cell? (a.add j)=some u:=λj u f=>by
   rcases hx.cells with d|⟨b,o,r,-,m⟩
   ·rw[d]at f;cases f
   ·obtain rfl:=UO.inj r;rw[lH];exact m j u f
  obtain⟨l,W',B,H,d,N⟩:=Y1 (P:=prog) W w.heap.size 23 23 5 i z 1 1 zB t A D K s dC _ b.size (bC b) h.ow a x.size c (bC x) (by rw[yR];omega) m (Bp x) (by unfold maxLen;omega) oM h.bl.size;have F:=wX (c:=c) zB t A D oM h.ow (yAB (P:=prog) (size:=1) W zB a x.size c (bC x) (by rw[yR];omega) m (Bp x)) oM B;have E:∀k,k<y.heap.size->l.ownBlock≠some k\/(sZ g b.size cap).ownBlock=some k:=λk r=>by
   rcases F with e|e
   ·by_cases hh:(sZ g b.size cap).ownBlock=some k
    ·exact UX hh
    ·left;rw[e];exact hh
   ·left;rw[e];intro hh;have:=UO.inj hh;omega
  refine⟨l,W',B,⟨⟨by rw[d.os,h.bl.os],by rw[d.tape,h.bl.tape],by rw[d.output,h.bl.output],UC h.bl.size d.size,λk r=>?_⟩,?_,?_,?_,?_,?_,?_,?_,h.l1,h.l2⟩⟩
  ·rw[d.block k (Ux r h.bl.size) (by simp[V9];omega)];exact h.bl.block k r
  ·rw[Array.size_append,Qe];exact H
  ·rcases F with e|e<;>rw[e]
   ·simp[V9]
   ·simp
  ·rcases E n h.l1 with e|e
   ·exact e
   ·exact absurd e h.n1
  ·rcases E p h.l2 with e|e
   ·exact e
   ·exact absurd e h.n2
  ·rw[d.block n (by have:=h.l1;omega) (λe=>h.n1 e.symm)];exact h.e1
  ·rw[d.block p (by have:=h.l2;omega) (λe=>h.n2 e.symm)];exact h.e2
  ·exact UC I d.size
theorem Dy{t n m size c:Nat}{T e:U8}{i:TypeInfo}{z:Ut}{W W':Ur}{v y:Ut}{xs o:List Ut}{a:Wu}(D:prog.underlying T=some (.slice e))(E:prog.info? e=some i)(K:i.zero=some z)(F:i.size=size)(H:i.bytes<=1000)
 (b:W.ownsRow t e size v n xs) (s:Src prog size T (.slice (some a) m c) m o W) (k:n+m<=1000000000)
 (r:(Vt #[T,T] T #[v,.slice (some a) m c]).run prog W=.ok y W'):y.ownBlock=v.ownBlock\/(y.ownBlock=some W.heap.size/\kZ W W'):=by
 subst F;have f:∀(q:Option Wu) (cap:Nat) (olds:List Ut),v=.slice q n cap->cap<n+m->(Zh i.size n (.slice q n cap)).run prog W.drew=.ok olds.toArray W.drew->y.ownBlock=v.ownBlock\/(y.ownBlock=some W.heap.size/\kZ W W'):=λq cap olds hv I w=>by
  have G:=uC (n+m) cap I;have B:Ys (n+m) cap*i.bytes<=(2*(n+m)+768)*1000:=WQ G H;have p:=run_append_grow_src (P:=prog) W T T T e i z D E K q n cap olds w (.slice (some a) m c) m o s I oM (UC B (by clear G B;omega));rw[hv,p]at r;injection r with hr1 k
  right;refine⟨by rw[<-hr1];rfl,?_⟩;rw[<-k];exact(⟨rfl,rfl,rfl,Uw _,λ_ _=>rfl⟩:kZ W W.drew).trans (aO W.drew _)
 rcases id b with⟨-,⟨rfl,rfl⟩|⟨g,cap,cur,rfl,R,J,O,Q,M,N⟩⟩
 ·by_cases L:m=0
  ·subst L;have C:=r;obtain⟨A,k⟩:∃A,(Vt #[T,T] T #[.slice none 0 0,.slice (some a) 0 c]).run prog W=.ok (.slice none 0 0) A:=by
    rcases s.kind with⟨e',d⟩|d<;>exact⟨_,by simp[Vt,XY D,XY d,sizeOf,typeInfo,E,s.len,s.cells];rfl⟩
   rw[k]at r;injection r with hr1 k
   left;rw[<-hr1]
  ·exact f none 0 [] rfl oM (run_firstCells_none W.drew i.size 0 0 0)
 ·by_cases d:n+m<=cap
  ·have p:=Y6 (P:=prog) W T T T e i D E g 0 n cap (.slice (some a) m c) m o s d
    (λj A=>by
     have C:n*i.size+j<cur.size:=by
      rw[M];have G:j<m*i.size:=by rw[<-s.newsLen];exact A
      have B:(n+m)*i.size<=cap*i.size:=Xs _ d;rw[XF]at B;omega
     simp[VY,J,UD,U0 C])
    (λj A=>by simp[WW,J])
   rw[p]at r;injection r with hr1 k
   left;rw[<-hr1];rfl
  ·refine f (some (aZ g)) cap xs rfl oM ?_;exact run_firstCells_some W.drew i.size n (aZ g) n cap xs b.1 (λj u A=>by rw[YY];exact b.cells (g:=g) rfl j u A)
structure Ap1(W W':Ur)(v v':Ut):Prop where
 os:W'.os=W.os
 tape:W'.tape=W.tape
 output:W'.output=W.output
 size:W.heap.size<=W'.heap.size
 keep:∀g,g<W.heap.size->v.ownBlock≠some g->W'.heap[g]? = W.heap[g]?
 mv:v'.ownBlock=v.ownBlock\/((∃g,v'.ownBlock=some g/\W.heap.size<=g)/\∀g,g<W.heap.size->W'.heap[g]? = W.heap[g]?)
theorem bZ{W W':Ur}{b n k:Nat}{e:U8}{v:Ut}{xs:List Ut}(h:W.ownsRow b e k v n xs)(i:∀g,v.ownBlock=some g->W'.heap[g]? = W.heap[g]?):W'.ownsRow b e k v n xs:=by
 rcases h with⟨c,l|⟨g,cap,cur,rfl,j,d,f⟩⟩
 ·exact⟨c,U4 l⟩
 ·exact⟨c,UX ⟨g,cap,cur,rfl,j,by rw[i g rfl];exact d,f⟩⟩
theorem jG{W:Ur}{b n k g:Nat}{e:U8}{v:Ut}{xs:List Ut}(h:W.ownsRow b e k v n xs)(c:v.ownBlock=some g):b<=g/\g<W.heap.size/\∃cur,W.heap[g]? = some (.cells cur e (0,0)):=by
 rcases h with⟨l,⟨rfl,-⟩|⟨f,cap,cur,rfl,i,d,j⟩⟩
 ·cases c
 ·obtain rfl:f=g:=UO.inj c;refine⟨i,?_,cur,d⟩;by_cases c:f<W.heap.size
  ·exact c
  ·rw[WN oM]at d;cases d
theorem Dx{W:Ur}{B g c:Nat}{b:SP.Bs}(h:W.ownsRow B 5 1 (sZ g b.size c) b.size (bC b)):Holds SP.encB W g 0 b:=λk e=>by
 obtain⟨-,-,cur,f⟩:=jG h (g:=g) rfl;refine⟨?_,by simp[WW,f]⟩;have d:=h.cells (g:=g) rfl k (SP.encB b[k]!) (by
  unfold bC;rw[Vz,UG (by simpa using e),Option.map_some,getElem!_pos b k e];simp)
 rw[lH]at d;exact d
theorem FV{k n ga:Nat}{W:Ur}{v x:Ut}{xs:List Ut}(b:W.ownsRow k 23 1 v n xs)(hx:x.oneCell'=true)(d:W.cell? ⟨ga,0,none⟩=some x)(I:n<=1000)(H:k<=W.heap.size):
 ∃m W',(Vt #[24,24] 24 #[v,sZ ga 1 1]).run prog W=.ok m W'/\W'.ownsRow k 23 1 m (n+1) (xs++[x])/\Ap1 W W' v m:=by
 obtain⟨i,A,y⟩:=Uy.1 Je;simp only[V6.injEq]at y;obtain⟨B,G,C⟩:=y;obtain⟨z,r,p⟩:=Uy.1 C;have s:∀(j:Nat) u,[x][j]? = some u->W.cell? ((⟨ga,0,none⟩:Wu).add j)=some u:=λj u t=>by
  rw[lH,UD];have e:j=0:=by have:=(UF.1 t).1;simp at this;omega
  subst e;obtain rfl:x=u:=by simpa using t
  exact d
 have f:∀u∈[x],u.oneCell'=true:=λu F=>by
  obtain rfl:u=x:=by simpa using F
  exact hx
 obtain⟨m,W',w,D,e,-⟩:=Y1 (P:=prog) W k 24 24 23 i z 1 24 v7 A r B G p dC v n xs b (aZ ga) 1 1 [x] rfl s f (by unfold maxLen;omega) oM H;have E:=Dy (c:=1) v7 A r B oM b (yAB (P:=prog) (size:=1) W v7 (aZ ga) 1 1 [x] rfl s f) oM w;refine⟨m,W',w,D,e.os,e.tape,e.output,e.size,λg q hv=>e.block g q (λh=>hv h.symm),?_⟩;rcases E with h|⟨h,o⟩
 ·exact U4 h
 ·exact UX ⟨⟨_,h,Uw _⟩,λg q=>o.block g q⟩
section
variable {Q Q':Nat->Prop}{W:Ur}{v:Ut}{n:Nat}
theorem SmQ.mono2{l:List (Nat × Bs)}(h:SmQ Q W v l)(e:∀g,g<W.heap.size->Q g->Q' g):SmQ Q' W v l:=by
 obtain⟨g,c,f,d,b,k,i⟩:=h;exact⟨g,c,f,d,e g k b,k,i⟩
theorem SLq.mono2{a:Nat->Nat}(h:SLq Q W v n a)(e:∀g,g<W.heap.size->Q g->Q' g):SLq Q' W v n a:=by
 obtain⟨g,o,c,f,d,b,k,i⟩:=h;exact⟨g,o,c,f,d,e g k b,k,i⟩
theorem GLq.mono2{T:Nat->List (Nat × Bs)}(h:GLq Q W v n T)(b:∀g,g<W.heap.size->Q g->Q' g):GLq Q' W v n T:=by
 obtain⟨g,o,c,i,e,d,k,m⟩:=h;refine⟨g,o,c,i,e,b g k d,k,λj l=>?_⟩;obtain⟨x,f,p⟩:=m j l;exact⟨x,f,p.mono2 b⟩
theorem GRq.mono2{G H:Nat->List (Nat × Bs)}{U:List (Nat × Bs)}(h:GRq Q W v n G H U)(k:∀g,g<W.heap.size->Q g->Q' g):GRq Q' W v n G H U:=by
 obtain⟨j,c,f,i,e,b,d⟩:=h.ex;exact⟨j,c,f,i,e.mono2 k,b.mono2 k,d.mono2 k⟩
end
def ElQ(Q:Nat->Prop)(m:Nat)(W:Ur)(x:Ut)(b:Bs):Prop:=∃k c,x=sZ k m c/\m<=c/\b.size=m/\Q k/\k<W.heap.size/\Holds encB W k 0 b
section
variable {Q Q':Nat->Prop}{W W':Ur}{x:Ut}{m:Nat}{b:Bs}
theorem ElQ.keep(h:ElQ Q m W x b)(f:Kq Q W W'):ElQ Q m W' x b:=by
 obtain⟨k,c,o,l,i,d,g,n⟩:=h;refine⟨k,c,o,l,i,d,Ux g f.size,λj p=>?_⟩;have e:=f.block k d g;rw[UW (a:=⟨k,0+j,none⟩) e,VU (a:=⟨k,0+j,none⟩) e];exact n j p
theorem ElQ.mono2(h:ElQ Q m W x b)(j:∀g,g<W.heap.size->Q g->Q' g):ElQ Q' m W x b:=by
 obtain⟨k,c,n,i,e,f,d,l⟩:=h;exact⟨k,c,n,i,e,j k d f,d,l⟩
theorem ElQ.one(h:ElQ Q m W x b):x.cells=#[x]/\x.oneCell'=true:=by
 obtain⟨k,c,rfl,-⟩:=h;exact⟨rfl,rfl⟩
theorem ElQ.arg(h:ElQ Q 33 W x b):Arg33 W x b:=by
 obtain⟨k,c,rfl,e,d,-,g,f⟩:=h;exact⟨_,33,c,rfl,d,λ_=>⟨k,0,rfl,e,g,f⟩⟩
end
def r33(g:Nat):Ut:=sZ g 33 33
def r32(g:Nat):Ut:=sZ g 32 32
theorem fZ{a:Bs}(f:a.size=33)(w:Ur):UH prog 142 #[pvl a] w (rZ w λe w'=>ElQ (w.heap.size<=·) 33 w' e a/\∃g,e=r33 g):=by
 have i:=Hid.mk' (rM f w);obtain⟨c,k⟩:=hE (w.alloc (.cells (aA a).toArray 103));rw[k.out]at i;have K:Hid (Row c w.heap.size (aA a)/\kZ w c):=by rw[<-k.out];exact⟨aE w _ _,aC w _⟩
 obtain⟨va,b⟩:=hE (pvl a);have d:Hid ((Ve 103 va).run prog w=.ok (jZ w.heap.size) c):=by rw[<-b.out];exact i
 rw[b.out];have j:=QM w.heap.size;go_enter func142,ntmps142;go_wp2_with (first|(refine aF (u:=va) (v:=jZ w.heap.size) (w':=c) rfl 103 (.tmp 0) rfl ?_ ?_ ?_;rfl;exact d.out))
 go_ret;exact⟨_,rfl,K.2,⟨w.heap.size,33,rfl,oM,f,Uw _,K.1.1,row_holds K.1⟩,_,rfl⟩
structure TlL(Q:Nat->Prop)(base i:Nat)(W:Ur)(v:Ut)(B:Nat->Bs):Prop where
 ex:∃xs,W.ownsRow base 23 1 v i xs/\∀j,j<i->∃x,xs[j]? = some x/\ElQ Q 33 W x (B j)
def QH(r k:Nat)(c b:Ut)(g:Nat):Prop:=g≠r/\(g<k\/k+4<=g)/\c.ownBlock≠some g/\b.ownBlock≠some g
def Dj(W:Ur)(B i j:Nat)(v u:Ut):Prop:=∃l m:List Nat,(l++m).Nodup/\W.ownsRow 0 23 1 v i (l.map r33)/\W.ownsRow 0 23 1 u j (m.map r33)/\∀g,g∈l++m->B<=g/\g<W.heap.size
theorem O8{l m:List Nat}{g:Nat}(h:(l++m).Nodup)(k:g ∉ l++m):(l++[g]++m).Nodup:=by
 simp only[YW,Wz,not_or,WM,XT,UY,not_false_eq_true,yBr,and_true,true_and]at *;grind
theorem Mz{l m:List Nat}(h:(l++m).Nodup):(m++l).Nodup:=by
 simp only[YW]at *;grind
theorem IP{W:Ur}{b e n:Nat}{T:U8}{v:Ut}{xs ys:List Ut}(k:W.ownsRow b T 1 v n xs)(c:W.ownsRow e T 1 v n ys):xs=ys:=by
 have m:=k.1;have l:=c.1;rcases id k with⟨-,⟨-,f⟩|⟨g,cap,cur,rfl,-⟩⟩
 ·subst f;rw[ZN (by omega:xs.length=0),ZN (by omega:ys.length=0)]
 ·refine List.ext_getElem? λj=>?_
  by_cases i:j<n
  ·have d:=k.cells (g:=g) rfl j xs[j] (UG oM);have a2:=c.cells (g:=g) rfl j ys[j] (UG oM);rw[d]at a2;rw[UG (by omega:j<xs.length),UG (by omega:j<ys.length)];exact a2
  ·rw[Wx oM,Wx oM]
section
variable {W W' W1:Ur}{B i j:Nat}{v u:Ut}
theorem Dj.keep(h:Dj W B i j v u)(f:W.heap.size<=W'.heap.size)(hv:∀g,v.ownBlock=some g->W'.heap[g]? = W.heap[g]?)(c:∀g,u.ownBlock=some g->W'.heap[g]? = W.heap[g]?):Dj W' B i j v u:=by
 obtain⟨l,m,n,e,d,k⟩:=h;exact⟨l,m,n,bZ e hv,bZ d c,λg b=>⟨(k g b).1,Ux (k g b).2 f⟩⟩
theorem Dj.swap(h:Dj W B i j v u):Dj W B j i u v:=by
 obtain⟨l,m,e,d,b,c⟩:=h;exact⟨m,l,Mz e,b,d,λg k=>c g (by rw[Wz]at k⊢;exact k.symm)⟩
theorem Dj.app{g:Nat}{r:Ut}{xs:List Ut}{b:Nat}(h:Dj W B i j v u)(p:B<=g/\W.heap.size<=g/\g<W'.heap.size)(t:W.heap.size<=W'.heap.size)(hx:W1.ownsRow b 23 1 v i xs)(hv:∀g,v.ownBlock=some g->W1.heap[g]? = W.heap[g]?)(w:∀g,u.ownBlock=some g->W'.heap[g]? = W.heap[g]?)(f:W'.ownsRow b 23 1 r (i+1) (xs++[r33 g])):Dj W' B (i+1) j r u:=by
 obtain⟨l,m,d,s,k,n⟩:=h;rw[IP hx (bZ s hv)]at f;refine⟨l++[g],m,O8 d λe=>by have:=(n g e).2;omega,?_,bZ k w,λq c=>?_⟩
 ·rw[We];rcases f with⟨o,d|⟨g,cap,cur,rfl,s,k⟩⟩
  ·exact⟨o,U4 d⟩
  ·exact⟨o,UX ⟨g,cap,cur,rfl,Wy _,k⟩⟩
 ·by_cases e:q=g
  ·rw[e];exact⟨p.1,p.2.2⟩
  ·have o:=n q (by simp only[Wz,WM]at c⊢;grind);exact⟨o.1,Ux o.2 t⟩
end
def R3(W:Ur)(K:Nat)(x y:Ut):Prop:=K<W.heap.size/\∃k,k.length=2/\Row W K (x :: y :: k)
theorem R3.same{W W':Ur}{K:Nat}{x y:Ut}(h:R3 W K x y)(k:W.heap.size<=W'.heap.size)(e:W'.heap[K]? = W.heap[K]?):R3 W' K x y:=by
 obtain⟨d,f,c,b⟩:=h;exact⟨Ux d k,f,c,aV b k e⟩
structure Ph(w W:Ur)(r k iL iR n:Nat)(cL cR vL vR v va vb:Ut)(Lb Rb:Nat->Bs)(L:Bs)(a b:Nat->Nat)(G H:Nat->List (Nat × Bs))(U:List (Nat × Bs)):Prop where
 on:SP.Only r 0 32 w W
 rk:r<k
 wk:w.heap.size=k
 r0:Row W k [jZ r]
 r1:∃e:Array Ut,v=.agg e/\e.size=3/\e.all (·.oneCell')=true/\Row W (k+1) e.toList
 r2:Row W (k+2) [.slice none 0 0,.slice none 0 0,.slice none 0 0,.slice none 0 0]
 r3:R3 W (k+3) cL cR
 tL:TlL (QH r k vL vR) (k+4) iL W vL Lb
 tR:TlL (QH r k vL vR) (k+4) iR W vR Rb
 ne:∀g,vL.ownBlock=some g->vR.ownBlock≠some g
 la:SLq (QH r k vL vR) W va n a
 lb:SLq (QH r k vL vR) W vb n b
 gr:GRq (QH r k vL vR) W v n G H U
 lg:Holds encB W r 0 L
 ls:L.size=32
 dj:Dj W (k+4) iL iR vL vR
section
variable {w W W' W1:Ur}{r k iL iR n:Nat}{cL cR vL vR v va vb:Ut}{Lb Rb:Nat->Bs}{L:Bs}{a b:Nat->Nat}{G H:Nat->List (Nat × Bs)}{U:List (Nat × Bs)}
theorem TlL.lt{Q:Nat->Prop}{k i:Nat}{B:Nat->Bs}(h:TlL Q k i W v B){g:Nat}(b:v.ownBlock=some g):k<=g/\g<W.heap.size:=by
 obtain⟨xs,c,-⟩:=h.ex;have:=jG c b;exact⟨this.1,this.2.1⟩
theorem TlL.keep{Q:Nat->Prop}{k i:Nat}{B:Nat->Bs}(h:TlL Q k i W v B)(l:Kq Q W W')(ho:∀g,v.ownBlock=some g->W'.heap[g]? = W.heap[g]?):TlL Q k i W' v B:=by
 obtain⟨xs,e,d⟩:=h.ex;refine⟨xs,bZ e ho,λj f=>?_⟩;obtain⟨x,b,c⟩:=d j f;exact⟨x,b,c.keep l⟩
theorem TlL.mono2{Q Q':Nat->Prop}{k i:Nat}{B:Nat->Bs}(h:TlL Q k i W v B)(e:∀g,g<W.heap.size->Q g->Q' g):TlL Q' k i W v B:=by
 obtain⟨xs,f,d⟩:=h.ex;refine⟨xs,f,λj l=>?_⟩;obtain⟨x,b,c⟩:=d j l;exact⟨x,b,c.mono2 e⟩
theorem Ph.qn(h:Ph w W r k iL iR n cL cR vL vR v va vb Lb Rb L a b G H U):∀g,W.heap.size<=g->QH r k vL vR g:=λg c =>
 ⟨by have:=h.rk;have:=h.r0.1;omega,UX (by have:=h.r3.1;omega),λe=>by have:=h.tL.lt e;omega,λe=>by have:=h.tR.lt e;omega⟩
theorem Ph.any(h:Ph w W r k iL iR n cL cR vL vR v va vb Lb Rb L a b G H U)(m:SP.Only r 0 32 w W')(kq:Kq (QH r k vL vR) W W')(c:∀g,k<=g->g<k+4->W'.heap[g]? = W.heap[g]?)(i:∀g,vL.ownBlock=some g->W'.heap[g]? = W.heap[g]?)(j:∀g,vR.ownBlock=some g->W'.heap[g]? = W.heap[g]?){f:Bs}(p:Holds encB W' r 0 f)(d:f.size=32):Ph w W' r k iL iR n cL cR vL vR v va vb Lb Rb f a b G H U:=by
 obtain⟨e,l,o,e3,q⟩:=h.r1;exact⟨m,h.rk,h.wk,aV h.r0 kq.size (c k oM oM),⟨e,l,o,e3,aV q kq.size (c _ oM oM)⟩,aV h.r2 kq.size (c _ oM oM),h.r3.same kq.size (c _ oM oM),h.tL.keep kq i,h.tR.keep kq j,h.ne,h.la.keep kq,h.lb.keep kq,h.gr.keep kq,p,d,h.dj.keep kq.size i j⟩
theorem Ph.grow(h:Ph w W r k iL iR n cL cR vL vR v va vb Lb Rb L a b G H U)(c:kZ W W'):Ph w W' r k iL iR n cL cR vL vR v va vb Lb Rb L a b G H U:=by
 have e:=Holds.lt h.lg (by rw[h.ls];decide);exact h.any (h.on.trans (SP.Only.of_below c rfl e)) (Kq.of_below c) (λg i f=>c.block g (by have:=h.r3.1;omega)) (λg d=>c.block g (h.tL.lt d).2) (λg d=>c.block g (h.tR.lt d).2) (Holds.below h.lg c e) h.ls
theorem Ph.drew(h:Ph w W r k iL iR n cL cR vL vR v va vb Lb Rb L a b G H U):Ph w W.drew r k iL iR n cL cR vL vR v va vb Lb Rb L a b G H U:=h.grow ⟨rfl,rfl,rfl,Uw _,λ_ _=>rfl⟩
theorem Ph.say{e:Bs}(h:Ph w W r k iL iR n cL cR vL vR v va vb Lb Rb L a b G H U)(d:SP.Only r 0 32 W W')(j:Holds encB W' r 0 e)(i:e.size=32):Ph w W' r k iL iR n cL cR vL vR v va vb Lb Rb e a b G H U:=by
 have f:=h.rk;exact h.any (h.on.trans d) (Kq.of_only d λg c=>c.1) (λg m l=>d.block g (by have:=h.r3.1;omega) oM) (λg c=>d.block g (h.tL.lt c).2 (by have:=(h.tL.lt c).1;omega)) (λg c=>d.block g (h.tR.lt c).2 (by have:=(h.tR.lt c).1;omega)) j i
theorem FW{m n:Ut}{k:Nat}(b:SP.Only r 0 32 w W)(c:Ap1 W W' m n)(q:w.heap.size=k)(i:r<k)(hv:∀g,m.ownBlock=some g->k+4<=g):SP.Only r 0 32 w W':=by
 have p:=b.size;have f:∀j,j<k->W'.heap[j]? = W.heap[j]?:=λj l=>c.keep j oM λe=>by have:=hv j e;omega
 exact⟨c.os.trans b.os,c.tape.trans b.tape,c.output.trans b.output,UC b.size c.size,λj l d=>(f j oM).trans (b.block j l d),λo ho=>by rw[UW (a:=⟨r,o,none⟩) (f r i)];exact b.cell o ho,λo=>by rw[VU (a:=⟨r,o,none⟩) (f r i)];exact b.froz o⟩
theorem jM{W W':Ur}{r:Nat}{L:Bs}(h:Holds encB W r 0 L)(e:W'.heap[r]? = W.heap[r]?):Holds encB W' r 0 L:=λj k=>by
 rw[UW (a:=⟨r,0+j,none⟩) e,VU (a:=⟨r,0+j,none⟩) e];exact h j k
theorem TlL.app{Q Q':Nat->Prop}{k i:Nat}{B:Nat->Bs}{f x:Ut}{xs:List Ut}(c:∀j,j<i->∃x,xs[j]? = some x/\ElQ Q 33 W x (B j))(b:xs.length=i)(ho:W'.ownsRow k 23 1 f (i+1) (xs++[x]))(hx:ElQ Q 33 W x (B i))(d:∀g,g<W.heap.size->Q g->Q' g)(kq:Kq Q' W W'):TlL Q' k (i+1) W' f B:=by
 refine⟨_,ho,λj n=>?_⟩;by_cases e:j=i
 ·subst e;exact⟨x,by rw[U1 oM,b];simp,(hx.mono2 d).keep kq⟩
 ·obtain⟨y,m,l⟩:=c j oM;exact⟨y,by rw[UT oM];exact m,(l.mono2 d).keep kq⟩
theorem Ph.appL{ga gx:Nat}(l:Ph w W1 r k iL iR n cL cR vL vR v va vb Lb Rb L a b G H U)(i:kZ W1 W)(o:ElQ (W1.heap.size<=·) 33 W (r33 gx) (Lb iL))(x:W.cell? ⟨ga,0,none⟩=some (r33 gx))(P:iL<=900):
 ∃j W',(Vt #[24,24] 24 #[vL,sZ ga 1 1]).run prog W=.ok j W'/\Ph w W' r k (iL+1) iR n cL cR j vR v va vb Lb Rb L a b G H U/\Ap1 W W' vL j:=by
 have h:=l.grow i;have hx:=o.mono2 λg _ c=>l.qn g c
 obtain⟨xs,s,N⟩:=h.tL.ex;obtain⟨j,W',C,t,A⟩:=FV s hx.one.2 x oM (by have:=h.r3.1;omega);have p:∀g,g<W.heap.size->QH r k vL vR g->QH r k j vR g:=λg c q=>⟨q.1,q.2.1,λe=>by
  rcases A.mv with m|⟨⟨K,m,u⟩,-⟩
  ·rw[m]at e;exact q.2.2.1 e
  ·rw[m]at e;have:=UO.inj e;omega,q.2.2.2⟩
 have kq:Kq (QH r k j vR) W W':=⟨A.size,λg q c=>by
  rcases A.mv with m|⟨-,m⟩
  ·exact A.keep g c (by rw[<-m];exact q.2.2.1)
  ·exact m g c⟩
 have d:∀g,vL.ownBlock=some g->k+4<=g:=λg c=>(h.tL.lt c).1
 have M:=h.on.size;have B:=h.wk;have y:=h.rk;have f:∀g,k<=g->g<k+4->W'.heap[g]? = W.heap[g]?:=λg R O=>A.keep g (by have:=h.r3.1;omega) λe=>by have:=d g e;omega
 obtain⟨e,J,E,e3,I⟩:=h.r1;refine⟨j,W',C,⟨FW h.on A h.wk h.rk d,h.rk,h.wk,aV h.r0 A.size (f k oM oM),⟨e,J,E,e3,aV I A.size (f _ oM oM)⟩,aV h.r2 A.size (f _ oM oM),h.r3.same A.size (f _ oM oM),TlL.app N (by have:=s.1;omega) t hx p kq,(h.tR.mono2 p).keep kq λg c=>A.keep g (h.tR.lt c).2 λe=>h.ne g e c,λg c e=>?_,(h.la.mono2 p).keep kq,(h.lb.mono2 p).keep kq,(h.gr.mono2 p).keep kq,jM h.lg (A.keep r oM λe=>by have:=d r e;omega),h.ls,(by
  obtain⟨z,Q,e,-,-,F,D,-⟩:=o;have e:=congrArg V9 e;obtain rfl:gx=z:=UO.inj e;exact(l.dj.app ⟨by have:=l.r3.1;omega,F,Ux D A.size⟩ (UC i.size A.size) s (λg c=>i.block g (l.tL.lt c).2) (λg c=>(A.keep g (h.tR.lt c).2 λe=>h.ne g e c).trans (i.block g (l.tR.lt c).2)) t))⟩,A⟩
 rcases A.mv with m|⟨⟨K,m,u⟩,-⟩
 ·rw[m]at c;exact h.ne g c e
 ·rw[m]at c;have:=UO.inj c;have:=(h.tR.lt e).2;omega
theorem Ph.appR{ga gx:Nat}(l:Ph w W1 r k iL iR n cL cR vL vR v va vb Lb Rb L a b G H U)(i:kZ W1 W)(o:ElQ (W1.heap.size<=·) 33 W (r33 gx) (Rb iR))(x:W.cell? ⟨ga,0,none⟩=some (r33 gx))(P:iR<=900):
 ∃j W',(Vt #[24,24] 24 #[vR,sZ ga 1 1]).run prog W=.ok j W'/\Ph w W' r k iL (iR+1) n cL cR vL j v va vb Lb Rb L a b G H U/\Ap1 W W' vR j:=by
 have h:=l.grow i;have hx:=o.mono2 λg _ c=>l.qn g c
 obtain⟨xs,s,N⟩:=h.tR.ex;obtain⟨j,W',C,t,A⟩:=FV s hx.one.2 x oM (by have:=h.r3.1;omega);have p:∀g,g<W.heap.size->QH r k vL vR g->QH r k vL j g:=λg c q=>⟨q.1,q.2.1,q.2.2.1,λe=>by
  rcases A.mv with m|⟨⟨K,m,u⟩,-⟩
  ·rw[m]at e;exact q.2.2.2 e
  ·rw[m]at e;have:=UO.inj e;omega⟩
 have kq:Kq (QH r k vL j) W W':=⟨A.size,λg q c=>by
  rcases A.mv with m|⟨-,m⟩
  ·exact A.keep g c (by rw[<-m];exact q.2.2.2)
  ·exact m g c⟩
 have d:∀g,vR.ownBlock=some g->k+4<=g:=λg c=>(h.tR.lt c).1
 have M:=h.on.size;have B:=h.wk;have y:=h.rk;have f:∀g,k<=g->g<k+4->W'.heap[g]? = W.heap[g]?:=λg R O=>A.keep g (by have:=h.r3.1;omega) λe=>by have:=d g e;omega
 obtain⟨e,J,E,e3,I⟩:=h.r1;refine⟨j,W',C,⟨FW h.on A h.wk h.rk d,h.rk,h.wk,aV h.r0 A.size (f k oM oM),⟨e,J,E,e3,aV I A.size (f _ oM oM)⟩,aV h.r2 A.size (f _ oM oM),h.r3.same A.size (f _ oM oM),(h.tL.mono2 p).keep kq λg c=>A.keep g (h.tL.lt c).2 λe=>h.ne g c e,TlL.app N (by have:=s.1;omega) t hx p kq,λg c e=>?_,(h.la.mono2 p).keep kq,(h.lb.mono2 p).keep kq,(h.gr.mono2 p).keep kq,jM h.lg (A.keep r oM λe=>by have:=d r e;omega),h.ls,(by
  obtain⟨z,Q,e,-,-,F,D,-⟩:=o;have e:=congrArg V9 e;obtain rfl:gx=z:=UO.inj e;exact(l.dj.swap.app ⟨by have:=l.r3.1;omega,F,Ux D A.size⟩ (UC i.size A.size) s (λg c=>i.block g (l.tR.lt c).2) (λg c=>(A.keep g (h.tL.lt c).2 λe=>h.ne g c e).trans (i.block g (l.tL.lt c).2)) t).swap)⟩,A⟩
 rcases A.mv with m|⟨⟨K,m,u⟩,-⟩
 ·rw[m]at e;exact h.ne g c e
 ·rw[m]at e;have:=UO.inj e;have:=(h.tL.lt c).2;omega
theorem kQ{W:Ur}{K o:Nat}{vs:List Ut}{x:Ut}(h:Row W K vs)(ho:o<vs.length):Row (W.setCells K o [x]) K (vs.set o x):=by
 have d:W.there K o 1:=λt d=>by
  have k:t=0:=oM;subst k;have:=h.2.2 o ho;rwa[UD]at this
 refine⟨by rw[setCells_size];exact h.1,λj u b=>?_,by rw[yBc];exact VW h.2.2 _ _ _⟩;rw[List.getElem?_set]at b;by_cases e:o=j
 ·subst e;rw[yCj rfl,yCj ho]at b;obtain rfl:x=u:=by simpa using b
  have:=VO W K o [x] d 0 x rfl;rw[UD];exact this
 ·rw[yCk e]at b;have f:W.rangeAt K j [u]:=λt y c=>by
   have k:t=0:=by have:=(UF.1 c).1;simp at this;omega
   subst k;obtain rfl:u=y:=by simpa using c
   have:=h.2.1 j u b;rw[UD]at this;exact this
  have:=Vh f K o [x] (UX (by simp;omega)) 0 u rfl;rw[UD];exact this
theorem jF{k K o:Nat}{vs:List Ut}(h:SP.Only r 0 32 w W)(d:w.heap.size=k)(c:r<k)(b:k<=K):SP.Only r 0 32 w (W.setCells K o vs):=dW h oM oM _
theorem Ph.put(h:Ph w W r k iL iR n cL cR vL vR v va vb Lb Rb L a b G H U):Ph w ((W.setCells (k+3) 0 [vL]).setCells (k+3) 1 [vR]) r k iL iR n vL vR vL vR v va vb Lb Rb L a b G H U:=by
 have l:=h.rk;have c:∀g,g≠k+3->((W.setCells (k+3) 0 [vL]).setCells (k+3) 1 [vR]).heap[g]? = W.heap[g]?:=λg f=>(aH (k+3) [vR] 1 _ g f).trans (aH (k+3) [vL] 0 W g f)
 have d:W.heap.size<=((W.setCells (k+3) 0 [vL]).setCells (k+3) 1 [vR]).heap.size:=by rw[setCells_size,setCells_size];exact Uw _
 have kq:Kq (QH r k vL vR) W ((W.setCells (k+3) 0 [vL]).setCells (k+3) 1 [vR]):=⟨d,λg q _=>c g (by have:=q.2.1;omega)⟩
 obtain⟨e,i,o,e3,t⟩:=h.r1;exact⟨jF (jF h.on h.wk h.rk oM) h.wk h.rk oM,h.rk,h.wk,aV h.r0 d (c _ oM),⟨e,i,o,e3,aV t d (c _ oM)⟩,aV h.r2 d (c _ oM),(by
  obtain⟨p,s,m,j⟩:=h.r3;exact⟨Ux p d,s,m,kQ (kQ j (Y0 _)) (yA9 (Y0 _))⟩),h.tL.keep kq λg f=>c g (by have:=(h.tL.lt f).1;omega),h.tR.keep kq λg f=>c g (by have:=(h.tR.lt f).1;omega),h.ne,h.la.keep kq,h.lb.keep kq,h.gr.keep kq,jM h.lg (c r oM),h.ls,h.dj.keep d (λg f=>c g (by have:=(h.tL.lt f).1;omega)) (λg f=>c g (by have:=(h.tR.lt f).1;omega))⟩
theorem Ph.putA{o:Nat}{x:Ut}(h:Ph w W r k iL iR n cL cR vL vR v va vb Lb Rb L a b G H U)(ho:o<2):Ph w (W.setCells (k+3) (o+2) [x]) r k iL iR n cL cR vL vR v va vb Lb Rb L a b G H U:=by
 have j:=h.rk;have c:∀g,g≠k+3->(W.setCells (k+3) (o+2) [x]).heap[g]? = W.heap[g]?:=λg f=>aH (k+3) [x] _ _ g f
 have d:W.heap.size<=(W.setCells (k+3) (o+2) [x]).heap.size:=by rw[setCells_size];exact Uw _
 have kq:Kq (QH r k vL vR) W (W.setCells (k+3) (o+2) [x]):=⟨d,λg q _=>c g (by have:=q.2.1;omega)⟩
 obtain⟨e,s,m,e3,p⟩:=h.r1;exact⟨jF h.on h.wk h.rk oM,h.rk,h.wk,aV h.r0 d (c _ oM),⟨e,s,m,e3,aV p d (c _ oM)⟩,aV h.r2 d (c _ oM),(by
  obtain⟨u,l,t,i⟩:=h.r3;exact⟨Ux u d,l.set o x,by rw[yBc,t],kQ (o:=o+2) i (by simp;omega)⟩),h.tL.keep kq λg f=>c g (by have:=(h.tL.lt f).1;omega),h.tR.keep kq λg f=>c g (by have:=(h.tR.lt f).1;omega),h.ne,h.la.keep kq,h.lb.keep kq,h.gr.keep kq,jM h.lg (c r oM),h.ls,h.dj.keep d (λg f=>c g (by have:=(h.tL.lt f).1;omega)) (λg f=>c g (by have:=(h.tR.lt f).1;omega))⟩
theorem Ph.next{m:Nat}{i j:Ut}{e':Array Ut}{s o:Nat->Nat}{t p:Nat->List (Nat × Bs)}(h:Ph w W r k iL iR n cL cR vL vR v va vb Lb Rb L a b G H U)(x:SLq (QH r k vL vR) W i m s)(C:SLq (QH r k vL vR) W j m o)(d:GRq (QH r k vL vR) W (.agg e') m t p U):Ph w (W.setCells (k+1) 0 e'.toList) r k iL iR m cL cR vL vR (.agg e') i j Lb Rb L s o t p U:=by
 have u:=h.rk;have c:∀g,g≠k+1->(W.setCells (k+1) 0 e'.toList).heap[g]? = W.heap[g]?:=λg d=>aH (k+1) _ 0 W g d
 have f:W.heap.size<=(W.setCells (k+1) 0 e'.toList).heap.size:=by rw[setCells_size];exact Uw _
 have kq:Kq (QH r k vL vR) W (W.setCells (k+1) 0 e'.toList):=⟨f,λg q _=>c g (by have:=q.2.1;omega)⟩
 obtain⟨e,D,y,e3,A⟩:=h.r1;obtain⟨l,z,f2,B⟩:=d.ar;obtain rfl:e'=l:=by injection z
 exact⟨jF h.on h.wk h.rk oM,h.rk,h.wk,aV h.r0 f (c _ oM),⟨e',rfl,f2,B,A.put (by rw[UK,UK,f2,y])⟩,aV h.r2 f (c _ oM),h.r3.same f (c _ oM),h.tL.keep kq λg d=>c g (by have:=(h.tL.lt d).1;omega),h.tR.keep kq λg d=>c g (by have:=(h.tR.lt d).1;omega),h.ne,x.keep kq,C.keep kq,d.keep kq,jM h.lg (c r oM),h.ls,h.dj.keep f (λg d=>c g (by have:=(h.tL.lt d).1;omega)) (λg d=>c g (by have:=(h.tR.lt d).1;omega))⟩
end
end
section
open SPA
variable {P:Nat}[NeZero P]{N:Nat}[NeZero N]
abbrev wP{P:Nat}[NeZero P](X:OnP P):Bs:=wr X.1
theorem kE(a b:Nat->Fin N):∀n,prS N (λi=>(a i).val) (λi=>(b i).val) n=(Md.pr a b n).val
 | 0=>(Nat.zero_mod N).symm
 | n+1=>by
  show sPl N (prS N _ _ n) (sTi N (b n).val (a n).val)=(Md.pr a b n+a n*b n).val;rw[kE a b n,mA,fL];unfold sTi;rw[Vv]
omit [NeZero N] in
theorem Ct(x y:Fin N)(n:Nat)(a:Nat->Fin N)(i:Nat):nM N x.val y.val n (λi=>(a i).val) i=(Md.fS x y n a i).val:=by
 show sPl N (sTi N (a i).val x.val) (sTi N (a (n+i)).val y.val)=(x*a i+y*a (n+i)).val;rw[mA,fL,fL];unfold sTi;rw[Vv (a i).val,Vv (a (n+i)).val]
omit [NeZero N] in
theorem sN{n c:Nat}{G H:Nat->List (Nat × Bs)}{U:List (Nat × Bs)}{g h:Nat->OnP P}{u:OnP P}(f:0<n)(e:0<c)(b:c*n<=64)(hG:Gd N n c G g)(d:Gd N n c H h)(m:Tl N U u)(j:0<U.length)(l:U.length<=16):GOk N n c G H U:=
 ⟨f,e,b,λi k=>⟨(hG.tl i k).ok,hG.len i k⟩,λi k=>⟨(d.tl i k).ok,d.len i k⟩,m.ok,j,l⟩
omit [NeZero N] in
theorem Tl.point(C:Fld P)(O:Ord N)(k:∀r:EC.Pt P,On r->mul N r=none){l:List (Nat × Bs)}{X:OnP P}(b:Tl N l X)(c:0<l.length)(d:l.length<=512){w:Ur}{v:Ut}(h:Sm 0 w v l):
 UH prog 67 #[v] w (rZ w λe w'=>e=pvl (wr X.1)):=by
 have:=h.point C O k c d b.lt b.pts;rw[b.sum]at this;exact this
theorem iCP:(prog.info? 103).map (·.size)=some 33:=kR
theorem Ip(C:Fld P)(O:Ord N)(k:∀r:EC.Pt P,On r->mul N r=none){Q:Nat->Prop}{m c:Nat}{G H:Nat->List (Nat × Bs)}{U:List (Nat × Bs)}{g h:Nat->OnP P}{u:OnP P}(z:0<m)(s:0<c)(j:c*m<=64)(hG:Gd N m c G g)(q:Gd N m c H h)(p:Tl N U u)(y:0<U.length)(w:U.length<=16)(a b:Nat->Fin N):
 ∃l,(∀(W:Ur) (v va f:Ut),GRq Q W v m G H U->SLq Q W va m (λi=>(a i).val)->SLq Q W f m (λi=>(b i).val)->UH prog 158 #[v,va,f] W (rZ W λe w'=>Sm W.heap.size w' e l)) /\
  (∀(W:Ur) (v:Ut),Sm 0 W v l->UH prog 67 #[v] W (rZ W λe w'=>e=pvl (wr ((aD C k).hd a b g h u m).1))):=by
 have x:=sN z s j hG q p y w;obtain⟨o,n⟩:=Ji C k hG q p (d:=U.length) rfl a b;rw[<-kE]at o n;refine⟨_,λW v va f B A t=>Ff O m c G H U x _ _ (λi _=>(a i).isLt) (λi _=>(b i).isLt) v va f W B A t,λW v hv=>o.point C O k (by rw[n];omega) (by rw[n];omega) hv⟩
end
section
section
variable {P:VD}{ops:Array Vk}{Q:Yo->Act->Ur->Prop}{S:Array Bool->Ur->Prop}
theorem bI{o:Vk}(k:o.guard=none)(t:Array Ut):V2 o (yielded ops t)=true:=by
 unfold V2;rw[k]
def anyS(P:VD)(k:Array Vk)(Q:Yo->Act->Ur->Prop)(S:Array Bool->Ur->Prop):Nat->Array Bool->Act->Ur->Prop
 | 0,listed,a,w=>U7 .any k listed=[]/\Q .normal a w
 | fuel+1,listed,a,w=>(U7 .any k listed=[]->Q .normal a w) /\
  ∀i∈U7 .any k listed,wpOp P k Q i (λb w'=>S (listed.setIfInBounds i true) w'/\anyS P k Q S fuel (listed.setIfInBounds i true) b w') a w
theorem anyS.any:∀(k:Nat) (b:Array Bool) (a:Act) (w:Ur),anyS P ops Q S k b a w->wpAny P .any ops Q k b a w
 | 0,_,_,_,h=>h
 | k+1,_,_,_,h=>⟨h.1,λi e=>Zz (λd w' c=>anyS.any k _ d w' c.2) (h.2 i e)⟩
def Bef(S:Array Bool->Ur->Prop)(p:Nat)(w:Ur):Prop:=∃l:Array Bool,l.getD p false=false/\S l w
theorem anyS.first{p i:Nat}{y op:Vk}{v:Ut}(N:ops[i]? = some y)(hp:ops[p]? = some op)(O:∃e∈op.after,VP .any e=true/\e.on=i)(L:p≠i)(R:∀l w,S (X5 l i true) w->S l w)
 (q:∀(j:Nat) (o:Vk) cs b,ops[j]? = some o->o.op≠.select cs b) (hQ:∀c a w,Q (.panic c) (a.put y.dst v) w->Q (.panic c) a w) :
 ∀(g:Nat) (d:Array Bool) (a:Act) (w:Ur),d.getD p false=false ->
  (∀j t,ops[j]? = some t->j≠i->d.getD j true=false->(∀e∈t.after,VP .any e=true->e.on≠i)->y.apart ops t=true) ->
  i∈U7 .any ops d->YieldsIf P ops (Bef S p) y v a->Bef S p w->S (d.setIfInBounds i true) w ->
  anyS P ops Q S g (d.setIfInBounds i true) (a.put y.dst v) w->anyS P ops Q S (g+1) d a w:=by
 intro g;induction g with
 | zero =>
  intro d a w _ _ D F T u H;refine⟨λh=>absurd D (by rw[h];exact UY),λj G=>?_⟩;by_cases f:j=i
  ·subst f;exact F.wpOp N T ⟨u,H⟩
  ·exact absurd (ready_mono G f) (by rw[H.1];exact UY)
 | succ g ih =>
  intro d a w Y n D F T u H;refine⟨λh=>absurd D (by rw[h];exact UY),λj G=>?_⟩;by_cases f:j=i
  ·subst f;exact F.wpOp N T ⟨u,H⟩
  ·obtain⟨r,t,m,C⟩:=mem_ready.1 G;have s:∀e∈t.after,VP .any e=true->e.on≠i:=λe M V I=>by
    have x:=C e M V;have A:=(mem_ready.1 D).1;rw[I]at x;rcases Nat.lt_or_ge i d.size with z|z
    ·simp[z]at A x;rw[A]at x;cases x
    ·simp[WN z]at x
   have A:j≠p:=by
    intro h;subst h;rw[hp]at m;obtain⟨e,M,V,x⟩:=O;injection m with m
    subst m;exact s e M V x
   have h2:=wpOp_putIf m (n j t m f r s) (λcs b=>q i y cs b N) (λcs b=>q j t cs b m) hQ F (H.2 j (ready_mono G f));have K:(d.setIfInBounds j true).getD p false=false:=by rw[XQ false A];exact Y
   refine Zz (λa' w' E=>?_) h2;have X:(d.setIfInBounds i true).setIfInBounds j true=(d.setIfInBounds j true).setIfInBounds i true:=(Array.setIfInBounds_comm _ _ (YB f))
   have x:=E.2.1;rw[X]at x;have U:Bef S p w':=⟨_,by rw[XQ false A,XQ false (YB L)];exact Y,E.2.1⟩
   refine⟨R _ _ x,ih (d.setIfInBounds j true) a' w' K (λk ok Z J z W=>?_) (ready_mono D (YB f)) E.1 U x ?_⟩
   ·refine n k ok Z J ?_ W;by_cases B:j=k
    ·subst B;exact r
    ·rw[XQ true B]at z;exact z
   ·rw[<-X];exact E.2.2
theorem anyS.take{p i:Nat}{f:Vk}{v:Ut}{b:Nat}{k:Array Bool}{a:Act}{w:Ur}(o:ops[i]? = some f)(m:∀l w,S (X5 l i true) w->S l w)(q:YieldsIf P ops (Bef S p) f v a)(u:Bef S p w)(g:S (k.setIfInBounds i true) w)
 (h:anyS P ops Q S b (k.setIfInBounds i true) (a.put f.dst v) w) (d:waits ops p i=true:=by kernel_rfl) (r:XL ops=true:=by kernel_rfl)
 (j:(k.getD p false || p == i)=false:=by kernel_rfl) (hf:YL .any ops k i=true:=by kernel_rfl) (x:(U7 .any ops k).contains i=true:=by kernel_rfl)
 (t:∀c a w,Q (.panic c) (a.put f.dst v) w->Q (.panic c) a w:=by exact λ_ _ _ h=>h):anyS P ops Q S (b+1) k a w:=by
 rw[Bool.or_eq_false_iff]at j;unfold waits at d;cases ho:ops[p]? with
 | none=>rw[ho]at d;cases d
 | some op =>
  rw[ho]at d;obtain⟨e,s,n⟩:=Array.any_eq_true'.1 d;simp only[UL,beq_iff_eq]at n;exact anyS.first o ho ⟨e,s,n.1,n.2⟩ (by simpa using j.2) m (Region.noSelect_spec r) t b k a w j.1 (Region.free_spec o hf) (by simpa using x) q u g h
theorem anyS.step{i:Nat}{o:Vk}{b:Nat}{k:Array Bool}{a:Act}{w:Ur}(ho:ops[i]? = some o)(e:U7 .any ops k=[i])
 (h:∀c:Act->Ur->Prop,Shut (∀a w,S (k.setIfInBounds i true) w->anyS P ops Q S b (k.setIfInBounds i true) a w->c a w) ->
  if V2 o (yielded ops a.tmps)=true then VT P o a w c Q else c (a.put o.dst WP) w):anyS P ops Q S (b+1) k a w:=by
 refine⟨λd=>(by rw[e]at d;cases d),λj f=>?_⟩;rw[e,WM]at f;subst f;exact wpOp_step ho (λc g=>h c (λa w m l=>g a w ⟨m,l⟩))
theorem anyS.done{k:Array Bool}{a:Act}{w:Ur}(c:U7 .any ops k=[])(h:Q .normal a w):∀b,anyS P ops Q S b k a w
 | 0=>⟨c,h⟩
 | _+1=>⟨λ_=>h,by rw[c];intro i d;cases d⟩
theorem anyS.begin{id:Nat}{a:Act}{w:Ur}(S:Array Bool->Ur->Prop)(k:P.follows .mixedOrders=true)(h:anyS P ops Q S ops.size (UJ ops.size false) a w.drew):(V4 id ops true).wp P Q a w:=
 wp_region_any k (anyS.any _ _ _ _ h)
section
variable {i p fuel:Nat}{o:Vk}{listed:Array Bool}{a:Act}{w w':Ur}{v:Ut}
theorem anyS.ins{d:Option WC}{I:Sem Ut}(ho:ops[i]? = some o)(hx:I.run P w=.ok v w')(f:S (listed.setIfInBounds i true) w')(h:anyS P ops Q S fuel (listed.setIfInBounds i true) (a.put d v) w')
 (e:U7 .any ops listed=[i]:=by kernel_rfl) (b:o.guard=none:=by rfl) (c:U5 a.eval o=I >>= λv=>pure (Xp v):=by kernel_rfl) (hd:o.dst=d:=by kernel_rfl):anyS P ops Q S (fuel+1) listed a w:=by
 subst hd;exact anyS.step ho e λK k=>by
  rw[yCj (bI b _)];unfold VT;rw[c,UV,hx];exact k.out _ _ f h
theorem anyS.cal{d:Option WC}{f:Xq}{args:Array Ut}{R:Ut->Ur->Prop}(ho:ops[i]? = some o)(k:UH P f args w (Ret R))(h:∀v w',R v w'->S (listed.setIfInBounds i true) w'/\anyS P ops Q S fuel (listed.setIfInBounds i true) (a.put d v) w')
 (g:U7 .any ops listed=[i]:=by kernel_rfl) (c:o.guard=none:=by rfl) (hx:(U5 a.eval o).run P w=.ok (.enter f args) w:=by kernel_rfl) (hd:o.dst=d:=by kernel_rfl):anyS P ops Q S (fuel+1) listed a w:=by
 subst hd;exact anyS.step ho g λK b=>by
  rw[yCj (bI c _)];unfold VT;rw[hx,Oper.upon_enter];refine k.mono ?_;rintro e w' ⟨v,rfl,hR⟩;exact b.out _ _ (h v w' hR).1 (h v w' hR).2
theorem anyS.sto{d:Option WC}(ho:ops[i]? = some o)(k:U8)(x y:XG)(c:o.op=.store k x y)(b off:Nat)(u:Ut)(hv:u.cells=#[u])(q:u.oneCell'=true)(l:w.there b off 1)(m:(P.info? k).map (·.size)=some 1)
 (p:S (listed.setIfInBounds i true) (w.setCells b off [u])) (h:anyS P ops Q S fuel (listed.setIfInBounds i true) (a.put d WP) (w.setCells b off [u])) (hx:a.eval x=oZ b off:=by kernel_rfl) (j:a.eval y=u:=by kernel_rfl)
 (f:U7 .any ops listed=[i]:=by kernel_rfl) (n:o.guard=none:=by rfl) (hd:o.dst=d:=by kernel_rfl):anyS P ops Q S (fuel+1) listed a w:=by
 subst hd;exact anyS.step ho f λK g=>by
  rw[yCj (bI n _)];have f:=ZA (P:=P) w b off k #[u] l m (by simp[q]);have e:storeVar k ⟨b,off,none⟩ u=storeVar k ⟨b,off,none⟩ (.agg #[u]):=by
   unfold storeVar;rw[hv];rfl
  unfold VT U5;simp only[c,hx,j,Yw,X4,UV,Wr,Vm,e,f];exact g.out _ _ p h
theorem anyS.cel{d:Option WC}{x:Ut}(ho:ops[i]? = some o)(p:Nat)(g:∀l w,S (X5 l i true) w->S l w)(T:U8)(t:WC)(b off:Nat)(f:o.op=.load T (.tmp t))(n:(P.underlying T).map (·.isRow)=some false)(j:∀w,Bef S p w->w.cell? ⟨b,off,none⟩=some x)(u:Bef S p w)(e:S (listed.setIfInBounds i true) w)
 (h:anyS P ops Q S fuel (listed.setIfInBounds i true) (a.put d x) w) (hx:a.eval (.tmp t)=oZ b off:=by kernel_rfl) (s:o.guard=none:=by rfl) (v:waits ops p i=true:=by kernel_rfl) (m:XL ops=true:=by kernel_rfl)
 (q:(listed.getD p false || p == i)=false:=by kernel_rfl) (hf:YL .any ops listed i=true:=by kernel_rfl) (y:(U7 .any ops listed).contains i=true:=by kernel_rfl)
 (r:∀c a w,Q (.panic c) (a.put o.dst x) w->Q (.panic c) a w:=by exact λ_ _ _ h=>h) (hd:o.dst=d:=by kernel_rfl):anyS P ops Q S (fuel+1) listed a w:=by
 subst hd;exact anyS.take (p:=p) ho g (U4 ⟨bI s _,λw k=>by
  unfold U5;rw[f];dsimp only;rw[hx,UV,fD (j w k) n];rfl⟩) u e h v m q hf y r
theorem anyS.row{d:Option WC}{cs:List Ut}(ho:ops[i]? = some o)(p:Nat)(j:∀l w,S (X5 l i true) w->S l w)(T:U8)(t:WC)(b off:Nat)(e:TypeDesc)(f:o.op=.load T (.tmp t))(r:P.underlying T=some e)(g:e.isRow=true)(q:(P.info? T).map (·.size)=some cs.length)(m:∀w,Bef S p w->w.rangeAt b off cs)(x:Bef S p w)(k:S (listed.setIfInBounds i true) w)
 (h:anyS P ops Q S fuel (listed.setIfInBounds i true) (a.put d (.agg cs.toArray)) w) (hx:a.eval (.tmp t)=oZ b off:=by kernel_rfl) (v:o.guard=none:=by rfl) (y:waits ops p i=true:=by kernel_rfl) (n:XL ops=true:=by kernel_rfl)
 (s:(listed.getD p false || p == i)=false:=by kernel_rfl) (hf:YL .any ops listed i=true:=by kernel_rfl) (z:(U7 .any ops listed).contains i=true:=by kernel_rfl)
 (u:∀c a w,Q (.panic c) (a.put o.dst (.agg cs.toArray)) w->Q (.panic c) a w:=by exact λ_ _ _ h=>h) (hd:o.dst=d:=by kernel_rfl):anyS P ops Q S (fuel+1) listed a w:=by
 subst hd;exact anyS.take (p:=p) ho j (yieldsIf_load_mid (bI v _) T (.tmp t) f b off hx cs e m r g q) x k h y n s hf z u
theorem anyS.val{d:Option WC}{x:Ut}(ho:ops[i]? = some o)(p:Nat)(b:∀l w,S (X5 l i true) w->S l w)(m:Bef S p w)(k:S (listed.setIfInBounds i true) w)(h:anyS P ops Q S fuel (listed.setIfInBounds i true) (a.put d x) w)(hv:∀w,(U5 a.eval o).run P w=.ok (.value x) w:=by intro _;kernel_rfl)(j:o.guard=none:=by rfl)(n:waits ops p i=true:=by kernel_rfl)(e:XL ops=true:=by kernel_rfl)
 (f:(listed.getD p false || p == i)=false:=by kernel_rfl) (hf:YL .any ops listed i=true:=by kernel_rfl) (q:(U7 .any ops listed).contains i=true:=by kernel_rfl)
 (g:∀c a w,Q (.panic c) (a.put o.dst x) w->Q (.panic c) a w:=by exact λ_ _ _ h=>h) (hd:o.dst=d:=by kernel_rfl):anyS P ops Q S (fuel+1) listed a w:=by
 subst hd;exact anyS.take (p:=p) ho b (U4 ⟨bI j _,λw _=>hv w⟩) m k h n e f hf q g
theorem anyS.nxt{d:Option WC}{x:Ut}(ho:ops[i]? = some o)(e:S (listed.setIfInBounds i true) w)(h:anyS P ops Q S fuel (listed.setIfInBounds i true) (a.put d x) w)(hv:(U5 a.eval o).run P w=.ok (.value x) w:=by kernel_rfl)(c:U7 .any ops listed=[i]:=by kernel_rfl)(b:o.guard=none:=by rfl)(hd:o.dst=d:=by kernel_rfl):anyS P ops Q S (fuel+1) listed a w:=by
 subst hd;exact anyS.step ho c λK k=>by
  rw[yCj (bI b _)];unfold VT;rw[hv];exact k.out _ _ e h
end
end
end
section
open SPA
variable {P:Nat}[NeZero P]{N:Nat}[NeZero N]
theorem Lf:(prog.underlying 26).map (·.isRow)=some true:=kR
theorem Jf:(prog.info? 26).map (·.size)=some 4:=kR
def DjF(B:Nat)(W:Ur)(t:Nat)(e d f c:Ut):Prop:=∃k b l m,f=r32 k/\c=r32 b/\(k :: b :: (l++m)).Nodup/\W.ownsRow 0 23 1 e t (l.map r33)/\W.ownsRow 0 23 1 d t (m.map r33)/\∀g,g∈k :: b :: (l++m)->B<=g/\g<W.heap.size
theorem DjF.keep{B d t:Nat}{W W':Ur}{b k e f:Ut}(h:DjF B W t b k e f)(s:d<=B)(o:W.heap.size<=W'.heap.size)(hv:∀g,b.ownBlock=some g->W'.heap[g]? = W.heap[g]?)(q:∀g,k.ownBlock=some g->W'.heap[g]? = W.heap[g]?):DjF d W' t b k e f:=by
 obtain⟨n,u,l,m,r,p,w,v,j,c⟩:=h;exact⟨n,u,l,m,r,p,w,bZ v hv,bZ j q,λg i=>⟨UC s (c g i).1,Ux (c g i).2 o⟩⟩
theorem DjF.of{B t b c:Nat}{W W':Ur}{v u:Ut}(h:Dj W B t t v u)(p:W.heap.size<=W'.heap.size)(hv:∀g,v.ownBlock=some g->W'.heap[g]? = W.heap[g]?)(i:∀g,u.ownBlock=some g->W'.heap[g]? = W.heap[g]?)(q:B<=W.heap.size)(s:W.heap.size<=b)(r:b<c)(o:c<W'.heap.size):DjF B W' t v u (r32 b) (r32 c):=by
 obtain⟨l,m,f,j,n,d⟩:=h;refine⟨b,c,l,m,rfl,rfl,?_,bZ j hv,bZ n i,λg k=>?_⟩
 ·rw[XT,XT];refine⟨λe=>?_,λe=>?_,f⟩
  ·rcases VX.1 e with e|e
   ·omega
   ·have:=(d _ e).2;omega
  ·have:=(d _ e).2;omega
 ·rcases VX.1 k with rfl|k
  ·exact⟨oM,oM⟩
  ·rcases VX.1 k with rfl|k
   ·exact⟨oM,oM⟩
   ·have:=d _ k;exact⟨this.1,oM⟩
structure PhR(w:Ur)(r t:Nat)(Lb Rb:Nat->Bs)(L:Bs)(A B:Bs)(e:Ut)(w':Ur):Prop where
 on:SP.Only r 0 32 w w'
 ex:∃vL vR vA vB,e=.agg #[vL,vR,vA,vB]/\TlL (λ_=>True) w.heap.size t w' vL Lb/\TlL (λ_=>True) w.heap.size t w' vR Rb/\ElQ (w.heap.size<=·) 32 w' vA A/\ElQ (w.heap.size<=·) 32 w' vB B
 lg:Holds encB w' r 0 L
 dj:∀vL vR vA vB,e=.agg #[vL,vR,vA,vB]->DjF w.heap.size w' t vL vR vA vB
theorem uLL:(prog.underlying 24).map (·.isRow)=some false:=kR
theorem iLL:(prog.info? 24).map (·.size)=some 1:=kR
theorem Ud(k:Nat)(n c:Nat)(w:Ur):(Vy 24 1 #[(0,sZ k n c)]).run prog w=.ok (sZ w.heap.size 1 1) (w.alloc (.cells #[sZ k n c] 23)):=kR
theorem SJ{Q:Nat->Prop}{W:Ur}{x:Ut}{b:Bs}(h:ElQ Q 33 W x b)(w:Ur):(Vy 24 1 #[(0,x)]).run prog w=.ok (sZ w.heap.size 1 1) (w.alloc (.cells #[x] 23)):=by
 obtain⟨k,c,rfl,-⟩:=h;exact Ud k 33 c w
theorem TlL.one{Q:Nat->Prop}{k i:Nat}{W:Ur}{v:Ut}{B:Nat->Bs}(h:TlL Q k i W v B):v.cells=#[v]/\v.oneCell'=true:=by
 obtain⟨xs,⟨-,⟨rfl,-⟩|⟨g,cap,cur,rfl,-⟩⟩,-⟩:=h.ex<;>exact⟨rfl,rfl⟩
theorem Ph.put'{w W W':Ur}{r k f g n:Nat}{l m d c v va j:Ut}{i Rb:Nat->Bs}{L:Bs}{a b:Nat->Nat}{G H:Nat->List (Nat × Bs)}{U:List (Nat × Bs)}(h:Ph w W r k f g n l m d c v va j i Rb L a b G H U)(e:W'=(W.setCells (k+3) 0 [d]).setCells (k+3) 1 [c]):Ph w W' r k f g n d c d c v va j i Rb L a b G H U:=e ▸ h.put
theorem anyS.fin{P:VD}{c:Array Vk}{Q:Yo->Act->Ur->Prop}{S:Array Bool->Ur->Prop}{k:Array Bool}{a:Act}{w:Ur}(d:U7 .any c k=[])(h:∀W,W=w->Q .normal a W)(b:Nat):anyS P c Q S b k a w:=anyS.done d (h w rfl) b
theorem JQ(O:Ord N)(l:IsP N)(r:Nat)(L:Bs)(A B:OnP P)(X Y:Bs)(f:X=wP A)(i:Y=wP B):∃(s:Bs) (c:Fin N),Hid (chF N L A B=(s,c)/\s.size=32)/\Hid (∀W:Ur,Holds encB W r 0 L->L.size=32->UH prog 146 #[lgV r,.string ⟨#[108,101,102,116]⟩,pvl X,.string ⟨#[114,105,103,104,116]⟩,pvl Y] W (Ret λe w'=>SP.Only r 0 32 W w'/\Holds encB w' r 0 s/\e=nv c.val)):=by
 subst f i;have e:chF N L A B=(bB (jW [108,101,102,116] [114,105,103,104,116] L (wP A) (wP B)),kM N (jW [108,101,102,116] [114,105,103,104,116] L (wP A) (wP B))):=by unfold chF;dsimp only
 have d:=aT A.1;have n:=aT B.1;refine⟨_,_,⟨e,bE _ _⟩,λW m j=>?_⟩;have k:=sW O r L (wP A) (wP B) ⟨#[108,101,102,116]⟩ ⟨#[114,105,103,104,116]⟩ dC dC d n W m j;have g:jW (⟨#[108,101,102,116]⟩:ByteArray).data.toList (⟨#[114,105,103,104,116]⟩:ByteArray).data.toList L (wP A) (wP B)=jW [108,101,102,116] [114,105,103,104,116] L (wP A) (wP B):=rfl;rw[g]at k;have b:∀M,cha N M<N:=λM=>uU O _
 generalize jW [108,101,102,116] [114,105,103,104,116] L (wP A) (wP B)=M at k;rw[FD l.1 M (b M)]at k;exact k
theorem own_base{W:Ur}{c b n k:Nat}{e:U8}{v:Ut}{xs:List Ut}(h:W.ownsRow c e k v n xs)(l:b<=c):W.ownsRow b e k v n xs:=by
 rcases h with⟨d,j|⟨g,cap,cur,rfl,i,f⟩⟩
 ·exact⟨d,U4 j⟩
 ·exact⟨d,UX ⟨g,cap,cur,rfl,UC l i,f⟩⟩
theorem Ph.fin{w W:Ur}{r k t n:Nat}{i f v va K l m:Ut}{z Rb:Nat->Bs}{L A B:Bs}{a b:Nat->Nat}{G H:Nat->List (Nat × Bs)}{U:List (Nat × Bs)}(h:Ph w W r k t t n i f i f v va K z Rb L a b G H U)(I:ElQ (k+4<=·) 32 W l A)(F:ElQ (k+4<=·) 32 W m B)(hd:DjF (k+4) W t i f l m):
 Row W (k+2) [.slice none 0 0,.slice none 0 0,.slice none 0 0,.slice none 0 0]/\Row (W.setCells (k+2) 0 [i,f,l,m]) (k+2) [i,f,l,m]/\PhR w r t z Rb L A B (.agg #[i,f,l,m]) (W.setCells (k+2) 0 [i,f,l,m]):=by
 have D:=h.rk;have E:=h.wk;have j:∀g,g≠k+2->(W.setCells (k+2) 0 [i,f,l,m]).heap[g]? = W.heap[g]?:=λg u=>aH (k+2) _ 0 _ g u
 have p:W.heap.size<=(W.setCells (k+2) 0 [i,f,l,m]).heap.size:=by rw[setCells_size];exact Uw _
 have kq:Kq (QH r k i f) W (W.setCells (k+2) 0 [i,f,l,m]):=⟨p,λg q _=>j g (by have:=q.2.1;omega)⟩
 have s:Kq (k+4<=·) W (W.setCells (k+2) 0 [i,f,l,m]):=⟨p,λg q _=>j g oM⟩
 have y:∀ {x:Ut}{B:Nat->Bs},TlL (QH r k i f) (k+4) t W x B->TlL (λ_=>True) w.heap.size t (W.setCells (k+2) 0 [i,f,l,m]) x B:=λhx=>by
  have J:=(hx.keep kq λg o=>j g (by have:=(hx.lt o).1;omega)).mono2 (Q':=λ_=>True) λ_ _ _=>trivial
  obtain⟨xs,u,C⟩:=J.ex;exact⟨xs,own_base u oM,C⟩
 exact⟨h.r2,h.r2.put rfl,jF h.on h.wk h.rk oM,⟨_,_,_,_,rfl,y h.tL,y h.tR,(I.keep s).mono2 λg _ o=>oM,(F.keep s).mono2 λg _ o=>oM⟩,jM h.lg (j r oM),λa b c d e=>by
  injection e with e
  simp only[Array.mk.injEq,List.cons.injEq,and_true]at e;obtain⟨rfl,rfl,rfl,rfl⟩:=e;exact hd.keep oM p (λg o=>j g (by have:=(h.tL.lt o).1;omega)) (λg o=>j g (by have:=(h.tR.lt o).1;omega))⟩
omit [NeZero N] in
theorem fW(O:Ord N){a:Nat}(c:a<N)(w:Ur):UH prog 141 #[nv a] w (rZ w λe w'=>ElQ (w.heap.size<=·) 32 w' e (bx a)/\∃g,e=r32 g):=by
 refine(qO O c w).mono ?_;rintro e w' ⟨v,rfl,k,b,rfl⟩;exact⟨_,rfl,b.bel,⟨k,32,rfl,Uw _,eE a,b.le,b.lt,cb_holds b.range b.there⟩,k,rfl⟩
theorem iB1:(prog.info? 23).map (·.size)=some 1:=kR
theorem hvI{P:VD}{I:Sem Ut}{c:Sem Next}{x:Ut}(b:∀w,I.run P w=.ok x w)(k:c=I >>= λv=>pure (Xp v)):∀w,c.run P w=.ok (.value x) w:=λw=>by rw[k,UV,b w,Vm,Wr]
theorem nfB{b:Bool}(h:b=true):¬b=false:=λe=>by rw[h]at e;cases e
theorem TC(m:Nat):((m+m:Nat):Int).tdiv 2=(m:Int):=by rw[Int.tdiv_eq_ediv_of_nonneg oM];omega
theorem Mb(C:Fld P)(O:Ord N)(f:∀r:EC.Pt P,On r->mul N r=none)(hP:IsP N)(t:Nat)(ht:t<=6)(q:Md.Ps Bs (Fin N) (OnP P))(u:OnP P)(G0 H0:Nat->List (Nat × Bs))(U:List (Nat × Bs))(et:Gd N (2^t) 1 G0 q.g)(dx:Gd N (2^t) 1 H0 q.h)(hU:Tl N U u)(fm:0<U.length)(eh:U.length<=16)
 (Lb Rb:Nat->Bs) (g9:∀j,Lb j=wP ((aD C f).pLi (chF N) ivF u t q j)) (gg:∀j,Rb j=wP ((aD C f).pTi (chF N) ivF u t q j)) (r:Nat) (v0 cp d7:Ut) (w:Ur) (hL:Holds encB w r 0 q.s) (cd:q.s.size=32) (hv:GRq (·≠r) w v0 (2^t) G0 H0 U) (ha:SLq (·≠r) w cp (2^t) (λi=>(q.a i).val)) (K:SLq (·≠r) w d7 (2^t) (λi=>(q.b i).val)) :
 UH prog 83 #[lgV r,v0,cp,d7] w (Ret (PhR w r t Lb Rb ((aD C f).pst (chF N) ivF u t q t).s (bx (((aD C f).pst (chF N) ivF u t q t).a 0).val) (bx (((aD C f).pst (chF N) ivF u t q t).b 0).val))):=by
 have hr:=Holds.lt hL (by rw[cd];decide);obtain⟨k,hk⟩:∃k,Hid (w.heap.size=k):=⟨_,rfl⟩
 obtain⟨e0,ge,fr,em⟩:=hv.ar;subst ge;obtain⟨w1,k6⟩:=hE (w.alloc (.cells #[jZ r] 145));obtain⟨w2,kg⟩:=hE (w1.alloc (.cells e0 133));obtain⟨w3,k7⟩:=hE (w2.alloc (.cells #[.slice none 0 0,.slice none 0 0,.slice none 0 0,.slice none 0 0] 26));obtain⟨w4,kw⟩:∃w4,Hid (w3.alloc (.cells #[.slice none 0 0,.slice none 0 0,.slice none 0 0,.slice none 0 0] 26)=w4):=⟨_,rfl⟩
 have z1:w1.heap.size=k+1:=by rw[<-k6.out,UB,hk.out]
 have z2:w2.heap.size=k+2:=by rw[<-kg.out,UB,z1]
 have z3:w3.heap.size=k+3:=by rw[<-k7.out,UB,z2]
 have g7:r<k:=by rw[<-hk.out];exact hr
 have K4:Hid (∃G H,Gd N (2^(t-0)) (2^0) G ((aD C f).pst (chF N) ivF u t q 0).g/\Gd N (2^(t-0)) (2^0) H ((aD C f).pst (chF N) ivF u t q 0).h/\Ph w w4 r k 0 0 (2^(t-0)) (.slice none 0 0) (.slice none 0 0) (.slice none 0 0) (.slice none 0 0) (.agg e0) cp d7 Lb Rb ((aD C f).pst (chF N) ivF u t q 0).s (λi=>(((aD C f).pst (chF N) ivF u t q 0).a i).val) (λi=>(((aD C f).pst (chF N) ivF u t q 0).b i).val) G H U):=by
  have b1:kZ w w1:=by rw[<-k6.out];exact aC _ _
  have F:kZ w1 w2:=by rw[<-kg.out];exact aC _ _
  have E:kZ w2 w3:=by rw[<-k7.out];exact aC _ _
  have D:kZ w3 w4:=by rw[<-kw.out];exact aC _ _
  have S:Row w1 k [jZ r]:=by rw[<-k6.out,<-hk.out];exact aE w _ _
  have V:Row w2 (k+1) e0.toList:=by rw[<-kg.out,<-z1];exact aE w1 e0.toList 133
  have T:Row w3 (k+2) [.slice none 0 0,.slice none 0 0,.slice none 0 0,.slice none 0 0]:=by rw[<-k7.out,<-z2];exact aE w2 _ _
  have R:Row w4 (k+3) [.slice none 0 0,.slice none 0 0,.slice none 0 0,.slice none 0 0]:=by rw[<-kw.out,<-z3];exact aE w3 _ _
  have bb:kZ w w4:=((b1.trans (F.mono b1.size)).trans (E.mono (UC b1.size F.size))).trans (D.mono (UC b1.size (UC F.size E.size)));have J:∀g,g<w.heap.size->g≠r->QH r k (.slice none 0 0) (.slice none 0 0) g:=λg M L=>⟨L,U4 (by rw[<-hk.out];exact M),(λe=>by cases e),(λe=>by cases e)⟩
  have A:∀(B:Nat->Bs) (Q:Nat->Prop),TlL Q (k+4) 0 w4 (.slice none 0 0) B:=λB Q=>⟨[],⟨rfl,U4 ⟨rfl,rfl⟩⟩,λj hj=>absurd hj (Ym _)⟩
  have kq:∀ {Q:Nat->Prop},Kq Q w w4:=Kq.of_below bb;exact⟨G0,H0,et,dx,SP.Only.of_below bb rfl hr,g7,hk.out,((S.below F).below E).below D,⟨e0,rfl,fr,em,(V.below E).below D⟩,T.below D,⟨R.1,[.slice none 0 0,.slice none 0 0],rfl,R⟩,A _ _,A _ _,(λg e=>by cases e),(ha.mono2 J).keep kq,(K.mono2 J).keep kq,(hv.mono2 J).keep kq,Holds.below hL bb hr,cd,⟨[],[],yBr,⟨rfl,U4 ⟨rfl,rfl⟩⟩,⟨rfl,U4 ⟨rfl,rfl⟩⟩,λg M=>absurd M UY⟩⟩
 obtain⟨vl,be⟩:=hE (lgV r);obtain⟨vG,b8⟩:=hE (U3 e0);have B1:Hid ((Ve 145 vl).run prog w=.ok (jZ k) w1):=by rw[<-be.out,<-k6.out,<-hk.out];exact Na r w
 have B2:Hid ((Ve 133 vG).run prog w1=.ok (.pointer (some ⟨k+1,0,none⟩)) w2):=by
  obtain⟨a1,a2,a3,ea⟩:∃a b c,e0=#[a,b,c]:=by
   obtain⟨E,D,A,e,-⟩:=hv.ex;injection e with e
   exact⟨E,D,A,e⟩
  rw[<-b8.out,<-kg.out,<-z1,ea];exact CJ a1 a2 a3 w1
 have HZ:=mk3 z2 z3 hk.out;have eu:=mk2 g9 gg;have HF:Hid (Fld P/\Ord N/\IsP N/\Tl N U u/\0<U.length/\U.length<=16/\t<=6):=⟨C,O,hP,hU,fm,eh,ht⟩
 obtain⟨d,ew,f6⟩:=Uy.1 uGr;have HD:=mk2 ew f6;rw[b8.out]at K4;rw[be.out,b8.out];clear ew f6 z1 z2 z3 k6 kg hk hL cd hv ha K et dx hU fm eh fr em hr O hP b8;go_enter func83,ntmps83;go_wp2_with (first|(refine aF (u:=vl) (v:=jZ k) (w':=w1) rfl 145 (.tmp 0) rfl ?_ ?_ ?_;rfl;exact B1.out)|(refine aF (u:=vG) (v:=.pointer (some ⟨k+1,0,none⟩)) (w':=w2) rfl 133 (.tmp 1) rfl ?_ ?_ ?_;rfl;exact B2.out)|(refine fB (v:=.pointer (some ⟨k+2,0,none⟩)) (w':=w3) rfl 26 8 rfl rfl ?_ ?_;(rw[<-k7.out,<-HZ.1];kernel_rfl))|(refine fB (v:=.pointer (some ⟨k+3,0,none⟩)) (w':=w4) rfl 26 9 rfl rfl ?_ ?_;(rw[<-kw.out,<-HZ.2.1];kernel_rfl))|fail)
 clear B1 B2 k7 kw;simp only[UN,Us,Uu,Uv];go_loopg [2,3] t (λm s2 s3 W=>∃i:Nat,i+m=t/\Hid (∃E J v G H,Gd N (2^(t-i)) (2^i) G ((aD C f).pst (chF N) ivF u t q i).g/\Gd N (2^(t-i)) (2^i) H ((aD C f).pst (chF N) ivF u t q i).h/\Ph w W r k i i (2^(t-i)) E J E J v s2 s3 Lb Rb ((aD C f).pst (chF N) ivF u t q i).s (λj=>(((aD C f).pst (chF N) ivF u t q i).a j).val) (λj=>(((aD C f).pst (chF N) ivF u t q i).b j).val) G H U))
 case atStart=>exact⟨0,oM,_,_,_,K4.out⟩
 case round =>
  obtain⟨i,i0,KM⟩:=hrel;by_cases hi:i<t
  ·obtain⟨E,J,v,G,H,hG,hH,h0⟩:=KM.out;clear KM;have HI:=Hid.mk' hi;obtain⟨m,hm⟩:∃m,m=2^(t-(i+1)):=⟨_,rfl⟩
   have bc:2^(t-i)=m+m:=by rw[hm,show t-i=t-(i+1)+1 by omega,V7];omega
   have bf:0<m:=by rw[hm];exact XI dC
   obtain⟨c,hc⟩:∃c,c=2^i:=⟨_,rfl⟩
   have kl:0<c:=by rw[hc];exact XI dC
   have dz:c*(m+m)<=64:=by
    rw[<-bc,hc,<-Nat.pow_add,show i+(t-i)=t by omega];exact UC (Nat.pow_le_pow_right dC HF.2.2.2.2.2.2) dC
   have k3:c*m<=64:=by have:=Nat.mul_le_mul_left c (show m<=m+m by omega);omega
   have fk:m<=64:=by have:=Xs m kl;omega
   have eS:(aD C f).pst (chF N) ivF u t q (i+1)=(aD C f).qT (chF N) ivF u m ((aD C f).pst (chF N) ivF u t q i):=by rw[hm];rfl
   have eL:(aD C f).pLi (chF N) ivF u t q i=(aD C f).pL u m ((aD C f).pst (chF N) ivF u t q i):=by rw[hm];rfl
   have eT:(aD C f).pTi (chF N) ivF u t q i=(aD C f).pT u m ((aD C f).pst (chF N) ivF u t q i):=by rw[hm];rfl
   have HE:Hid (2^(t-(i+1))=m/\2^(i+1)=c+c):=⟨hm.symm,by rw[V7,hc];omega⟩
   rw[bc,<-hc]at hG hH;rw[bc]at h0;clear hm bc hc;generalize (aD C f).pst (chF N) ivF u t q i=L at hG hH h0 eS eL eT;have HS:Hid ((aD C f).pst (chF N) ivF u t q (i+1)=(aD C f).qT (chF N) ivF u m L/\(aD C f).pLi (chF N) ivF u t q i=(aD C f).pL u m L/\(aD C f).pTi (chF N) ivF u t q i=(aD C f).pT u m L):=⟨eS,eL,eT⟩
   clear eS eL eT;obtain⟨ga,oa,ca,rfl,dp,-⟩:=id h0.la;obtain⟨Z,ob,F,rfl,du,-⟩:=id h0.lb;have sG:=Hid.mk' (V1 hG (V1 hH (V1 bf (V1 kl (V1 dz (V1 fk k3))))));obtain⟨l1,ds,ey⟩:=Ip (Q:=QH r k E J) C HF.2.1 f bf kl k3 hG.high hH.low HF.2.2.2.1 HF.2.2.2.2.1 HF.2.2.2.2.2.1 L.a (λj=>L.b (m+j));obtain⟨l2,dq,fn⟩:=Ip (Q:=QH r k E J) C HF.2.1 f bf kl k3 hG.low hH.high HF.2.2.2.1 HF.2.2.2.2.1 HF.2.2.2.2.2.1 (λj=>L.a (m+j)) L.b;obtain⟨X,hX⟩:∃X,X=wP ((aD C f).pL u m L):=⟨_,rfl⟩
   obtain⟨Y,hY⟩:∃Y,Y=wP ((aD C f).pT u m L):=⟨_,rfl⟩
   have sX:X.size=33:=by rw[hX];exact aT _
   have sY:Y.size=33:=by rw[hY];exact aT _
   have br:∀(W:Ur) (v:Ut),Sm 0 W v l1->UH prog 67 #[v] W (rZ W λe w'=>e=pvl X):=by rw[hX];exact ey
   have bt:∀(W:Ur) (v:Ut),Sm 0 W v l2->UH prog 67 #[v] W (rZ W λe w'=>e=pvl Y):=by rw[hY];exact fn
   clear ey fn;obtain⟨PH,h5⟩:∃PH:Ur->Prop,Hid (∀W,PH W↔Ph w W r k i i (m+m) E J E J v (.slice (some ⟨ga,oa,none⟩) (m+m) ca) (.slice (some ⟨Z,ob,none⟩) (m+m) F) Lb Rb L.s (λj=>(L.a j).val) (λj=>(L.b j).val) G H U):=⟨_,λ_=>Iff.rfl⟩
   have k5:Hid (∀W W':Ur,kZ W W'->PH W->PH W'):=λW W' K h=>(h5 W').2 (((h5 W).1 h).grow K)
   have K0:Hid (PH wr):=(h5 wr).2 h0;have g0:Hid (∀W,PH W->UH prog 157 #[v] W (Ret (CrR (QH r k E J) W m G H U))):=λW h=>GO m bf oM G H U v W ((h5 W).1 h).gr
   have cS:Hid ((∀W (x:Ut),PH W->GRq (QH r k E J) W x m (λi=>G (m+i)) H U->UH prog 158 #[x,.slice (some ⟨ga,oa,none⟩) m ca,.slice (some ⟨Z,ob+m*4,none⟩) m (F-m)] W (rZ W λe w'=>Sm W.heap.size w' e l1))/\(∀W (x:Ut),PH W->GRq (QH r k E J) W x m G (λi=>H (m+i)) U->UH prog 158 #[x,.slice (some ⟨ga,oa+m*4,none⟩) m (ca-m),.slice (some ⟨Z,ob,none⟩) m F] W (rZ W λe w'=>Sm W.heap.size w' e l2))):=
    ⟨λW x h hx=>ds W x _ _ hx ((h5 W).1 h).la.low ((h5 W).1 h).lb.high,λW x h hx=>dq W x _ _ hx ((h5 W).1 h).la.high ((h5 W).1 h).lb.low⟩
   have cP:Hid ((∀(W:Ur) (v:Ut),Sm 0 W v l1->UH prog 67 #[v] W (rZ W λe w'=>e=pvl X))/\(∀(W:Ur) (v:Ut),Sm 0 W v l2->UH prog 67 #[v] W (rZ W λe w'=>e=pvl Y))):=⟨br,bt⟩
   have bl:=Di ga oa (m+m) ca m oM;have kc:=Dh Z ob (m+m) F m oM du;have ka:=Dh ga oa (m+m) ca m oM dp;have bp:=Di Z ob (m+m) F m oM;rw[Nat.add_sub_cancel]at kc ka;have h7:=mk4 sX sY hX hY;obtain⟨sx,cx,f7,dy⟩:∃(s:Bs) (c:Fin N),Hid (chF N L.s ((aD C f).pL u m L) ((aD C f).pT u m L)=(s,c)/\s.size=32)/\Hid (∀W:Ur,Holds encB W r 0 L.s->L.s.size=32->UH prog 146 #[lgV r,.string ⟨#[108,101,102,116]⟩,pvl X,.string ⟨#[114,105,103,104,116]⟩,pvl Y] W (Ret λe w'=>SP.Only r 0 32 W w'/\Holds encB w' r 0 s/\e=nv c.val)):=JQ HF.2.1 HF.2.2.1 r L.s _ _ X Y hX hY;obtain⟨e1,f0,kb,bs,c8⟩:=h0.r1;have HV:=mk3 f0 kb bs;have R1:Hid (wr.rangeAt (k+1) 0 e1.toList/\(prog.info? 133).map (·.size)=some e1.toList.length):=⟨c8.2.1,by rw[UK,kb];exact iGr⟩
   obtain⟨n,hn⟩:=hE (m+m);have hq:(n:Int).tdiv 2=(m:Int):=by rw[<-hn.out];exact TC m
   have i2:(1:Int)<(n:Int):=by rw[<-hn.out];omega
   rw[hn.out]at bl kc ka bp;rw[hn.out];clear h0 ds dq br bt sX sY hX hY f0 kb bs c8 hG hH dz k3 dp du kl hi;go_wp2_with (first|(refine U6 rfl 133 (.tmp 5) rfl (k+1) 0 ?_ e1.toList d ?_ ?_ ?_ ?_ ?_;rfl;exact R1.1;exact HD.1;exact HD.2;exact R1.2;rw[show U3 e1.toList.toArray=v from HV.1.symm])|fail)
   refine(g0 wr K0.out).mono ?_;rintro e W1 ⟨uu,rfl,gt,f1,f2,rfl,d6,cq,gr,g8,fy,fx⟩;have K1:=mk1 (k5 wr W1 gt K0.out);obtain⟨b1,h9⟩:∃b,Hid (W1.heap.size=b):=⟨_,rfl⟩
   obtain⟨W2,kt⟩:∃W,Hid (W1.alloc (.cells #[.slice none 0 0,.slice none 0 0,.slice none 0 0] 133)=W):=⟨_,rfl⟩
   obtain⟨W3,d1⟩:∃W,Hid (W2.alloc (.cells #[.slice none 0 0,.slice none 0 0,.slice none 0 0] 133)=W):=⟨_,rfl⟩
   obtain⟨W4,ec⟩:∃W,Hid (W3.setCells b1 0 f1.toList=W):=⟨_,rfl⟩
   obtain⟨W5,en⟩:∃W,Hid (W4.setCells (b1+1) 0 f2.toList=W):=⟨_,rfl⟩
   have zz:W2.heap.size=b1+1:=by rw[<-kt.out,UB,h9.out]
   have bn:f1.toList.length=3:=by rw[UK];exact d6
   have bo:f2.toList.length=3:=by rw[UK];exact cq
   have F3:kZ W1 W3/\Row W3 b1 [.slice none 0 0,.slice none 0 0,.slice none 0 0]/\Row W3 (b1+1) [.slice none 0 0,.slice none 0 0,.slice none 0 0]:=by
    have bA:kZ W1 W2:=by rw[<-kt.out];exact aC _ _
    have A:kZ W2 W3:=by rw[<-d1.out];exact aC _ _
    have R:Row W2 b1 [.slice none 0 0,.slice none 0 0,.slice none 0 0]:=by rw[<-kt.out,<-h9.out];exact aE W1 _ _
    have D:Row W3 (b1+1) [.slice none 0 0,.slice none 0 0,.slice none 0 0]:=by rw[<-d1.out,<-zz];exact aE W2 _ _
    exact⟨bA.trans (A.mono bA.size),R.below A,D⟩
   have F4:kZ W1 W4/\Row W4 b1 f1.toList/\Row W4 (b1+1) [.slice none 0 0,.slice none 0 0,.slice none 0 0]:=by
    rw[<-ec.out];exact⟨RG.below_setCells (by rw[h9.out];exact Uw _) _ _ _ F3.1,F3.2.1.put (by rw[bn];rfl),aR F3.2.2 oM⟩
   have F5:kZ W1 W5/\Row W5 b1 f1.toList/\Row W5 (b1+1) f2.toList:=by
    rw[<-en.out];exact⟨RG.below_setCells (by rw[h9.out];omega) _ _ _ F4.1,aR F4.2.1 oM,F4.2.2.put (by rw[bo];rfl)⟩
   have K5:=mk5 (k5 W1 W5 F5.1 K1.out) F5.2.1 F5.2.2 (fy.keep (Kq.of_below F5.1)) (fx.keep (Kq.of_below F5.1));have HT:Hid ((W2.heap.size=b1+1/\W3.there b1 0 f1.size/\W4.there (b1+1) 0 f2.size)/\f1.all (·.oneCell')=true/\f2.all (·.oneCell')=true/\(prog.info? 133).map (·.size)=some f1.size/\(prog.info? 133).map (·.size)=some f2.size/\(prog.info? 133).map (·.size)=some f1.toList.length/\(prog.info? 133).map (·.size)=some f2.toList.length):=⟨⟨zz,by rw[d6];exact F3.2.1.2.2,by rw[cq];exact F4.2.2.2.2⟩,gr,g8,by rw[d6];exact iGr,by rw[cq];exact iGr,by rw[bn];exact iGr,by rw[bo];exact iGr⟩
   obtain⟨y1,fa⟩:=hE (U3 f1);obtain⟨y2,ft⟩:=hE (U3 f2);rw[fa.out,ft.out];go_wp2_with (first|(refine alR 11 h9 kt ?_)|(refine fB (v:=.pointer (some ⟨b1+1,0,none⟩)) (w':=W3) rfl 133 12 rfl rfl ?_ ?_;(rw[<-d1.out,<-HT.1.1];kernel_rfl))|(refine U2 rfl 133 (.tmp 11) _ rfl b1 0 f1 ?_ ?_ ?_ ?_ ?_ ?_;rfl;exact fa.symm;exact HT.1.2.1;exact HT.2.2.2.1;exact HT.2.1;rw[ec.out])|(refine U2 rfl 133 (.tmp 12) _ rfl (b1+1) 0 f2 ?_ ?_ ?_ ?_ ?_ ?_;rfl;exact ft.symm;exact HT.1.2.2;exact HT.2.2.2.2.1;exact HT.2.2.1;rw[en.out])|fail)
   refine(gwL [pE (.agg f1.toList.toArray),pE (.slice (some ⟨ga,oa,none⟩) n ca),pE (iZ m),pE (.slice (some ⟨ga,oa,none⟩) m ca),pE (.slice (some ⟨Z,ob,none⟩) n F),pE (iZ m),pE (.slice (some ⟨Z,ob+m*4,none⟩) m (F-m)),pM (λ_=>True) l1,pE (pvl X),RG.pN W5.heap.size z33] (λW=>kZ W5 W) (λW W' K h=>h.trans (K.mono h.size))).tail2 10 kR kR kR ⟨
    iD 133 11 b1 0 f1.toList uGr HT.2.2.2.2.2.1 rfl (λW T=>RG.range_below K5.2.1.2.1 T K5.2.1.1) (λ_=>rfl),
    gO 2 (.slice (some ⟨ga,oa,none⟩) n ca),
    gO 10 (iZ m),
    RG.gX 1 29 2 30 bl,
    gO 3 (.slice (some ⟨Z,ob,none⟩) n F),
    gO 10 (iZ m),
    RG.gX 4 32 5 33 kc,
    rG 0 28 3 31 6 34 158 (λx y z=>#[x,y,z]) (λx y z W hx D hz T=>by
     obtain rfl:x=.agg f1.toList.toArray:=hx;obtain rfl:y=(.slice (some ⟨ga,oa,none⟩) m ca):=D;obtain rfl:z=(.slice (some ⟨Z,ob+m*4,none⟩) m (F-m)):=hz;refine(cS.1 W _ (k5 W5 W T K5.1) (K5.2.2.2.1.keep (Kq.of_below T))).mono ?_;rintro e W' ⟨uu,rfl,K,hs⟩;exact⟨_,rfl,K,hs.q.mono λ_ _=>trivial⟩),
    oW 7 35 67 (λx=>#[x]) (λx W hx T=>by
     have hx:=hx;refine(cP.1 W x hx.sm).mono ?_;rintro e W' ⟨uu,rfl,K,rfl⟩;exact⟨_,rfl,K,rfl⟩),
    xP z33 103 (λW W' hR T=>⟨_,rfl,T.size,hR⟩),yCl⟩ (UR _ _).drew ?_
   intro V cj hR T;have d4:=hR 8 dC;obtain⟨A,d2,h4,kj⟩:∃k,V 9=jZ k/\W5.heap.size<=k/\Row cj k z33:=hR 9 dC;obtain⟨W7,ci⟩:=hE (cj.setCells A 0 (aA X));have kk:=aB h7.1;have cg:kZ W5 W7:=by rw[<-ci.out];exact RG.below_setCells h4 _ _ _ T
   have gu:Row W7 A (aA X):=by rw[<-ci.out];exact kj.put (by rw[kk];rfl)
   have bg:Hid (cj.there A 0 (aA X).toArray.size/\(prog.info? 103).map (·.size)=some (aA X).toArray.size):=by
    rw[VC,kk];exact⟨kj.2.2,iCP⟩
   dsimp only[bU,VK,Xl,Xm];simp only[UN,Us,Uu,Uv];obtain⟨gz,c0⟩:=hE (pvl X);rw[d4,d2,c0.out];have dm:=mk1 (Ux ((h5 W5).1 K5.1).r3.1 h4);have bu:Hid (∀g,E.ownBlock=some g\/J.ownBlock=some g->g<A):=λg M=>by
    have h:=(h5 W5).1 K5.1;rcases M with M|M
    ·exact Ux (h.tL.lt M).2 h4
    ·exact Ux (h.tR.lt M).2 h4
   have K7:=mk4 (k5 W5 W7 cg K5.1) (K5.2.2.1.below cg) (K5.2.2.2.2.keep (Kq.of_below cg)) gu;go_wp2_with (first|(refine stR 13 ci c0 bg.1 bg.2 (bW X) ?_)|fail)
   refine(gwL [pE (.agg f2.toList.toArray),pE (.slice (some ⟨ga,oa,none⟩) n ca),pE (iZ m),pE (.slice (some ⟨ga,oa+m*4,none⟩) m (ca-m)),pE (.slice (some ⟨Z,ob,none⟩) n F),pE (iZ m),pE (.slice (some ⟨Z,ob,none⟩) m F),pM (λ_=>True) l2,pE (pvl Y),RG.pN W7.heap.size z33] (λW=>kZ W7 W) (λW W' K h=>h.trans (K.mono h.size))).tail2 10 kR kR kR ⟨
    iD 133 12 (b1+1) 0 f2.toList uGr HT.2.2.2.2.2.2 rfl (λW T=>RG.range_below K7.2.1.2.1 T K7.2.1.1) (λ_=>rfl),
    gO 2 (.slice (some ⟨ga,oa,none⟩) n ca),
    gO 10 (iZ m),
    RG.gX 1 38 2 39 ka,
    gO 3 (.slice (some ⟨Z,ob,none⟩) n F),
    gO 10 (iZ m),
    RG.gX 4 41 5 42 bp,
    rG 0 37 3 40 6 43 158 (λx y z=>#[x,y,z]) (λx y z W hx D hz T=>by
     obtain rfl:x=.agg f2.toList.toArray:=hx;obtain rfl:y=(.slice (some ⟨ga,oa+m*4,none⟩) m (ca-m)):=D;obtain rfl:z=(.slice (some ⟨Z,ob,none⟩) m F):=hz;refine(cS.2 W _ (k5 W7 W T K7.1) (K7.2.2.1.keep (Kq.of_below T))).mono ?_;rintro e W' ⟨uu,rfl,K,hs⟩;exact⟨_,rfl,K,hs.q.mono λ_ _=>trivial⟩),
    oW 7 44 67 (λx=>#[x]) (λx W hx T=>by
     have hx:=hx;refine(cP.2 W x hx.sm).mono ?_;rintro e W' ⟨uu,rfl,K,rfl⟩;exact⟨_,rfl,K,rfl⟩),
    xP z33 103 (λW W' hR T=>⟨_,rfl,T.size,hR⟩),yCl⟩ (UR _ _).drew ?_
   intro V cf hR T;have d4:=hR 8 dC;obtain⟨D,d2,h4,kj⟩:∃k,V 9=jZ k/\W7.heap.size<=k/\Row cf k z33:=hR 9 dC;obtain⟨W9,d8⟩:∃W,Hid (cf.setCells D 0 (aA Y)=W):=⟨_,rfl⟩
   have kk:=aB h7.2.1;have fh:kZ W7 W9:=by rw[<-d8.out];exact RG.below_setCells h4 _ _ _ T
   have g5:Row W9 D (aA Y):=by rw[<-d8.out];exact kj.put (by rw[kk];rfl)
   have c9:Hid (cf.there D 0 (aA Y).toArray.size/\(prog.info? 103).map (·.size)=some (aA Y).toArray.size):=by
    rw[VC,kk];exact⟨kj.2.2,iCP⟩
   dsimp only[bU,VK,Xl,Xm];simp only[UN,Us,Uu,Uv];obtain⟨i3,bz⟩:=hE (pvl Y);rw[d4,d2,bz.out];have K9:Hid (PH W9/\Row W9 A (aA X)/\Row W9 D (aA Y)/\W9.heap.size<=W9.heap.size):=⟨k5.out W7 W9 fh K7.1,K7.2.2.2.below fh,g5,Uw _⟩
   have e6:=mk2 dm.out (Ux ((h5 W7).1 K7.1).r3.1 h4);have c7:Hid (∀g,E.ownBlock=some g\/J.ownBlock=some g->g<D):=λg M=>by
    have h:=(h5 W7).1 K7.1;rcases M with M|M
    ·exact Ux (h.tL.lt M).2 h4
    ·exact Ux (h.tR.lt M).2 h4
   go_wp2_with (first|(refine stR 14 d8 bz c9.1 c9.2 (bW Y) ?_)|fail)
   obtain⟨dP,k2,hw⟩:=Uy.1 uCP;have kn:(prog.info? 103).map (·.size)=some (aA X).length:=by rw[aB h7.1];exact iCP
   have ke:(prog.info? 103).map (·.size)=some (aA Y).length:=by rw[aB h7.2.1];exact iCP
   have k8:∀W W':Ur,kZ W W'->k+3<W.heap.size->A<W.heap.size->D<W.heap.size->(W.cell? ⟨k+3,0,none⟩=some E/\W.cell? ⟨k+3,1,none⟩=some J/\W.rangeAt A 0 (aA X)/\W.rangeAt D 0 (aA Y))->(W'.cell? ⟨k+3,0,none⟩=some E/\W'.cell? ⟨k+3,1,none⟩=some J/\W'.rangeAt A 0 (aA X)/\W'.rangeAt D 0 (aA Y)):=λW W' K h3 g4 b7 h=>⟨by rw[K.cell (p:=⟨k+3,0,none⟩) h3];exact h.1,by rw[K.cell (p:=⟨k+3,1,none⟩) h3];exact h.2.1,RG.range_below h.2.2.1 K g4,RG.range_below h.2.2.2 K b7⟩
   have cu:∀W W':Ur,W'.heap[k+3]? = W.heap[k+3]?->W'.heap[A]? = W.heap[A]?->W'.heap[D]? = W.heap[D]?->(W.cell? ⟨k+3,0,none⟩=some E/\W.cell? ⟨k+3,1,none⟩=some J/\W.rangeAt A 0 (aA X)/\W.rangeAt D 0 (aA Y))->(W'.cell? ⟨k+3,0,none⟩=some E/\W'.cell? ⟨k+3,1,none⟩=some J/\W'.rangeAt A 0 (aA X)/\W'.rangeAt D 0 (aA Y)):=λW W' e3 gs gp h=>⟨by rw[UW (a:=⟨k+3,0,none⟩) e3];exact h.1,by rw[UW (a:=⟨k+3,1,none⟩) e3];exact h.2.1,λj u hj=>by rw[UW (a:=⟨A,0+j,none⟩) gs];exact h.2.2.1 j u hj,λj u hj=>by rw[UW (a:=⟨D,0+j,none⟩) gp];exact h.2.2.2 j u hj⟩
   have P9:=(h5 W9).1 K9.1;have gh:=P9.r3.1;obtain⟨-,i1,-,es⟩:=P9.r3;have S9:W9.drew.cell? ⟨k+3,0,none⟩=some E/\W9.drew.cell? ⟨k+3,1,none⟩=some J/\W9.drew.rangeAt A 0 (aA X)/\W9.drew.rangeAt D 0 (aA Y):=⟨es.2.1 0 _ rfl,es.2.1 1 _ rfl,K9.2.1.2.1,K9.2.2.1.2.1⟩
   have z9:k+3<W9.drew.heap.size/\A<W9.drew.heap.size/\D<W9.drew.heap.size:=⟨P9.r3.1,K9.2.1.1,K9.2.2.1.1⟩
   have P9:=P9.drew;have f9:Lb i=X:=by rw[eu.1 i,HS.2.1];exact h7.2.2.1.symm
   have e4:Rb i=Y:=by rw[eu.2 i,HS.2.2];exact h7.2.2.2.symm
   have h8:∀(i:Nat),i≠13->i≠15->∀(l:Array Bool) (W:Ur),(((l.setIfInBounds i true).getD 13 false=false->W.cell? ⟨k+3,0,none⟩=some E)/\((l.setIfInBounds i true).getD 15 false=false->W.cell? ⟨k+3,1,none⟩=some J)/\W.rangeAt A 0 (aA X)/\W.rangeAt D 0 (aA Y))->((l.getD 13 false=false->W.cell? ⟨k+3,0,none⟩=some E)/\(l.getD 15 false=false->W.cell? ⟨k+3,1,none⟩=some J)/\W.rangeAt A 0 (aA X)/\W.rangeAt D 0 (aA Y)):=λi h1 h2 l W h=>⟨λe=>h.1 (by rw[XQ false h1];exact e),λe=>h.2.1 (by rw[XQ false h2];exact e),h.2.2⟩
   have mS:∀(l:Array Bool) (W:Ur),(W.cell? ⟨k+3,0,none⟩=some E/\W.cell? ⟨k+3,1,none⟩=some J/\W.rangeAt A 0 (aA X)/\W.rangeAt D 0 (aA Y))->((l.getD 13 false=false->W.cell? ⟨k+3,0,none⟩=some E)/\(l.getD 15 false=false->W.cell? ⟨k+3,1,none⟩=some J)/\W.rangeAt A 0 (aA X)/\W.rangeAt D 0 (aA Y)):=λl W h=>⟨λ_=>h.1,λ_=>h.2.1,h.2.2⟩
   refine anyS.begin (λl W=>(l.getD 13 false=false->W.cell? ⟨k+3,0,none⟩=some E)/\(l.getD 15 false=false->W.cell? ⟨k+3,1,none⟩=some J)/\W.rangeAt A 0 (aA X)/\W.rangeAt D 0 (aA Y)) kR ?_;have bS:∀(p:Nat),Bef (λl W=>(yBQ l 13 false=false->VY W ⟨k+3,0,none⟩=some E)/\(yBQ l 15 false=false->VY W ⟨k+3,1,none⟩=some J)/\YS W A 0 (aA X)/\YS W D 0 (aA Y)) p W9.drew:=λp=>⟨#[],by simp,mS _ _ S9⟩
   refine anyS.val (i:=0) (d:=some 46) (x:=.pointer (some ⟨k+3,0,none⟩)) rfl 13 (h8 0 dC dC) (bS 13) (mS _ _ S9) ?_;refine anyS.cel (i:=1) (d:=some 47) (x:=E) rfl 13 (h8 1 dC dC) 24 46 (k+3) 0 rfl uLL (λW ⟨l,e,h⟩=>h.1 e) (bS 13) (mS _ _ S9) ?_;refine anyS.row (i:=2) (d:=some 48) (cs:=aA X) rfl 13 (h8 2 dC dC) 103 13 A 0 dP rfl k2 hw kn (λW ⟨l,e,h⟩=>h.2.2.1) (bS 13) (mS _ _ S9) ?_;refine anyS.val (i:=6) (d:=some 52) (x:=.pointer (some ⟨k+3,1,none⟩)) rfl 13 (h8 6 dC dC) (bS 13) (mS _ _ S9) ?_;refine anyS.cel (i:=7) (d:=some 53) (x:=J) rfl 15 (h8 7 dC dC) 24 52 (k+3) 1 rfl uLL (λW ⟨l,e,h⟩=>h.2.1 e) (bS 15) (mS _ _ S9) ?_;refine anyS.row (i:=8) (d:=some 54) (cs:=aA Y) rfl 14 (h8 8 dC dC) 103 14 D 0 dP rfl k2 hw ke (λW ⟨l,e,h⟩=>h.2.2.2) (bS 14) (mS _ _ S9) ?_;refine anyS.cal (i:=3) (d:=some 49) rfl (fZ h7.1 W9.drew) (λxa Wa he=>?_);have Pa:=P9.grow he.1;have Sa:=k8 _ _ he.1 z9.1 z9.2.1 z9.2.2 S9;have za:k+3<Wa.heap.size/\A<Wa.heap.size/\D<Wa.heap.size:=by have:=he.1.size;omega
   obtain⟨gx,rfl⟩:=he.2.2;have Ea:=he.2.1.mono2 λg _ M=>P9.qn g M
   have de:=mk2 he.1 he.2.1;refine⟨mS _ _ Sa,?_⟩;have bb:=aC Wa (.cells #[r33 gx] 23);have gj:=SJ Ea Wa;have Pb:=Pa.grow bb;have Sb:=k8 _ _ bb za.1 za.2.1 za.2.2 Sa;have zb:k+3<(Wa.alloc (.cells #[r33 gx] 23)).heap.size/\A<(Wa.alloc (.cells #[r33 gx] 23)).heap.size/\D<(Wa.alloc (.cells #[r33 gx] 23)).heap.size:=by have:=bb.size;omega
   have g3:=(aE Wa [r33 gx] 23).2.1 0 _ rfl;refine anyS.ins (i:=4) (d:=some 50) (v:=sZ Wa.heap.size 1 1) (w':=Wa.alloc (.cells #[r33 gx] 23)) (I:=Vy 24 1 #[(0,r33 gx)]) rfl gj (mS _ _ Sb) ?_;obtain⟨R,Wc,gq,Pc,A1⟩:=P9.appL (ga:=Wa.heap.size) (gx:=gx) (de.1.trans (bb.mono de.1.size)) (by rw[f9];exact de.2.keep (Kq.of_below bb)) g3 oM;have Sc:=cu _ _ (A1.keep (k+3) zb.1 λe=>by have:=(Pb.tL.lt e).1;omega) (A1.keep A zb.2.1 λe=>by have:=bu.out _ (U4 e);omega) (A1.keep D zb.2.2 λe=>by have:=c7.out _ (U4 e);omega) Sb;have zc:k+3<Wc.heap.size/\A<Wc.heap.size/\D<Wc.heap.size:=by have:=A1.size;omega
   refine anyS.ins (i:=5) (d:=some 51) (v:=R) (w':=Wc) (I:=Vt #[24,24] 24 #[E,sZ Wa.heap.size 1 1]) rfl gq (mS _ _ Sc) ?_;refine anyS.val (i:=12) (d:=some 58) (x:=.pointer (some ⟨k+3,0,none⟩)) rfl 13 (h8 12 dC dC) ⟨#[],by simp,mS _ _ Sc⟩ (mS _ _ Sc) ?_;refine anyS.cal (i:=9) (d:=some 55) rfl (fZ h7.2.1 Wc) (λxd Wd hp=>?_);have Pd:=Pc.grow hp.1;have Sd:=k8 _ _ hp.1 zc.1 zc.2.1 zc.2.2 Sc;have zd:k+3<Wd.heap.size/\A<Wd.heap.size/\D<Wd.heap.size:=by have:=hp.1.size;omega
   obtain⟨gy,rfl⟩:=hp.2.2;have Ed:=hp.2.1.mono2 λg _ M=>Pc.qn g M
   have ck:=mk2 hp.1 hp.2.1;refine⟨mS _ _ Sd,?_⟩;have bd:=aC Wd (.cells #[r33 gy] 23);have ep:=SJ Ed Wd;have Pe:=Pd.grow bd;have Se:=k8 _ _ bd zd.1 zd.2.1 zd.2.2 Sd;have ze:k+3<(Wd.alloc (.cells #[r33 gy] 23)).heap.size/\A<(Wd.alloc (.cells #[r33 gy] 23)).heap.size/\D<(Wd.alloc (.cells #[r33 gy] 23)).heap.size:=by have:=bd.size;omega
   have gn:(Wd.alloc (.cells #[r33 gy] 23)).cell? ⟨Wd.heap.size,0,none⟩=some (r33 gy):=(aE Wd [r33 gy] 23).2.1 0 _ rfl;refine anyS.ins (i:=10) (d:=some 56) (v:=sZ Wd.heap.size 1 1) (w':=Wd.alloc (.cells #[r33 gy] 23)) (I:=Vy 24 1 #[(0,r33 gy)]) rfl ep (mS _ _ Se) ?_;have gv:ElQ (Wc.heap.size<=·) 33 (Wd.alloc (.cells #[r33 gy] 23)) (r33 gy) (Rb i):=by rw[e4];exact ck.2.keep (Kq.of_below bd)
   have fz:i<=900:=oM;have dl:=Pc.appR (ga:=Wd.heap.size) (gx:=gy) (ck.1.trans (bd.mono ck.1.size)) gv gn fz;obtain⟨S,Wf,fu,Pf,A2⟩:=dl;have Sf:=cu _ _ (A2.keep (k+3) ze.1 λe=>by have:=(Pe.tR.lt e).1;omega) (A2.keep A ze.2.1 λe=>by have:=bu.out _ (UX e);omega) (A2.keep D ze.2.2 λe=>by have:=c7.out _ (UX e);omega) Se;have zf:A<Wf.heap.size/\D<Wf.heap.size:=by have:=A2.size;omega
   refine anyS.ins (i:=11) (d:=some 57) (v:=S) (w':=Wf) (I:=Vt #[24,24] 24 #[J,sZ Wd.heap.size 1 1]) rfl fu (mS _ _ Sf) ?_;have ki:=Pf.tL.one;have kr:=Pf.tR.one;obtain⟨-,gw,-,co⟩:=Pf.r3;have er:Wf.there (k+3) 0 1:=λj hj=>co.2.2 j (Ux hj (Nat.succ_le_succ (Wy _)))
   have ej:Wf.there (k+3) 1 1:=λj hj=>by
    have k9:j=0:=oM;subst k9;exact co.2.2 1 (yA9 (Y0 _))
   have gc:A≠k+3:=by have:=e6.1;omega
   have g6:D≠k+3:=by have:=e6.2;omega
   have rg:∀(o:Nat) (x:Ut) (W:Ur),W.rangeAt A 0 (aA X)/\W.rangeAt D 0 (aA Y)->(W.setCells (k+3) o [x]).rangeAt A 0 (aA X)/\(W.setCells (k+3) o [x]).rangeAt D 0 (aA Y):=λo x W h=>⟨Vh h.1 _ _ _ (U4 gc),Vh h.2 _ _ _ (U4 g6)⟩
   have df:=(kQ (x:=R) (o:=0) co (Y0 _)).2.1 1 _ rfl;refine anyS.sto (i:=13) (d:=none) rfl 24 (.tmp 58) (.tmp 51) rfl (k+3) 0 R ki.1 ki.2 er iLL ⟨λe=>absurd e (nfB kR),λ_=>df,rg _ _ _ Sf.2.2⟩ ?_;refine anyS.nxt (i:=14) (d:=some 59) (x:=.pointer (some ⟨k+3,1,none⟩)) rfl ⟨λe=>absurd e (nfB kR),λ_=>df,rg _ _ _ Sf.2.2⟩ ?_;refine anyS.sto (i:=15) (d:=none) rfl 24 (.tmp 59) (.tmp 57) rfl (k+3) 1 S kr.1 kr.2 (VW ej _ _ _) iLL ⟨λe=>absurd e (nfB kR),λe=>absurd e (nfB kR),rg _ _ _ (rg _ _ _ Sf.2.2)⟩ ?_;simp only[UN,Us,Uu,Uv];refine anyS.fin kR (λWg eg=>?_) _;have Pg:=Pf.put' eg;have ek:Wg.rangeAt A 0 (aA X)/\Wg.rangeAt D 0 (aA Y):=by rw[eg];exact rg 1 S _ (rg 0 R _ Sf.2.2)
   have zg:A<Wg.heap.size/\D<Wg.heap.size:=by rw[eg,setCells_size,setCells_size];exact zf
   clear Pf Sf ki kr er ej rg df zf mS h8 S9 P9 z9 k8 cu eg;have KG:=Hid.mk' (V1 Pg (V1 ek zg));clear Pg ek zg;obtain⟨dL,bh,c5⟩:=Uy.1 uLg;have cv:Hid ((prog.underlying 145=some dL/\dL.isRow=true)/\prog.underlying 103=some dP/\dP.isRow=true):=⟨⟨bh,c5⟩,k2,hw⟩
   have kp:Hid ((prog.info? 103).map (·.size)=some (aA X).length/\(prog.info? 103).map (·.size)=some (aA Y).length):=⟨kn,ke⟩
   clear bh c5 k2 hw kn ke f9 e4 gh;obtain⟨pX,fb⟩:∃v,Hid (pvl X=v):=⟨_,rfl⟩
   obtain⟨pY,fq⟩:∃v,Hid (pvl Y=v):=⟨_,rfl⟩
   have ee:Hid (UH prog 146 #[vl,.string ⟨#[108,101,102,116]⟩,pX,.string ⟨#[114,105,103,104,116]⟩,pY] Wg (Ret λe w'=>SP.Only r 0 32 Wg w'/\Holds encB w' r 0 sx/\e=nv cx.val)):=by
    rw[<-be.out,<-fb.out,<-fq.out];exact dy.out Wg KG.1.lg KG.1.ls
   go_wp2_with (first|(refine U6 rfl 145 (.tmp 4) rfl k 0 ?_ [jZ r] dL ?_ ?_ ?_ ?_ ?_;rfl;exact KG.1.r0.2.1;exact cv.1.1;exact cv.1.2;exact iLg;rw[show U3 [jZ r].toArray=vl from be.out])|(refine ldR 13 KG.2.1.1 fb uCP kp.1 ?_)|(refine ldR 14 KG.2.1.2 fq uCP kp.2 ?_)|fail)
   refine ee.mono ?_;rintro e Wh ⟨uu,rfl,fs,fl,rfl⟩;have e7:Hid (Ph w Wh r k (i+1) (i+1) (m+m) R S R S v (.slice (some ⟨ga,oa,none⟩) (m+m) ca) (.slice (some ⟨Z,ob,none⟩) (m+m) F) Lb Rb sx (λj=>(L.a j).val) (λj=>(L.b j).val) G H U):=KG.1.say fs fl f7.2;clear fs fl ee KG cv kp dy;obtain⟨x,hu⟩:∃x,Hid (cx.val=x):=⟨_,rfl⟩
   obtain⟨xi,h6⟩:∃x,Hid ((ivF cx).val=x):=⟨_,rfl⟩
   have fj:Hid (∀W:Ur,UH prog 159 #[nv x] W (rZ W λe w'=>e=nv xi)):=by
    rw[<-hu.out,<-h6.out];exact λW=>uS HF.2.1 cx.val cx.isLt W
   rw[hu.out];obtain⟨b5,kx⟩:∃b,Hid (Wh.heap.size=b):=⟨_,rfl⟩
   obtain⟨Wi,cy⟩:∃W,Hid (Wh.alloc (.cells #[uZ 0,uZ 0,uZ 0,uZ 0] 49)=W):=⟨_,rfl⟩
   obtain⟨Wj,ba⟩:∃W,Hid (Wi.setCells b5 0 (wn x)=W):=⟨_,rfl⟩
   have Fi:Hid (Row Wi b5 [uZ 0,uZ 0,uZ 0,uZ 0]/\kZ Wh Wi):=by rw[<-cy.out,<-kx.out];exact⟨aE Wh _ _,aC _ _⟩
   have bj:kZ Wh Wj:=by rw[<-ba.out];exact RG.below_setCells (by rw[kx.out];exact Uw _) _ _ _ Fi.2
   have Kj:Hid (Ph w Wj r k (i+1) (i+1) (m+m) R S R S v (.slice (some ⟨ga,oa,none⟩) (m+m) ca) (.slice (some ⟨Z,ob,none⟩) (m+m) F) Lb Rb sx (λj=>(L.a j).val) (λj=>(L.b j).val) G H U/\Row Wj b5 (wn x)):=⟨e7.grow bj,by rw[<-ba.out];exact Fi.1.put rfl⟩
   obtain⟨vx,kz⟩:∃v,Hid (nv x=v):=⟨_,rfl⟩
   have bq:Hid (∀W:Ur,UH prog 159 #[vx] W (rZ W λe w'=>e=nv xi)):=by rw[<-kz.out];exact fj.out
   rw[kz.out];clear bj e7 fj;go_wp2_with (first|(refine alR 15 kx cy ?_)|(refine stR 15 ba kz Fi.1.2.2 nSc (aM x) ?_)|(refine ldR 15 Kj.2.2.1 kz rSc nSc ?_)|fail)
   refine(bq Wj).mono ?_;rintro e Wk ⟨uu,rfl,h4,rfl⟩;obtain⟨b6,ku⟩:∃b,Hid (Wk.heap.size=b):=⟨_,rfl⟩
   obtain⟨Wl,d0⟩:∃W,Hid (Wk.alloc (.cells #[uZ 0,uZ 0,uZ 0,uZ 0] 49)=W):=⟨_,rfl⟩
   obtain⟨Wm,b9⟩:∃W,Hid (Wl.setCells b6 0 (wn xi)=W):=⟨_,rfl⟩
   have Fl:Hid (Row Wl b6 [uZ 0,uZ 0,uZ 0,uZ 0]/\kZ Wk Wl):=by rw[<-d0.out,<-ku.out];exact⟨aE Wk _ _,aC _ _⟩
   have bm:kZ Wj Wm:=by
    have:kZ Wk Wm:=by rw[<-b9.out];exact RG.below_setCells (by rw[ku.out];exact Uw _) _ _ _ Fl.2
    exact h4.trans (this.mono h4.size)
   have Km:Hid (Ph w Wm r k (i+1) (i+1) (m+m) R S R S v (.slice (some ⟨ga,oa,none⟩) (m+m) ca) (.slice (some ⟨Z,ob,none⟩) (m+m) F) Lb Rb sx (λj=>(L.a j).val) (λj=>(L.b j).val) G H U/\Row Wm b5 (wn x)/\Row Wm b6 (wn xi)):=⟨Kj.1.grow bm,Kj.2.below bm,by rw[<-b9.out];exact Fl.1.put rfl⟩
   obtain⟨vi,f5⟩:∃v,Hid (nv xi=v):=⟨_,rfl⟩
   rw[f5.out];clear bm h4 Kj Fi bq cy ba kx;go_wp2_with (first|(refine alR 16 ku d0 ?_)|(refine stR 16 b9 f5 Fl.1.2.2 nSc (aM xi) ?_)|fail)
   clear Fl d0 b9 ku;simp only[UN,Us,Uu,Uv];have ky:x<N:=by rw[<-hu.out];exact cx.isLt
   have kh:xi<N:=by rw[<-h6.out];exact(ivF cx).isLt
   have e8:sIn N x=xi:=by rw[<-hu.out,<-h6.out];rfl
   have e9:GOk N (m+m) c G H U:=sN (by have:=sG.2.2.1;omega) sG.2.2.2.1 sG.2.2.2.2.1 sG.1 sG.2.1 HF.2.2.2.1 HF.2.2.2.2.1 HF.2.2.2.2.2.1;have PW:Hid (∀W,kZ Wm W->Ph w W r k (i+1) (i+1) (m+m) R S R S v (.slice (some ⟨ga,oa,none⟩) (m+m) ca) (.slice (some ⟨Z,ob,none⟩) (m+m) F) Lb Rb sx (λj=>(L.a j).val) (λj=>(L.b j).val) G H U):=λW K=>Km.1.grow K
   have cF:Hid ((∀W,kZ Wm W->UH prog 160 #[.slice (some ⟨ga,oa,none⟩) n ca,nv x,nv xi] W (rZ W λe w'=>SLq (QH r k R S) w' e m (nM N x xi m (λj=>(L.a j).val))))/\(∀W,kZ Wm W->UH prog 160 #[.slice (some ⟨Z,ob,none⟩) n F,nv xi,nv x] W (rZ W λe w'=>SLq (QH r k R S) w' e m (nM N xi x m (λj=>(L.b j).val))))/\(∀W,kZ Wm W->UH prog 161 #[v,nv x] W (rZ W λe w'=>GRq (QH r k R S) w' e m (kY N xi x m G) (kY N x xi m H) U))):=by
    rw[<-hn.out];refine⟨λW K=>?_,λW K=>?_,λW K=>?_⟩
    ·refine(Jy HF.2.1 m (by have:=sG.2.2.2.2.2.1;omega) _ x xi ky kh (λj _=>(L.a j).isLt) _ W (PW W K).la).mono ?_;rintro e w' ⟨uu,rfl,h1,h2⟩;exact⟨_,rfl,h1,h2.mono λg M=>(PW W K).qn g M⟩
    ·refine(Jy HF.2.1 m (by have:=sG.2.2.2.2.2.1;omega) _ xi x kh ky (λj _=>(L.b j).isLt) _ W (PW W K).lb).mono ?_;rintro e w' ⟨uu,rfl,h1,h2⟩;exact⟨_,rfl,h1,h2.mono λg M=>(PW W K).qn g M⟩
    ·have:=Fp HF.2.1 m c sG.2.2.1 G H U e9 x ky v W (PW W K).qn (PW W K).gr;rw[e8]at this;exact this
   obtain⟨ev,f4,kd,dk,bv⟩:=Km.1.r1;have k4:Hid (v=.agg ev/\Row Wm (k+1) ev.toList/\(prog.info? 133).map (·.size)=some ev.toList.length/\ev.size=3):=⟨f4,bv,by rw[UK,kd];exact iGr,kd⟩
   clear f4 kd dk bv ky kh e8 e9;refine(gwL [pE (.slice (some ⟨ga,oa,none⟩) n ca),pE (nv x),pE (nv xi),RG.pS (QH r k R S) m (nM N x xi m (λj=>(L.a j).val)),pE (.slice (some ⟨Z,ob,none⟩) n F),pE (nv xi),pE (nv x),RG.pS (QH r k R S) m (nM N xi x m (λj=>(L.b j).val)),pE (.agg ev.toList.toArray),pE (nv x),pR (QH r k R S) m (kY N xi x m G) (kY N x xi m H) U] (λW=>kZ Wm W) (λW W' K h=>h.trans (K.mono h.size))).tail2 11 kR kR kR ⟨
    gO 2 (.slice (some ⟨ga,oa,none⟩) n ca),
    gLo 15 (λW T=>RG.range_below Km.2.1.2.1 T Km.2.1.1) rSc nSc,
    gLo 16 (λW T=>RG.range_below Km.2.2.2.1 T Km.2.2.1) rSc nSc,
    rG 0 66 1 67 2 68 160 (λx y z=>#[x,y,z]) (λa1 a2 a3 W h1 h2 h3 T=>by
     obtain rfl:a1=(.slice (some ⟨ga,oa,none⟩) n ca):=h1;obtain rfl:a2=nv x:=h2;obtain rfl:a3=nv xi:=h3;refine(cF.1 W T).mono ?_;rintro e W' ⟨uu,rfl,K,hs⟩;exact⟨_,rfl,K,hs⟩),
    gO 3 (.slice (some ⟨Z,ob,none⟩) n F),
    gLo 16 (λW T=>RG.range_below Km.2.2.2.1 T Km.2.2.1) rSc nSc,
    gLo 15 (λW T=>RG.range_below Km.2.1.2.1 T Km.2.1.1) rSc nSc,
    rG 4 70 5 71 6 72 160 (λx y z=>#[x,y,z]) (λa1 a2 a3 W h1 h2 h3 T=>by
     obtain rfl:a1=(.slice (some ⟨Z,ob,none⟩) n F):=h1;obtain rfl:a2=nv xi:=h2;obtain rfl:a3=nv x:=h3;refine(cF.2.1 W T).mono ?_;rintro e W' ⟨uu,rfl,K,hs⟩;exact⟨_,rfl,K,hs⟩),
    iD 133 5 (k+1) 0 ev.toList uGr k4.2.2.1 kR (λW T=>RG.range_below k4.2.1.2.1 T k4.2.1.1) (λ_=>rfl),
    gLo 15 (λW T=>RG.range_below Km.2.1.2.1 T Km.2.1.1) rSc nSc,
    eD 8 74 9 75 161 (λx y=>#[x,y]) (λa1 a2 W h1 h2 T=>by
     obtain rfl:a1=v:=(show a1=.agg ev.toList.toArray from h1).trans k4.1.symm;obtain rfl:a2=nv x:=h2;refine(cF.2.2 W T).mono ?_;rintro e W' ⟨uu,rfl,K,hs⟩;exact⟨_,rfl,K,hs⟩),yCl⟩ (UR _ _).drew ?_
   intro V Wn hR T;have d3:SLq (QH r k R S) Wn (V 3) m (nM N x xi m (λj=>(L.a j).val)):=hR 3 dC;have db:SLq (QH r k R S) Wn (V 7) m (nM N xi x m (λj=>(L.b j).val)):=hR 7 dC;have k0:GRq (QH r k R S) Wn (V 10) m (kY N xi x m G) (kY N x xi m H) U:=hR 10 dC;obtain⟨ef,dh,kf,c3⟩:=k0.ar;rw[dh]at k0;dsimp only[bU,VK,Xl,Xm];simp only[UN,Us,Uu,Uv];rw[dh];generalize V 3=na at d3⊢;generalize V 7=nb at db⊢;have Pn:=(PW Wn T).next d3 db k0;obtain⟨Wo,ei⟩:∃W,Hid (Wn.setCells (k+1) 0 ef.toList=W):=⟨_,rfl⟩
   rw[ei.out]at Pn;have d9:Hid (Wn.there (k+1) 0 ef.size/\(prog.info? 133).map (·.size)=some ef.size/\ef.all (·.oneCell')=true):=by
    refine⟨?_,by rw[kf];exact iGr,c3⟩;rw[kf];have:=(k4.2.1.below T).2.2;rw[UK,k4.2.2.2]at this;exact this
   have c4:(aD C f).qT (chF N) ivF u m L=⟨sx,Md.fS cx (ivF cx) m L.a,Md.fS (ivF cx) cx m L.b,(aD C f).fP (ivF cx) cx m L.g,(aD C f).fP cx (ivF cx) m L.h⟩:=by
    unfold Md.qT;rw[f7.1]
   have ff:Hid (∃E J v G H,Gd N (2^(t-(i+1))) (2^(i+1)) G ((aD C f).pst (chF N) ivF u t q (i+1)).g/\Gd N (2^(t-(i+1))) (2^(i+1)) H ((aD C f).pst (chF N) ivF u t q (i+1)).h/\Ph w Wo r k (i+1) (i+1) (2^(t-(i+1))) E J E J v na nb Lb Rb ((aD C f).pst (chF N) ivF u t q (i+1)).s (λj=>(((aD C f).pst (chF N) ivF u t q (i+1)).a j).val) (λj=>(((aD C f).pst (chF N) ivF u t q (i+1)).b j).val) G H U):=by
    show ∃E J v G H,_;rw[HS.1,c4,HE.1,HE.2];have ea:nM N x xi m (λj=>(L.a j).val)=λj=>(Md.fS cx (ivF cx) m L.a j).val:=by
     rw[<-hu.out,<-h6.out];funext j;exact Ct cx (ivF cx) m L.a j
    have eb:nM N xi x m (λj=>(L.b j).val)=λj=>(Md.fS (ivF cx) cx m L.b j).val:=by
     rw[<-hu.out,<-h6.out];funext j;exact Ct (ivF cx) cx m L.b j
    rw[ea,eb]at Pn;have g1:=sG.1.fold C f (ivF cx) cx;have g2:=sG.2.1.fold C f cx (ivF cx);rw[hu.out,h6.out]at g1 g2;exact⟨_,_,_,_,_,g1,g2,Pn⟩
   obtain⟨vf,ez⟩:∃v,Hid (U3 ef=v):=⟨_,rfl⟩
   rw[ez.out];clear hR T d3 db k0 dh kf c3 Pn c4 cF PW Km;generalize V 0=q0;generalize V 1=q1;generalize V 2=q2;generalize V 4=q4;generalize V 5=q5;generalize V 6=q6;generalize V 8=q8;generalize V 9=q9;go_wp2_with (first|(refine U2 rfl 133 (.tmp 5) _ rfl (k+1) 0 ef ?_ ?_ ?_ ?_ ?_ ?_;rfl;exact ez.symm;exact d9.1;exact d9.2.1;exact d9.2.2;rw[ei.out])|fail)
   go_roundg (gk-1)
   case measure=>have:=HI.out;omega
   case rel=>exact⟨i+1,by have:=HI.out;omega,ff⟩
  ·have gm:i=t:=oM;subst gm;obtain⟨E,J,v,G,H,-,-,h0⟩:=KM.out;clear KM;rw[Nat.sub_self,Nat.pow_zero]at h0;obtain⟨ga,oa,ca,rfl,-,qa,fd,V⟩:=id h0.la;obtain⟨Z,ob,F,rfl,-,qb,fe,X⟩:=id h0.lb;have V:=V 0 dC;have X:=X 0 dC;obtain⟨a0,d5⟩:∃a,Hid ((((aD C f).pst (chF N) ivF u i q i).a 0).val=a):=⟨_,rfl⟩
   obtain⟨b0,da⟩:∃a,Hid ((((aD C f).pst (chF N) ivF u i q i).b 0).val=a):=⟨_,rfl⟩
   have V:wr.rangeAt ga (oa+4*0) (wn a0):=by rw[<-d5.out];exact V
   have X:wr.rangeAt Z (ob+4*0) (wn b0):=by rw[<-da.out];exact X
   have ex:Hid (a0<N/\b0<N):=⟨by rw[<-d5.out];exact Fin.isLt _,by rw[<-da.out];exact Fin.isLt _⟩
   have KP:=Hid.mk' h0;have KR:Hid (wr.rangeAt ga (oa+4*0) (wn a0)/\wr.rangeAt Z (ob+4*0) (wn b0)/\ga<wr.heap.size/\Z<wr.heap.size):=⟨V,X,fd,fe⟩
   have hz:k+4<=wr.heap.size:=h0.r3.1;have ct:=Hid.mk' hz;obtain⟨dS,km,ko⟩:=Uy.1 rSc;have na:ga≠k+3:=by have:=qa.2.1;omega
   have nb:Z≠k+3:=by have:=qb.2.1;omega
   have L:∀W,kZ wr W->W.rangeAt ga (oa+4*0) (wn a0)/\W.rangeAt Z (ob+4*0) (wn b0):=λW K=>⟨RG.range_below V K fd,RG.range_below X K fe⟩
   have dd:∀(o:Nat) (x:Ut) (W:Ur),W.rangeAt ga (oa+4*0) (wn a0)/\W.rangeAt Z (ob+4*0) (wn b0)->(W.setCells (k+3) o [x]).rangeAt ga (oa+4*0) (wn a0)/\(W.setCells (k+3) o [x]).rangeAt Z (ob+4*0) (wn b0):=λo x W h=>⟨Vh h.1 _ _ _ (U4 na),Vh h.2 _ _ _ (U4 nb)⟩
   have bd:kZ wr wr.drew:=(UR _ _).drew;clear h0 hz hi;go_wp2_with fail
   refine anyS.begin (λ_ W=>W.rangeAt ga (oa+4*0) (wn a0)/\W.rangeAt Z (ob+4*0) (wn b0)) kR ?_;have bS:Bef (λ_ W=>YS W ga (oa+4*0) (wn a0)/\YS W Z (ob+4*0) (wn b0)) 11 wr.drew:=⟨#[],by simp,L _ bd⟩
   refine anyS.val (i:=0) (d:=some 77) (x:=.slice (some ⟨ga,oa,none⟩) 1 ca) rfl 11 (λ_ _ h=>h) bS (L _ bd) ?_;simp only[UN,Us,Uu,Uv];refine anyS.val (i:=1) (d:=some 78) (x:=.pointer (some ⟨ga,oa+4*0,none⟩)) rfl 11 (λ_ _ h=>h) bS (L _ bd) ?_ (hv:=hvI (lF ga oa 1 ca 0 dC) kR);simp only[UN,Us,Uu,Uv];refine anyS.row (i:=2) (d:=some 79) (cs:=wn a0) rfl 11 (λ_ _ h=>h) 49 78 ga (oa+4*0) dS rfl km ko nSc (λW ⟨l,e,h⟩=>h.1) bS (L _ bd) ?_;simp only[UN,Us,Uu,Uv];refine anyS.val (i:=4) (d:=some 81) (x:=(.slice (some ⟨Z,ob,none⟩) 1 F)) rfl 11 (λ_ _ h=>h) bS (L _ bd) ?_;simp only[UN,Us,Uu,Uv];refine anyS.val (i:=5) (d:=some 82) (x:=.pointer (some ⟨Z,ob+4*0,none⟩)) rfl 11 (λ_ _ h=>h) bS (L _ bd) ?_ (hv:=hvI (lF Z ob 1 F 0 dC) kR);simp only[UN,Us,Uu,Uv];refine anyS.row (i:=6) (d:=some 83) (cs:=wn b0) rfl 11 (λ_ _ h=>h) 49 82 Z (ob+4*0) dS rfl km ko nSc (λW ⟨l,e,h⟩=>h.2) bS (L _ bd) ?_;simp only[UN,Us,Uu,Uv];clear bS;refine anyS.cal (i:=3) (d:=some 80) rfl (fW HF.2.1 ex.1 wr.drew) (λxA W1 Y=>?_);obtain⟨D,rfl⟩:=Y.2.2;have bA:kZ wr W1:=bd.trans Y.1;refine⟨L _ bA,?_⟩;simp only[UN,Us,Uu,Uv];refine anyS.val (i:=8) (d:=some 85) (x:=.pointer (some ⟨k+3,2,none⟩)) rfl 11 (λ_ _ h=>h) ⟨#[],by simp,L _ bA⟩ (L _ bA) ?_;simp only[UN,Us,Uu,Uv];have P1:=KP.grow bA;have lA:wr.heap.size<=D/\D<W1.heap.size:=by
    obtain⟨k1,c1,e1,-,-,q1,l1,-⟩:=Y.2.1;obtain rfl:D=k1:=UO.inj (congrArg V9 e1);exact⟨q1,l1⟩
   have fg:ElQ (k+4<=·) 32 W1 (r32 D) (bx a0):=Y.2.1.mono2 λg _ M=>UC ct.out M
   have R:∀(W:Ur) (o:Nat) (x:Ut),Kq (k+4<=·) W (W.setCells (k+3) o [x]):=λW o x=>Kq.set λg M e=>oM
   have T:∀g,E.ownBlock=some g->g<wr.heap.size/\g≠k+3:=λg M=>⟨(KP.tL.lt M).2,by have:=(KP.tL.lt M).1;omega⟩
   have S:∀g,J.ownBlock=some g->g<wr.heap.size/\g≠k+3:=λg M=>⟨(KP.tR.lt M).2,by have:=(KP.tR.lt M).1;omega⟩
   have key:∀(W:Ur),(∀g,g<wr.heap.size->g≠k+3->W.heap[g]? = wr.heap[g]?)->wr.heap.size<=W.heap.size->∀A,D<A->A<W.heap.size->DjF (k+4) W i E J (r32 D) (r32 A):=λW hk hs A h1 h2=>DjF.of KP.dj hs (λg M=>hk g (T g M).1 (T g M).2) (λg M=>hk g (S g M).1 (S g M).2) ct.out lA.1 h1 h2
   have ed:∀ {W:Ur},R3 W (k+3) E J->∃z,Row (W.setCells (k+3) 2 [r32 D]) (k+3) [E,J,r32 D,z]/\W.there (k+3) 2 1:=λh=>by
    obtain⟨-,rs,hl,hr⟩:=h;match rs,hl,hr with
    | [x,z],_,hr =>
     refine⟨z,kQ (x:=r32 D) (o:=2) hr (Yt rfl),λj hj=>?_⟩;have k9:j=0:=oM;subst k9;exact hr.2.2 2 (Yt rfl)
   obtain⟨PH,p1,pF⟩:∃PH:Ur->Prop,(∀W W',kZ W1 W->W'=W.setCells (k+3) 2 [r32 D]->PH W'/\R3 W (k+3) E J)/\(∀W A,PH W->ElQ (k+4<=·) 32 (W.setCells (k+3) 3 [r32 A]) (r32 D) (bx a0)->ElQ (k+4<=·) 32 (W.setCells (k+3) 3 [r32 A]) (r32 A) (bx b0)->DjF (k+4) (W.setCells (k+3) 3 [r32 A]) i E J (r32 D) (r32 A)->Row (W.setCells (k+3) 3 [r32 A]) (k+2) [.slice none 0 0,.slice none 0 0,.slice none 0 0,.slice none 0 0]/\Row ((W.setCells (k+3) 3 [r32 A]).setCells (k+2) 0 [E,J,r32 D,r32 A]) (k+2) [E,J,r32 D,r32 A]/\PhR w r i Lb Rb ((aD C f).pst (chF N) ivF u i q i).s (bx a0) (bx b0) (.agg #[E,J,r32 D,r32 A]) ((W.setCells (k+3) 3 [r32 A]).setCells (k+2) 0 [E,J,r32 D,r32 A])):=⟨λW=>Ph w W r k i i 1 E J E J v (.slice (some ⟨ga,oa,none⟩) 1 ca) (.slice (some ⟨Z,ob,none⟩) 1 F) Lb Rb ((aD C f).pst (chF N) ivF u i q i).s (λj=>(((aD C f).pst (chF N) ivF u i q i).a j).val) (λj=>(((aD C f).pst (chF N) ivF u i q i).b j).val) G H U,λW W' K e=>by rw[e];exact⟨(P1.grow K).putA (o:=0) dC,(P1.grow K).r3⟩,λW A h e1 e2 e3=>(h.putA (o:=1) dC).fin e1 e2 e3⟩
   have lB:∀ {W W':Ur}{A:Nat}{b:Bs},ElQ (W.heap.size<=·) 32 W' (r32 A) b->W.heap.size<=A/\A<W'.heap.size:=λh=>by
    obtain⟨k1,c1,e1,-,-,q1,l1,-⟩:=h;obtain rfl:=UO.inj (congrArg V9 e1);exact⟨q1,l1⟩
   have b7:k+4<=W1.heap.size:=UC ct.out bA.size;refine anyS.cal (i:=7) (d:=some 84) rfl (fW HF.2.1 ex.2 W1) ?_;rintro v W' ⟨kv,cz,A,rfl⟩;have bw:=bA.trans (kv.mono bA.size);obtain⟨ph,bi⟩:=p1 W' _ kv rfl;obtain⟨z,hz,f8⟩:=ed bi;have l2:=lB cz;have e1:=(fg.keep (Kq.of_below kv)).keep (R W' 2 (r32 D));have e2:=(cz.mono2 (Q':=(k+4<=·)) λg _ M=>UC b7 M).keep (R W' 2 (r32 D));have e3:=key (W'.setCells (k+3) 2 [r32 D]) (λg h1 h2=>(aH (k+3) _ _ _ g h2).trans (bw.block g h1)) (by rw[setCells_size];exact bw.size) A (Ux lA.2 l2.1) (by rw[setCells_size];exact l2.2);have rr:=dd 2 (r32 D) _ (L _ bw);refine⟨L _ bw,?_⟩;simp only[UN,Us,Uu,Uv];refine anyS.sto (i:=9) (d:=none) rfl 23 (.tmp 85) (.tmp 80) rfl (k+3) 2 (r32 D) rfl rfl f8 iB1 rr ?_;simp only[UN,Us,Uu,Uv];generalize W'.setCells (k+3) 2 [r32 D]=W at ph hz e1 e2 e3 rr⊢;have KF:=pF W A ph (e1.keep (R _ _ _)) (e2.keep (R _ _ _)) (e3.keep (Uw _) (by rw[setCells_size];exact Uw _) (λg M=>aH (k+3) _ _ _ g (T g M).2) (λg M=>aH (k+3) _ _ _ g (S g M).2));have cn:Row (W.setCells (k+3) 3 [r32 A]) (k+3) [E,J,r32 D,r32 A]:=kQ (x:=r32 A) (o:=3) hz (Yt rfl);have eo:W.there (k+3) 3 1:=λj hj=>by
    have k9:j=0:=oM;subst k9;exact hz.2.2 3 (Yt rfl)
   refine anyS.nxt (i:=10) (d:=some 86) (x:=.pointer (some ⟨k+3,3,none⟩)) rfl rr ?_;simp only[UN,Us,Uu,Uv];refine anyS.sto (i:=11) (d:=none) rfl 23 (.tmp 86) (.tmp 84) rfl (k+3) 3 (r32 A) rfl rfl eo iB1 (dd _ _ _ rr) ?_;simp only[UN,Us,Uu,Uv];refine anyS.fin kR ?_ _;intro WZ dw;rw[<-dw]at KF cn;obtain⟨Wd,f3⟩:=hE (WZ.setCells (k+2) 0 [E,J,r32 D,r32 A]);rw[f3.out]at KF;have ON:Hid ((#[E,J,r32 D,r32 A]:Array Ut).all (·.oneCell')=true):=by show _=_;simp[KP.tL.one.2,KP.tR.one.2,e1.one.2,e2.one.2]
   have KF:=mk2 KF cn;obtain⟨dI,bk,c6⟩:=Uy.1 Lf;have e5:=mk2 bk c6;obtain⟨vO,fp⟩:=hE (U3 #[E,J,r32 D,r32 A]);clear L dd bd KP P1 dw rr ph kv cz bw cn f8 l2 bi e1 e2 e3 hz eo pF p1 key ed fg R T S Y b7 lA bk c6 km ko na nb qa qb;go_wp2_with (first|(refine U6 rfl 26 (.tmp 9) rfl (k+3) 0 ?_ [E,J,r32 D,r32 A] dI ?_ ?_ ?_ ?_ ?_;rfl;exact KF.2.2.1;exact e5.1;exact e5.2;exact Jf;rw[show U3 [E,J,r32 D,r32 A].toArray=vO from fp.out])|(refine U2 rfl 26 (.tmp 8) _ rfl (k+2) 0 #[E,J,r32 D,r32 A] ?_ ?_ ?_ ?_ ?_ ?_;rfl;exact fp.symm;exact KF.1.1.2.2;exact Jf;exact ON.out;rw[show(#[E,J,r32 D,r32 A]:Array Ut).toList=[E,J,r32 D,r32 A] from rfl,f3.out])|fail)
   refine UE (aG 8 26 rfl KF.1.2.1 rfl Lf Jf) rfl ?_;refine⟨_,rfl,?_⟩;have:=KF.1.2.2;rw[<-d5.out,<-da.out]at this;exact this
end
section
open SPA
variable {P:Nat}[NeZero P]{N:Nat}
def hvA(n:Nat):Ut:=if n=1 then .tuple #[iZ 0,.bool true] else if n=2 then .tuple #[iZ 1,.bool true] else if n=4 then .tuple #[iZ 2,.bool true] else if n=8 then .tuple #[iZ 3,.bool true] else if n=16 then .tuple #[iZ 4,.bool true] else if n=32 then .tuple #[iZ 5,.bool true] else if n=64 then .tuple #[iZ 6,.bool true] else .tuple #[iZ 0,.bool false]
theorem Px(n:Nat)(d:n=1\/n=2\/n=4\/n=8\/n=16\/n=32\/n=64\/n=128)(w:Ur):UH prog 57 #[iZ n] w (rZ w λe w'=>e=hvA n):=by
 obtain⟨b,k⟩:∃b,b=n:=⟨_,rfl⟩
 rcases d with rfl|rfl|rfl|rfl|rfl|rfl|rfl|rfl
 all_goals
  go_enter func57,ntmps57;go_wp2;go_loopg [5] 7 (λm s5 W=>W=w/\((m=7/\s5=iZ 0)\/(m=6/\s5=iZ 1/\1<b)\/(m=5/\s5=iZ 2/\2<b)\/(m=4/\s5=iZ 3/\4<b)\/(m=3/\s5=iZ 4/\8<b)\/(m=2/\s5=iZ 5/\16<b)\/(m=1/\s5=iZ 6/\32<b)\/(m=0/\s5=iZ 7/\64<b)))
  case atStart=>exact⟨rfl,U4 ⟨rfl,rfl⟩⟩
  case round =>
   obtain⟨rfl,h⟩:=hrel;rcases h with⟨rfl,rfl⟩|⟨rfl,rfl,c⟩|⟨rfl,rfl,c⟩|⟨rfl,rfl,c⟩|⟨rfl,rfl,c⟩|⟨rfl,rfl,c⟩|⟨rfl,rfl,c⟩|⟨rfl,rfl,c⟩
   all_goals
    first
     | (exfalso;omega)
     | skip
   all_goals
    go_wp2;first
     | (go_ret2;exact⟨_,rfl,UR _ _,rfl⟩)
     | (go_roundg 6;(case measure=>omega);(case rel=>exact⟨rfl,by simp[k]⟩))
     | (go_roundg 5;(case measure=>omega);(case rel=>exact⟨rfl,by simp[k]⟩))
     | (go_roundg 4;(case measure=>omega);(case rel=>exact⟨rfl,by simp[k]⟩))
     | (go_roundg 3;(case measure=>omega);(case rel=>exact⟨rfl,by simp[k]⟩))
     | (go_roundg 2;(case measure=>omega);(case rel=>exact⟨rfl,by simp[k]⟩))
     | (go_roundg 1;(case measure=>omega);(case rel=>exact⟨rfl,by simp[k]⟩))
     | (go_roundg 0;(case measure=>omega);(case rel=>exact⟨rfl,by simp[k]⟩))
end
section
open SPA
variable {P:Nat}[NeZero P]{N:Nat}[NeZero N]
noncomputable def gPt (C:Fld P) (lb:ByteArray) (i:Nat):OnP P:=⟨.some (hpt P lb (hZ i).toList),AY C lb _⟩
noncomputable def lPt (C:Fld P) (lb:ByteArray) (x:List UInt8):OnP P:=⟨.some (hpt P lb x),AY C lb x⟩
noncomputable def uPt (C:Fld P):OnP P:=lPt C ⟨#[105,110,110,101,114]⟩ []
omit [NeZero N] in
theorem Nt(C:Fld P)(k:1<N)(lb:ByteArray)(i:Nat):Tl N [(1,hpN P lb i)] (gPt C lb i):=Tl.one C k (gPt C lb i)
omit [NeZero N] in
theorem QG(C:Fld P)(k:1<N)(lb:ByteArray)(x:List UInt8):Tl N [(1,wr (.some (hpt P lb x):EC.Pt P))] (lPt C lb x):=Tl.one C k (lPt C lb x)
omit [NeZero N] in
theorem vE(C:Fld P)(k:1<N)(n:Nat):Gd N n 1 (gGT P) (gPt C ⟨#[108,101,102,116]⟩):=⟨λi _=>Nt C k _ i,λ_ _=>rfl⟩
omit [NeZero N] in
theorem nK(C:Fld P)(k:1<N)(n:Nat):Gd N n 1 (hGT P) (gPt C ⟨#[114,105,103,104,116]⟩):=⟨λi _=>Nt C k _ i,λ_ _=>rfl⟩
omit [NeZero N] in
theorem mR(C:Fld P)(k:1<N):Tl N (uGT P) (uPt C):=QG C k _ _
omit [NeZero N] in
theorem Kf(O:Ord N)(n cap:Nat)(m:n<=512)(q:Option Wu)(L:Nat->Bs)(a:Nat->Nat)(w:Ur)(o:Args w q n L)(d:∀j,j<n->rq N (L j)=some (a j)):UH prog 121 #[(.func (.func 16) #[] #[]),.slice q n cap] w (rZ w λe w'=>∃k,e=.tuple #[sZ k n n,.bool true]/\SLq (w.heap.size<=·) w' (sZ k n n) n a):=by
 refine(Nl O n cap m q L w o).mono ?_;rintro e w' ⟨v,rfl,h⟩;rcases h with⟨⟨j,p,i⟩,-⟩|⟨-,k,r,b,hR,rfl⟩
 ·rw[d j p]at i;cases i
 ·refine⟨_,rfl,b.bel,k,rfl,k,0,n,rfl,Uw _,b.le,b.lt,λj f t u g=>?_⟩;have l:=(UF.1 g).1;have c:=hR.row j t f l;rw[d j f]at c;have:=b.range (4*j+t) u (by rw[c];exact g);rw[show 0+(4*j+t)=0+4*j+t by omega]at this;exact this
theorem Pu(t:Nat)(k:t<=6):hvA (2^t)=.tuple #[iZ t,.bool true]:=by
 match t,k with
 | 0,_=>rfl
 | 1,_=>rfl
 | 2,_=>rfl
 | 3,_=>rfl
 | 4,_=>rfl
 | 5,_=>rfl
 | 6,_=>rfl
 | n+7,h=>omega
theorem OT(t:Nat)(k:t<=6):2^t=1\/2^t=2\/2^t=4\/2^t=8\/2^t=16\/2^t=32\/2^t=64\/2^t=128:=by
 match t,k with
 | 0,_=>decide
 | 1,_=>decide
 | 2,_=>decide
 | 3,_=>decide
 | 4,_=>decide
 | 5,_=>decide
 | 6,_=>decide
 | n+7,h=>omega
theorem anyS.sta{P:VD}{c:Array Vk}{Q:Yo->Act->Ur->Prop}{S:Array Bool->Ur->Prop}{i e:Nat}{o:Vk}{k:Array Bool}{a:Act}{w:Ur}{d:Option WC}(ho:c[i]? = some o)(g:U8)(x y:XG)(f:o.op=.store g x y)(b off:Nat)(us:Array Ut)(s:us.all (·.oneCell')=true)(n:w.there b off us.size)(p:(P.info? g).map (·.size)=some us.size)
 (r:S (k.setIfInBounds i true) (w.setCells b off us.toList)) (h:anyS P c Q S e (k.setIfInBounds i true) (a.put d WP) (w.setCells b off us.toList)) (hx:a.eval x=oZ b off:=by kernel_rfl) (m:a.eval y=.agg us:=by kernel_rfl)
 (j:U7 .any c k=[i]:=by kernel_rfl) (q:o.guard=none:=by rfl) (hd:o.dst=d:=by kernel_rfl):anyS P c Q S (e+1) k a w:=by
 subst hd;exact anyS.step ho j λK l=>by
  rw[yCj (bI q _)];have j:=ZA (P:=P) w b off g us n p s;unfold VT U5;simp only[f,hx,m,Yw,X4,UV,Wr,Vm,j];exact l.out _ _ r h
theorem ElQ.off{Q:Nat->Prop}{m k:Nat}{W:Ur}{x:Ut}{b:Bs}{vs:List Ut}(h:ElQ Q m W x b)(q:0<m)(o:Row W k (.slice none 0 0 :: vs)):ElQ (·≠k) m W x b:=by
 obtain⟨g,c,n,l,i,p,j,e⟩:=h;refine⟨g,c,n,l,i,?_,j,e⟩;rintro rfl;have d:=(e 0 oM).1;have f:=o.2.1 0 _ rfl;rw[show(0+0:Nat)=0 from rfl]at d f;rw[f]at d;cases d
theorem wY{w W:Ur}{r o m B:Nat}(h:SP.Only r o m w W)(b:B<=w.heap.size)(c:B<=r):Below B w W:=⟨h.os,h.tape,h.output,h.size,λg k=>h.block g oM oM⟩
end
section
structure Iv where
 p:Ur->Prop
 gr:∀W W',kZ W W'->p W->p W'
 b:Bool
abbrev Iv.bel(k:Ur):Iv:=⟨λW=>kZ k W,λ_ _ b h=>h.trans (b.mono h.size),true⟩
abbrev Iv.only{r:Nat}{k:Ur}(b:r<k.heap.size):Iv:=⟨λW=>SP.Only r 0 32 k W,λ_ _ c h=>h.trans (SP.Only.of_below c rfl (Ux b h.size)),false⟩
section
variable {P:VD}{ops:Array Vk}{Q:Yo->Act->Ur->Prop}{p r:Nat}{J:Iv}{W:Ur}
def Sa(p r:Nat)(J:Iv)(l:Array Bool)(W:Ur):Prop:=(J.b=true/\l.getD p false=true/\l.getD r false=true)\/J.p W
theorem Sa.back{i:Nat}(h:p≠i)(b:r≠i)(l:Array Bool)(W:Ur)(k:Sa p r J (l.setIfInBounds i true) W):Sa p r J l W:=by
 rcases k with k|k
 ·rw[XQ false (YB h),XQ false (YB b)]at k;exact U4 k
 ·exact UX k
def qw(k:Array Vk)(b:Bool)(p r i:Nat):Nat:=bif b then bif waits k p i then p else r else((VG k.size).find? λj=>waits k j i).getD 0
theorem Sa.bel{i:Nat}(h:Bef (Sa p r J) (qw ops J.b p r i) W):J.p W:=by
 obtain⟨l,k,⟨d,b⟩|b⟩:=h
 ·exfalso;unfold qw at k;rw[d]at k;cases c:waits ops p i with
  | true=>rw[c]at k;exact Yx (k.symm.trans b.1)
  | false=>rw[c]at k;exact Yx (k.symm.trans b.2)
 ·exact b
theorem Sa.bef{q:Nat}(h:J.p W):Bef (Sa p r J) q W:=⟨#[],by simp,UX h⟩
def AW(P:VD)(c:Array Vk)(Q:Yo->Act->Ur->Prop)(p r:Nat)(J:Iv)(b:Nat)(k:Array Bool)(a:Act)(w:Ur):Prop:=J.p w->anyS P c Q (Sa p r J) b k a w
theorem AW.beg{id:Nat}{a:Act}{w:Ur}(p r:Nat)(J:Iv)(b:J.p w.drew)(h:AW P ops Q p r J ops.size (UJ ops.size false) a w.drew)(k:P.follows .mixedOrders=true:=by kernel_rfl):(V4 id ops true).wp P Q a w:=anyS.begin (Sa p r J) k (h b)
theorem AW.begin{id:Nat}{a:Act}{w:Ur}(p r:Nat)(h:AW P ops Q p r (Iv.bel w) ops.size (UJ ops.size false) a w.drew)(k:P.follows .mixedOrders=true:=by kernel_rfl):(V4 id ops true).wp P Q a w:=AW.beg p r (Iv.bel w) (UR _ w).drew h k
def aw1(b:Array Vk)(p r q i:Nat)(k:Array Bool):Bool:=waits b q i && XL b && !(k.getD q false || q == i) && YL .any b k i && (U7 .any b k).contains i && !(p == i) && !(r == i)
def fw(k:Array Vk)(i:Nat):Nat:=((VG k.size).find? λj=>waits k j i).getD 0
variable {i fuel:Nat}{o:Vk}{listed:Array Bool}{a a':Act}{w w':Ur}{d:Option WC}{x v:Ut}{t:WC}{T:U8}{b off:Nat}{cs:List Ut}
theorem AW.take(i q:Nat)(ho:ops[i]? = some o)(hd:o.dst=d)(j:YieldsIf P ops (Bef (Sa p r J) q) o x a)(g:a.put d x=a')(b:aw1 ops p r q i listed=true)(n:∀c a w,Q (.panic c) (a.put o.dst x) w->Q (.panic c) a w)(h:AW P ops Q p r J fuel (listed.setIfInBounds i true) a' w):AW P ops Q p r J (fuel+1) listed a w:=λk=>by
 subst g hd;simp only[aw1,UL,Bool.not_eq_true']at b;obtain⟨⟨⟨⟨⟨⟨u,t⟩,e⟩,f⟩,m⟩,l⟩,s⟩:=b;exact anyS.take (p:=q) ho (Sa.back (by simpa using l) (by simpa using s)) j (Sa.bef k) (UX k) (h k) u t e f m n
theorem AW.va(i:Nat)(x:Ut)(h:AW P ops Q p r J fuel (listed.setIfInBounds i true) a' w)(ho:ops[i]? = some o:=by(simp only[Vg,U9,Vf])<;>rfl)(hd:o.dst=d:=by rfl)(e:o.guard=none:=by rfl)(hv:∀w,(U5 a.eval o).run P w=.ok (.value x) w:=by intro _;kernel_rfl)
 (k:a.put d x=a':=by(simp only[UN,Us,Uu,Uv])<;>rfl) (f:aw1 ops p r (fw ops i) i listed=true:=by kernel_rfl) (b:∀c a w,Q (.panic c) (a.put o.dst x) w->Q (.panic c) a w:=by exact λ_ _ _ h=>h):AW P ops Q p r J (fuel+1) listed a w:=
 AW.take i (fw ops i) ho hd (U4 ⟨bI e _,λw _=>hv w⟩) k f b h
theorem AW.iv(i:Nat){I:Sem Ut}(j:∀w,I.run P w=.ok x w)(h:AW P ops Q p r J fuel (listed.setIfInBounds i true) a' w)(ho:ops[i]? = some o:=by(simp only[Vg,U9,Vf])<;>rfl)(hd:o.dst=d:=by rfl)(e:o.guard=none:=by rfl)(f:U5 a.eval o=I >>= λv=>pure (Xp v):=by kernel_rfl)
 (k:a.put d x=a':=by(simp only[UN,Us,Uu,Uv])<;>rfl) (g:aw1 ops p r (fw ops i) i listed=true:=by kernel_rfl) (b:∀c a w,Q (.panic c) (a.put o.dst x) w->Q (.panic c) a w:=by exact λ_ _ _ h=>h):AW P ops Q p r J (fuel+1) listed a w:=
 AW.take i (fw ops i) ho hd (U4 ⟨bI e _,λw _=>by rw[f,UV,j w];rfl⟩) k g b h
theorem P6{b:Array U8}{s t k:WC}{f:Xq}{y:Ut}(hf:∀args W,(callFunc f args).run P W=.ok (.enter f args) W)(ho:o.op=.call ⟨.value (.tmp s),#[.tmp t,.tmp k],b⟩)(c:a.eval (.tmp s)=.func (.func f) #[] #[])(hx:a.eval (.tmp t)=x)(d:a.eval (.tmp k)=y):(U5 a.eval o).run P w=.ok (.enter f #[x,y]) w:=by
 unfold U5;rw[ho];have e:(#[yBg t,yBg k].map a.eval)=#[x,y]:=by simp[hx,d]
 simp only[resolve,c,Deferred.ofValue,UV,Wr,Vm,invoke,e];exact hf _ w
theorem AW.mv(i:Nat)(h:AW P ops Q p r J fuel (listed.setIfInBounds i true) a' w)(ho:ops[i]? = some o:=by(simp only[Vg,U9,Vf])<;>rfl)(hd:o.dst=d:=by rfl)(f:o.guard=none:=by rfl)(k:o.op=.move (.tmp t):=by rfl)(hx:a.eval (.tmp t)=x:=by(conv=>lhs;whnf)<;>rfl)
 (b:a.put d x=a':=by(simp only[UN,Us,Uu,Uv])<;>rfl) (g:aw1 ops p r (fw ops i) i listed=true:=by kernel_rfl) (e:∀c a w,Q (.panic c) (a.put o.dst x) w->Q (.panic c) a w:=by exact λ_ _ _ h=>h):AW P ops Q p r J (fuel+1) listed a w:=
 AW.take i (fw ops i) ho hd (U4 ⟨bI f _,λw _=>by unfold U5;rw[k];dsimp only;rw[hx];rfl⟩) b g e h
theorem AW.ce(i:Nat)(f:(P.underlying T).map (·.isRow)=some false)(g:∀W,J.p W->W.cell? ⟨b,off,none⟩=some x)(h:AW P ops Q p r J fuel (listed.setIfInBounds i true) a' w)(ho:ops[i]? = some o:=by(simp only[Vg,U9,Vf])<;>rfl)(hd:o.dst=d:=by rfl)(m:o.guard=none:=by rfl)(k:o.op=.load T (.tmp t):=by rfl)(hx:a.eval (.tmp t)=oZ b off:=by rfl)
 (j:a.put d x=a':=by(simp only[UN,Us,Uu,Uv])<;>rfl) (n:aw1 ops p r (qw ops J.b p r i) i listed=true:=by kernel_rfl) (l:∀c a w,Q (.panic c) (a.put o.dst x) w->Q (.panic c) a w:=by exact λ_ _ _ h=>h):AW P ops Q p r J (fuel+1) listed a w:=
 AW.take i (qw ops J.b p r i) ho hd (U4 ⟨bI m _,λw e=>by
  unfold U5;rw[k];dsimp only;rw[hx,UV,fD (g w (Sa.bel e)) f];rfl⟩) j n l h
theorem AW.ro(i:Nat)(e:∀W,J.p W->W.rangeAt b off cs)(hv:Hid (.agg cs.toArray=x))(n:(P.underlying T).map (·.isRow)=some true)(l:(P.info? T).map (·.size)=some cs.length)(h:AW P ops Q p r J fuel (listed.setIfInBounds i true) a' w)(ho:ops[i]? = some o:=by(simp only[Vg,U9,Vf])<;>rfl)(hd:o.dst=d:=by rfl)(s:o.guard=none:=by rfl)(k:o.op=.load T (.tmp t):=by rfl)(hx:a.eval (.tmp t)=oZ b off:=by rfl)
 (f:a.put d x=a':=by(simp only[UN,Us,Uu,Uv])<;>rfl) (g:aw1 ops p r (qw ops J.b p r i) i listed=true:=by kernel_rfl) (q:∀c a w,Q (.panic c) (a.put o.dst x) w->Q (.panic c) a w:=by exact λ_ _ _ h=>h):AW P ops Q p r J (fuel+1) listed a w:=by
 obtain rfl:=hv.out;obtain⟨m,v,u⟩:=Uy.1 n;exact AW.take i (qw ops J.b p r i) ho hd (yieldsIf_load_mid (bI s _) T (.tmp t) k b off hx cs m (λw j=>e w (Sa.bel j)) v u l) f g q h
theorem AW.ca(i:Nat){f:Xq}{args:Array Ut}{R:Ut->Ur->Prop}(g:J.p w->UH P f args w (Ret R))(hR:∀e w',R e w'->kZ w w')(h:∀e w',R e w'->AW P ops Q p r J fuel (listed.setIfInBounds i true) (a.put d e) w')(ho:ops[i]? = some o:=by(simp only[Vg,U9,Vf])<;>rfl)(hd:o.dst=d:=by rfl)(j:o.guard=none:=by rfl)(hx:(U5 a.eval o).run P w=.ok (.enter f args) w:=by kernel_rfl)(b:U7 .any ops listed=[i]:=by kernel_rfl):AW P ops Q p r J (fuel+1) listed a w:=λc =>
 anyS.cal ho (g c) (λe w' b=>by
  have k:=J.gr w w' (hR e w' b) c;exact⟨UX k,h e w' b k⟩) b j hx hd
theorem AW.cw(i:Nat){f:Xq}{args:Array Ut}{R:Ut->Ur->Prop}(c:J.p w->UH P f args w (Ret R))(hR:∀e w',J.p w->R e w'->J.p w')(h:∀e w',R e w'->AW P ops Q p r J fuel (listed.setIfInBounds i true) (a.put d e) w')(ho:ops[i]? = some o:=by(simp only[Vg,U9,Vf])<;>rfl)(hd:o.dst=d:=by rfl)(g:o.guard=none:=by rfl)(hx:(U5 a.eval o).run P w=.ok (.enter f args) w:=by kernel_rfl)(k:U7 .any ops listed=[i]:=by kernel_rfl):AW P ops Q p r J (fuel+1) listed a w:=λb =>
 anyS.cal ho (c b) (λe w' k=>⟨UX (hR e w' b k),h e w' k (hR e w' b k)⟩) k g hx hd
theorem AW.gi(i:Nat){f:Xq}{args:Array Ut}(k:J.p w->UH P f args w (rZ w λe w'=>e=x))(h:∀w',kZ w w'->AW P ops Q p r J fuel (listed.setIfInBounds i true) a' w')(ho:ops[i]? = some o:=by(simp only[Vg,U9,Vf])<;>rfl)(hd:o.dst=d:=by rfl)(c:o.guard=none:=by rfl)(hx:(U5 a.eval o).run P w=.ok (.enter f args) w:=by kernel_rfl)
 (b:a.put d x=a':=by(simp only[UN,Us,Uu,Uv])<;>rfl) (j:U7 .any ops listed=[i]:=by kernel_rfl):AW P ops Q p r J (fuel+1) listed a w:=AW.ca i k (λe w' h=>h.1) (λe w' hR=>by
 obtain⟨g,rfl⟩:=hR;subst b;exact h w' g) ho hd c hx j
theorem AW.ns(i:Nat){I:Sem Ut}(hx:I.run P w=.ok x w')(b:kZ w w')(h:AW P ops Q p r J fuel (listed.setIfInBounds i true) a' w')(ho:ops[i]? = some o:=by(simp only[Vg,U9,Vf])<;>rfl)(hd:o.dst=d:=by rfl)(e:o.guard=none:=by rfl)(f:U5 a.eval o=I >>= λv=>pure (Xp v):=by kernel_rfl)
 (c:a.put d x=a':=by(simp only[UN,Us,Uu,Uv])<;>rfl) (g:U7 .any ops listed=[i]:=by kernel_rfl):AW P ops Q p r J (fuel+1) listed a w:=λj=>by
 subst c;have k:=J.gr w w' b j;exact anyS.ins ho hx (UX k) (h k) g e f hd
theorem AW.nx(i:Nat)(x:Ut)(h:AW P ops Q p r J fuel (listed.setIfInBounds i true) a' w)(ho:ops[i]? = some o:=by(simp only[Vg,U9,Vf])<;>rfl)(hd:o.dst=d:=by rfl)(c:o.guard=none:=by rfl)(hv:(U5 a.eval o).run P w=.ok (.value x) w:=by kernel_rfl)
 (b:a.put d x=a':=by(simp only[UN,Us,Uu,Uv])<;>rfl) (e:U7 .any ops listed=[i]:=by kernel_rfl):AW P ops Q p r J (fuel+1) listed a w:=λk=>by
 subst b;exact anyS.nxt ho (UX k) (h k) hv e c hd
theorem AW.dn(h:J.p w->Q .normal a w)(k:U7 .any ops listed=[]:=by kernel_rfl):AW P ops Q p r J fuel listed a w:=λb=>anyS.done k (h b) _
theorem AW.fi{us:List Ut}{k off:Nat}(hv:Hid (.agg us.toArray=v))(g:us.toArray.all (·.oneCell')=true)(f:(P.info? T).map (·.size)=some us.length)(h:J.p w->w.there k off us.length/\Q .normal a' (w.setCells k off us))(ho:ops[p]? = some o:=by(simp only[Vg,U9,Vf])<;>rfl)(hd:o.dst=none:=by rfl)(i:o.guard=none:=by rfl){y:XG}(c:o.op=.store T (.tmp t) y:=by rfl)(hx:a.eval (.tmp t)=oZ k off:=by rfl)(e:a.eval y=v:=by rfl)
 (d:a.put none WP=a':=by(simp only[UN])<;>rfl) (b:(U7 .any ops listed,U7 .any ops (listed.setIfInBounds p true),J.b,(listed.setIfInBounds p true).getD p false,(listed.setIfInBounds p true).getD r false)=([p],[],true,true,true):=by kernel_rfl):AW P ops Q p r J (fuel+1) listed a w:=λm=>by
 simp only[V6.injEq]at b;obtain⟨l,j⟩:=h m;subst d;exact anyS.sta ho T (.tmp t) y c k off us.toArray g l f (U4 b.2.2) (anyS.done b.2.1 j _) hx (e.trans hv.out.symm) b.1 i hd
theorem AW.ss(i:Nat){us:List Ut}{k off:Nat}(hv:Hid (.agg us.toArray=v))(j:us.toArray.all (·.oneCell')=true)(g:(P.info? T).map (·.size)=some us.length)(f:Hid (w.setCells k off us=w'))(h:J.p w->w.there k off us.length/\J.p w')(l:AW P ops Q p r J fuel (listed.setIfInBounds i true) a' w')(ho:ops[i]? = some o:=by(simp only[Vg,U9,Vf])<;>rfl)(hd:o.dst=none:=by rfl)(m:o.guard=none:=by rfl){y:XG}(b:o.op=.store T (.tmp t) y:=by rfl)(hx:a.eval (.tmp t)=oZ k off:=by rfl)(e:a.eval y=v:=by rfl)
 (d:a.put none WP=a':=by(simp only[UN])<;>rfl) (q:U7 .any ops listed=[i]:=by kernel_rfl):AW P ops Q p r J (fuel+1) listed a w:=λs=>by
 obtain⟨n,c⟩:=h s;obtain rfl:=f.out;subst d;exact anyS.sta ho T (.tmp t) y b k off us.toArray j n g (UX c) (l c) hx (e.trans hv.out.symm) q m hd
theorem AW.f2{us us':List Ut}{k d:Nat}{A:Ut}{e:U8}(hv:Hid (.agg us.toArray=v))(s:Hid (.agg us'.toArray=A))(L:us.toArray.all (·.oneCell')=true)(K:(P.info? T).map (·.size)=some us.length)(f:us'.toArray.all (·.oneCell')=true)(u:(P.info? e).map (·.size)=some us'.length)(h:J.p w->w.there k 0 us.length/\(w.setCells k 0 us).there d 0 us'.length/\Q .normal a' ((w.setCells k 0 us).setCells d 0 us'))(ho:ops[p]? = some o:=by(simp only[Vg,U9,Vf])<;>rfl)(hd:o.dst=none:=by rfl)(M:o.guard=none:=by rfl){y:XG}(l:o.op=.store T (.tmp t) y:=by rfl)(hx:a.eval (.tmp t)=jZ k:=by rfl)(F:a.eval y=v:=by rfl)
 (E:a.put none WP=a':=by(simp only[UN])<;>rfl){c:Vk}{x:XG}{z:WC}(i:ops[p+1]? = some c:=by(simp only[Vg,U9,Vf])<;>rfl) (q:c.dst=none:=by rfl) (m:c.guard=none:=by rfl) (b:c.op=.store e (.tmp z) x:=by rfl) (n:a'.eval (.tmp z)=jZ d:=by rfl) (g:a'.eval x=A:=by rfl) (j:a'.put none WP=a':=by rfl)
 (B:(U7 .any ops listed,U7 .any ops (listed.setIfInBounds p true),U7 .any ops ((listed.setIfInBounds p true).setIfInBounds (p+1) true),J.b,(listed.setIfInBounds p true).getD p false,(listed.setIfInBounds p true).getD r false,((listed.setIfInBounds p true).setIfInBounds (p+1) true).getD p false,((listed.setIfInBounds p true).setIfInBounds (p+1) true).getD r false)=([p],[p+1],[],true,true,true,true,true):=by kernel_rfl):AW P ops Q p r J (fuel+2) listed a w:=λU=>by
 simp only[V6.injEq]at B;obtain⟨I,D,H,c,R,G,O,V⟩:=B;obtain⟨S,N,C⟩:=h U;subst E;exact anyS.sta ho T (.tmp t) y l k 0 us.toArray L S K (U4 ⟨c,R,G⟩) (anyS.sta i e (.tmp z) x b d 0 us'.toArray f N u (U4 ⟨c,O,V⟩) (anyS.done H (by rw[j];exact C) _) n (g.trans s.out.symm) D m q) hx (F.trans hv.out.symm) I M hd
end
end
section
variable {P:Nat}[NeZero P]{N:Nat}
theorem uBy:(prog.underlying 23).map (·.isRow)=some false:=kR
theorem Ua(q:Option Wu)(n c k:Nat)(w:Ur):(Vy 24 2 #[(0,.slice q n c),(1,sZ k 4 4)]).run prog w=.ok (sZ w.heap.size 2 2) (w.alloc (.cells #[.slice q n c,sZ k 4 4] 23)):=kR
theorem OX{w:Ur}{u v:Ut}{x y:List UInt8}(d:PartOk w u x)(k:PartOk w v y)(T:U8):PartsOk (w.alloc (.cells #[u,v] T)) (some (aZ w.heap.size)) [x,y]:=by
 have b:=aC w (.cells #[u,v] T);refine UX ⟨_,_,rfl,λj e=>?_⟩;have c:=(aE w [u,v] T).2.1 j;match j,e with
 | 0,_=>exact⟨u,c u rfl,d.below b⟩
 | 1,_=>exact⟨v,c v rfl,k.below b⟩
theorem P0(O:Ord N)(b:ByteArray)(a:b.size<=1000)(m:List UInt8)(q:Option Wu)(n c i s o:Nat)(F:i<4294967296)(w:Ur)(A:s<w.heap.size)(z:o<w.heap.size)(c1:w.cell? ⟨s,0,none⟩=some (.string b))(c2:w.cell? ⟨o,0,none⟩=some (.slice q n c))(H:PartOk w (.slice q n c) m):
 UH prog 199 #[iZ i,jZ s,jZ o] w (rZ w λe w'=>e=nv (chL N b.data.toList [m,(hZ i).toList])):=by
 obtain⟨k,u⟩:=hE (w.heap.size);obtain⟨I,d⟩:=hE (w.alloc (.cells (RG.z 4).toArray 49));have f:=aN u d;have y:=λ(W:Ur) (C:Option Wu) (h:PartsOk W C [m,(hZ i).toList])=>Cz O b C 2 2 [m,(hZ i).toList] W oM rfl dC h
 generalize chL N b.data.toList [m,(hZ i).toList]=x at y⊢;have B:=mk1 y;obtain⟨K,j⟩:=hE (nv x);rw[j.out]at B;clear y;go_enter func199,ntmps199;go_wp2_with (first|(refine alR 4 u d ?_)|fail)
 refine AW.begin 6 6 ?_;refine AW.ce 0 u9s (λW g=>by rw[g.cell (p:=⟨s,0,none⟩) (Ux A f.1.size),f.1.cell (p:=⟨s,0,none⟩) A];exact c1) ?_;refine AW.ce 1 uBy (λW g=>by rw[g.cell (p:=⟨o,0,none⟩) (Ux z f.1.size),f.1.cell (p:=⟨o,0,none⟩) z];exact c2) ?_;refine AW.mv 2 ?_;refine AW.ca 3 (λ_=>xC i F _) (λe w' h=>h.1) ?_;rintro e E ⟨t,r,rfl,G,v⟩;simp only[UN,Us,Uu,Uv];refine AW.ns 4 (Ua q n c r E) (aC _ _) ?_;refine AW.gi 5 (λg=>B _ _ (OX (H.below (f.1.trans (((UR _ I).drew.trans t).mono f.1.size))) (IK v) _)) ?_;intro J D;refine AW.fi (us:=wn x) j (aM x) i40 (λg=>?_);obtain⟨L,l⟩:=hE (J.setCells k 0 (wn x));have R:=rU u d g l;rw[l.out];refine⟨R.1,?_⟩;go_wp2_with fail
 refine UE (aG 4 49 rfl R.2.2 rfl u40 i40) rfl ?_;exact⟨_,rfl,R.2.1,rfl⟩
theorem SB(O:Ord N)(k:ByteArray)(l:k.size<=1000)(p:List UInt8)(q:Option Wu)(n c m:Nat)(B:m<=64)(w:Ur)(y:PartOk w (.slice q n c) p):
 UH prog 133 #[.string k,iZ m,.slice q n c] w (rZ w λe w'=>SLq (w.heap.size<=·) w' e m (λi=>chL N k.data.toList [p,(hZ i).toList])):=by
 obtain⟨z,f⟩:=hE ((w.alloc (.cells #[.string k] 9)).alloc (.cells #[.slice q n c] 23));have b1:=aC w (.cells #[.string k] 9);have s:=aC (w.alloc (.cells #[.string k] 9)) (.cells #[.slice q n c] 23);have o:=(aE w [.string k] 9).below s;have d:=aE (w.alloc (.cells #[.string k] 9)) [.slice q n c] 23;have b:=b1.trans (s.mono b1.size);rw[UB]at d;simp only[f.out]at o d b;have u:=mk1 (jB m oM 199 #[jZ w.heap.size,.pointer (some ⟨w.heap.size+1,0,none⟩)] (λ_ _=>kR) (λi=>chL N k.data.toList [p,(hZ i).toList]) z (λi W A j=>P0 O k l p q n c i _ _ oM W (Ux o.1 j.size) (Ux d.1 j.size) ((o.below j).2.1 0 _ rfl) ((d.below j).2.1 0 _ rfl) ((y.below b).below j)));have t:=mk1 b;clear b1 s o d b;go_enter func133,ntmps133;go_wp2_with fail
 rw[f.out];refine u.mono ?_;rintro e C ⟨v,rfl,r,hG⟩;have a:=mk2 (t.trans (r.mono t.size)) (hG.mono λg x=>UC t.size x);go_wp2;go_ret;exact⟨_,rfl,a.out⟩
end
section
variable {N:Nat}
theorem uLi:(prog.underlying 126).map (·.isRow)=some true:=kR
theorem iLi:(prog.info? 126).map (·.size)=some 2:=kR
structure Ln(Q:Nat->Prop)(W:Ur)(v:Ut)(n:Nat)(a b:Nat->Nat):Prop where
 ex:∃x y,v=.agg #[x,y]/\SLq Q W x n a/\SLq Q W y n b
section
variable {Q Q':Nat->Prop}{W W':Ur}{v:Ut}{n:Nat}{a b:Nat->Nat}
theorem Ln.keep(h:Ln Q W v n a b)(k:Kq Q W W'):Ln Q W' v n a b:=by
 obtain⟨x,y,e,d,c⟩:=h.ex;exact⟨x,y,e,d.keep k,c.keep k⟩
theorem Ln.mono(h:Ln Q W v n a b)(k:∀g,Q g->Q' g):Ln Q' W v n a b:=by
 obtain⟨x,y,e,d,c⟩:=h.ex;exact⟨x,y,e,d.mono k,c.mono k⟩
end
theorem bY{Q:Nat->Prop}{W:Ur}{x:Ut}{n:Nat}{a:Nat->Nat}(h:SLq Q W x n a):x.oneCell'=true/\∃g o c,x=.slice (some ⟨g,o,none⟩) n c:=by
 obtain⟨g,o,c,rfl,-⟩:=h;exact⟨rfl,_,_,_,rfl⟩
theorem RI(O:Ord N)(v:Nat)(hv:v<18446744073709551616)(m:Nat)(hm:m<=64)(H:List UInt8)(q:Option Wu)(n c:Nat)(w:Ur)(hp:PartOk w (.slice q n c) H):
 UH prog 61 #[uZ v,iZ m,.slice q n c] w (rZ w λe w'=>∃x y,e=.tuple #[x,y]/\Ln (w.heap.size<=·) w' x m (λi=>v/2^i%2) (λi=>chL N [115,108] [H,(hZ i).toList])/\Ln (w.heap.size<=·) w' y m (λi=>sMi N (v/2^i%2) 1) (λi=>chL N [115,114] [H,(hZ i).toList])):=by
 obtain⟨vf,d⟩:=hE (Z0 (.func 129) #[] #[jZ w.heap.size]);obtain⟨k,J⟩:=hE (w.heap.size);obtain⟨wa,L⟩:=hE (w.alloc (.cells [uZ v].toArray 22));obtain⟨X,G⟩:=hE (wa.heap.size);obtain⟨wb,Q⟩:=hE (wa.alloc (.cells [.slice none 0 0,.slice none 0 0].toArray 126));obtain⟨K,E⟩:=hE (wb.heap.size);obtain⟨wc,T⟩:=hE (wb.alloc (.cells [.slice none 0 0,.slice none 0 0].toArray 126));obtain⟨t,s⟩:=hE (wc.heap.size);obtain⟨wd,I⟩:=hE (wc.alloc (.cells [.nilFunc].toArray 219));obtain⟨r,M⟩:=hE (wd.setCells t 0 [vf]);have Fa:=aN J L;have Z:=aN G Q;have S:=aN E T;have Fe:=ET s I M rfl;rw[J.out]at d;have bc:=Z.1.trans (S.1.mono Z.1.size);have be:=bc.trans (Fe.2.1.mono bc.size);have b:=mk6 (Fa.1.trans (be.mono Fa.1.size)) (Fa.2.below be) (Z.2.below (S.1.trans (Fe.2.1.mono S.1.size))) (S.2.below Fe.2.1) Fe.2.2 (show k<X/\X<K/\K<t from⟨by rw[<-G.out];exact Fa.2.1,by rw[<-E.out];exact Z.2.1,by rw[<-s.out];exact S.2.1⟩);have h5:∀(fn:Fn) (first cap:Array Ut) (w:Ur),(Yn fn first cap).run prog w=.ok (.func fn first cap) w:=λ_ _ _ _=>rfl
 have h2:=mk1 (aN s I).2.2.2;have h6:r.cell? ⟨t,0,none⟩=some vf:=b.2.2.2.2.1.2.1 0 _ rfl;have H1:Hid (∀W,kZ r W->UH prog 132 #[iZ m,vf] W (rZ W λe w'=>SLq (W.heap.size<=·) w' e m (λi=>v/2^i%2))):=λW u=>by
  rw[<-d.out];exact jB m oM 129 #[jZ k] (λ_ _=>kR) _ W λi V j f=>Jb v i k hv oM V (Ux b.2.1.1 (UC u.size f.size)) (((b.2.1.below u).below f).2.1 0 _ rfl)
 have H2:Hid (∀W,kZ r W->UH prog 132 #[iZ m,.func (.func 130) #[] #[jZ t]] W (rZ W λe w'=>SLq (W.heap.size<=·) w' e m (λi=>sMi N (v/2^i%2) 1))):=λW u =>
  jB m oM 130 #[jZ t] (λ_ _=>kR) _ W λi V j f=>Pm O v i k t hv oM V (Ux b.2.1.1 (UC u.size f.size)) (Ux b.2.2.2.2.1.1 (UC u.size f.size)) (((b.2.1.below u).below f).2.1 0 _ rfl) (by rw[((b.2.2.2.2.1.below u).below f).2.1 0 _ rfl,d.out])
 have HC:Hid (∀(l:ByteArray) W,l.size<=1000->kZ r W->UH prog 133 #[.string l,iZ m,.slice q n c] W (rZ W λe w'=>SLq (W.heap.size<=·) w' e m (λi=>chL N l.data.toList [H,(hZ i).toList]))):=λl W hl u=>SB O l hl H q n c m hm W ((hp.below b.1).below u)
 go_enter func61,ntmps61;go_wp2_with (first|(refine alR 3 J L ?_)|(refine alR 6 G Q ?_)|(refine alR 7 E T ?_)|(refine alR 8 s I ?_)|(refine fV rfl 219 _ _ rfl t 0 vf ?_ ?_ ?_ ?_ h2.out kR ?_;rfl;exact d.out;(rw[<-d.out];rfl);(rw[<-d.out];rfl);rw[M.out])|fail)
 refine(H1 r (UR _ _)).mono ?_;rintro e w1 ⟨x1,rfl,j,C⟩;go_wp2_with fail
 refine(HC _ w1 dC j).mono ?_;rintro e w2 ⟨x2,rfl,o,A⟩;have b2:=j.trans (o.mono j.size);obtain⟨-,g1,o1,c1,e1⟩:=bY C;obtain⟨-,g2,o2,c2,e2⟩:=bY A;subst e1 e2;go_wp2_with fail
 refine(H2 w2 b2).mono ?_;rintro e w3 ⟨x3,rfl,f,D⟩;have b3:=b2.trans (f.mono b2.size);go_wp2_with fail
 refine(HC _ w3 dC b3).mono ?_;rintro e w4 ⟨x4,rfl,p,F⟩;have b4:=b3.trans (p.mono b3.size);obtain⟨-,g3,o3,c3,e3⟩:=bY D;obtain⟨-,g4,o4,c4,e4⟩:=bY F;subst e3 e4;obtain⟨w5,Y⟩:=hE (w4.setCells X 0 [.slice (some ⟨g1,o1,none⟩) m c1,.slice (some ⟨g2,o2,none⟩) m c2]);obtain⟨z,V⟩:=hE (w5.setCells K 0 [.slice (some ⟨g3,o3,none⟩) m c3,.slice (some ⟨g4,o4,none⟩) m c4]);obtain⟨h1,h0,h3⟩:=b.2.2.2.2.2;have h4:=b.2.2.2.2.1.1;have s1:=j.size;have s2:=o.size;have s3:=f.size;have R4:=mk2 (b.2.2.1.below b4) (b.2.2.2.1.below b4);have R:Hid (kZ w z/\Row z X [.slice (some ⟨g1,o1,none⟩) m c1,.slice (some ⟨g2,o2,none⟩) m c2]/\Row z K [.slice (some ⟨g3,o3,none⟩) m c3,.slice (some ⟨g4,o4,none⟩) m c4]/\w5.there K 0 2/\Kq (t < ·) w4 z):=by
  rw[<-V.out,<-Y.out];have B:Row (w4.setCells X 0 [.slice (some ⟨g1,o1,none⟩) m c1,.slice (some ⟨g2,o2,none⟩) m c2]) K _:=aR R4.2 oM;refine⟨RG.below_setCells (by rw[J.out];omega) _ _ _ (RG.below_setCells (by rw[J.out];omega) _ _ _ (b.1.trans (b4.mono b.1.size))),aR (R4.1.put rfl) oM,B.put rfl,B.2.2,?_⟩;exact⟨by rw[setCells_size,setCells_size];exact Uw _,λg hg _=>by rw[aH _ _ _ _ g oM,aH _ _ _ _ g oM]⟩
 have P:∀ {W:Ur}{x:Ut}{a:Nat->Nat},r.heap.size<=W.heap.size->SLq (W.heap.size<=·) w4 x m a->SLq (w.heap.size<=·) z x m a:=λhW h=>((h.mono (Q':=(t < ·)) λg hg=>oM).keep R.2.2.2.2).mono λg hg=>by rw[J.out];omega
 have B:=f.trans (p.mono f.size);have U:=o.trans (B.mono o.size);have KR:Hid (Ln (w.heap.size<=·) z (.agg #[.slice (some ⟨g1,o1,none⟩) m c1,.slice (some ⟨g2,o2,none⟩) m c2]) m (λi=>v/2^i%2) (λi=>chL N [115,108] [H,(hZ i).toList])/\Ln (w.heap.size<=·) z (.agg #[.slice (some ⟨g3,o3,none⟩) m c3,.slice (some ⟨g4,o4,none⟩) m c4]) m (λi=>sMi N (v/2^i%2) 1) (λi=>chL N [115,114] [H,(hZ i).toList])):=
  ⟨⟨_,_,rfl,P (Uw _) (C.keep (Kq.of_below U)),P s1 (A.keep (Kq.of_below B))⟩,⟨_,_,rfl,P oM (D.keep (Kq.of_below p)),P oM F⟩⟩
 clear P B U C A D F s1 s2 s3 h1 h0 h3 h4 j o f p b2 b3 b4 H1 H2 HC;go_wp2_with (first|(refine stR 6 Y (Hid.mk' rfl) R4.1.2.2 iLi kR ?_)|(refine stR 7 V (Hid.mk' rfl) R.2.2.2.1 iLi kR ?_)|fail)
 refine UE (qE 6 7 126 126 rfl R.2.1 R.2.2.1 rfl rfl uLi iLi uLi iLi) rfl ?_;exact⟨_,rfl,R.1,_,_,rfl,KR.out⟩
theorem uF2:(prog.underlying 237).map (·.isRow)=some false:=kR
theorem uSl:(prog.underlying 124).map (·.isRow)=some false:=kR
theorem D8{w c W:Ur}{k:Nat}{x:Ut}(b:kZ w c)(d:k<w.heap.size)(e:w.cell? ⟨k,0,none⟩=some x)(f:kZ c W):W.cell? ⟨k,0,none⟩=some x:=by
 rw[f.cell (p:=⟨k,0,none⟩) (Ux d b.size),b.cell (p:=⟨k,0,none⟩) d];exact e
theorem row_of{w c W:Ur}{k o:Nat}{cs:List Ut}(b:kZ w c)(d:k<w.heap.size)(e:w.rangeAt k o cs)(f:kZ c W):W.rangeAt k o cs:=RG.range_below (RG.range_below e b d) f (Ux d b.size)
theorem OY(f:Xq)(hf:∀args W,(callFunc f args).run prog W=.ok (.enter f args) W)(x y z:Nat)(A:Gives f #[nv x,nv y] (nv z))(i r v u o s q c1 n t a c2:Nat)(N:i<q)(L:i<a)(w:Ur)(lf:r<w.heap.size)(E:v<w.heap.size)(M:u<w.heap.size)(K:o<w.heap.size)(I:n<w.heap.size)(D:w.cell? ⟨r,0,none⟩=some (.func (.func f) #[] #[]))(J:w.cell? ⟨v,0,none⟩=some (.slice (some ⟨o,s,none⟩) q c1))(G:w.cell? ⟨u,0,none⟩=some (.slice (some ⟨n,t,none⟩) a c2))(C:w.rangeAt o (s+4*i) (wn x))(B:w.rangeAt n (t+4*i) (wn y)):
 UH prog 212 #[iZ i,jZ r,jZ v,jZ u] w (rZ w λe w'=>e=nv z):=by
 obtain⟨k,p⟩:=hE (w.heap.size);obtain⟨T,c⟩:=hE (w.alloc (.cells (RG.z 4).toArray 49));have g:=aN p c;obtain⟨P,l⟩:=hE (nv x);obtain⟨S,j⟩:=hE (nv y);obtain⟨Q,d⟩:=hE (nv z);rw[l.out,j.out,d.out]at A;have F:=mk1 A;go_enter func212,ntmps212;go_wp2_with (first|(refine alR 5 p c ?_)|fail)
 refine AW.begin 10 10 ?_;refine AW.ce 0 uF2 (λW b=>D8 g.1 lf D b) ?_;refine AW.ce 1 uSl (λW b=>D8 g.1 E J b) ?_;refine AW.mv 2 ?_;refine AW.iv 3 (lF o s q c1 i N) ?_;refine AW.ro 4 (λW b=>row_of g.1 K C b) l rSc nSc ?_;refine AW.ce 5 uSl (λW b=>D8 g.1 M G b) ?_;refine AW.mv 6 ?_;refine AW.iv 7 (lF n t a c2 i L) ?_;refine AW.ro 8 (λW b=>row_of g.1 I B b) j rSc nSc ?_;refine AW.gi 9 (λ_=>F _) ?_ (hx:=P6 hf rfl rfl rfl rfl);intro O H;refine AW.fi (us:=wn z) d (aM z) i40 (λb=>?_);obtain⟨U,m⟩:=hE (O.setCells k 0 (wn z));have R:=rU p c b m;rw[m.out];refine⟨R.1,?_⟩;go_wp2_with fail
 refine UE (aG 5 49 rfl R.2.2 rfl u40 i40) rfl ?_;exact⟨_,rfl,R.2.1,rfl⟩
theorem Nb{w i g k:Ur}{n l m:Nat}{x y z:List Ut}{T U V:U8}(e:Hid (w.heap.size=n))(q:Hid (w.alloc (.cells x.toArray T)=i))(f:Hid (i.heap.size=l))(p:Hid (i.alloc (.cells y.toArray U)=g))(j:Hid (g.heap.size=m))(o:Hid (g.alloc (.cells z.toArray V)=k)):Hid (kZ w k/\Row k n x/\Row k l y/\Row k m z):=by
 have a:=(aN e q).out;have b:=(aN f p).out;have c:=(aN j o).out;have d:=b.1.trans (c.1.mono b.1.size);exact⟨a.1.trans (d.mono a.1.size),a.2.below d,b.2.below c.1,c.2⟩
theorem NB{Q:Nat->Prop}(f:Xq)(hf:∀args W,(callFunc f args).run prog W=.ok (.enter f args) W)(F:Nat->Nat->Nat)(n:Nat)(hn:n<=64)(a b:Nat->Nat)(U:∀i,i<n->Gives f #[nv (a i),nv (b i)] (nv (F (a i) (b i))))(va K:Ut)(w:Ur)(Y:SLq Q w va n a)(V:SLq Q w K n b):
 UH prog 151 #[.func (.func f) #[] #[],va,K] w (rZ w λe w'=>SLq (w.heap.size<=·) w' e n (λi=>F (a i) (b i))):=by
 obtain⟨C,z,c1,rfl,-,-,O,M⟩:=Y;obtain⟨D,E,c2,rfl,-,-,X,L⟩:=V;obtain⟨vf,k⟩:=hE (Z0 (.func f) #[] #[]);obtain⟨t,j⟩:=hE (w.heap.size);obtain⟨r,l⟩:=hE (w.alloc (.cells [vf].toArray 237));obtain⟨A,o⟩:=hE (r.heap.size);obtain⟨I,d⟩:=hE (r.alloc (.cells [.slice (some ⟨C,z,none⟩) n c1].toArray 124));obtain⟨J,q⟩:=hE (I.heap.size);obtain⟨H,m⟩:=hE (I.alloc (.cells [.slice (some ⟨D,E,none⟩) n c2].toArray 124));have B:=Nb j l o d q m;have x:Hid ((Ve 237 vf).run prog w=.ok (jZ t) r):=by rw[<-l.out,<-j.out,<-k.out];exact Hid.mk' kR
 have T:H.cell? ⟨A,0,none⟩=some (.slice (some ⟨C,z,none⟩) n c1):=B.2.2.1.2.1 0 _ rfl;have N:=mk1 (jB n oM 212 #[jZ t,jZ A,jZ J] (λ_ _=>kR) (λi=>F (a i) (b i)) H λi W p c=>by
  have y:=B.1.trans (c.mono B.1.size);have s:=y.size;exact OY f hf (a i) (b i) _ (U i p) i t A J C z n c1 D E n c2 p p W (B.2.1.below c).1 (B.2.2.1.below c).1 (B.2.2.2.below c).1 oM oM (by rw[(B.2.1.below c).2.1 0 _ rfl,k.out]) ((B.2.2.1.below c).2.1 0 _ rfl) ((B.2.2.2.below c).2.1 0 _ rfl) (RG.range_below (M i p) y O) (RG.range_below (L i p) y X))
 have Z:∀(G:Fn) (first cap:Array Ut) (w:Ur),(Yn G first cap).run prog w=.ok (.func G first cap) w:=λ_ _ _ _=>rfl
 rw[k.out];go_enter func151,ntmps151;go_wp2_with (first|(refine aF (u:=vf) (v:=jZ t) (w':=r) rfl _ (.tmp 0) rfl ?_ ?_ ?_;rfl;exact x.out)|(refine alR 4 o d ?_)|(refine alR 5 q m ?_)|fail)
 refine N.mono ?_;rintro e w4 ⟨v,rfl,y,S⟩;have P:=mk2 (B.1.trans (y.mono B.1.size)) (S.mono λg R=>UC B.1.size R);go_wp2;go_ret;exact⟨_,rfl,P.out⟩
theorem SLq.set{W:Ur}{B k o n:Nat}{vs:List Ut}{x:Ut}{a:Nat->Nat}(h:SLq (B<=·) W x n a)(c:k<B):SLq (B<=·) (W.setCells k o vs) x n a:=h.keep (Kq.set λg b=>oM)
section
variable {Q:Nat->Prop}{w:Ur}{n:Nat}{v u:Ut}{a b c:Nat->Nat}
theorem EZ(x y:Ut)(hx:x.oneCell'=true)(m:y.oneCell'=true)(w:Ur):∃k c j d,Hid (w.heap.size=k)/\Hid (w.alloc (.cells [x,y].toArray 126)=c)/\Hid (c.heap.size=j)/\Hid (c.alloc (.cells [.slice none 0 0,.slice none 0 0].toArray 126)=d)/\Hid (kZ w d/\Row d k [x,y]/\Row d j [.slice none 0 0,.slice none 0 0]/\k<j):=by
 obtain⟨k,l⟩:=hE (w.heap.size);obtain⟨c,e⟩:=hE (w.alloc (.cells [x,y].toArray 126));obtain⟨j,b⟩:=hE (c.heap.size);obtain⟨d,i⟩:=hE (c.alloc (.cells [.slice none 0 0,.slice none 0 0].toArray 126));have f:=(aN l e).out;have g:=(aN b i).out;exact⟨k,c,j,d,l,e,b,i,f.1.trans (g.1.mono f.1.size),f.2.below g.1,g.2,by rw[<-b.out];exact f.2.1⟩
theorem ND(O:Ord N)(P:n<=64)(L:∀i,i<n->a i<N)(K:∀i,i<n->c i<N)(h:Ln Q w v n a b)(M:SLq Q w u n c):
 UH prog 72 #[v,u] w (rZ w λe w'=>Ln (λg=>Q g\/w.heap.size<=g) w' e n (λi=>sPl N (a i) (c i)) b):=by
 obtain⟨x,y,rfl,hx,C⟩:=h.ex;obtain⟨Y,g1,o1,c1,rfl⟩:=bY hx;obtain⟨V,f,l,c2,rfl⟩:=bY C;obtain⟨k,w1,z,w2,D,t,q,r,F⟩:=EZ _ _ Y V w;have X:=mk1 (λ(W:Ur) (d:kZ w W)=>NB (Q:=λ_=>True) 80 (λ_ _=>kR) (sPl N) n P a c (λi E=>mY O _ _ (L i E) (K i E)) _ _ W ((hx.keep (Kq.of_below d)).mono λ_ _=>trivial) ((M.keep (Kq.of_below d)).mono λ_ _=>trivial));go_enter func72,ntmps72;go_wp2_with (first|(refine alR 2 D t ?_)|(refine alR 4 q r ?_)|fail)
 refine AW.begin 7 7 ?_;refine AW.va 0 (jZ k) ?_;refine AW.ce 1 uSl (λW d=>(F.2.1.below d).2.1 0 _ rfl) ?_;refine AW.mv 2 ?_;refine AW.va 4 (oZ k 1) ?_;refine AW.ce 5 uSl (λW d=>(F.2.1.below d).2.1 1 _ rfl) ?_;refine AW.ca 3 (λd=>X _ (F.1.trans (d.mono F.1.size))) (λe w' h=>h.1) ?_;rintro e H ⟨U,G⟩;simp only[UN,Us,Uu,Uv];obtain⟨Z,m,o,j,rfl⟩:=bY G;refine AW.va 6 (.agg #[.slice (some ⟨m,o,none⟩) n j,.slice (some ⟨f,l,none⟩) n c2]) ?_;refine AW.fi (us:=[.slice (some ⟨m,o,none⟩) n j,.slice (some ⟨f,l,none⟩) n c2]) (Hid.mk' rfl) kR iLi (λd=>?_);have I:=F.2.2.1.below d;refine⟨I.2.2,?_⟩;obtain⟨B,p⟩:=hE (H.setCells z 0 [.slice (some ⟨m,o,none⟩) n j,.slice (some ⟨f,l,none⟩) n c2]);have R:Hid (kZ w B/\Row B z [.slice (some ⟨m,o,none⟩) n j,.slice (some ⟨f,l,none⟩) n c2]/\Ln (λg=>Q g\/w.heap.size<=g) B (.agg #[.slice (some ⟨m,o,none⟩) n j,.slice (some ⟨f,l,none⟩) n c2]) n (λi=>sPl N (a i) (c i)) b):=by
  have S:=F.1.trans (d.mono F.1.size);have s:w.heap.size<=z:=by rw[D.out];exact XK F.2.2.2
  have J:=RG.below_setCells s [.slice (some ⟨m,o,none⟩) n j,.slice (some ⟨f,l,none⟩) n c2] 0 H S;rw[<-p.out];exact⟨J,I.put rfl,_,_,rfl,(G.set F.2.2.1.1).mono λg T=>UX (UC F.1.size T),(C.keep (Kq.of_below J)).mono λ_ h=>U4 h⟩
 rw[p.out];go_wp2_with fail
 refine UE (aG 4 126 rfl R.2.1 rfl uLi iLi) rfl ?_;exact⟨_,rfl,R.1,R.2.2⟩
theorem RD(O:Ord N)(V:n<=64)(t:∀i,i<n->a i<N)(d:∀i,i<n->b i<N)(T:∀i,i<n->c i<N)(h:Ln Q w v n a b)(U:SLq Q w u n c):
 UH prog 73 #[v,u] w (rZ w λe w'=>Ln (w.heap.size<=·) w' e n (λi=>sTi N (a i) (c i)) (λi=>sTi N (b i) (c i))):=by
 obtain⟨x,y,rfl,hx,J⟩:=h.ex;obtain⟨Z,g1,o1,c1,rfl⟩:=bY hx;obtain⟨Y,g2,o2,c2,rfl⟩:=bY J;obtain⟨k,w1,G,w2,K,D,z,A,F⟩:=EZ _ _ Z Y w;have S:=mk1 (λ(x:Ut) (a:Nat->Nat) (t:∀i,i<n->a i<N) (hx:SLq Q w x n a) (W:Ur) (d:kZ w W)=>NB (Q:=λ_=>True) 79 (λ_ _=>kR) (sTi N) n V a c (λi L=>iI O _ _ (t i L) (T i L)) _ _ W ((hx.keep (Kq.of_below d)).mono λ_ _=>trivial) ((U.keep (Kq.of_below d)).mono λ_ _=>trivial));go_enter func73,ntmps73;go_wp2_with (first|(refine alR 2 K D ?_)|(refine alR 4 z A ?_)|fail)
 refine AW.begin 9 9 ?_;refine AW.va 0 (jZ k) ?_;refine AW.ce 1 uSl (λW d=>(F.2.1.below d).2.1 0 _ rfl) ?_;refine AW.mv 2 ?_;refine AW.va 4 (oZ k 1) ?_;refine AW.ce 5 uSl (λW d=>(F.2.1.below d).2.1 1 _ rfl) ?_;refine AW.mv 6 ?_;refine AW.ca 3 (λd=>S _ a t hx _ (F.1.trans (d.mono F.1.size))) (λe w' h=>h.1) ?_;rintro e W3 ⟨q,M⟩;simp only[UN,Us,Uu,Uv];obtain⟨h5,r,s,l,rfl⟩:=bY M;refine AW.ca 7 (λC=>S _ b d J _ (F.1.trans (C.mono F.1.size))) (λe w' h=>h.1) ?_;rintro e W4 ⟨E,p⟩;simp only[UN,Us,Uu,Uv];obtain⟨h6,f,m,j,rfl⟩:=bY p;refine AW.va 8 (.agg #[.slice (some ⟨r,s,none⟩) n l,.slice (some ⟨f,m,none⟩) n j]) ?_;refine AW.fi (us:=[.slice (some ⟨r,s,none⟩) n l,.slice (some ⟨f,m,none⟩) n j]) (Hid.mk' rfl) kR iLi (λd=>?_);have P:=F.2.2.1.below d;refine⟨P.2.2,?_⟩;obtain⟨I,o⟩:=hE (W4.setCells G 0 [.slice (some ⟨r,s,none⟩) n l,.slice (some ⟨f,m,none⟩) n j]);have R:Hid (kZ w I/\Row I G [.slice (some ⟨r,s,none⟩) n l,.slice (some ⟨f,m,none⟩) n j]/\Ln (w.heap.size<=·) I (.agg #[.slice (some ⟨r,s,none⟩) n l,.slice (some ⟨f,m,none⟩) n j]) n (λi=>sTi N (a i) (c i)) (λi=>sTi N (b i) (c i))):=by
  have X:=F.1.trans (d.mono F.1.size);have B:w.heap.size<=G:=by rw[K.out];exact XK F.2.2.2
  rw[<-o.out];exact⟨RG.below_setCells B _ _ _ X,P.put rfl,_,_,rfl,((M.keep (Kq.of_below E)).set F.2.2.1.1).mono λg H=>UC F.1.size H,(p.set (Ux F.2.2.1.1 q.size)).mono λg H=>UC F.1.size (UC q.size H)⟩
 rw[o.out];go_wp2_with fail
 refine UE (aG 4 126 rfl R.2.1 rfl uLi iLi) rfl ?_;exact⟨_,rfl,R.1,R.2.2⟩
end
end
section
variable {P:Nat}[NeZero P]{N:Nat}
theorem Po(O:Ord N)(x y z:Nat)(hx:x<N)(I:y<N)(G:z<N)(i q F t B A c1 o C D c2:Nat)(Q:i<A)(M:i<D)(w:Ur)(L:t<w.heap.size)(K:o<w.heap.size)(E:Row w q [.slice (some ⟨t,B,none⟩) A c1,.slice (some ⟨o,C,none⟩) D c2])(P:Row w F (wn z))(J:w.rangeAt t (B+4*i) (wn x))(H:w.rangeAt o (C+4*i) (wn y)):
 UH prog 153 #[iZ i,jZ q,jZ F] w (rZ w λe w'=>e=nv (sPl N x (sTi N y z))):=by
 obtain⟨k,u⟩:=hE (w.heap.size);obtain⟨Z,c⟩:=hE (w.alloc (.cells (RG.z 4).toArray 49));have f:=aN u c;have v:=iI O y z I G;have a:sTi N y z<N:=V5 _ O.pos;have p:=mY O x (sTi N y z) hx a;generalize sTi N y z=s at v p⊢;generalize sPl N x s=r at p⊢;obtain⟨T,l⟩:=hE (nv x);obtain⟨Y,g⟩:=hE (nv y);obtain⟨U,d⟩:=hE (nv z);obtain⟨vs,j⟩:=hE (nv s);obtain⟨X,n⟩:=hE (nv r);rw[g.out,d.out,j.out]at v;rw[l.out,j.out,n.out]at p;go_enter func153,ntmps153;go_wp2_with (first|(refine alR 4 u c ?_)|fail)
 refine AW.begin 13 13 ?_;refine AW.va 0 (jZ q) ?_;refine AW.ce 1 uSl (λW b=>((E.below f.1).below b).2.1 0 _ rfl) ?_;refine AW.mv 2 ?_;refine AW.iv 3 (lF t B A c1 i Q) ?_;refine AW.ro 4 (λW b=>row_of f.1 L J b) l rSc nSc ?_;refine AW.va 5 (oZ q 1) ?_;refine AW.ce 6 uSl (λW b=>((E.below f.1).below b).2.1 1 _ rfl) ?_;refine AW.mv 7 ?_;refine AW.iv 8 (lF o C D c2 i M) ?_;refine AW.ro 9 (λW b=>row_of f.1 K H b) g rSc nSc ?_;refine AW.ro 10 (λW b=>((P.below f.1).below b).2.1) d rSc nSc ?_;refine AW.gi 11 (λ_=>v _) λV _=>?_
 refine AW.gi 12 (λ_=>p _) λS _=>?_
 refine AW.fi (us:=wn r) n (aM r) i40 (λb=>?_);obtain⟨W5,m⟩:=hE (S.setCells k 0 (wn r));have R:=rU u c b m;rw[m.out];refine⟨R.1,?_⟩;go_wp2_with fail
 refine UE (aG 4 49 rfl R.2.2 rfl u40 i40) rfl ?_;exact⟨_,rfl,R.2.1,rfl⟩
theorem RL(O:Ord N){Q:Nat->Prop}{n:Nat}(Y:n<=64){a b:Nat->Nat}(I:∀i,i<n->a i<N)(V:∀i,i<n->b i<N){z:Nat}(G:z<N){v:Ut}{w:Ur}(h:Ln Q w v n a b):
 UH prog 77 #[v,nv z] w (rZ w λe w'=>SLq (w.heap.size<=·) w' e n (λi=>sPl N (a i) (sTi N (b i) z))):=by
 obtain⟨x,y,rfl,hx,J⟩:=h.ex;obtain⟨q,o,c1,rfl,-,-,M,K⟩:=hx;obtain⟨r,u,c2,rfl,-,-,U,H⟩:=J;obtain⟨k,t⟩:=hE (w.heap.size);obtain⟨E,j⟩:=hE (w.alloc (.cells [.slice (some ⟨q,o,none⟩) n c1,.slice (some ⟨r,u,none⟩) n c2].toArray 126));obtain⟨D,l⟩:=hE (E.heap.size);obtain⟨C,d⟩:=hE (E.alloc (.cells (wn z).toArray 49));have f:=aN t j;have g:=aN l d;have F:=mk3 (f.1.trans (g.1.mono f.1.size)) (f.2.below g.1) g.2;have L:=mk1 (jB n oM 153 #[jZ k,jZ D] (λ_ _=>kR) (λi=>sPl N (a i) (sTi N (b i) z)) C λi W c p=>by
  have m:=F.1.trans (p.mono F.1.size);have s:=m.size;exact Po O (a i) (b i) z (I i c) (V i c) G i k D q o n c1 r u n c2 c c W oM oM (F.2.1.below p) (F.2.2.below p) (RG.range_below (K i c) m M) (RG.range_below (H i c) m U))
 have X:∀(B:Fn) (first cap:Array Ut) (w:Ur),(Yn B first cap).run prog w=.ok (.func B first cap) w:=λ_ _ _ _=>rfl
 have T:C.cell? ⟨k,0,none⟩=some (.slice (some ⟨q,o,none⟩) n c1):=F.2.1.2.1 0 _ rfl;go_enter func77,ntmps77;go_wp2_with (first|(refine alR 2 t j ?_)|(refine alR 3 l d ?_)|fail)
 refine L.mono ?_;rintro e Z ⟨v,rfl,m,S⟩;have P:=mk2 (F.1.trans (m.mono F.1.size)) (S.mono λg R=>UC F.1.size R);go_wp2;go_ret;exact⟨_,rfl,P.out⟩
theorem RH(O:Ord N){Q:Nat->Prop}{n:Nat}(hn:n<=64){a b c d:Nat->Nat}(B:∀i,i<n->a i<N/\b i<N/\c i<N/\d i<N){v u:Ut}{w:Ur}(h:Ln Q w v n a b)(h':Ln Q w u n c d):
 UH prog 75 #[v,u] w (rZ w λe w'=>e=.tuple #[nv (sPl N (prS N a d n) (prS N b c n)),nv (prS N b d n)]):=by
 obtain⟨x,y,rfl,hx,U⟩:=h.ex;obtain⟨-,g1,o1,c1,rfl⟩:=bY hx;obtain⟨-,g2,o2,c2,rfl⟩:=bY U;obtain⟨x',y',rfl,J,t⟩:=h'.ex;obtain⟨-,g3,o3,c3,rfl⟩:=bY J;obtain⟨-,g4,o4,c4,rfl⟩:=bY t;obtain⟨k,V⟩:=hE (w.heap.size);obtain⟨w1,m⟩:=hE (w.alloc (.cells [.slice (some ⟨g1,o1,none⟩) n c1,.slice (some ⟨g2,o2,none⟩) n c2].toArray 126));obtain⟨k3,s⟩:=hE (w1.heap.size);obtain⟨w2,z⟩:=hE (w1.alloc (.cells [.slice (some ⟨g3,o3,none⟩) n c3,.slice (some ⟨g4,o4,none⟩) n c4].toArray 126));obtain⟨A,r⟩:=hE (w2.heap.size);obtain⟨w3,C⟩:=hE (w2.alloc (.cells (RG.z 4).toArray 49));obtain⟨H,o⟩:=hE (w3.heap.size);obtain⟨w4,E⟩:=hE (w3.alloc (.cells (RG.z 4).toArray 49));have f:=Nb V m s z r C;have g:=aN o E;have F:=mk5 (f.1.trans (g.1.mono f.1.size)) (f.2.1.below g.1) (f.2.2.1.below g.1) (f.2.2.2.below g.1) g.2;have h0:w.heap.size<=A/\A<H:=⟨by rw[<-r.out];exact UC (aN V m).1.size (aN s z).1.size,by rw[<-o.out];exact f.2.2.2.1⟩
 have X:Hid (∀ {p q:Nat->Nat}{x y:Ut},(∀i,i<n->p i<N/\q i<N)->SLq Q w x n p->SLq Q w y n q->∀W,kZ w4 W->UH prog 78 #[x,y] W (rZ W λe w'=>e=nv (prS N p q n))):=λ{p q x y} hp h1 h2 W j=>by
  have b:=F.1.trans (j.mono F.1.size);exact Bc O (Q:=Q) n oM p q (λi l=>(hp i l).1) (λi l=>(hp i l).2) x y W (h1.keep (Kq.of_below b)) (h2.keep (Kq.of_below b))
 have C1:=X (λi l=>⟨(B i l).1,(B i l).2.2.2⟩) hx t;have C2:=X (λi l=>⟨(B i l).2.1,(B i l).2.2.1⟩) U J;have C3:=X (λi l=>⟨(B i l).2.1,(B i l).2.2.2⟩) U t;have D:=mY O _ _ (AN O.pos a d n) (AN O.pos b c n);generalize prS N a d n=p1 at C1 D⊢;generalize prS N b c n=p2 at C2 D⊢;generalize prS N b d n=T at C3⊢;generalize sPl N p1 p2=P at D⊢;obtain⟨v1,L⟩:=hE (nv p1);obtain⟨v2,K⟩:=hE (nv p2);obtain⟨v3,M⟩:=hE (nv T);obtain⟨v4,S⟩:=hE (nv P);rw[L.out]at C1;rw[K.out]at C2;rw[M.out]at C3;rw[L.out,K.out,S.out]at D;go_enter func75,ntmps75;go_wp2_with (first|(refine alR 2 V m ?_)|(refine alR 3 s z ?_)|(refine alR 4 r C ?_)|(refine alR 5 o E ?_)|fail)
 refine AW.begin 16 15 ?_;refine AW.va 0 (jZ k) ?_;refine AW.ce 1 uSl (λW j=>(F.2.1.below j).2.1 0 _ rfl) ?_;refine AW.va 2 (oZ k3 1) ?_;refine AW.ce 3 uSl (λW j=>(F.2.2.1.below j).2.1 1 _ rfl) ?_;refine AW.va 5 (oZ k 1) ?_;refine AW.ce 6 uSl (λW j=>(F.2.1.below j).2.1 1 _ rfl) ?_;refine AW.va 7 (jZ k3) ?_;refine AW.ce 8 uSl (λW j=>(F.2.2.1.below j).2.1 0 _ rfl) ?_;refine AW.va 11 (oZ k 1) ?_;refine AW.ce 12 uSl (λW j=>(F.2.1.below j).2.1 1 _ rfl) ?_;refine AW.va 13 (oZ k3 1) ?_;refine AW.ce 14 uSl (λW j=>(F.2.2.1.below j).2.1 1 _ rfl) ?_;refine AW.gi 4 (λj=>C1 _ j) λW1 _=>?_
 refine AW.gi 9 (λj=>C2 _ j) λW2 _=>?_
 refine AW.gi 10 (λ_=>D _) λW3 _=>?_
 refine AW.gi 15 (λj=>C3 _ j) λY _=>?_
 refine AW.f2 (us:=wn P) (us':=wn T) S M (aM _) i40 (aM _) i40 (λj=>?_);obtain⟨W5,I⟩:=hE (Y.setCells A 0 (wn P));obtain⟨Z,G⟩:=hE (W5.setCells H 0 (wn T));have R:Hid (Y.there A 0 4/\W5.there H 0 4/\Row Z A (wn P)/\Row Z H (wn T)/\kZ w Z):=by
  have r4:=F.2.2.2.1.below j;have r5:Row (Y.setCells A 0 (wn P)) H _:=aR (F.2.2.2.2.below j) oM;rw[<-G.out,<-I.out];exact⟨r4.2.2,r5.2.2,aR (r4.put rfl) oM,r5.put rfl,RG.below_setCells oM _ _ _ (RG.below_setCells oM _ _ _ (F.1.trans (j.mono F.1.size)))⟩
 rw[I.out,G.out];refine⟨R.1,R.2.1,?_⟩;go_wp2_with fail
 refine UE (qE 4 5 49 49 rfl R.2.2.1 R.2.2.2.1 rfl rfl u40 i40 u40 i40) rfl ?_;exact⟨_,rfl,R.2.2.2.2,rfl⟩
theorem OU(O:Ord N)(p x:Nat)(Q:p<N)(hx:x<N)(i:Int)(c n:Nat)(F:n≠c)(w:Ur)(C:Row w c (wn p))(M:Row w n (wn x)):
 UH prog 152 #[iZ i,jZ c,jZ n] w (Ret λe w'=>Kz (·≠c) w w'/\(Row w' c (wn (sTi N p x))/\Row w' n (wn x))/\e=nv p):=by
 have G:=iI O p x Q hx;generalize sTi N p x=q at G⊢;obtain⟨V,k⟩:=hE (nv p);obtain⟨T,y⟩:=hE (nv x);obtain⟨S,v⟩:=hE (nv q);rw[k.out,y.out,v.out]at G;obtain⟨t,f⟩:=hE (w.heap.size);obtain⟨K,s⟩:=hE (w.alloc (.cells (RG.z 4).toArray 49));obtain⟨D,j⟩:=hE (K.heap.size);obtain⟨J,o⟩:=hE (K.alloc (.cells (RG.z 4).toArray 49));obtain⟨m,u⟩:=hE (J.setCells D 0 (wn p));have r:=aN f s;have A:=aN j o;have E:=r.1.trans (A.1.mono r.1.size);have U:=C.1;have X:=M.1;have Z:=r.2.1;have W:=f.out;have R:=j.out;have d:Hid (kZ w m/\Row m c (wn p)/\Row m n (wn x)/\Row m t (RG.z 4)/\Row m D (wn p)/\J.there D 0 4):=by
  rw[<-u.out];exact⟨RG.below_setCells oM _ _ _ E,aR (C.below E) oM,aR (M.below E) oM,aR (r.2.below A.1) oM,A.2.put rfl,A.2.2.2⟩
 have P:=mk1 (C.below E);go_enter func152,ntmps152;go_wp2_with (first|(refine alR 4 f s ?_)|(refine ldR 1 (C.below r.1).2.1 k u40 i40 ?_)|(refine alR 5 j o ?_)|(refine stR 5 u k d.2.2.2.2.2 i40 (aM p) ?_)|(refine ldR 1 d.2.1.2.1 k u40 i40 ?_)|(refine ldR 2 d.2.2.1.2.1 y u40 i40 ?_)|fail)
 refine(G m).mono ?_;rintro e I ⟨Y,rfl,b,rfl⟩;obtain⟨H,a⟩:=hE (I.setCells c 0 (wn q));obtain⟨B,z⟩:=hE (H.setCells t 0 (wn p));have l:=mk5 (d.1.trans (b.mono d.1.size)) (d.2.1.below b) (d.2.2.1.below b) (d.2.2.2.1.below b) (d.2.2.2.2.1.below b);have g:Hid (I.there c 0 4/\Row H D (wn p)/\H.there t 0 4/\Kz (·≠c) w B/\Row B c (wn q)/\Row B n (wn x)/\Row B t (wn p)):=by
  have L:Row (I.setCells c 0 (wn q)) t _:=aR l.2.2.2.1 oM;rw[<-z.out,<-a.out];exact⟨l.2.1.2.2,aR l.2.2.2.2 oM,L.2.2,((Kz.of l.1).set (UX (by simp))).set (U4 oM),aR (l.2.1.put rfl) oM,aR (aR l.2.2.1 F) oM,L.put rfl⟩
 go_wp2_with (first|(refine stR 1 a v g.1 i40 (aM q) ?_)|(refine ldR 5 g.2.1.2.1 k u40 i40 ?_)|(refine stR 4 z k g.2.2.1 i40 (aM p) ?_)|fail)
 refine UE (aG 4 49 rfl g.2.2.2.2.2.2 rfl u40 i40) rfl ?_;exact⟨_,rfl,g.2.2.2.1,⟨g.2.2.2.2.1,g.2.2.2.2.2.1⟩,rfl⟩
def pwN(N x:Nat):Nat->Nat
 | 0=>1
 | i+1=>sTi N (pwN N x i) x
theorem wT(O:Ord N)(x:Nat):∀i,pwN N x i<N
 | 0=>by show 1<N;have:=O.n2;omega
 | _+1=>V5 _ O.pos
theorem EG[NeZero N](k:1<N)(x:Fin N):∀i,(pwF x i).val=pwN N x.val i
 | 0=>US k
 | i+1=>by
  show(pwF x i*x).val=_;rw[fL,EG k x i];rfl
theorem Kz.bw{Z:Nat->Prop}{w c d:Ur}(h:kZ w c)(k:Kz Z c d)(e:∀g,g<w.heap.size->Z g):kZ w d:=⟨k.os.trans h.os,k.tape.trans h.tape,k.output.trans h.output,UC h.size k.size,λg b=>(k.block g (Ux b h.size) (e g b)).trans (h.block g b)⟩
theorem EK(O:Ord N)(x:Nat)(hx:x<N)(n:Nat)(M:n<=512)(w:Ur):
 UH prog 74 #[nv x,iZ n] w (rZ w λe w'=>SLq (w.heap.size<=·) w' e n (pwN N x)/\∃g c,e=sZ g n c):=by
 obtain⟨E,s⟩:=hE (nv x);obtain⟨v1,m⟩:=hE (nv 1);have S:Hid (Gives 70 #[uZ 1] v1):=by rw[<-m.out];exact IX
 obtain⟨t,d⟩:=hE (w.heap.size);obtain⟨C,p⟩:=hE (w.alloc (.cells (wn x).toArray 49));have a:Hid ((Ve 49 E).run prog w=.ok (jZ t) C):=by rw[<-s.out,<-p.out,<-d.out];exact boxS x w
 have A:=aN d p;have U:∀(F:Fn) (first cap:Array Ut) (w:Ur),(Yn F first cap).run prog w=.ok (.func F first cap) w:=λ_ _ _ _=>rfl
 rw[s.out];go_enter func74,ntmps74;go_wp2_with (first|(refine aF (u:=E) (v:=jZ t) (w':=C) rfl _ (.tmp 0) rfl ?_ ?_ ?_;rfl;exact a.out)|fail)
 refine(S C).mono ?_;rintro e G ⟨uu,rfl,k,rfl⟩;obtain⟨q,f⟩:=hE (G.heap.size);obtain⟨Q,r⟩:=hE (G.alloc (.cells (RG.z 4).toArray 49));obtain⟨T,l⟩:=hE (Q.setCells q 0 (wn 1));have y:=ET f r l rfl;have z:=A.2.below k;have b:=z.1;rw[f.out]at b;have D:=A.1.trans (k.mono A.1.size);have j:=mk4 (D.trans (y.2.1.mono D.size)) (z.below y.2.1) y.2.2 b;have s4:=j.2.2.1.1;have J:=mk1 (zZ n M 152 #[jZ q,jZ t] (λ_ _=>kR) (pwN N x) (·≠q) (λi W=>Row W q (wn (pwN N x i))/\Row W t (wn x)) T (λg B=>oM) (λW H=>⟨j.2.2.1.below H,j.2.1.below H⟩) (λi W K o vs V h=>⟨aR h.1 oM,aR h.2 oM⟩) λi W Y _ h=>OU O _ x (wT O x i) hx _ q t oM W h.1 h.2);clear D z k b s4;go_wp2_with (first|(refine alR 5 f r ?_)|(refine stR 5 l m y.1 i40 (aM 1) ?_)|fail)
 refine J.mono ?_;rintro e Z ⟨v,rfl,I,-,P,R⟩;have X:=d.out;have L:=mk3 (Kz.bw j.1 I λg B=>by have:=j.2.2.2;omega) (P.mono λg B=>UC j.1.size B) R;go_wp2;go_ret;exact⟨_,rfl,L.out⟩
theorem Ny(O:Ord N)(x:Nat)(hx:x<N)(n:Nat)(k:n<=512)(w:Ur):
 UH prog 74 #[nv x,iZ n] w (rZ w λe w'=>SLq (w.heap.size<=·) w' e n (pwN N x)):=
 (EK O x hx n k w).mono λ_ _ ⟨v,h,c,b,_⟩=>⟨v,h,c,b⟩
theorem uLs:(prog.underlying 129).map (·.isRow)=some false:=kR
theorem uSm:(prog.underlying 131).map (·.isRow)=some false:=kR
theorem Ow(O:Ord N)(l:List (Nat × Bs))(t:TOk N l)(d:l.length<=512)(z:Nat)(v:z<N)(i q u f m n c1 j o r c2:Nat)(v0 v2 x:Ut)(J:i<n)(H:i<r)(w:Ur)(D:f<w.heap.size)(A:j<w.heap.size)(B:Row w q [v0,.slice (some ⟨f,m,none⟩) n c1,v2])(I:Row w u [.slice (some ⟨j,o,none⟩) r c2])(a:w.cell? ⟨f,m+1*i,none⟩=some x)(hx:Sm 0 w x l)(y:w.rangeAt j (o+4*i) (wn z)):
 UH prog 163 #[iZ i,jZ q,jZ u] w (rZ w λe w'=>Sm w.heap.size w' e (l.map (tmT N z))):=by
 obtain⟨M,b⟩:=hE (nv z);have s:=mk1 (λ(W:Ur) (k:kZ w W)=>eG O v 0 x l d t.szm t.lt W (hx.grow k));rw[b.out]at s;obtain⟨E,L⟩:x.oneCell'=true/\∃g c,x=sZ g l.length c:=by
  obtain⟨g,c,rfl,-⟩:=hx;exact⟨rfl,_,_,rfl⟩
 go_enter func163,ntmps163;go_wp2_with fail
 refine AW.begin 10 10 ?_;refine AW.va 0 (oZ q 1) ?_;refine AW.ce 1 uLs (λW k=>(B.below k).2.1 1 _ rfl) ?_;refine AW.mv 2 ?_;refine AW.iv 3 (atS f m n c1 i J) ?_;refine AW.ce 4 uSm (λW k=>by rw[k.cell (p:=⟨f,m+1*i,none⟩) D];exact a) ?_;refine AW.ce 5 uSl (λW k=>(I.below k).2.1 0 _ rfl) ?_;refine AW.mv 6 ?_;refine AW.iv 7 (lF j o r c2 i H) ?_;refine AW.ro 8 (λW k=>RG.range_below y k A) b rSc nSc ?_;refine AW.ca 9 (λk=>s _ k) (λe w' h=>h.1) ?_;rintro e F ⟨G,C⟩;simp only[UN,Us,Uu,Uv];refine AW.nx 10 e ?_;refine AW.dn λk=>?_
 have K:=mk2 k (show Sm w.heap.size F e _ from C);go_wp2;go_ret;exact⟨_,rfl,K.out⟩
theorem OI(O:Ord N)(z q y t:Nat)(P:z<N)(T:q<N)(S:y<N)(V:t<N)(i M J K I v D C c1 u F G c2:Nat)(h1:i<C)(h2:i<G)(w:Ur)(Z:v<w.heap.size)(X:u<w.heap.size)(Y:Row w M (wn z))(R2:Row w J [.slice (some ⟨v,D,none⟩) C c1])(R3:Row w K (wn q))(R4:Row w I [.slice (some ⟨u,F,none⟩) G c2])(U:w.rangeAt v (D+4*i) (wn y))(Q:w.rangeAt u (F+4*i) (wn t)):
 UH prog 150 #[iZ i,jZ M,jZ J,jZ K,jZ I] w (rZ w λe w'=>e=nv (sPl N (sTi N z y) (sTi N q t))):=by
 obtain⟨k,B⟩:=hE (w.heap.size);obtain⟨w1,d⟩:=hE (w.alloc (.cells (RG.z 4).toArray 49));have f:=aN B d;have x:=iI O z y P S;have A:=iI O q t T V;have H:sTi N z y<N:=V5 _ O.pos;have L:sTi N q t<N:=V5 _ O.pos;generalize sTi N z y=a at x H⊢;generalize sTi N q t=b at A L⊢;have E:=mY O a b H L;generalize sPl N a b=r at E⊢;obtain⟨vz,g⟩:=hE (nv z);obtain⟨vq,m⟩:=hE (nv q);obtain⟨vy,l⟩:=hE (nv y);obtain⟨vt,p⟩:=hE (nv t);obtain⟨va,j⟩:=hE (nv a);obtain⟨vb,s⟩:=hE (nv b);obtain⟨vr,o⟩:=hE (nv r);rw[g.out,l.out,j.out]at x;rw[m.out,p.out,s.out]at A;rw[j.out,s.out,o.out]at E;go_enter func150,ntmps150;go_wp2_with (first|(refine alR 6 B d ?_)|fail)
 refine AW.begin 13 13 ?_;refine AW.ro 0 (λW c=>((Y.below f.1).below c).2.1) g rSc nSc ?_;refine AW.ce 1 uSl (λW c=>((R2.below f.1).below c).2.1 0 _ rfl) ?_;refine AW.mv 2 ?_;refine AW.iv 3 (lF v D C c1 i h1) ?_;refine AW.ro 4 (λW c=>row_of f.1 Z U c) l rSc nSc ?_;refine AW.ro 6 (λW c=>((R3.below f.1).below c).2.1) m rSc nSc ?_;refine AW.ce 7 uSl (λW c=>((R4.below f.1).below c).2.1 0 _ rfl) ?_;refine AW.mv 8 ?_;refine AW.iv 9 (lF u F G c2 i h2) ?_;refine AW.ro 10 (λW c=>row_of f.1 X Q c) p rSc nSc ?_;refine AW.gi 5 (λ_=>x _) λW2 _=>?_
 refine AW.gi 11 (λ_=>A _) λW3 _=>?_
 refine AW.gi 12 (λ_=>E _) λW4 _=>?_
 refine AW.fi (us:=wn r) o (aM r) i40 (λc=>?_);obtain⟨W5,n⟩:=hE (W4.setCells k 0 (wn r));have R:=rU B d c n;rw[n.out];refine⟨R.1,?_⟩;go_wp2_with fail
 refine UE (aG 6 49 rfl R.2.2 rfl u40 i40) rfl ?_;exact⟨_,rfl,R.2.1,rfl⟩
end
namespace RG
variable {P:VD}{ops:Array Vk}{Q:Yo->Act->Ur->Prop}{w:Ur}{a0:Act}{L:Array Bool}{F:Flow}{m:Nat}
def Fr(a k:Act)(d:Option WC):Prop:=∃v,k.tmps=(a.put d v).tmps
theorem Lc{o:Vk}{a:Act}{K:Act->Ur->Prop}:∀ {r:Result Next},o.upon P a K Q r->o.upon P a (λb w'=>K b w'/\Fr a b o.dst) Q r
 | .ok (.value v) _,h=>⟨h,v,rfl⟩
 | .ok .skip _,h=>⟨h,WP,rfl⟩
 | .ok (.defer d) _,h=>⟨h,WP,by cases o.dst<;>rfl⟩
 | .ok (.enter f args) _,h=>Calls.mono h λe w' k=>by
  cases e with
  | returned v=>exact⟨k,v,rfl⟩
  | panicked c=>exact k
  | outgrown=>exact k
 | .ok (.row row args) _,h=>Rows.mono h λv w' k=>⟨k,v,rfl⟩
 | .halt (.panic v) _,h=>h
 | .halt (.exit _) _,h=>h.elim
theorem KQ{i:Nat}{o:Vk}{a:Act}{K:Act->Ur->Prop}(ho:ops[i]? = some o)(h:wpOp P ops Q i K a w):wpOp P ops Q i (λk w'=>K k w'/\Fr a k o.dst) a w:=by
 unfold wpOp at *;rw[ho]at h⊢;dsimp only at h⊢;split
 ·rename_i hw
  rw[yCj hw]at h;rcases h with h|h
  ·exact U4 (Lc h)
  ·exact UX h
 ·rename_i hw
  rw[yCk hw]at h;exact⟨h,WP,rfl⟩
theorem Hq{i:Nat}{o:Vk}{a:Act}{K:Act->Ur->Prop}{v:Ut}{b:Ur}(ho:ops[i]? = some o)(c:o.guard=none)(d:(U5 a.eval o).run P w=.ok (.value v) b)(h:wpOp P ops Q i K a w):wpOp P ops Q i (λk w'=>K k w'/\k=a.put o.dst v) a w:=by
 unfold wpOp at *;rw[ho]at h⊢;dsimp only at h⊢;have e:V2 o (yielded ops a.tmps)=true:=by
  unfold V2;rw[c]
 rw[yCj e]at h⊢;rcases h with h|h
 ·unfold VT at h⊢;rw[d]at h⊢;exact U4 ⟨h,rfl⟩
 ·exact UX h
def rC(k:Array Vk)(i:Nat):Bool:=match k[i]? with
 | some o=>match o.op with | .alloc _=>true|_=>false
 | none=>false
def Sep(k:Array Vk)(L:Array Bool)(a:Act):Prop:=∀i j di dj,on L i=true->on L j=true->i≠j->rC k i=true->rC k j=true->aX k i=some di->aX k j=some dj->a.tmps[di]?≠a.tmps[dj]?
def Als(P:VD)(F:Flow)(b:Array Vk)(n:Nat):Prop:=∀i o,i<n->b[i]? = some o->rC b i=true->o.guard=none/\F.kill i=[]/\(∀(a:Act) w,∃c,(U5 a.eval o).run P w=.ok (.value (jZ w.heap.size)) c)/\∀v w,F.R i v w->∃k,v=jZ k/\k<w.heap.size
theorem kC{a:Act}{d e:WC}{v:Ut}(h:d≠e):(a.put (some d) v).tmps[e]? = a.tmps[e]?:=by
 unfold UN;dsimp only;rw[WB,yCk h]
theorem stepS{k:Nat}{o:Vk}{a:Act}(R:RegF P Q F ops a0 m)(W:Als P F ops m)(H:k<m)(E:∀i,on L i=true->i<m)(ho:ops[k]? = some o)(K:on L k=false)(G:∀e∈o.after,VP .any e=true->on L e.on=true)(h:InvF F ops a0 L a w)(U:Sep ops L a):
 wpOp P ops Q k (λJ w'=>InvF F ops a0 (L.setIfInBounds k true) J w'/\Sep ops (L.setIfInBounds k true) J) a w:=by
 have X:=Ey R H E ho K G h;have T:=(Array.getElem?_eq_some_iff.1 ho).1;have M:k<L.size:=by rw[h.size];exact T
 have D:=eX ho;have d:∀i,on (L.setIfInBounds k true) i=true->i≠k->on L i=true:=λi g A=>by
  rw[eC M]at g;rcases Xv _ _ ▸ g with g|g
  ·exact g
  ·exact absurd (by simpa using g:k=i).symm A
 have c:∀i di s,i≠k->aX ops i=some di->o.dst=some s->s≠di:=λi di s A g Y e=>by
  subst e;exact A ((R.of ho).2 s Y |>.2 i g)
 cases B:rC ops k with
 | false =>
  refine Zz (λJ w' hh=>⟨hh.1,λi j di dj g I f n t b p=>?_⟩) (KQ ho X);have r:i≠k:=by rintro rfl;rw[B]at n;cases n
  have u:j≠k:=by rintro rfl;rw[B]at t;cases t
  have l:=U i j di dj (d i g r) (d j I u) f n t b p;obtain⟨v,hv⟩:=hh.2;rw[hv];cases hd:o.dst with
  | none=>exact l
  | some s=>rw[kC (c i di s r b hd),kC (c j dj s u p hd)];exact l
 | true =>
  obtain⟨hg,-,C,-⟩:=W k o H ho B;obtain⟨w1,hr⟩:=C a w;obtain⟨V,N,O⟩:=h.all;have y:∀i di,i≠k->on L i=true->rC ops i=true->aX ops i=some di->a.tmps[di]?≠some (jZ w.heap.size):=λi di r g n b e=>by
   have S:i<ops.size:=by rw[<-h.size];exact zV g
   obtain⟨-,z,-,hb⟩:=W i _ (E i g) (U0 S) n;obtain⟨q,Z,h0⟩:=hb (V i) w (O i g λx hx=>by rw[z]at hx;cases hx);rw[N i di g b,Z]at e;injection e with e
   injection e with e
   injection e with e
   injection e with e
   omega
  refine Zz (λJ w' hh=>⟨hh.1,λi j di dj g I f n t b p=>?_⟩) (Hq ho hg hr X);rw[hh.2];have z:∀s,o.dst=some s->(a.put o.dst (jZ w.heap.size)).tmps[s]? = some (jZ w.heap.size):=λs hd=>by
   rw[hd];unfold UN;dsimp only;rw[WB,yCj rfl,yCj (by rw[h.sz];exact((R.of ho).2 s hd).1)]
  by_cases r:i=k
  ·subst r;have hd:o.dst=some di:=by rw[<-D];exact b
   rw[z di hd,hd,kC (c j dj di (YB f) p hd)];exact(y j dj (YB f) (d j I (YB f)) t p).symm
  ·by_cases u:j=k
   ·subst u;have hd:o.dst=some dj:=by rw[<-D];exact p
    rw[z dj hd,hd,kC (c i di dj f b hd)];exact y i di f (d i g f) n b
   ·have l:=U i j di dj (d i g r) (d j I u) f n t b p;cases hd:o.dst with
    | none=>exact l
    | some s=>rw[kC (c i di s r b hd),kC (c j dj s u p hd)];exact l
structure Al1(P:VD)(G:Gw)(ops:Array Vk)(i:Nat):Prop where
 o:∃o,ops[i]? = some o/\o.guard=none/\(∀(a:Act) w,∃w1,(U5 a.eval o).run P w=.ok (.value (jZ w.heap.size)) w1)
 r:∀v w,G.R i v w->∃k,v=jZ k/\k<w.heap.size
def AlL(P:VD)(G:Gw)(k:Array Vk):List Nat->Prop
 | []=>True
 | i :: r=>Al1 P G k i/\AlL P G k r
theorem AlL.of{G:Gw}{i:Nat}:∀ {l:List Nat},AlL P G ops l->l.contains i=true->Al1 P G ops i
 | [],_,h=>by cases h
 | x :: r,hl,h=>by
  rw[List.contains_cons,Xv]at h;rcases h with h|h
  ·rw[show i=x by simpa using h];exact hl.1
  ·exact hl.2.of h
theorem Kc{G:Gw}{n:Nat}(l:List Nat)(h:AlL P G ops l)(f:(VG n).all (λi=>!rC ops i || l.contains i)=true:=by kernel_rfl):Als P G.flow ops n:=λi o m ho c=>by
 have k:=List.all_eq_true.1 f i (List.mem_range.2 m);rw[c,Bool.not_true,Bool.false_or]at k;obtain⟨⟨d,e,b,g⟩,j⟩:=h.of k;obtain rfl:o=d:=UO.inj (ho.symm.trans e);exact⟨b,rfl,g,j⟩
theorem al1{G:Gw}{i:Nat}(cs:List Ut)(T:U8)(e:∀v w,G.R i v w->∃k,v=jZ k/\k<w.heap.size)(ho:(ops[i]?.map (·.guard))=some none:=by kernel_rfl)(c:∀o,ops[i]? = some o->∀W,(dA [] o,(U5 (evo (evl [])) o).run P W)=(true,.ok (.value (jZ W.heap.size)) (W.alloc (.cells cs.toArray T))):=by(intro _ h _;cases h;kernel_rfl)):Al1 P G ops i:=by
 refine⟨?_,e⟩;cases h:ops[i]? with
 | none=>rw[h]at ho;cases ho
 | some o =>
  rw[h]at ho;refine⟨o,rfl,UO.inj ho,λa w=>?_⟩;have b:=c o h w;simp only[V6.injEq]at b;exact⟨_,by rw[iU (a:=a) (evl []) [] b.1 (λt d=>by cases d)];exact b.2⟩
theorem Gw.tail3{id:Nat}(G:Gw)(n:Nat)(E:Als P G.flow ops n)(p:(decide (n<ops.size) && mG ops n)=true)(z:P.follows .mixedOrders=true)(t:Be ops a0.tmps.size=true)(h:iK P Q G.flow ops a0 0 (ops.toList.take n))(A:G.B w.drew)
 (C:∀(V:Nat->Ut) (w':Ur),(∀i,i<n->G.R i (V i) w')->G.B w'->(∀i j,i<n->j<n->i≠j->rC ops i=true->rC ops j=true->(aX ops i).isSome=true->(aX ops j).isSome=true->V i≠V j)->wpList P ops Q (ops.toList.drop n) (bU V (ops.toList.take n) 0 a0) w'):(V4 id ops true).wp P Q a0 w:=by
 rw[UL,decide_eq_true_eq]at p;refine xW G.flow n (Sep ops) p.1 p.2 z (Gw.reg t h) (λ_=>A) (λL h i j di dj d=>by rw[h]at d;cases d) (λk o L a w s r g v y x D=>stepS (Gw.reg t h) E s r g v y x D) λV w' s r g=>C V w' (λi d=>s i d rfl) (r 0 rfl) λi j d u l q m b c e=>?_
 obtain⟨L,a,B,f⟩:=g;obtain⟨di,b⟩:=Vr.1 b;obtain⟨dj,c⟩:=Vr.1 c;refine B i j di dj (f i d).1 (f j u).1 l q m b c ?_;rw[(f i d).2 di b,(f j u).2 dj c,e]
end RG
section
variable {N:Nat}
theorem SLq.from{B:Nat}{W W':Ur}{x:Ut}{n:Nat}{a:Nat->Nat}(h:B<=W.heap.size)(b:SLq (W.heap.size<=·) W' x n a):SLq (B<=·) W' x n a:=b.mono λg k=>UC h k
def pZ(B n:Nat)(a:Nat->Nat):S1:=⟨λv w=>SLq (B<=·) w v n a/\∃g c,v=sZ g n c,λ_ _ _ k h=>⟨h.1.keep (Kq.of_below k),h.2⟩⟩
theorem wJ{Q:Nat->Prop}{W:Ur}{g k n c:Nat}{a:Nat->Nat}{u:Ut}{r:List Ut}(h:SLq Q W (sZ g n c) n a)(j:0<n)(R:Row W k (u :: r))(i:u≠uZ ((a 0%18446744073709551616:Nat):Int)):g≠k:=by
 rintro rfl;obtain⟨m,l,o,e,-,-,-,d⟩:=h;injection e with e
 injection e with e
 injection e with e1 e2
 subst e1 e2;have b:=d 0 j 0 _ rfl;have f:=R.2.1 0 u rfl;rw[f]at b;exact i (UO.inj b)
theorem pO{B g k n c:Nat}{W:Ur}{a:Nat->Nat}{vs:List Ut}(h:SLq (B<=·) W (sZ g n c) n a)(b:g≠k):SLq (B<=·) (W.setCells k 0 vs) (sZ g n c) n a:=by
 obtain⟨q,l,m,e,p,o,d,f⟩:=h;have e':=e;injection e with e
 injection e with e
 injection e with e1 e2
 subst e1;exact⟨g,l,m,e',p,o,by rw[setCells_size];exact d,λj i=>Vh (f j i) k 0 vs (U4 b)⟩
section
variable {P:VD}{ops:Array Vk}{rest:List Vk}{op:Vk}{a:Act}{w w':Ur}{Q:Yo->Act->Ur->Prop}{T:U8}{y:XG}{g o:Nat}{u:Ut}
theorem OB(t:WC)(i:Hid (w.setCells g o [u]=w'))(th:w.there g o 1)(j:(P.info? T).map (·.size)=some 1)(hv:u.cells=#[u])(f:u.oneCell'=true)(h:wpList P ops Q rest (a.put op.dst WP) w')(k:op.guard=none:=by rfl)(ho:op.op=.store T (.tmp t) y:=by rfl)(hx:a.eval (.tmp t)=oZ g o:=by rfl)(d:a.eval y=u:=by rfl):wpList P ops Q (op :: rest) a w:=
 Xg k λK c=>by
  have b:=ZA (P:=P) w g o T #[u] th j (by simp[f]);have e:storeVar T ⟨g,o,none⟩ u=storeVar T ⟨g,o,none⟩ (.agg #[u]):=by
   unfold storeVar;rw[hv];rfl
  rw[show(#[u]:Array Ut).toList=[u] from rfl,i.out]at b;unfold VT U5;simp only[ho,hx,d,Yw,X4,UV,Wr,Vm,e,b];exact c _ _ h
theorem inR{v:Ut}(t:WC)(I:Sem Ut)(c:I.run P w=.ok v w')(h:wpList P ops Q rest (a.put op.dst v) w')(hd:op.dst=some t:=by rfl)(k:op.guard=none:=by rfl)(d:U5 a.eval op=I >>= λv=>pure (Xp v):=by kernel_rfl):wpList P ops Q (op :: rest) a w:=
 Xg k λK b=>by
  unfold VT;rw[d,UV,c];exact b _ _ h
end
theorem SG(n:Nat)(w:Ur):(Vy 124 1 #[(0,nv n)]).run prog w=.ok (sZ w.heap.size 1 1) (w.alloc (.cells (wn n).toArray 49)):=kR
theorem iSl:(prog.info? 124).map (·.size)=some 1:=kR
theorem zS{B:Nat}{cs:List Ut}(v:Ut)(W:Ur)(h:(RG.pN B cs).p v W):∃k,v=jZ k/\k<W.heap.size:=by
 obtain⟨k,c,-,b⟩:=h;exact⟨k,c,b.1⟩
theorem QO(O:Ord N)(h2:2<N)(y z:Nat)(hy:y<N)(hz:z<N)(n:Nat)(hn:n<=512)(w:Ur)(P:∀x g W,Row W g (wn x)->UH prog 148 #[sZ g 1 1,iZ n] W (rZ W λe W'=>SLq (W.heap.size<=·) W' e n (λ_=>x))):
 UH prog 71 #[nv y,nv z,iZ n] w (rZ w λe w'=>∃l r,e=.tuple #[l,r]/\SLq (w.heap.size<=·) w' l n (λ_=>sMi N 0 z)/\SLq (w.heap.size<=·) w' r n (λi=>sPl N (sTi N z (pwN N y i)) (sTi N (sTi N z z) (pwN N 2 i)))):=by
 obtain⟨vy,h7⟩:=hE (nv y);obtain⟨vz,F⟩:=hE (nv z);obtain⟨k3,hj⟩:=hE (w.heap.size);obtain⟨w1,h5⟩:=hE (w.alloc (.cells (wn y).toArray 49));obtain⟨k4,h8⟩:=hE (w1.heap.size);obtain⟨j,hl⟩:=hE (w1.alloc (.cells (wn z).toArray 49));have ht:Hid ((Ve 49 vy).run prog w=.ok (jZ k3) w1):=by rw[<-h7.out,<-h5.out,<-hj.out];exact boxS y w
 have hw:Hid ((Ve 49 vz).run prog w1=.ok (jZ k4) j):=by rw[<-F.out,<-hl.out,<-h8.out];exact boxS z w1
 have F1:=aN hj h5;have F2:=aN h8 hl;have R3:=F1.2.below F2.1;have b2:=F1.1.trans (F2.1.mono F1.1.size);rw[h7.out,F.out];have R:=mk3 b2 R3 F2.2;clear b2 R3 F1 F2;go_enter func71,ntmps71;go_wp2_with (first|(refine aF (u:=vy) (v:=jZ k3) (w':=w1) rfl _ (.tmp 0) rfl ?_ ?_ ?_;rfl;exact ht.out)|(refine aF (u:=vz) (v:=jZ k4) (w':=j) rfl _ (.tmp 1) rfl ?_ ?_ ?_;rfl;exact hw.out)|fail)
 obtain⟨b,hb⟩:=hE (j.heap.size);have C:∀ {W},kZ j W->b<=W.heap.size:=λh=>hb.out ▸ h.size
 refine(gwL [pE (nv y),pE (iZ n),pZ b n (pwN N y),pE (nv 2),pE (iZ n),pZ b n (pwN N 2),pE (nv z),pE (nv z),pE (nv (sTi N z z)),RG.pN b [.slice none 0 0],RG.pN b [.slice none 0 0],RG.pN b (RG.z 4)] (λW=>kZ j W) (λW W' hb h=>h.trans (hb.mono h.size))).tail3 12 (Kc [9,10,11] ⟨al1 [.slice none 0 0] 124 zS,al1 [.slice none 0 0] 124 zS,al1 (RG.z 4) 49 zS,yCl⟩) kR kR kR ⟨
  gLo 3 (λW c=>(R.2.1.below c).2.1) u40 i40,
  gO 2 (iZ n),
  eD 0 11 1 12 74 (λx y=>#[x,y]) (λx u W E H c=>by
   obtain rfl:x=nv y:=E;obtain rfl:u=iZ n:=H;exact(EK O y hy n hn W).mono λe W' ⟨v,k,h2,d,f⟩=>⟨v,k,h2,d.from (C c),f⟩),
  NN 70 #[uZ 2] (λW _=>zW 2 oM W),
  gO 2 (iZ n),
  eD 3 14 4 15 74 (λx y=>#[x,y]) (λx u W E H c=>by
   obtain rfl:x=nv 2:=E;obtain rfl:u=iZ n:=H;exact(EK O 2 h2 n hn W).mono λe W' ⟨v,k,h2,d,f⟩=>⟨v,k,h2,d.from (C c),f⟩),
  gLo 4 (λW c=>(R.2.2.below c).2.1) u40 i40,
  gLo 4 (λW c=>(R.2.2.below c).2.1) u40 i40,
  gC2 6 17 7 18 (λW=>iI O z z hz hz W),
  xP [.slice none 0 0] 124 (λW W' h c=>⟨_,rfl,C c,h⟩),
  xP [.slice none 0 0] 124 (λW W' h c=>⟨_,rfl,C c,h⟩),
  xP (RG.z 4) 49 (λW W' h c=>⟨_,rfl,C c,h⟩),yCl⟩ ⟨rfl,rfl,rfl,Uw _,λ_ _=>rfl⟩ ?_
 intro V w3 hR c hD;obtain⟨S1,g1,c1,H⟩:=hR 2 dC;obtain⟨Z,g2,c2,e5⟩:=hR 5 dC;rw[H]at S1;rw[e5]at Z;have e8:V 8=nv (sTi N z z):=hR 8 dC;obtain⟨A,e9,l8,R8⟩:=hR 9 dC;obtain⟨B,G,l9,R9⟩:=hR 10 dC;obtain⟨k,J,hp,I⟩:=hR 11 dC;have d1:=hD 9 10 dC dC dC kR kR kR kR;have d2:=hD 9 11 dC dC dC kR kR kR kR;have d3:=hD 10 11 dC dC dC kR kR kR kR;dsimp only[bU,VK,Xl,Xm];simp only[UN,Us,Uu,Uv];rw[H,e5,e8,e9,G,J];rw[e9,G]at d1;rw[e9,J]at d2;rw[G,J]at d3;have n1:A≠B:=λe=>d1 (by rw[e])
 have n2:A≠k:=λe=>d2 (by rw[e])
 have n3:B≠k:=λe=>d3 (by rw[e])
 clear d1 d2 d3 hD hR H e5 e8 e9 G J;generalize V 0=s0;generalize V 1=s1;generalize V 3=s3;generalize V 4=s4;generalize V 6=s6;generalize V 7=s7;obtain⟨q,hq⟩:=hE (sTi N z z);obtain⟨k7,L⟩:=hE (nv q);rw[hq.out,L.out];obtain⟨Q,t⟩:=hE (sZ g1 n c1);obtain⟨T,D⟩:=hE (sZ g2 n c2);have x1:0<n->(g1≠A/\g1≠B/\g1≠k)/\g2≠A/\g2≠B/\g2≠k:=λa=>⟨⟨wJ S1 a R8 (by simp),wJ S1 a R9 (by simp),wJ S1 a I (by simp[pwN])⟩,wJ Z a R8 (by simp),wJ Z a R9 (by simp),wJ Z a I (by simp[pwN])⟩
 obtain⟨Y,f⟩:=hE (w3.setCells A 0 [Q]);obtain⟨X,p⟩:=hE (Y.setCells B 0 [T]);obtain⟨S,hc⟩:=hE (X.setCells k 0 (wn q));have hu:=hb.out;have q8:Row Y A [Q]:=by rw[<-f.out];exact R8.put rfl
 have q9:Row Y B [.slice none 0 0]:=by rw[<-f.out];exact R9.other (YB n1)
 have h9:Row Y k (RG.z 4):=by rw[<-f.out];exact I.other (YB n2)
 have u8:Row X A [Q]:=by rw[<-p.out];exact q8.other n1
 have u9:Row X B [T]:=by rw[<-p.out];exact q9.put rfl
 have u10:Row X k (RG.z 4):=by rw[<-p.out];exact h9.other (YB n3)
 have HT:Hid (w3.there A 0 1/\Y.there B 0 1/\X.there k 0 (wn q).toArray.size):=⟨R8.2.2,q9.2.2,u10.2.2⟩
 have HV:Hid ((Q.cells=#[Q]/\Q.oneCell'=true)/\T.cells=#[T]/\T.oneCell'=true):=by rw[<-t.out,<-D.out];exact⟨⟨rfl,rfl⟩,rfl,rfl⟩
 have s:Hid (kZ j S/\Row S A [Q]/\Row S B [T]/\Row S k (wn q)/\(0<n->SLq (b<=·) S Q n (pwN N y)/\SLq (b<=·) S T n (pwN N 2))):=by
  have o:kZ j Y:=by rw[<-f.out];exact RG.below_setCells oM _ _ _ c
  have M:kZ j X:=by rw[<-p.out];exact RG.below_setCells oM _ _ _ o
  rw[<-hc.out];refine⟨RG.below_setCells oM _ _ _ M,u8.other n2,u9.other n3,u10.put rfl,λa=>?_⟩;rw[<-p.out,<-f.out];obtain⟨⟨a1,a2,U⟩,d,a5,K⟩:=x1 a;rw[<-t.out,<-D.out];exact⟨pO (pO (pO S1 a1) a2) U,pO (pO (pO Z d) a5) K⟩
 rw[t.out,D.out];clear x1 q8 q9 h9 u8 u9 u10 c S1 Z R8 R9 I n1 n2 n3 l8 l9 hp hu;refine OB (w:=w3) 8 f HT.1 iSl HV.1.1 HV.1.2 ?_;refine OB (w:=Y) 9 p HT.2.1 iSl HV.2.1 HV.2.2 ?_;refine stR (w:=X) 10 hc L HT.2.2 i40 (aM q) ?_;go_wp2_with (first|(refine ldR 4 (R.2.2.below s.1).2.1 F u40 i40 ?_)|fail)
 have HO:=mk1 (IU O hz S);rw[F.out]at HO;refine HO.mono ?_;clear HO HT HV;rintro e w7 ⟨uu,rfl,U,rfl⟩;obtain⟨m,hm⟩:=hE (sMi N 0 z);rw[hm.out];obtain⟨vo,hk⟩:=hE (nv m);obtain⟨h6,M⟩:=hE (w7.heap.size);obtain⟨w8,he⟩:=hE (w7.alloc (.cells (wn m).toArray 49));have hr:Hid ((Vy 124 1 #[(0,vo)]).run prog w7=.ok (sZ h6 1 1) w8):=by rw[<-hk.out,<-he.out,<-M.out];exact SG m w7
 have F8:=aN M he;have b68:=mk1 (U.trans (F8.1.mono U.size));rw[hk.out];have HR:=mk1 (P m h6 w8 F8.2);clear U P;go_wp2_with (first|(refine inR 22 (Vy 124 1 #[(0,vo)]) hr.out ?_)|fail)
 refine HR.mono ?_;clear HR;rintro e w9 ⟨lv,rfl,ha,hg⟩;have d:=b68.trans (ha.mono b68.size);have b9:=mk1 (R.1.trans ((s.1.trans (d.mono s.1.size)).mono R.1.size));have KZ:=mk6 ((R.2.2.below s.1).below d) (s.2.1.below d) (s.2.2.2.1.below d) (s.2.2.1.below d) (λ(a:0<n)=>V1 ((s.2.2.2.2 a).1.keep (Kq.of_below d)) ((s.2.2.2.2 a).2.keep (Kq.of_below d))) b9;have lq:q<N:=by rw[<-hq.out];exact V5 _ O.pos
 have HL:=mk1 (jB n hn 150 #[jZ k4,jZ A,jZ k,jZ B] (λ_ _=>kR) (λi=>sPl N (sTi N z (pwN N y i)) (sTi N q (pwN N 2 i))) w9 λi W hi o=>by
  obtain⟨T1,T2⟩:=KZ.2.2.2.2.1 oM;rw[<-t.out]at T1;rw[<-D.out]at T2;have Ra:=(KZ.1.below o)
  have Rb:=(KZ.2.1.below o)
  have Rc:=(KZ.2.2.1.below o)
  have Rd:=(KZ.2.2.2.1.below o)
  rw[<-t.out]at Rb;rw[<-D.out]at Rd;obtain⟨k0,k2,k5,E,-,-,t1,f1⟩:=T1.keep (Kq.of_below o);obtain⟨k1,K,hs,H,-,-,t2,f2⟩:=T2.keep (Kq.of_below o);rw[E]at Rb;rw[H]at Rd;exact OI O z q (pwN N y i) (pwN N 2 i) hz lq (wT O y i) (wT O 2 i) i k4 A k B k0 k2 n k5 k1 K n hs hi hi W t1 t2 Ra Rb Rc Rd (f1 i hi) (f2 i hi))
 have k6:∀(fn:Fn) (first cap:Array Ut) (w:Ur),(Yn fn first cap).run prog w=.ok (.func fn first cap) w:=λ_ _ _ _=>rfl
 have hS:=mk1 (SLq.from (UC R.1.size (UC s.1.size b68.size)) hg);clear hg ha d lq s;go_wp2_with fail
 refine HL.mono ?_;clear HL;rintro e ka ⟨rv,rfl,E,K⟩;have KE:=mk3 (b9.trans (E.mono b9.size)) (hS.keep (Kq.of_below E)) (SLq.from b9.size K);clear hS K E KZ;go_wp2
 go_ret2
 rw[<-hm.out,<-hq.out]at KE;exact⟨_,rfl,KE.1,_,_,rfl,KE.2.1,KE.2.2⟩
end
section
variable {P:Nat}[NeZero P]{N:Nat}
theorem Dm{P:VD}(w:Ur)(t sT B k:U8)(b o c e:Nat)(a:Wu)(d f s n:Nat)(cs:List Ut)
 (y:P.underlying t=some (.slice k)) (r:(P.info? k).map (·.size)=some s) (z:n=XP d c) (A:cs.length=n*s)
 (l:∀j v,cs[j]? = some v->w.cell? (a.add j)=some v) (u:w.there b o cs.length) (C:∀v∈cs,v.oneCell'=true) :
 (XZ #[t,sT] B #[.slice (some ⟨b,o,none⟩) c e,.slice (some a) d f]).run P w=.ok (goInt n) (w.setCells b o cs):=by
 have g:=run_loadCells_list (P:=P) w a cs l;have q:=run_storeCells_cells (P:=P) b o cs 0 w (λj m=>by rw[XB];exact(u j m).1) (λj m=>by rw[XB];exact(u j m).2) C;rw[A]at g;cases p:P.info? k with
 | none=>simp[p]at r
 | some i =>
  have x:i.size=s:=by simpa[p]using r
  simp[XZ,XY y,Builtin.lenOf,Zh,sizeOf,typeInfo,p,x,<-z,g,q]
def cw(x i:Nat):Ut:=(wn x).getD (i%4) WP
theorem PX(x i:Nat):(cw x i).oneCell'=true:=by
 unfold cw;have:i%4=0\/i%4=1\/i%4=2\/i%4=3:=oM;rcases this with h|h|h|h<;>rw[h]<;>rfl
structure Rs(g m n x:Nat)(w:Ur):Prop where
 lt:g<w.heap.size
 th:w.there g 0 (4*m)
 c:∀i,i<4*n->w.cell? ⟨g,i,none⟩=some (cw x i)
theorem Rs.copy{g m n k r sl sc dc x:Nat}{w:Ur}(h:Rs g m n x w)(s:k=XP sl (m-n))(z:n<=m)(f:∀i,i<4*k->w.cell? ⟨r,i,none⟩=some (cw x i)):
 ∃w',(∀l,(XZ #[124,124] l #[.slice (some ⟨g,n*4,none⟩) (m-n) dc,sZ r sl sc]).run prog w=.ok (goInt k) w')/\Rs g m (n+k) x w'/\(∀B,B<=g->Below B w w'):=by
 have u:n+k<=m:=by have:XP sl (m-n)<=m-n:=ZX _ _;omega
 obtain⟨cs,d⟩:∃cs,cs=(VG (4*k)).map (cw x):=⟨_,rfl⟩
 have q:cs.length=4*k:=by rw[d,List.length_map,List.length_range]
 have c:∀j,j<4*k->cs[j]? = some (cw x j):=λj b=>by rw[d,Vz,List.getElem?_range b];rfl
 have p:w.there g (n*4) cs.length:=λj b=>by
  have:=h.th (n*4+j) oM;rwa[UD]at this
 refine⟨w.setCells g (n*4) cs,λl=>Dm w _ _ l 49 g (n*4) (m-n) dc (aZ r) sl sc 4 k cs uS4 i40 s oM (λj v b=>?_) p (λv hv=>?_),⟨by rw[setCells_size];exact h.lt,VW h.th _ _ _,λi y=>?_⟩,λB t=>RG.below_setCells t _ _ _ (UR _ _)⟩
 ·have e:j<4*k:=by have:=(UF.1 b).1;omega
  rw[c j e]at b;rw[Addr.add_mid,UD,f j e];exact b
 ·rw[d]at hv;obtain⟨i,-,rfl⟩:=Vn.1 hv;exact PX x i
 ·by_cases e:i<4*n
  ·rw[World.cell?_setCells_out g cs (n*4) w ⟨g,i,none⟩ (λ_ _=>U4 (by show i<n*4;omega))];exact h.c i e
  ·have b:i-n*4<cs.length:=oM;have o:=World.cell?_setCells_in g cs (n*4) w (λj b=>(p j b).1) (i-n*4) b;rw[show n*4+(i-n*4)=i by omega]at o;rw[o,<-UG b,c _ oM];unfold cw;rw[show(i-n*4)%4=i%4 by omega]
theorem Pi(m:Nat)(b:m<=1000)(w:Ur):UH prog 174 #[uZ 1,uZ m] w λe w'=>e=.returned (.tuple #[uZ 0,uZ m])/\w'=w:=by
 have k:bits .and .u64 1 4294967295=1:=rfl;have a2:bits .and .u64 (m:Int) 4294967295=(m:Int):=by
  have h:=bits_and_u64_nat m 4294967295 oM oM;rw[show(4294967295:Nat)=2^32-1 from rfl,Nat.and_two_pow_sub_one_eq_mod,US oM]at h;exact h
 have a0:bits .and .u64 0 4294967295=0:=rfl;have c:(m:Int)/4294967296=0:=oM;have d:Vo.wrap (m:Int)=(m:Int):=by rw[XU];omega
 go_enter func174,ntmps174;go_wp2
 go_ret2
 exact⟨rfl,rfl⟩
theorem O9(m:Nat)(k:m<=1000)(w:Ur):UH prog 211 #[uZ 1,uZ m] w λe w'=>e=.returned (.tuple #[uZ 0,uZ m])/\w'=w:=by
 have h:=Pi m k w;go_enter func211,ntmps211;go_wp2_with fail
 refine h.mono ?_;rintro e w' ⟨rfl,rfl⟩;clear h;go_wp2
 go_ret2
 exact⟨rfl,rfl⟩
theorem BG{P:VD}{k:Array Vk}{o:Vk}{a:Act}{w:Ur}{K:Act->Ur->Prop}{Q:Yo->Act->Ur->Prop}{E:Prop}(f:o.guard=none)(d s:XG)(t b:U8)
 (ho:o.op=.call { callee:=.builtin .copy,args:=#[d,s],argTypes:=#[t,b] }) (v u:Ut) (hd:a.eval d=v) (e:a.eval s=u)
 (c:Ut) (w':Ur) (g:(XZ #[t,b] o.type #[v,u]).run P w=.ok c w') (h:K (a.put o.dst c) w'):if V2 o (yielded k a.tmps)=true then VT P o a w K Q else E:=by
 have c:V2 o (yielded k a.tmps)=true:=by simp[V2,f]
 rw[yCj c];exact Lib.wp_copy_run w d s t b ho v u hd e g h
theorem IC(x r m:Nat)(V:m<=512)(w:Ur)(hR:Row w r (wn x)):
 UH prog 148 #[.slice (some ⟨r,0,none⟩) 1 1,.int .i64 m] w (Ret λe w'=>Below w.heap.size w w'/\SLq (w.heap.size<=·) w' e m (λ_=>x)):=by
 have M:=O9 m oM w;have Z:¬(m:Int)<0:=oM;have Y:Vo.wrap (m:Int)=(m:Int):=by rw[XU];omega
 have X:¬(9223372036854775807:Int)<(m:Int):=oM;obtain⟨C0,a,z⟩:=Cg uS4 iS4 m V;obtain⟨g,D⟩:=hE (w.heap.size);obtain⟨O,s⟩:=hE (w.alloc (.cells C0.toArray 49));have F:=aN D s;have A:Rs g m 0 x O:=⟨F.2.1,by have:=F.2.2.2;rwa[a]at this,λi G=>absurd G (Ym _)⟩
 have l:=hR.below F.1;have B:∀i,i<4->O.cell? ⟨r,i,none⟩=some (cw x i):=λi G=>by
  have L:i=0\/i=1\/i=2\/i=3:=oM;rcases L with rfl|rfl|rfl|rfl
  ·exact l.2.1 0 _ rfl
  ·exact l.2.1 1 _ rfl
  ·exact l.2.1 2 _ rfl
  ·exact l.2.1 3 _ rfl
 obtain⟨E,c,d,f⟩:=A.copy (k:=XP 1 m) (r:=r) (sl:=1) (sc:=1) (dc:=m) (by rw[YT]) (Wy _) (λi G=>B i (by have:XP 1 m<=1:=Z7 _ _;omega));rw[YT,Nat.zero_mul]at c;rw[UD]at d;have N:Hid (Below w.heap.size w E/\Rs g m (XP 1 m) x E):=⟨F.1.trans (f _ (YO D.out)),d⟩
 have I:XP 1 m<=m:=ZX _ _;have K:0<m->0<XP 1 m:=λh=>by show 0<min 1 m;omega
 have b:=c 3;have p:=z w;rw[s.out,D.out]at p;generalize XP 1 m=T at *;unfold goInt at b;clear A l hR B f d c F z a s;go_enter func148,ntmps148;go_wp2_with fail
 refine M.mono ?_;rintro e w' ⟨rfl,rfl⟩;clear M;go_wp2_with (at_builtin;refine Lib.wpList_copy_run _ rfl _ _ 124 124 rfl _ _ rfl rfl b ?_)
 clear b p;go_loopg [8] m (λgk s8 wr=>∃n:Nat,n<=m/\(0<m->0<n)/\m<=n+gk/\s8=.int .i64 n/\Hid (Below w'.heap.size w' wr/\Rs g m n x wr))
 case atStart=>exact⟨T,I,K,oM,rfl,N⟩
 case round =>
  clear N;obtain⟨n,y,W,P,rfl,o⟩:=hrel;by_cases J:n<m
  ·have u:(n:Int)<(m:Int):=oM;have Q:0<XP n (m-n):=by show 0<min n (m-n);omega
   have H:n+XP n (m-n)<=m:=by show n+min n (m-n)<=m;omega
   have S:XP n (m-n)<=n:=Z7 _ _;have q:Rs g m n x wr.drew:=⟨o.2.lt,o.2.th,o.2.c⟩
   obtain⟨E,c,d,f⟩:=q.copy (k:=XP n (m-n)) (r:=g) (sl:=n) (sc:=m) (dc:=m-n) rfl y (λi G=>q.c i oM);have b:=c 3;have U:=Di g 0 m m n y;have C:=Dh g 0 m m n J (Uw _);rw[UD]at C;have R:Hid (Below w'.heap.size w' E/\Rs g m (n+XP n (m-n)) x E):=⟨o.out.1.drew.trans (f _ (YO D.out)),d⟩
   generalize XP n (m-n)=k at *;unfold goInt at b;clear c d f q o;go_wp2_with fail
   go_region_law (refine BG rfl (.tmp 41) (.tmp 44) 124 124 rfl (.slice (some ⟨g,n*4,none⟩) (m-n) (m-n)) (.slice (some ⟨g,0,none⟩) n m) (by simp[yAC,UN]) (by simp[yAC,UN]) _ _ b ?_)
   go_wp2;go_roundg (gk-1)
   case measure=>omega
   case rel=>exact⟨n+k,H,λ_=>oM,oM,congrArg (Value.int VS) (show VS.wrap ((n:Int)+(k:Int))=((n+k:Nat):Int) by rw[Yj];omega),R⟩
  ·have u:¬(n:Int)<(m:Int):=oM;obtain rfl:n=m:=oM;have C:Hid (Below w'.heap.size w' wr/\SLq (w'.heap.size<=·) wr (.slice (some ⟨g,0,none⟩) n n) n (λ_=>x)):=⟨o.1,g,0,n,rfl,Uw _,YO D.out,o.2.lt,λj H t v q=>by
    have L:t<4:=(UF.1 q).1;rw[UD,o.2.c (4*j+t) oM];unfold cw;rw[show(4*j+t)%4=t by omega,List.getD_eq_getElem?_getD,q];rfl⟩
   clear o;go_wp2;go_ret;exact⟨_,rfl,C.out⟩
theorem EE(O:Ord N)(d:2<N)(y z:Nat)(c:y<N)(b:z<N)(n:Nat)(k:n<=512)(w:Ur):
 UH prog 71 #[nv y,nv z,iZ n] w (rZ w λe w'=>∃l r,e=.tuple #[l,r]/\SLq (w.heap.size<=·) w' l n (λ_=>sMi N 0 z)/\SLq (w.heap.size<=·) w' r n (λi=>sPl N (sTi N z (pwN N y i)) (sTi N (sTi N z z) (pwN N 2 i)))):=
 QO O d y z c b n k w λx g W hR=>IC x g n k W hR
def oQ(N y:Nat)(H:Nat->List (Nat × Bs))(i:Nat):List (Nat × Bs):=(H i).map (tmT N (pwN N (sIn N y) i))
theorem H6(O:Ord N){Q:Nat->Prop}(n:Nat)(k3:0<n)(hn:n<=64)(G H:Nat->List (Nat × Bs))(U:List (Nat × Bs))(hH:∀i,i<n->TOk N (H i)/\(H i).length<=512)(hU:TOk N U)(k2:U.length<=512)(y z:Nat)(hy:y<N)(hz:z<N)(v:Ut)(w:Ur)(hQ:∀g,w.heap.size<=g->Q g)(h0:GRq Q w v n G H U):
 UH prog 84 #[v,nv y,nv z] w (rZ w λe w'=>GRq Q w' e n G (oQ N y H) (U.map (tmT N z))):=by
 obtain⟨vg,vh,vu,rfl,h3,h4,h5⟩:=h0.ex;obtain⟨E,M,J,eg⟩:∃g o c,vg=.slice (some ⟨g,o,none⟩) n c:=by obtain⟨g,o,c,h,-⟩:=h3;exact⟨g,o,c,h⟩
 subst eg;have ka:vu.oneCell'=true:=h5.one.2;obtain⟨I,D,ch,rfl,kb,ke,ha,hu⟩:=h4;obtain⟨K,A⟩:=hE (sIn N y);have hw:K<N:=by rw[<-A.out];exact V5 _ O.pos
 have HI:=mk1 (λW=>uS O y hy W);rw[A.out]at HI;obtain⟨vy,hc⟩:=hE (nv y);obtain⟨vz,t⟩:=hE (nv z);obtain⟨k,hk⟩:=hE (w.heap.size);obtain⟨w1,h6⟩:=hE (w.alloc (.cells [.slice (some ⟨E,M,none⟩) n J,.slice (some ⟨I,D,none⟩) n ch,vu].toArray 133));obtain⟨k4,hl⟩:=hE (w1.heap.size);obtain⟨w2,hs⟩:=hE (w1.alloc (.cells (wn y).toArray 49));obtain⟨k5,hj⟩:=hE (w2.heap.size);obtain⟨w3,h7⟩:=hE (w2.alloc (.cells (wn z).toArray 49));obtain⟨k6,Y⟩:=hE (w3.heap.size);obtain⟨r,h9⟩:=hE (w3.alloc (.cells [.slice none 0 0,.slice none 0 0,.slice none 0 0].toArray 133));have f:=Nb hk h6 hl hs hj h7;have g6:=aN Y h9;have F:=mk5 (f.1.trans (g6.1.mono f.1.size)) (f.2.1.below g6.1) (f.2.2.1.below g6.1) (f.2.2.2.below g6.1) g6.2;have P:w.heap.size<=k6:=by rw[<-Y.out];exact f.1.size
 obtain⟨v0,hp⟩:=hE (U3 #[.slice (some ⟨E,M,none⟩) n J,.slice (some ⟨I,D,none⟩) n ch,vu]);have B0:Hid ((Ve 133 v0).run prog w=.ok (jZ k) w1):=by rw[<-hp.out,<-h6.out,<-hk.out];exact CJ _ _ _ _
 have B1:Hid ((Ve 49 vy).run prog w1=.ok (jZ k4) w2):=by rw[<-hc.out,<-hs.out,<-hl.out];exact boxS y w1
 have B2:Hid ((Ve 49 vz).run prog w2=.ok (jZ k5) w3):=by rw[<-t.out,<-h7.out,<-hj.out];exact boxS z w2
 rw[hc.out,t.out,hp.out];have HT:=mk2 hH (λ(W:Ur) (d:Below w.heap.size w W)=>eG O hz 0 vu U k2 hU.szm hU.lt W (h5.sm.grow d));rw[t.out]at HT;have R:=mk2 hu ha;have HK:=mk3 h3 hQ A;clear f g6 hu ha hH hU h0 h3 h5;go_enter func84,ntmps84;go_wp2_with (first|(refine aF (u:=v0) (v:=jZ k) (w':=w1) rfl _ (.tmp 0) rfl ?_ ?_ ?_;rfl;exact B0.out)|(refine aF (u:=vy) (v:=jZ k4) (w':=w2) rfl _ (.tmp 1) rfl ?_ ?_ ?_;rfl;exact B1.out)|(refine aF (u:=vz) (v:=jZ k5) (w':=w3) rfl _ (.tmp 2) rfl ?_ ?_ ?_;rfl;exact B2.out)|(refine alR 6 Y h9 ?_)|fail)
 obtain⟨b,d⟩:=hE (r.heap.size);have ht:∀ {W},Below r.heap.size r W->b<=W.heap.size:=λh=>d.out ▸ h.size
 refine(gwL [pE (nv y),pE (nv K),pE (.pointer (some ⟨k,1,none⟩)),pE (.slice (some ⟨I,D,none⟩) n ch),pE (iZ n),pZ b n (pwN N K),RG.pN b [.slice none 0 0]] (λW=>Below r.heap.size r W) (λW W' d h=>h.trans (d.mono h.size))).tail2 7 kR kR kR ⟨
  gLo 4 (λW l=>(F.2.2.1.below l).2.1) u40 i40,
  oW 0 9 159 (λx=>#[x]) (λx W j l=>by
   obtain rfl:x=nv y:=j;exact HI W),
  gP 3 (jZ k) (.pointer (some ⟨k,1,none⟩)),
  fF 129 2 11 k 1 (.slice (some ⟨I,D,none⟩) n ch) uGL (λx W h=>h) (λW l=>(F.2.1.below l).2.1 1 _ rfl) (λ_=>rfl),
  rF 3 12 (.slice (some ⟨I,D,none⟩) n ch) (iZ n) (λx W h=>h) (λ_=>rfl),
  eD 1 10 4 13 74 (λx y=>#[x,y]) (λx u W j B l=>by
   obtain rfl:x=nv K:=j;obtain rfl:u=iZ n:=B;exact(EK O K hw n oM W).mono λe W' ⟨v,s,C,h3,h4⟩=>⟨v,s,C,h3.from (ht l),h4⟩),
  xP [.slice none 0 0] 124 (λW W' h l=>⟨_,rfl,ht l,h⟩),yCl⟩ ⟨rfl,rfl,rfl,Uw _,λ_ _=>rfl⟩ ?_
 intro V w5 hR l;obtain⟨S1,g1,c1,e5⟩:=hR 5 dC;rw[e5]at S1;obtain⟨k7,e6,l7,R7⟩:=hR 6 dC;dsimp only[bU,VK,Xl,Xm];simp only[UN,Us,Uu,Uv];rw[e5,e6];clear hR e5 e6;generalize V 0=s0;generalize V 1=s1;generalize V 2=s2;generalize V 3=s3;generalize V 4=s4;have n7:g1≠k7:=wJ S1 k3 R7 (by simp);obtain⟨l1,T⟩:=hE (sZ g1 n c1);obtain⟨w6,hq⟩:=hE (w5.setCells k7 0 [l1]);have L:Hid (Below r.heap.size r w6/\Row w6 k7 [l1]/\SLq (b<=·) w6 l1 n (pwN N K)):=by
  rw[<-hq.out,<-T.out];exact⟨RG.below_setCells (by rw[d.out];exact l7) _ _ _ l,R7.put rfl,pO S1 n7⟩
 have X:=mk2 R7.2.2 (show l1.cells=#[l1]/\l1.oneCell'=true by rw[<-T.out];exact⟨rfl,rfl⟩);first|rw[T.out]|rw[show Vw (some (aZ g1)) n c1=l1 from T.out]
 clear S1 R7 n7 l l7;refine OB (w:=w5) 7 hq X.1 iSl X.2.1 X.2.2 ?_;have kc:w6.cell? ⟨k,1,none⟩=some (.slice (some ⟨I,D,none⟩) n ch):=(F.2.1.below L.1).2.1 1 _ rfl;have kd:∀(fn:Fn) (first cap:Array Ut) (w:Ur),(Yn fn first cap).run prog w=.ok (.func fn first cap) w:=λ_ _ _ _=>rfl
 have S:=F.1.trans (L.1.mono F.1.size);have HL:=mk1 (Aa n oM 163 #[jZ k,jZ k7] (λ_ _=>kR) (oQ N y H) w6 λi W hi B=>by
  have bb:=S.trans (B.mono S.size);obtain⟨x,k9,k8⟩:=R.1 i hi;have T1:=L.2.2.keep (Kq.of_below B);have Rb:=L.2.1.below B;obtain⟨s,C,Z,j,-,-,t1,f1⟩:=T1;rw[j]at Rb;have hT:=Ow O (H i) (HT.1 i hi).1 (HT.1 i hi).2 (pwN N K i) (wT O K i) i k k7 I D n ch s C n Z _ vu x hi hi W (Ux R.2 bb.size) t1 ((F.2.1.below L.1).below B) Rb (by rw[Nat.one_mul,bb.cell (p:=⟨I,D+i,none⟩) R.2];exact k9) (k8.sm.grow bb) (f1 i hi);rw[<-A.out]at hT;exact hT)
 clear S;go_wp2_with fail
 refine HL.mono ?_;clear HL;rintro e w7 ⟨vn,rfl,hm,Z⟩;have he:=L.1.trans (hm.mono L.1.size);obtain⟨gn,on,cn,en⟩:∃g o c,vn=.slice (some ⟨g,o,none⟩) n c:=by obtain⟨g,o,c,h,-⟩:=Z;exact⟨g,o,c,h⟩
 subst en;have C:=mk3 he (Z.mono (Q':=(r.heap.size<=·)) λg hg=>UC L.1.size hg) P;clear hm Z he;go_wp2_with fail
 refine AW.begin 8 8 ?_;refine AW.va 0 (jZ k) ?_;refine AW.ce 1 uGL (λW d=>((F.2.1.below C.1).below d).2.1 0 _ rfl) ?_;refine AW.mv 2 ?_;refine AW.va 3 (.pointer (some ⟨k,2,none⟩)) ?_;refine AW.ce 4 AB (λW d=>((F.2.1.below C.1).below d).2.1 2 _ rfl) ?_;refine AW.ro 5 (λW d=>((F.2.2.2.1.below C.1).below d).2.1) t u40 i40 ?_;have j:=mk1 (F.1.trans (C.1.mono F.1.size));refine AW.ca 6 (λd=>HT.2 _ (j.trans (d.mono j.size))) (λe w' h=>h.1) ?_;rintro e w8 ⟨kf,h8⟩;simp only[UN,Us,Uu,Uv];obtain⟨ge,me,ce,ee⟩:∃g m c,e=.slice (some (aZ g)) m c:=by obtain⟨g,c,h,-⟩:=h8;exact⟨g,_,c,h⟩
 subst ee;refine AW.nx 7 (.agg #[.slice (some ⟨E,M,none⟩) n J,.slice (some ⟨gn,on,none⟩) n cn,.slice (some (aZ ge)) me ce]) ?_;refine AW.fi (us:=[.slice (some ⟨E,M,none⟩) n J,.slice (some ⟨gn,on,none⟩) n cn,.slice (some (aZ ge)) me ce]) (Hid.mk' rfl) kR iGr (λd=>?_);obtain⟨w9,s⟩:=hE (w8.setCells k6 0 [.slice (some ⟨E,M,none⟩) n J,.slice (some ⟨gn,on,none⟩) n cn,.slice (some (aZ ge)) me ce]);have KE:Hid (w8.there k6 0 3/\Row w9 k6 [.slice (some ⟨E,M,none⟩) n J,.slice (some ⟨gn,on,none⟩) n cn,.slice (some (aZ ge)) me ce]/\Below w.heap.size w w9/\GRq Q w9 (.agg #[.slice (some ⟨E,M,none⟩) n J,.slice (some ⟨gn,on,none⟩) n cn,.slice (some (aZ ge)) me ce]) n G (oQ N y H) (U.map (tmT N z))):=by
  have k1:=C.1.trans (d.mono C.1.size);have r6:=F.2.2.2.2.below k1;have l6:k6<r.heap.size:=F.2.2.2.2.1;have kq:Kq (r.heap.size<=·) w8 w9:=by rw[<-s.out];exact Kq.set λg hg=>oM
  have k0:Kq Q w w9:=by
   have hr:Below w.heap.size w (w8.setCells k6 0 [.slice (some ⟨E,M,none⟩) n J,.slice (some ⟨gn,on,none⟩) n cn,.slice (some (aZ ge)) me ce]):=RG.below_setCells P _ _ _ (j.trans (d.mono j.size));rw[s.out]at hr;exact Kq.of_below hr
  rw[<-s.out];refine⟨r6.2.2,r6.put rfl,RG.below_setCells P _ _ _ (j.trans (d.mono j.size)),?_⟩;rw[s.out];have q:∀g,r.heap.size<=g->Q g:=λg hg=>HK.2.1 g (UC F.1.size hg)
  exact⟨_,_,_,rfl,HK.1.keep k0,((C.2.1.keep (Kq.of_below d)).keep kq).mono q,((h8.q.mono λg hg=>UC C.1.size hg).keep kq).mono q⟩
 rw[s.out];refine⟨KE.1,?_⟩;go_wp2_with fail
 refine UE (aG 6 133 rfl KE.2.1 rfl uGr iGr) rfl ?_;exact⟨_,rfl,KE.2.2.1,KE.2.2.2⟩
end
section
variable {N:Nat}
section
variable {P:VD}{ops:Array Vk}{Q:Yo->Act->Ur->Prop}{p r:Nat}{I:Iv}{fuel:Nat}{o:Vk}{listed:Array Bool}{a:Act}{w:Ur}{d:Option WC}
theorem AW.fc{f:Xq}{args:Array Ut}{R:Ut->Ur->Prop}(c:I.p w->UH P f args w (Ret R))(h:∀e w',I.p w->R e w'->Q .normal (a.put d e) w')(ho:ops[p]? = some o:=by(simp only[Vg,U9,Vf])<;>rfl)(hd:o.dst=d:=by rfl)(g:o.guard=none:=by rfl)(hx:(U5 a.eval o).run P w=.ok (.enter f args) w:=by kernel_rfl)(k:(U7 .any ops listed,U7 .any ops (listed.setIfInBounds p true),I.b,(listed.setIfInBounds p true).getD p false,(listed.setIfInBounds p true).getD r false)=([p],[],true,true,true):=by kernel_rfl):AW P ops Q p r I (fuel+1) listed a w:=λb=>by
 simp only[V6.injEq]at k;exact anyS.cal ho (c b) (λe w' hR=>⟨U4 k.2.2,anyS.done k.2.1 (h e w' b hR) _⟩) k.1 g hx hd
end
theorem rnF{W:Ur}{k o:Nat}{xs ys:List Ut}(h:W.rangeAt k o (xs++ys)):W.rangeAt k o xs:=λj v b=>h j v (by rw[UT (UF.1 b).1];exact b)
theorem rnB{W:Ur}{k o m:Nat}{xs ys:List Ut}(h:W.rangeAt k o (xs++ys))(b:o+xs.length=m):W.rangeAt k m ys:=λj v c=>by
 have:=h (xs.length+j) v (by rw[U1 oM,Nat.add_sub_cancel_left];exact c);rw[<-WR,b]at this;exact this
theorem rnC{W:Ur}{k o m:Nat}{xs ys:List Ut}(e:W.rangeAt k o xs)(c:W.rangeAt k m ys)(d:o+xs.length=m):W.rangeAt k o (xs++ys):=λj v b=>by
 by_cases h:j<xs.length
 ·exact e j v (by rwa[UT h]at b)
 ·rw[U1 oM]at b;have:=c (j-xs.length) v b;rwa[<-d,WR,Nat.add_sub_cancel' oM]at this
theorem Row.mid{W:Ur}{k m:Nat}{xs ys zs us l l':List Ut}(h:Row W k l)(e:l=xs++(ys++zs))(e':l'=xs++(us++zs))(d:us.length=ys.length)(g:xs.length=m):W.there k m us.length/\Row (W.setCells k m us) k l':=by
 subst e e' g;obtain⟨i,f,b⟩:=h;have c:W.there k xs.length us.length:=λj n=>by
  have:=b (xs.length+j) (by simp only[UA];omega);rwa[UD]at this
 have z:=UD xs.length;refine⟨c,by rw[setCells_size];exact i,rnC (Vh (rnF f) k _ us (UX (U4 oM))) (rnC (VO W k _ us c) (Vh (rnB (rnB f z) rfl) k _ us (UX (UX oM))) (by rw[d])) z,?_⟩;have:=VW b k xs.length us;simp only[UA,d]at this⊢;exact this
structure Rp where
 a:Bs
 s:Bs
 c:Bs
 d:Bs
 u:Nat
 m:Nat
 t:Nat
namespace Rp
def l(p:Rp):List Ut:=aA p.a++(aA p.s++(aA p.c++(aA p.d++(wn p.u++(wn p.m++wn p.t)))))
structure Ok(p:Rp):Prop where
 a:p.a.size=33
 s:p.s.size=33
 c:p.c.size=33
 d:p.d.size=33
variable {p:Rp}{W:Ur}{k:Nat}
theorem len(h:p.Ok):p.l.length=144:=by
 unfold l;simp only[UA,aB h.a,aB h.s,aB h.c,aB h.d];rfl
theorem one(p:Rp):p.l.toArray.all (·.oneCell')=true:=by
 unfold l;have h:∀b:Bs,(aA b).all (·.oneCell')=true:=λb=>by have:=bW b;rwa[Ya]at this
 have k:∀n,(wn n).all (·.oneCell')=true:=λn=>by have:=aM n;rwa[Ya]at this
 rw[Ya];simp only[List.all_append,h,k,Bool.and_true]
theorem at7(h:p.Ok)(f:W.rangeAt k 0 p.l):W.rangeAt k 0 (aA p.a)/\W.rangeAt k 33 (aA p.s)/\W.rangeAt k 66 (aA p.c)/\W.rangeAt k 99 (aA p.d)/\W.rangeAt k 132 (wn p.u)/\W.rangeAt k 136 (wn p.m)/\W.rangeAt k 140 (wn p.t):=by
 have e:=rnB (m:=33) f (by rw[aB h.a]);have d:=rnB (m:=66) e (by rw[aB h.s]);have b:=rnB (m:=99) d (by rw[aB h.c]);have c:=rnB (m:=132) b (by rw[aB h.d]);have g:=rnB (m:=136) c rfl;have i:=rnB (m:=140) g rfl;exact⟨rnF f,rnF e,rnF d,rnF b,rnF c,rnF g,i⟩
theorem Tx(h:p.Ok)(d:Row W k p.l){x:Bs}(hx:x.size=33):W.there k 0 (aA x).length/\Row (W.setCells k 0 (aA x)) k { p with a:=x }.l/\{ p with a:=x }.Ok:=by
 obtain⟨c,b⟩:=Row.mid (xs:=[]) (us:=aA x) (l':={ p with a:=x }.l) d rfl rfl (by rw[aB hx,aB h.a]) rfl;exact⟨c,b,hx,h.s,h.c,h.d⟩
theorem sets(h:p.Ok)(d:Row W k p.l){x:Bs}(hx:x.size=33):W.there k 33 (aA x).length/\Row (W.setCells k 33 (aA x)) k { p with s:=x }.l/\{ p with s:=x }.Ok:=by
 obtain⟨c,b⟩:=Row.mid (xs:=aA p.a) (us:=aA x) (l':={ p with s:=x }.l) d rfl rfl (by rw[aB hx,aB h.s]) (aB h.a);exact⟨c,b,h.a,hx,h.c,h.d⟩
theorem Tw(h:p.Ok)(e:Row W k p.l){x:Bs}(hx:x.size=33):W.there k 66 (aA x).length/\Row (W.setCells k 66 (aA x)) k { p with c:=x }.l/\{ p with c:=x }.Ok:=by
 obtain⟨d,b⟩:=Row.mid (m:=66) (xs:=aA p.a++aA p.s) (ys:=aA p.c) (zs:=aA p.d++(wn p.u++(wn p.m++wn p.t))) (us:=aA x) (l':={ p with c:=x }.l) e (by unfold l;simp only[Vx]) (by unfold l;simp only[Vx]) (by rw[aB hx,aB h.c]) (by rw[UA,aB h.a,aB h.s]);exact⟨d,b,h.a,h.s,hx,h.d⟩
theorem Tv(h:p.Ok)(e:Row W k p.l){x:Bs}(hx:x.size=33):W.there k 99 (aA x).length/\Row (W.setCells k 99 (aA x)) k { p with d:=x }.l/\{ p with d:=x }.Ok:=by
 obtain⟨c,b⟩:=Row.mid (m:=99) (xs:=aA p.a++(aA p.s++aA p.c)) (ys:=aA p.d) (zs:=wn p.u++(wn p.m++wn p.t)) (us:=aA x) (l':={ p with d:=x }.l) e (by unfold l;simp only[Vx]) (by unfold l;simp only[Vx]) (by rw[aB hx,aB h.d]) (by simp only[UA,aB h.a,aB h.s,aB h.c]);exact⟨c,b,h.a,h.s,h.c,hx⟩
theorem Ts(h:p.Ok)(d:Row W k p.l)(x:Nat):W.there k 132 (wn x).length/\Row (W.setCells k 132 (wn x)) k { p with u:=x }.l/\{ p with u:=x }.Ok:=by
 obtain⟨c,b⟩:=Row.mid (m:=132) (xs:=aA p.a++(aA p.s++(aA p.c++aA p.d))) (ys:=wn p.u) (zs:=wn p.m++wn p.t) (us:=wn x) (l':={ p with u:=x }.l) d (by unfold l;simp only[Vx]) (by unfold l;simp only[Vx]) rfl (by simp only[UA,aB h.a,aB h.s,aB h.c,aB h.d]);exact⟨c,b,h.a,h.s,h.c,h.d⟩
theorem Tu(h:p.Ok)(d:Row W k p.l)(x:Nat):W.there k 136 (wn x).length/\Row (W.setCells k 136 (wn x)) k { p with m:=x }.l/\{ p with m:=x }.Ok:=by
 obtain⟨c,b⟩:=Row.mid (m:=136) (xs:=aA p.a++(aA p.s++(aA p.c++(aA p.d++wn p.u)))) (ys:=wn p.m) (zs:=wn p.t) (us:=wn x) (l':={ p with m:=x }.l) d (by unfold l;simp only[Vx]) (by unfold l;simp only[Vx]) rfl (by simp only[UA,aB h.a,aB h.s,aB h.c,aB h.d];rfl);exact⟨c,b,h.a,h.s,h.c,h.d⟩
theorem Tt(h:p.Ok)(d:Row W k p.l)(x:Nat):W.there k 140 (wn x).length/\Row (W.setCells k 140 (wn x)) k { p with t:=x }.l/\{ p with t:=x }.Ok:=by
 obtain⟨c,b⟩:=Row.mid (m:=140) (xs:=aA p.a++(aA p.s++(aA p.c++(aA p.d++(wn p.u++wn p.m))))) (ys:=wn p.t) (zs:=[]) (us:=wn x) (l':={ p with t:=x }.l) d (by unfold l;simp only[Vx,Xu]) (by unfold l;simp only[Vx,Xu]) rfl (by simp only[UA,aB h.a,aB h.s,aB h.c,aB h.d];rfl);exact⟨c,b,h.a,h.s,h.c,h.d⟩
end Rp
theorem uRd:(prog.underlying 137).map (·.isRow)=some true:=kR
theorem iRd:(prog.info? 137).map (·.size)=some 144:=kR
theorem J2{p:Rp}(h:p.Ok)(w:Ur):(Ve 137 (.agg p.l.toArray)).run prog w=.ok (jZ w.heap.size) (w.alloc (.cells p.l.toArray 137)):=by
 unfold Rp.l;rw[dF h.a,dF h.s,dF h.c,dF h.d];kernel_rfl
end
end Go.Proofs.YtdoammpgchejcaaGreat
