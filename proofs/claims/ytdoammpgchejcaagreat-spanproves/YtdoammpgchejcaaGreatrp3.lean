import Derived.Deep.AppendSrc
import Derived.Lib.AppendZeros
import Derived.Test.YtdoammpgchejcaaGreatrp2
set_option linter.unusedVariables false
set_option linter.defProp false
set_option linter.constructorNameAsVariable false
set_option linter.unusedSimpArgs false
set_option maxRecDepth 1000000
set_option maxHeartbeats 4000000
namespace Go.Proofs.YtdoammpgchejcaaGreat
open _root_.Or renaming inr->YZ,inl->Y3
open _root_ renaming Array->yt,Bool->zk,ByteArray->R,Fin->B,Int->Y,List->H,Nat->I,Option->zb,UInt8->yv,rfl->Z
open Go.Proofs.YtdoammpgchejcaaGreat renaming Fld->At,Four->zh,Gives->yy,oM->S,uZ->U,yFU->zd,yFV->zi,yFW->yw
open Go.RowKit renaming Hid->E
open Go.Sort renaming Holds->yx
open _root_.Bool renaming false->D,true->J
open _root_.Option renaming none->G,some->F
open EC RG
open _root_.Array renaming getElem?_append_left->yCu,getElem?_eq_getElem->Y0,getElem?_toList->Zz,length_toList->YM,mk->uo,replicate->YD,size_append->Zi,size_extract->tj,size_setIfInBounds->Zg,toArray_toList->yCf,toList->yFg
open _root_.BitVec renaming ofInt->tn,ofNat->yg,toNat_ofNat->yEa
open _root_.Bool renaming and_eq_true->YJ,noConfusion->ww
open _root_.Classical renaming byContradiction->Z1
open _root_.Fin renaming ofNat->aj
open _root_.Go renaming Calls->Zl,TypeId->YW,Value->Yq,World->Yp,bits_or_u64_nat->wy,bodyPost_ret->YB,rounds_succ->Y4,run_make_row'->uq,undef->ae,wp_block->ZR,wp_cond_false->YY,wp_cond_true->Y5,wp_exit->fT,wp_loop_ghost->yh,wp_loop_rounds->rp,wp_ret->Zr,wp_seq->Yt,wp_skip->ZK
open _root_.Go.Act renaming put->Zo
open _root_.Go.Addr renaming add_mid->yFl
open _root_.Go.Builtin renaming append_->Zn
open _root_.Go.Calls renaming quiet_of_same->ZF
open _root_.Go.Exit renaming inBlock->ri
open _root_.Go.Instr renaming makeSlice->pq
open _root_.Go.IntKind renaming i64->YQ,u64->Zk,u8->xb,wrap_u64->rj
open _root_.Go.IntWalk renaming i64_in->ZG
open _root_.Go.Lib renaming wpList_append_run->Z9
open _root_.Go.Op renaming eqItems->yEN
open _root_.Go.Result renaming andThen_ok->Zp
open _root_.Go.RowKit.Below renaming refl->YH
open _root_.Go.Value renaming agg->Y8,int->ZO
open _root_.Go.World renaming alloc->Z4,cell?_alloc_new->Zj,cell?_setCell_other->Z8,frozen?_alloc_new->qj,setCell->xc,size_alloc->YE
open _root_.Int renaming natCast_ediv->yCQ,natCast_mul->py,natCast_pow->sy,natCast_zero->Zt,neg_neg->yFD,ofNat_inj->yi,tdiv_eq_ediv_of_nonneg->sI,tmod_eq_emod_of_nonneg->yBI,toNat_natCast->yCJ
open _root_.List renaming getElem?_cons_zero->YS,getElem?_cons_succ->YP,append_nil->po,foldl_nil->yE4,foldl_cons->yDE,map_nil->xo,map_cons->pg,nil_append->ZQ,cons_append->ZI,cons->qn,forall_mem_cons->yD8,getD_cons_succ->yBH,getD_cons_zero->yBG,getElem?_eq_some_iff->YF,getElem?_map->ZE,getElem?_toArray->YV,length_map->YO,mem_cons->Zb,mem_cons_of_mem->Zd,mem_cons_self->Zm,mem_range->Z6,not_mem_nil->YI,range->ZD,setIfInBounds_toArray->Yw,set_cons_succ->Yy,set_cons_zero->Yz,size_toArray->Zq
open _root_.Nat renaming add_mod->rh,add_mul->ph,add_sub_cancel->xq,add_zero->ao,div_one->wD,eq_zero_or_pos->yEp,le_add_right->xt,le_of_lt->ax,le_refl->Ys,le_succ->ue,le_trans->YA,left_le_or->yDH,lt_of_le_of_lt->yDm,lt_of_lt_of_le->Yr,lt_succ_self->um,mod_eq_of_lt->YL,mod_lt->ZL,mod_one->yEB,mul_add->pi,mul_assoc->kI,mul_comm->Ze,mul_le_mul->lp,mul_one->ay,mul_zero->qo,ne_of_gt->cW,ne_of_lt->oA,or_lt_two_pow->yEA,pos_of_neZero->xe,pow_add->ox,pow_pos->oE,pow_succ->Z5,pow_zero->gF,right_le_or->yDy,sub_self->oF,zero_add->Yv
open _root_.Option renaming isSome_iff_exists->ZT,map_eq_some_iff->Yu,map_some->ur,some->YR
open _root_.Prod renaming mk->ZV
open _root_.UInt8 renaming ofNat->YK
open Go.Proofs.Tryz
open Go.RowKit Go.Sort Go.Deep
variable {P:Nat}[NeZero P]{N:Nat}
variable {C0:List Yq}{L':List Nat}{W w:Yp}{a b c c1 c2 cap d e f g j k l m n o off p p0 p1 p2 q r t:Nat}{ns:Nat->Nat}{s:ByteArray}{v x y:Yq}
def Uz(F:At P)(hn:n<top)(x y:B P)(C0:H Yq)(u off:I)(e:off+353<=C0.length)(w:Yp)(hk:u<w.heap.size)(ht:w.there u 0 C0.length)(hr:w.rangeAt u 0 C0):
 Zl prog 107 #[oZ u off,nv n,pv x y] w (Ret λr w'=>(∃C,Fi x y (fH n) C0 off 8 C/\PutTo u C0.length C w w')/\r=.tuple #[]):=by
 obtain⟨D,j⟩:=vH (fH n);have hD:yy 177 #[nv n] (dv D):=j ▸ NP hn;obtain⟨s0,d⟩:=vH (raJ x y);have h0:yy 178 #[pv x y] (tv s0):=d ▸ VH F (x:=x) (y:=y);obtain⟨s2,b⟩:=vH (twJ s0);have h4:yy 108 #[tv s0] (tv s2):=b ▸ Q9 F s0;obtain⟨f,p⟩:=vH (rep C0 (off+96) (dg D));have N:off+96+(dg D).length<=C0.length:=by rw[bO];omega
 have T:=p ▸ RG.rep_at N;have Q:f.length=C0.length:=p ▸ fE N;have F1:Fi x y D C0 off 0 f:=p ▸ Fi.first e;obtain⟨g,k⟩:=vH (rep f (off+0+12*0) (tw s0));have l:off+0+12*0+(tw s0).length<=f.length:=by rw[cM];omega
 have z:=k ▸ RG.rep_at l;have v:g.length=f.length:=k ▸ fE l;have F2:Fi x y D C0 off 1 g:=by
  have:=F1.next e dC;rw[<-k,<-d];exact this
 have o:(g.drop (off+0+12*0)).take (tw s0).length=tw s0:=by
  have:=F2.sub e (q:=0) dC dC;rw[<-d];exact this
 obtain⟨i,hb⟩:∃i:I,i=0:=⟨_,Z⟩
 obtain⟨s3,-⟩:∃s:T3 P,s=s0:=⟨_,Z⟩
 obtain⟨sp,-⟩:∃s:T3 P,s=s0:=⟨_,Z⟩
 go_enter func107,ntmps107;refine Xh (v0:=oZ u off) (v1:=nv n) (v2:=pv x y) (n:=43) kR kR kR kR kR ?_;intro a0 h7 f0 f1 f2;have h2:=RG.St.lent hk hr ht;have L:RG.M w w.heap.size [u] 43 [C0] [u] [(0,.p 0 off),(1,.v (nv n)),(2,.v (pv x y))] a0 _:=⟨h2,h7,⟨f0,f1,f2,yw⟩⟩
 refine Yt <| L.T [.m 1,.m 2] [(0,wn n),(1,ws x++(ws y))] [] [0,4,5] ⟨mk 1 47,mk 2 93,yw⟩ λj1 i1 a1 w1 t=>?_
 replace t:=t.cv (os':=[(0,.p 0 off),(4,.p 1 0),(5,.p 2 0)]) Z;refine Yt <| t.tx [.s 8 [] (.p 0 off),.x 9 [] (nv n),.c 10 [(9,1)] (dv D),.s 11 [(8,0)] (.p 0 off),.s 12 [(11,3)] (.p 0 (off+96)),.u [(12,4),(10,2)] 0] [] [(0,5,f)] [f,wn n,ws x++(ws y)] [(0,.p 0 off),(5,.p 2 0)] kR (congrArg (λn=>[n]) Q) ⟨st,ld u85 i85,cl hD,st,st,mU (b:=0) (off:=(off+96)) Z _ Z (T:=188) (x:=(.tmp 12)) (y:=(.tmp 10)) (vs:=(dg D)) Z Z sx sx (by show off+96+(dg D).length<=C0.length;rw[bO];omega) T (by show _=some (dg _).length;rw[bO];exact i138) NQ,yw⟩ λa2 w2 W=>?_
 refine Yt <| W.dr kR [.s 13 [] (.p 0 off),.x 14 [] (pv x y),.c 15 [(14,1)] (tv s0),.s 16 [(13,0)] (.p 0 off),.s 17 [(16,3)] (.p 0 (off+0)),.s 18 [(17,4)] (.p 0 ((off+0)+12*0)),.u [(18,5),(15,2)] 0] [] [(0,6,g)] [g,wn n,ws x++(ws y)] [(0,.p 0 off)] kR (congrArg (λn=>[n]) v) ⟨st,ld jM i109,cl h0,st,st,dH Z 186 (t:=17) (iZ 0) Z (.p 0 (off+0)) sx (λμ w=>Jn (i:=0) dC (w:=w)),mU (b:=0) (off:=((off+0)+12*0)) Z _ Z (T:=185) (x:=(.tmp 18)) (y:=(.tmp 15)) (vs:=(tw s0)) Z Z sx sx (by show off+0+12*0+(tw s0).length<=f.length;rw[cM];omega) z i117 (Fw _),yw⟩ λa3 w3 M3=>?_
 refine Yt <| M3.T [.s (.p 0 off),.s (.p 0 off),.s (.p 0 (off+0)),.s (.p 0 ((off+0)+12*0)),.x (tv s0),.c (tv s2),.m 3,.u 3] [(6,RG.z 12)] [(3,7,tw s2)] [0,6] ⟨st,st,st,dH Z 186 (t:=21) (iZ 0) Z (.p 0 (off+0)) sx (λμ w=>Jn (i:=0) dC (w:=w)),qL Z (b:=0) (off:=((off+0)+12*0)) _ Z Z kR (T:=185) (t:=22) Z (cs:=(tw s0)) Z sx o jL i117,cl h4,mk 3 185,RG.pt i117,yw⟩ λj4 a4 w4 M4=>?_
 refine Yt <| M4.U [.x (iZ 1)] [0,6,7] ⟨st,yw⟩ λa5 w5 M5=>?_
 subst j;subst d;subst b;clear T z o Q v N l;repeat refine Yt ?_
 refine ZR<|yh (λm a wr=>∃(i:I) (C:H Yq),1<=i/\i<=8/\i+m=8/\Fi x y (fH n) C0 off i C/\RG.M w w.heap.size [u] 43 [C,wn n,ws x++ws y,tw (twJ (raJ x y))] [u,j1,i1,j4] [(0,.p 0 off),(6,.p 3 0),(7,.v (iZ i))] a wr) 7 ⟨1,g,S,S,S,F2,M5.cv⟩ ?_
 intro m a wr;rintro⟨i,f,ha,h9,hm,O,L⟩;generalize j1=k1 at L;generalize i1=k2 at L;generalize j4=k3 at L;obtain⟨D,j⟩:=vH (fH n);rw[j]at O;obtain⟨s0,d⟩:=vH (raJ x y);obtain⟨s2,b⟩:=vH (twJ (raJ x y));rw[b]at L;obtain⟨sp,K⟩:=vH (od x y (i-1));obtain⟨s3,A⟩:=vH (plJ sp s2);have h5:yy 109 #[tv sp,tv s2] (tv s3):=A ▸ Ru F sp s2;have h8:=O.len;by_cases X:i<8
 .have V:od x y i=s3:=by
   obtain⟨q,rfl⟩:∃q,i=q+1:=⟨i-1,S⟩
   rw[<-A,<-K,<-b];rfl
  have M:(f.drop (off+0+12*(i-1))).take (tw sp).length=tw sp:=by
   have:=O.sub e (q:=i-1) S S;rw[K]at this;exact this
  obtain⟨g,k⟩:=vH (rep f (off+0+12*i) (tw s3));have l:off+0+12*i+(tw s3).length<=f.length:=by rw[cM];omega
  have z:=k ▸ RG.rep_at l;have v:g.length=f.length:=k ▸ fE l;have h6:Fi x y D C0 off (i+1) g:=by
   have:=O.next e X;rw[V]at this;rw[<-k];exact this
  have h3:∀w,(binOp .sub 3 (iZ i) (iZ 1)).run prog w=.ok (iZ ((i-1:I):Y)) w:=λw=>by
   rw[FM S S,show(i:Y)-1=((i-1:I):Y) by omega]
  clear d k;refine Yt <| Yt <| L.U [.x (iZ i),.x (.bool J)] [0,6,7,26] ⟨st,aH Z .lss (T:=3) 3 (t1:=25) (v1:=(iZ i)) (v2:=(iZ 8)) (v:=(.bool J)) Z Z sx (λw=>kR) (oG (n:=8) X),yw⟩ λa1 w1 t=>?_
  refine Y5 t.ev<|ZK<|Yt<|ZR<|t.dr kR [.s 29 [] (.p 0 off),.x 30 [] (iZ i),.s 31 [] (.p 0 off),.x 32 [] (iZ i),.x 33 [(32,3)] (iZ ((i-1:I):Y)),.s 34 [(31,2)] (.p 0 off),.s 35 [(34,5)] (.p 0 (off+0)),.s 36 [(35,6),(33,4)] (.p 0 ((off+0)+12*(i-1))),.x 37 [(36,7)] (tv sp),.x 38 [] (tv s2),.c 39 [(37,8),(38,9)] (tv s3),.s 40 [(29,0)] (.p 0 off),.s 41 [(40,11)] (.p 0 (off+0)),.s 42 [(41,12),(30,1)] (.p 0 ((off+0)+12*i)),.u [(42,13),(39,10)] 0] [] [(0,14,g)] [g,wn n,ws x++(ws y),tw s2] [(0,.p 0 off),(6,.p 3 0),(7,.v (iZ i))] kR (congrArg (λn=>[n]) v) ⟨st,st,st,st,aH Z .sub (T:=3) 3 (t1:=32) (v1:=(iZ i)) (v2:=(iZ 1)) (v:=(iZ ((i-1:I):Y))) Z Z sx (λw=>kR) h3,st,st,cH Z 186 (t:=35) (u:=33) Z (.p 0 (off+0)) (iv:=(iZ ((i-1:I):Y))) sx sx (λμ w=>Jn (i:=(i-1)) S (w:=w)),qL Z (b:=0) (off:=((off+0)+12*(i-1))) _ Z Z kR (T:=185) (t:=36) Z (cs:=(tw sp)) Z sx M jL i117,ld jL i117,cl h5,st,st,cH Z 186 (t:=41) (u:=30) Z (.p 0 (off+0)) (iv:=(iZ i)) sx sx (λμ w=>Jn (i:=i) S (w:=w)),mU (b:=0) (off:=((off+0)+12*i)) Z _ Z (T:=185) (x:=(.tmp 42)) (y:=(.tmp 39)) (vs:=(tw s3)) Z Z sx sx (by show off+0+12*i+(tw s3).length<=f.length;rw[cM];omega) z i117 (Fw _),yw⟩ λa2 w2 W=>?_
  refine W.U [.x (iZ i),.x (iZ ((i+1:I):Y)),.x (iZ ((i+1:I):Y))] [0,6,7] ⟨st,aH Z .add (T:=3) 3 (t1:=27) (v1:=(iZ i)) (v2:=(iZ 1)) (v:=(iZ ((i+1:I):Y))) Z Z sx (λw=>kR) (AY (a:=i) (b:=1) S S),st,yw⟩ λa3 w3 M3=>?_
  show ∃n',_;exact⟨m-1,S,i+1,g,S,S,S,j.symm ▸ h6,by rw[b];exact M3.cv⟩
 have M:i=8:=S;obtain⟨g,-⟩:∃c:H Yq,c=f:=⟨_,Z⟩
 refine Yt <| Yt <| L.U [.x (iZ i),.x (.bool false)] [0,6,7,26] ⟨st,aH Z .lss (T:=3) 3 (t1:=25) (v1:=(iZ i)) (v2:=(iZ 8)) (v:=(.bool false)) Z Z sx (λw=>kR) (vF (n:=8) X),yw⟩ λa1 w1 t=>?_
 refine YY t.ev<|fT ?_
 dsimp only[Exit.then,ri];rw[zd Z];exact⟨t.sl.defers,.tuple #[],RG.results_none Z,_,Z,⟨f,j.symm ▸ M ▸ O,t.st.putTo O.len⟩,Z⟩
def O3(F:At P)(b o k:I)(j:k<8)(s:T3 P)(w:Yp)(m:b<w.heap.size)(n:w.rangeAt b (o+0+12*k) (tw s)):eZ 110 #[(oZ b o),(.int .i8 (-(2*(k:Y)+1)))] w (tv (opJ s)):=by
 let⟨s2,c⟩:∃s2,opJ s=s2:=⟨_,Z⟩
 have d:∀w,(binOp .lss 187 (.int .i8 (-(2*(k:Y)+1))) (.int .i8 0)).run prog w=.ok tZ w:=λw=>by
  go_simp;try omega
 have f:∀w,(Op.unary .neg (.int .i8 (-(2*(k:Y)+1)))).run prog w=.ok (.int .i8 (2*(k:Y)+1)) w:=λw=>by
  rw[RR S,yFD]
 go_enter func110,ntmps110;refine RG.M.enter [(0,.v (oZ b o)),(1,.v (.int .i8 (-(2*(k:Y)+1))))] 23 kR λa0 l=>?_
 refine Yt <| l.T [.m 0] [(0,RG.z 12)] [] [0,1,4] ⟨mk 0 185,yw⟩ λx r u p=>?_
 refine Yt <| Yt <| p.U [.x (.int .i8 (-(2*(k:Y)+1))),.x tZ] [0,1,4,6] ⟨st,aH Z .lss 187 Z Z sx (λw=>kR) d,yw⟩ λt q i=>Y5 i.ev<|Yt <| i.T [.x (oZ b o),.x (.int .i8 (-(2*(k:Y)+1))),.x (.int .i8 (2*(k:Y)+1)),.x (.int .i8 k),.x (oZ b o),.x (oZ b (o+0)),.x (oZ b ((o+0)+12*k)),.x (tv s),.c (tv s2),.u 0] [] [(0,9,tw s2)] [4] ⟨st,st,QE Z .neg 187 Z Z sx f,aH Z .quo 187 Z Z sx (λw=>kR) (RQ j),st,st,cH Z 186 Z (.v (oZ b (o+0))) sx sx (λμ w=>Oi j),eF Z m YI Z Z sx n jL i117,cl ((c ▸ VW F s)),RG.pt i117,yw⟩ λy z g=>?_
 refine Zr<|YB (v:=tv s2) (fM g.st Z Z (g.at (s:=(.p 0 0))) jL i117) g.sl.defers ?_
 exact⟨_,Z,g.st.bel.below,by rw[c]⟩
def O2(F:At P)(b o k:I)(i:k<8)(s:T3 P)(w:Yp)(l:b<w.heap.size)(m:w.rangeAt b (o+0+12*k) (tw s)):eZ 110 #[(oZ b o),(.int .i8 (2*(k:Y)+1))] w (tv s):=by
 let⟨s2,f⟩:∃s2,opJ s=s2:=⟨_,Z⟩
 have c:∀w,(binOp .lss 187 (.int .i8 (2*(k:Y)+1)) (.int .i8 0)).run prog w=.ok fZ w:=λw=>by
  go_simp;try omega
 have g:∀w,(Op.unary .neg (.int .i8 (-(2*(k:Y)+1)))).run prog w=.ok (.int .i8 (2*(k:Y)+1)) w:=λw=>by
  rw[RR S,yFD]
 go_enter func110,ntmps110;refine RG.M.enter [(0,.v (oZ b o)),(1,.v (.int .i8 (2*(k:Y)+1)))] 23 kR λa0 j=>?_
 refine Yt <| j.T [.m 0] [(0,RG.z 12)] [] [0,1,4] ⟨mk 0 185,yw⟩ λv r u n=>?_
 refine Yt <| Yt <| n.U [.x (.int .i8 (2*(k:Y)+1)),.x fZ] [0,1,4,6] ⟨st,aH Z .lss 187 Z Z sx (λw=>kR) c,yw⟩ λt q d=>YY d.ev<|ZK<|Yt <| d.T [.x (oZ b o),.x (.int .i8 (2*(k:Y)+1)),.x (.int .i8 k),.x (oZ b o),.x (oZ b (o+0)),.x (oZ b ((o+0)+12*k)),.x (tv s),.u 0] [] [(0,7,tw s)] [4] ⟨st,st,aH Z .quo 187 Z Z sx (λw=>kR) (RQ i),st,st,cH Z 186 Z (.v (oZ b (o+0))) sx sx (λμ w=>Oi i),eF Z l YI Z Z sx m jL i117,RG.pt i117,yw⟩ λx y p=>?_
 exact Zr (p.rr 0 Z jL i117)
def tmJ(x y:B P)(d:Y):T3 P:=if d<0 then opJ (od x y ((-d).toNat/2)) else od x y (d.toNat/2)
def Vk(C:At P){x y:B P}{p:EC.Pt P}(h:Pair x y p)(k:On p){d:Y}(hd:d%2=1):JacT (tmJ x y d) (dW d p):=by
 unfold tmJ;by_cases b:d<0
 .rw[zd b];have h1:=(TV C h k ((-d).toNat/2)).neg;rw[<-Ds C.cur k]at h1;rw[show -((2*((-d).toNat/2)+1:I):Y)=d by omega]at h1;exact h1
 rw[zi b];have h1:=TV C h k (d.toNat/2);rw[show((2*(d.toNat/2)+1:I):Y)=d by omega]at h1;exact h1
def inn(ns:I->I)(xs ys:I->B P)(st:T3 P)(place:I):I->T3 P
 | 0=>st
 | i+1=>if fH (ns i) place=0 then inn ns xs ys st place i else plJ (inn ns xs ys st place i) (tmJ (xs i) (ys i) (fH (ns i) place))
def jO(ns:I->I)(xs ys:I->B P)(N:I):I->T3 P
 | 0=>(0,0,0)
 | m+1=>inn ns xs ys (twJ (jO ns xs ys N m)) (256-m) N
def RO(C:At P){ns:I->I}{xs ys:I->B P}{p:I->EC.Pt P}{N:I}(k:∀i,i<N->ns i<2^256)(d:∀i,i<N->Pair (xs i) (ys i) (p i))(ho:∀i,i<N->On (p i)){st:T3 P}{g:I->Y}{place:I}
 (h:JacT st (tot p N g)):∀i,i<=N->JacT (inn ns xs ys st place i) (tot p N (λj=>if j<i then g j+fH (ns j) place else g j))
 | 0,_=>by
  have:tot p N (λj=>if j<0 then g j+fH (ns j) place else g j)=tot p N g:=eJ N λj _=>zi S
  rw[this];exact h
 | i+1,hi=>by
  have f:=RO C k d ho (place:=place) h i S;have e:tot p N (λj=>if j<i+1 then g j+fH (ns j) place else g j)=EC.add (tot p N (λj=>if j<i then g j+fH (ns j) place else g j)) (dW (fH (ns i) place) (p i)):=by
   rw[<-O0 C.cur (fH (ns i) place) S ho];refine eJ N λj _=>?_
   by_cases h1:j=i
   .subst h1;rw[zd S,zd Z,zi S]
   rw[zi h1];by_cases b:j<i
   .rw[zd S,zd b]
   rw[zi S,zi b]
  rw[e];unfold inn;by_cases b:fH (ns i) place=0
  .rw[zd b,b,JA,bF];exact f
  rw[zi b];obtain⟨q,c,-,l⟩:=CZ (k i S);rcases l.ho place with h1|h1
  .exact absurd h1 b
  exact f.plus C (Vk C (d i S) (ho i S) h1.1)
def LL(C:At P){ns:I->I}{xs ys:I->B P}{p:I->EC.Pt P}{N:I}(k:∀i,i<N->ns i<2^256)(c:∀i,i<N->Pair (xs i) (ys i) (p i))(ho:∀i,i<N->On (p i)):
 ∀m,m<=257->JacT (jO ns xs ys N m) (tot p N (λj=>DG.hor (fH (ns j)) m))
 | 0,_=>by
  rw[show tot p N (λj=>DG.hor (fH (ns j)) 0)=.none from yC p N (λ_ _=>rfl)];exact JacT.none
 | m+1,hm=>by
  have b:=(LL C k c ho m S).twice C;rw[<-JG C.cur ho]at b;have e:tot p N (λj=>DG.hor (fH (ns j)) (m+1))=tot p N (λj=>if j<N then 2*DG.hor (fH (ns j)) m+fH (ns j) (256-m) else 2*DG.hor (fH (ns j)) m):=
   eJ N λj d=>by rw[zd d];rfl
  rw[e];exact RO C k c ho (place:=256-m) b N (Ys _)
def Dy(C:At P){xs ys:I->B P}{p:I->EC.Pt P}(k:∀i,i<N->ns i<2^256)(b:∀i,i<N->Pair (xs i) (ys i) (p i))(ho:∀i,i<N->On (p i)):
 JacT (jO ns xs ys N 257) (tot p N (λj=>(ns j:Y))):=by
 have e:tot p N (λj=>(ns j:Y))=tot p N (λj=>DG.hor (fH (ns j)) 257):=eJ N λj f=>by
  let⟨q,c,g,d⟩:=CZ (k j f)
  exact(DG.Ql d g).symm
 rw[e];exact LL C k b ho 257 (Ys _)
def cc(ns:I->I)(xs ys:I->B P)(C0:H Yq):I->H Yq
 | 0=>C0
 | i+1=>fc (xs i) (ys i) (fH (ns i)) (cc ns xs ys C0 i) (353*i) 8
def Sc{ns:I->I}{xs ys:I->B P}{C0:H Yq}{N:I}(hl:C0.length=353*N):∀i,i<=N->(cc ns xs ys C0 i).length=353*N /\
 ∀j,j<i->(∀q,q<257->(cc ns xs ys C0 i)[353*j+96+q]? = F (.int .i8 (fH (ns j) q)))/\∀q r,q<8->r<12->(cc ns xs ys C0 i)[353*j+12*q+r]? = (tw (od (xs j) (ys j) q))[r]?
 | 0,_=>⟨hl,λj e=>S⟩
 | i+1,hi=>by
  obtain⟨h1,g⟩:=Sc hl i S;have k:=I4 (x:=xs i) (y:=ys i) (D:=fH (ns i)) (C0:=cc ns xs ys C0 i) (off:=353*i) (by rw[h1];omega) 8 (Ys _);refine⟨by rw[<-h1];exact k.len,λj e=>?_⟩;by_cases d:j=i
  .subst d;exact⟨k.dig,λq r b c=>k.odd q r b c⟩
  obtain⟨l,f⟩:=g j S;exact⟨λq b=>(k.out _ S).trans (l q b),λq r b c=>(k.out _ S).trans (f q r b c)⟩
def V7(e:N<=512):∃C0:H Yq,C0.length=353*N/\∀w:Yp,(pq 182 (iZ N) (iZ N)).run prog w=.ok (sZ w.heap.size N N) (w.alloc (.cells C0.toArray 190)):=by
 have j:(prog.info? 190).map (λi=>(i.size,decide (i.bytes<=4000),i.zero.isSome))=F (353,J,J):=kR;let⟨i,b,k⟩:=Yu.1 j
 simp only[ZV.injEq,decide_eq_true_eq]at k;let⟨h1,g,c⟩:=k
 let⟨z,f⟩:=ZT.1 c
 refine⟨(madeCells z.cells (N*353)).toList,by rw[YM,size_madeCells,Ze],λw=>?_⟩;have l:(i.bytes:Y)*(N:Y)<=281474976710656:=by
  have:i.bytes*N<=4000*512:=lp g e;have d:((i.bytes*N:I):Y)<=281474976710656:=S;rwa[py]at d
 have:=run_make (P:=prog) w 182 190 i z kR b f .i64 .i64 (N:Y) (N:Y) S S l S;rw[yCJ,h1]at this;rw[yCf];exact this
def NG{x y:B P}(F:At P)(c:n<top)(k:off+353<=C0.length)(d:w.there b 0 C0.length)(g:w.rangeAt b 0 C0):
 cZ 107 #[oZ b off,nv n,pv x y] w (Ret λr w'=>PutTo b C0.length (fc x y (fH n) C0 off 8) w w'/\r=.tuple #[]):=by
 have f:b<w.heap.size:=by
  have h1:=(d 0 S).1;exact Z1 λc=>by
   have i:w.heap[b]? = G:=yt.getElem?_eq_none S;simp[World.cell?,i]at h1
 apply(Uz F c x y C0 b off k w f d g).mono;rintro e w' ⟨v,rfl,⟨C,j,i⟩,rfl⟩;refine⟨_,Z,?_,Z⟩;rw[(I4 k 8 (Ys _)).uniq j];exact i
def O4{x y:B P}(F:At P){d:Y}(hd:d%2=1)(g:-15<=d/\d<=15)(b:k<w.heap.size)(c:∀q,q<8->w.rangeAt k (o+0+12*q) (tw (od x y q))):
 eZ 110 #[oZ k o,.int .i8 d] w (tv (tmJ x y d)):=by
 unfold tmJ;by_cases f:d<0
 .rw[zd f];have h1:=O3 F k o ((-d).toNat/2) S (od x y ((-d).toNat/2)) w b (c _ S);rw[show -(2*(((-d).toNat/2:I):Y)+1)=d by omega]at h1;exact h1
 rw[zi f];have h1:=O2 F k o (d.toNat/2) S (od x y (d.toNat/2)) w b (c _ S);rw[show 2*((d.toNat/2:I):Y)+1=d by omega]at h1;exact h1
def WZ[NeZero P](w:Yp):(Instr.alloc 185 J (.tuple #[])).run prog w=.ok (jZ w.heap.size) (w.alloc (.cells (tw ((0,0,0):T3 P)).toArray 185)):=by
 show _=Result.ok _ (w.alloc (.cells (ws (0:B P)++(ws (0:B P)++ws (0:B P))).toArray 185));rw[<-xB];kernel_rfl
def V4(w:Yp):(binOp .neq 187 (.int .i8 0) (.int .i8 0)).run prog w=.ok fZ w:=kR
def V3{d:Y}(h:¬d=0)(w:Yp):(binOp .neq 187 (.int .i8 d) (.int .i8 0)).run prog w=.ok tZ w:=by
 go_simp
def sub1'(k:q<1000)(w:Yp):(binOp .sub 3 (iZ q) (iZ 1)).run prog w=.ok (iZ ((q:Y)-1)) w:=FM S S w
def geq0'{i:I}(w:Yp):(binOp .geq 3 (iZ i) (iZ 0)).run prog w=.ok tZ w:=by
 go_simp
def LK(F:At P)(N:I)(hN:N<=512)(ns:I->I)(xs ys:I->B P)(h6:∀i,i<N->ns i<top)(p u:I)(w:Yp)(hc:p<w.heap.size)(k0:u<w.heap.size)
 (hn:∀i,i<N->w.rangeAt p (4*i) (wn (ns i))) (ha:∀i,i<N->w.rangeAt u (8*i) (ws (xs i)++ws (ys i))) :
 dZ 48 #[sZ p N N,sZ u N N] w λe w'=>∃s,s=jO ns xs ys N 257/\e=pv (s.1*(inv s.2.2*inv s.2.2)) (s.2.1*(inv s.2.2*inv s.2.2)*inv s.2.2):=by
 obtain⟨C,k9,he⟩:=V7 (N:=N) hN;have M:∀(i:I) (c2:H Yq),fc (xs i) (ys i) (fH (ns i)) (cc ns xs ys C i) (353*i) 8=c2->cc ns xs ys C (i+1)=c2:=λi c2 h=>h
 obtain⟨i,-⟩:∃i:I,i=0:=⟨_,Z⟩
 obtain⟨q,-⟩:∃i:I,i=0:=⟨_,Z⟩
 obtain⟨d,-⟩:∃i:Y,i=0:=⟨_,Z⟩
 obtain⟨C2,-⟩:∃c:H Yq,c=C:=⟨_,Z⟩
 obtain⟨s,-⟩:∃s:T3 P,s=(0,0,0):=⟨_,Z⟩
 obtain⟨s2,-⟩:∃s:T3 P,s=(0,0,0):=⟨_,Z⟩
 obtain⟨s3,-⟩:∃s:T3 P,s=(0,0,0):=⟨_,Z⟩
 obtain⟨s4,-⟩:∃s:T3 P,s=(0,0,0):=⟨_,Z⟩
 go_enter func48,ntmps48;refine RG.M.enter [(0,.v (sZ p N N)),(1,.v (sZ u N N))] 62 kR λa0 M0=>?_
 refine Yt <| M0.T [.m 0] [(0,RG.z 8)] [] [0,1,4] ⟨mk 0 93,yw⟩ λj1 a1 w1 M1=>?_
 refine Yt <| M1.t [.x 11 [] (sZ p N N),.x 12 [(11,0)] (iZ N),⟨some 13,[(12,1)],.s 1 N N,.make 1⟩,.s 5 [(13,2)] (.s 1 N N)] [(2,C)] [] [RG.z 8,C] [(0,.v (sZ p N N)),(1,.v (sZ u N N)),(4,.p 0 0),(5,.s 1 N N)] ⟨st,oU Z (t:=11) (.v (sZ p N N)) (iZ N) Z sx (λa w=>kR) (λμ w=>kR),Hd 1 Z Z (T:=182) (E:=190) (t1:=12) (t2:=12) (n:=N) Z Z sx sx he,st,yw⟩ λj2 a2 w2 M2=>?_
 refine Yt <| Yt <| M2.U [.s (.s 1 N N),.x (iZ N),.x (iZ 0)] [0,1,4,5,15,16] ⟨st,oU Z (t:=14) (.s 1 N N) (iZ N) Z sx (λa w=>kR) (λμ w=>kR),st,yw⟩ λa3 w3 M3=>?_
 repeat apply Yt
 refine ZR<|yh (λm a wr=>∃i,i+m=N/\RG.M w w.heap.size [] 62 [RG.z 8,cc ns xs ys C i] [j1,j2] [(0,.v (sZ p N N)),(1,.v (sZ u N N)),(4,.p 0 0),(5,.s 1 N N),(15,.v (iZ N)),(16,.v (iZ i))] a wr) N ⟨0,S,M3.cv⟩ ?_
 intro m a wr;rintro⟨i,ki,M1⟩;generalize j1=kr at M1;generalize j2=kt at M1;obtain⟨C,h8⟩:=vH (cc ns xs ys C i);have O:=Sc (ns:=ns) (xs:=xs) (ys:=ys) k9 i S;rw[h8]at M1 O;by_cases l:i<N
 .obtain⟨C2,f⟩:=vH (fc (xs i) (ys i) (fH (ns i)) C (353*i) 8);have g:353*i+353<=C.length:=by rw[O.1];omega
  have A:C2.length=C.length:=f ▸ (I4 g 8 (Ys _)).len;have o:∀(k:I) (w:Yp),w.there k 0 C.length->w.rangeAt k 0 C->cZ 107 #[oZ k (353*i),nv (ns i),pv (xs i) (ys i)] w (Ret λr w'=>PutTo k C.length C2 w w'/\r=.tuple #[]):=λk w K hr=>f ▸ NG F (h6 i l) (x:=(xs i)) (y:=(ys i)) (C0:=C) (b:=k) (off:=(353*i)) g (w:=w) K hr
  have L:w.rangeAt p (0+4*i) (wn (ns i)):=by rw[Yv];exact hn i l
  have T:w.rangeAt u (0+8*i) (ws (xs i)++ws (ys i)):=by rw[Yv];exact ha i l
  refine Yt <| M1.U [.x tZ] [0,1,4,5,15,16,17] ⟨aQ Z .lss (T:=3) 3 (t1:=16) (t2:=15) (v1:=(iZ i)) (v2:=(iZ N)) (v:=tZ) Z Z sx sx (λw=>kR) (oG l),yw⟩ λb8 ky x=>?_
  refine Yt <| Y5 x.ev ?_
  refine ZK<|Yt<|ZR<|Yt <| x.U [.x (iZ i),.x (iZ i)] [0,1,4,5,6,15,16] ⟨st,st,yw⟩ λV kv z=>?_
  refine z.dr kR [.s 19 [] (.s 1 N N),.x 20 [] (iZ i),.s 21 [(19,0),(20,1)] (.p 1 (353*i)),.x 22 [] (sZ p N N),.x 23 [] (iZ i),.x 24 [(22,3),(23,4)] (oZ p (0+4*i)),.x 25 [(24,5)] (nv (ns i)),.x 26 [] (sZ u N N),.x 27 [] (iZ i),.x 28 [(26,7),(27,8)] (oZ u (0+8*i)),.x 29 [(28,9)] (pv (xs i) (ys i)),⟨some 30,[(21,2),(25,6),(29,10)],.v (.tuple #[]),.put 1⟩] [] [(1,11,C2)] [RG.z 8,C2] [(0,.v (sZ p N N)),(1,.v (sZ u N N)),(4,.p 0 0),(5,.s 1 N N),(15,.v (iZ N)),(16,.v (iZ i))] kR (congrArg (λn=>[n]) A) ⟨st,st,cH Z 182 (t:=19) (u:=20) Z (.s 1 N N) (iv:=(iZ i)) sx sx (λμ w=>Jo (i:=i) l (w:=w)),st,st,cH Z 89 (t:=22) (u:=23) Z (.v (sZ p N N)) (iv:=(iZ i)) sx sx (λμ w=>Yf (i:=i) l (w:=w)),eF Z (k:=p) (off:=(0+4*i)) hc YI (T:=47) (t:=24) Z (cs:=(wn (ns i))) Z sx L u85 i85,st,st,cH Z 100 (t:=26) (u:=27) Z (.v (sZ u N N)) (iv:=(iZ i)) sx sx (λμ w=>WW (i:=i) l (w:=w)),eF Z (k:=u) (off:=(0+8*i)) k0 YI (T:=93) (t:=28) Z (cs:=(ws (xs i)++ws (ys i))) Z sx T jM i109,Bh 1 Z Z 107 (t1:=21) (t2:=25) (j:=29) (.p 1 (353*i)) (v2:=(nv (ns i))) (g:=(pv (xs i) (ys i))) (.tuple #[]) Z (λa w=>kR) sx sx sx (λμ w K hr=>o (μ 1) w K hr),yw⟩ λb3 W y=>?_
  refine y.U [.x (iZ ((i+1:I):Y)),.x (iZ ((i+1:I):Y))] [0,1,4,5,15,16] ⟨aH Z .add (T:=3) 3 (t1:=16) (v1:=(iZ i)) (v2:=(iZ 1)) (v:=(iZ ((i+1:I):Y))) Z Z sx (λw=>kR) (AY (a:=i) (b:=1) S S),st,yw⟩ λX b5 Q=>?_
  show ∃n',_;refine⟨m-1,S,i+1,S,?_⟩;rw[M i C2 (by rw[h8];exact f)];exact Q.cv
 have kh:i=N:=S;rw[kh]at O;have hu:=O.2;refine Yt <| M1.U [.x fZ] [4,5,17] ⟨aQ Z .lss (T:=3) 3 (t1:=16) (t2:=15) (v1:=(iZ i)) (v2:=(iZ N)) (v:=fZ) Z Z sx sx (λw=>kR) (vF l),yw⟩ λb9 kj h9=>?_
 refine Yt <| YY h9.ev ?_
 apply fT;dsimp only[Exit.then,ri];rw[zd Z];refine Yt <| h9.T [.m 2] [(0,tw ((0,0,0):T3 P))] [] [4,5,7] ⟨rS 2 Z Z Z (T:=185) Z WZ,yw⟩ λh5 kx b7 kg=>?_
 refine Yt <| Yt <| kg.U [.x (iZ 256)] [4,5,7,8] ⟨st,yw⟩ λb6 km k1=>?_
 repeat apply Yt
 apply ZR;refine yh (λm a wr=>m<=257/\RG.M w w.heap.size [] 62 [RG.z 8,C,tw (jO ns xs ys N (257-m))] [kr,kt,h5] [(4,.p 0 0),(5,.s 1 N N),(7,.p 2 0),(8,.v (iZ ((m:Y)-1)))] a wr) 257 ⟨Ys _,?_⟩ ?_
 .rw[oF,jO];exact k1.cv
 intro m b wr;rintro⟨hm,M4⟩;generalize h5=kl at M4;by_cases hz:m=0
 .subst hz;rw[show 257-0=257 from Z]at M4;obtain⟨s,A⟩:=vH (jO ns xs ys N 257);rw[A]at M4;refine Yt <| Yt <| M4.U [.x (iZ (-1)),.x fZ] [4,7,33] ⟨st,st,yw⟩ λo z g=>?_
  refine YY g.ev<|fT ?_
  dsimp only[Exit.then,ri];rw[zd Z];refine Yt <| g.T [.x (tv s),.c (pv (s.1*(inv s.2.2*inv s.2.2)) (s.2.1*(inv s.2.2*inv s.2.2)*inv s.2.2)),.u 0] [] [(0,2,ws (s.1*(inv s.2.2*inv s.2.2))++(ws (s.2.1*(inv s.2.2*inv s.2.2)*inv s.2.2)))] [4] ⟨ld jL i117,cl (VN F s),RG.pt i109,yw⟩ λx y f=>?_
  refine Zr<|YB (v:=pv (s.1*(inv s.2.2*inv s.2.2)) (s.2.1*(inv s.2.2*inv s.2.2)*inv s.2.2)) (fM f.st (t:=4) (T:=93) Z (b:=0) Z (f.at (s:=(.p 0 0))) jM i109) f.sl.defers ?_
  exact⟨_,Z,f.st.bel.below,s,A.symm,Z⟩
 obtain⟨q,rfl⟩:∃q,m=q+1:=⟨m-1,S⟩
 have hq:q<257:=S;rw[show((q+1:I):Y)-1=q by omega]at M4;obtain⟨s,A⟩:=vH (jO ns xs ys N (257-(q+1)));rw[A]at M4;obtain⟨s2,Q⟩:=vH (twJ s);have kc:=Q ▸ Q9 F s;have y:jO ns xs ys N (257-q)=inn ns xs ys s2 q N:=by
  rw[show 257-q=257-(q+1)+1 by omega];show inn ns xs ys (twJ (jO ns xs ys N (257-(q+1)))) (256-(257-(q+1))) N=_;rw[A,Q,show 256-(257-(q+1))=q by omega]
 refine Yt <| Yt <| M4.U [.x (iZ q),.x tZ] [4,5,7,8,33] ⟨st,aH Z .geq (T:=3) 3 (t1:=32) (v1:=(iZ q)) (v2:=(iZ 0)) (v:=tZ) Z Z sx (λw=>kR) (geq0' (i:=q)),yw⟩ λb4 kp h7=>?_
 refine Y5 h7.ev<|ZK<|Yt<|ZR<|Yt <| h7.T [.x (tv s),.c (tv s2),.u 2] [] [(2,2,tw s2)] [4,5,7,8] ⟨ld jL i117,cl kc,RG.pt i117,yw⟩ λku kk hg=>?_
 refine Yt <| hg.U [.s (.s 1 N N),.x (iZ N),.x (iZ 0)] [4,5,7,8,39,40] ⟨st,oU Z (t:=38) (.s 1 N N) (iZ N) Z sx (λa w=>kR) (λμ w=>kR),st,yw⟩ λkz kw kf=>?_
 repeat apply Yt
 refine ZR<|yh (λm a wr=>∃i,i+m=N/\RG.M w w.heap.size [] 62 [RG.z 8,C,tw (inn ns xs ys s2 q i)] [kr,kt,kl] [(4,.p 0 0),(5,.s 1 N N),(7,.p 2 0),(8,.v (iZ q)),(39,.v (iZ N)),(40,.v (iZ i))] a wr) N ⟨0,S,kf.cv⟩ ?_
 intro m' c wr;rintro⟨i,ki,M5⟩;obtain⟨s,o⟩:=vH (inn ns xs ys s2 q i);rw[o]at M5;by_cases l:i<N
 .obtain⟨h1,h2⟩:=hu i l;obtain⟨d,L⟩:=vH (fH (ns i) q);have g:=L ▸ h1 q hq;have hb:C≠[]:=by intro h;rw[h]at g;simp at g
  have f:inn ns xs ys s2 q (i+1)=if d=0 then s else plJ s (tmJ (xs i) (ys i) d):=by rw[<-o,<-L];rfl
  by_cases z:d=0
  .rw[zd z]at f;rw[z]at g;refine Yt <| M5.U [.x tZ] [4,5,7,8,39,40,41] ⟨aQ Z .lss (T:=3) 3 (t1:=40) (t2:=39) (v1:=(iZ i)) (v2:=(iZ N)) (v:=tZ) Z Z sx sx (λw=>kR) (oG l),yw⟩ λk6 k2 x=>?_
   refine Yt <| Y5 x.ev ?_
   refine ZK<|Yt<|ZR<|Yt <| x.U [.x (iZ i),.x (iZ i)] [4,5,7,8,9,39,40] ⟨st,st,yw⟩ λhk ke X=>?_
   refine Yt <| X.U [.s (.s 1 N N),.x (iZ i),.x (iZ q),.s (.p 1 (353*i)),.s (.p 1 ((353*i)+96)),.s (.p 1 (((353*i)+96)+q)),.x (.int .i8 0),.x (.int .i8 0)] [4,5,7,8,10,39,40] ⟨st,st,st,cH Z 182 (t:=43) (u:=44) Z (.s 1 N N) (iv:=(iZ i)) sx sx (λμ w=>Jo (i:=i) l (w:=w)),st,cH Z 188 (t:=47) (u:=45) Z (.p 1 ((353*i)+96)) (iv:=(iZ q)) sx sx (λμ w=>Oh _ _ (i:=q) hq w),mV Z (b:=1) (off:=(((353*i)+96)+q)) Z Z kR (T:=187) (t:=48) Z (v:=(.int .i8 0)) Z sx g Vj,st,yw⟩ λk7 hp h0=>?_
   refine Yt <| h0.U [.x (.int .i8 0),.x fZ] [4,5,7,8,39,40,51] ⟨st,aH Z .neq (T:=187) 187 (t1:=50) (v1:=(.int .i8 0)) (v2:=(.int .i8 0)) (v:=fZ) Z Z sx (λw=>kR) V4,yw⟩ λkd hw K=>?_
   refine YY K.ev<|ZK<|K.U [.x (iZ ((i+1:I):Y)),.x (iZ ((i+1:I):Y))] [4,5,7,8,39,40] ⟨aH Z .add (T:=3) 3 (t1:=40) (v1:=(iZ i)) (v2:=(iZ 1)) (v:=(iZ ((i+1:I):Y))) Z Z sx (λw=>kR) (AY (a:=i) (b:=1) S S),st,yw⟩ λhy k8 h3=>?_
   show ∃n',_;exact⟨m'-1,S,i+1,S,by rw[f];exact h3.cv⟩
  rw[zi z]at f;have T:d%2=1/\-15<=d/\d<=15:=by
   obtain⟨_,_,-,V⟩:=CZ (show ns i<2^256 from h6 i l);rcases V.ho q with h|h
   .exact absurd (L ▸ h) z
   exact L ▸ h
  obtain⟨s3,W⟩:=vH (tmJ (xs i) (ys i) d);obtain⟨s4,V⟩:=vH (plJ s s3);have k4:=V ▸ Ru F s s3;have kb:∀(k:I) (w:Yp),k<w.heap.size->w.rangeAt k 0 C->eZ 110 #[oZ k (353*i),.int .i8 d] w (tv s3):=λk w h4 hr =>
   W ▸ O4 F (k:=k) (o:=(353*i)) (x:=(xs i)) (y:=(ys i)) T.1 T.2 (w:=w) h4 (λqq k5=>JQ hr (λj hj=>by rw[ao];exact h2 qq j k5 (by rw[cM]at hj;exact hj)))
  rw[W,V]at f;refine Yt <| M5.U [.x tZ] [4,5,7,8,39,40,41] ⟨aQ Z .lss (T:=3) 3 (t1:=40) (t2:=39) (v1:=(iZ i)) (v2:=(iZ N)) (v:=tZ) Z Z sx sx (λw=>kR) (oG l),yw⟩ λk6 k2 x=>?_
  refine Yt <| Y5 x.ev ?_
  refine ZK<|Yt<|ZR<|Yt <| x.U [.x (iZ i),.x (iZ i)] [4,5,7,8,9,39,40] ⟨st,st,yw⟩ λhk ke X=>?_
  refine Yt <| X.U [.s (.s 1 N N),.x (iZ i),.x (iZ q),.s (.p 1 (353*i)),.s (.p 1 ((353*i)+96)),.s (.p 1 (((353*i)+96)+q)),.x (.int .i8 d),.x (.int .i8 d)] [4,5,7,8,9,10,39,40] ⟨st,st,st,cH Z 182 (t:=43) (u:=44) Z (.s 1 N N) (iv:=(iZ i)) sx sx (λμ w=>Jo (i:=i) l (w:=w)),st,cH Z 188 (t:=47) (u:=45) Z (.p 1 ((353*i)+96)) (iv:=(iZ q)) sx sx (λμ w=>Oh _ _ (i:=q) hq w),mV Z (b:=1) (off:=(((353*i)+96)+q)) Z Z kR (T:=187) (t:=48) Z (v:=(.int .i8 d)) Z sx g Vj,st,yw⟩ λk7 hp h0=>?_
  refine Yt <| h0.U [.x (.int .i8 d),.x tZ] [4,5,7,8,9,10,39,40,51] ⟨st,aH Z .neq (T:=187) 187 (t1:=50) (v1:=(.int .i8 d)) (v2:=(.int .i8 0)) (v:=tZ) Z Z sx (λw=>kR) (V3 z),yw⟩ λkd hw K=>?_
  refine Y5 K.ev<|K.D [.x (tv s),.s (.s 1 N N),.x (iZ i),.s (.p 1 (353*i)),.x (.int .i8 d),.c (tv s3),.c (tv s4),.u 2] [] [(2,7,tw s4)] [4,5,7,8,39,40] ⟨ld jL i117,st,st,cH Z 182 (t:=53) (u:=54) Z (.s 1 N N) (iv:=(iZ i)) sx sx (λμ w=>Jo (i:=i) l (w:=w)),st,ET Z 1 Z Z kR hb 110 (t1:=55) (t2:=56) (.p 1 (353*i)) (v2:=(.int .i8 d)) (tv s3) Z (λa w=>kR) sx sx (λμ w h4 hr=>kb (μ 1) w h4 hr),cl k4,RG.pt i117,yw⟩ λhy k8 h3=>?_
  refine h3.U [.x (iZ ((i+1:I):Y)),.x (iZ ((i+1:I):Y))] [4,5,7,8,39,40] ⟨aH Z .add (T:=3) 3 (t1:=40) (v1:=(iZ i)) (v2:=(iZ 1)) (v:=(iZ ((i+1:I):Y))) Z Z sx (λw=>kR) (AY (a:=i) (b:=1) S S),st,yw⟩ λko b2 k3=>?_
  show ∃n',_;exact⟨m'-1,S,i+1,S,by rw[f];exact k3.cv⟩
 have f:i=N:=S;rw[f]at o;rw[o]at y;refine Yt <| M5.U [.x fZ] [4,5,7,8,41] ⟨aQ Z .lss (T:=3) 3 (t1:=40) (t2:=39) (v1:=(iZ i)) (v2:=(iZ N)) (v:=fZ) Z Z sx sx (λw=>kR) (vF l),yw⟩ λK L g=>?_
 refine Yt <| YY g.ev ?_
 apply fT;dsimp only[Exit.then,ri];rw[zd Z];refine g.U [.x (iZ q),.x (iZ ((q:Y)-1)),.x (iZ ((q:Y)-1))] [4,5,7,8] ⟨st,aH Z .sub (T:=3) 3 (t1:=34) (v1:=(iZ q)) (v2:=(iZ 1)) (v:=(iZ ((q:Y)-1))) Z Z sx (λw=>kR) (sub1' (q:=q) S),st,yw⟩ λz T x=>?_
 show ∃n',_;exact⟨q,um q,S,by rw[y];exact x.cv⟩
def SB(h:At P):([U 1,U 0,U 0,U 0]:H Yq)=ws (1:B P):=by
 have h:=CE h;unfold nv at h;injection h with h
 exact congrArg yFg h
def rt(m:B P):zb (B P):=if m.val^(P/4+1)%P*(m.val^(P/4+1)%P)%P=m.val then F (aj P (even P (m.val^(P/4+1)%P))) else G
omit [NeZero P] in
theorem I5(k:0<P)(h:r<P):even P r<P:=by unfold even;split<;>omega
def Pm{m y:B P}(h:rt m=F y)(k:zh v (even P (m.val^(P/4+1)%P))):v=fv y:=by
 unfold rt at h;split at h
 .obtain rfl:=YR.inj h;have:(aj P (even P (m.val^(P/4+1)%P))).val=even P (m.val^(P/4+1)%P):=YL (I5 (xe P) (ZL _ (xe P)));show v=nv _;rw[this];exact k.nv
 cases h
def Me{m y:B P}(h:rt m=F y):m.val^(P/4+1)%P*(m.val^(P/4+1)%P)%P=m.val:=by
 unfold rt at h;split at h
 .assumption
 cases h
def Vv{m:B P}(h:rt m=G):¬m.val^(P/4+1)%P*(m.val^(P/4+1)%P)%P=m.val:=by
 unfold rt at h;split at h
 .cases h
 assumption
def RootR.val{m:Fin P}{e:Yq}(h:RootR P m.val (m.val^(P/4+1)%P) e):(∀y,rt m=F y->e=.tuple #[fv y,tZ])/\(rt m=G->e=.tuple #[fv (0:Fin P),fZ]):=by
 obtain⟨j,g,i,f,ok,rfl,h1,d,b⟩:=h;refine⟨λy k=>?_,λc=>?_⟩
 .cases ok with
  | true=>rw[Pm k (h1 Z).2]
  | false=>exact absurd (Me k) (d Z)
 cases ok with
 | true=>exact absurd (h1 Z).1 (Vv c)
 | false =>
  obtain⟨rfl,rfl,rfl,rfl⟩:=b Z;rw[<-lW];rfl
def U3(h:At P){m y:B P}(e:rt m=F y):yy 191 #[gv0,fv m] (.tuple #[fv y,tZ]):=λw =>
 (E9 4294968273 0 0 P _ m.val h.gap h.p4 (h.four m) w).mono (by rintro e' w' ⟨v,rfl,b,k⟩;exact⟨_,Z,b,k.val.1 y e⟩)
def U4(h:At P){m:B P}(e:rt m=G):yy 191 #[gv0,fv m] (.tuple #[fv (0:B P),fZ]):=λw =>
 (E9 4294968273 0 0 P _ m.val h.gap h.p4 (h.four m) w).mono (by rintro e' w' ⟨v,rfl,b,k⟩;exact⟨_,Z,b,k.val.2 e⟩)
def gl0:H Yq:=[U 4294968273,U 0,U 0,U 0]
def Cc(C:At P)(x y:B P)(j:rt (x*x*x+7)=F y):yy 115 #[(fv x)] (.tuple #[pv x y,tZ]):=by
 intro w;let⟨c1,e⟩:∃c,c=x*x:=⟨_,Z⟩
 let⟨c2,b⟩:∃c,c=c1*x:=⟨_,Z⟩
 let⟨k,d⟩:∃c,c=c2+(7:B P):=⟨_,Z⟩
 go_enter func115,ntmps115;refine RG.M.enter [(0,.v (fv x))] 31 kR λa0 i=>?_
 refine Yt <| i.T [.m 0,.m 1,.x fZ] [(0,ws x),(1,RG.z 8)] [] [1,2,3] ⟨mk 0 47,mk 1 93,st,yw⟩ λT Q s M m=>?_
 refine Yt <| m.T [.c gv0,.m 2,.u 2] [(1,RG.z 4)] [(2,2,gl0)] [1,2,3,4] ⟨cl bN,mk 2 120,RG.pt i79,yw⟩ λO u r l=>?_
 refine Yt <| l.D [.x gv0,.x gv0,.x gv0,.x (fv x),.x (fv x),.c (fv c1),.x (fv x),.c (fv c2),.x (fv (7:B P)),.c (fv k),.m 3,.u 3] [(10,RG.z 4)] [(3,11,ws k)] [1,2,3,4,5] ⟨ld u79 i79,ld u79 i79,ld u79 i79,ld u85 i85,ld u85 i85,cl ((uE C).e e),ld u85 i85,cl ((uE C).e b),se (yL C),cl ((Jt C).e d),mk 3 47,RG.pt i85,yw⟩ λa V W o=>?_
 refine Yt <| o.T [.x gv0,.x (fv k),.c (.tuple #[fv y,tZ]),.x (.tuple #[fv y,tZ]),.x (fv y),.x tZ,.m 4,.u 4,.x tZ] [(6,RG.z 4)] [(4,7,ws y)] [1,2,3,6,7] ⟨ld u79 i79,ld u85 i85,cl (f:=191) (args:=#[gv0,fv k]) (v:=(.tuple #[fv y,tZ])) (U3 C (by subst_vars;exact j)),st,st,st,mk 4 47,RG.pt i85,st,yw⟩ λz K q p=>?_
 refine Yt <| Yt <| p.U [.x tZ,.x fZ] [1,2,3,6,26] ⟨st,st,yw⟩ λN t g=>YY g.ev<|ZK<|Yt <| g.T [.x (fv x),.x (fv y),.x (pv x y),.u 1,.x tZ] [] [(1,3,ws x++(ws y))] [2,3] ⟨ld u85 i85,ld u85 i85,st,RG.pt i109,st,yw⟩ λA L n=>?_
 exact Zr (n.r2 1 Z jM i109)
def Cd(C:At P)(x:B P)(j:rt (x*x*x+7)=G):yy 115 #[(fv x)] (.tuple #[pv (0:B P) 0,fZ]):=by
 intro w;let⟨c1,e⟩:∃c,c=x*x:=⟨_,Z⟩
 let⟨c2,b⟩:∃c,c=c1*x:=⟨_,Z⟩
 let⟨k,d⟩:∃c,c=c2+(7:B P):=⟨_,Z⟩
 go_enter func115,ntmps115;refine RG.M.enter [(0,.v (fv x))] 31 kR λa0 i=>?_
 refine Yt <| i.T [.m 0,.m 1,.x fZ] [(0,ws x),(1,RG.z 8)] [] [1,2,3] ⟨mk 0 47,mk 1 93,st,yw⟩ λQ O s L m=>?_
 refine Yt <| m.T [.c gv0,.m 2,.u 2] [(1,RG.z 4)] [(2,2,gl0)] [1,2,3,4] ⟨cl bN,mk 2 120,RG.pt i79,yw⟩ λN u r l=>?_
 refine Yt <| l.D [.x gv0,.x gv0,.x gv0,.x (fv x),.x (fv x),.c (fv c1),.x (fv x),.c (fv c2),.x (fv (7:B P)),.c (fv k),.m 3,.u 3] [(10,RG.z 4)] [(3,11,ws k)] [2,3,4,5] ⟨ld u79 i79,ld u79 i79,ld u79 i79,ld u85 i85,ld u85 i85,cl ((uE C).e e),ld u85 i85,cl ((uE C).e b),se (yL C),cl ((Jt C).e d),mk 3 47,RG.pt i85,yw⟩ λz T V o=>?_
 refine Yt <| o.T [.x gv0,.x (fv k),.c (.tuple #[fv (0:B P),fZ]),.x (.tuple #[fv (0:B P),fZ]),.x (fv (0:B P)),.x fZ,.m 4,.u 4,.x fZ] [(6,RG.z 4)] [(4,7,ws (0:B P))] [2,3,7] ⟨ld u79 i79,ld u85 i85,cl (f:=191) (args:=#[gv0,fv k]) (v:=(.tuple #[fv (0:B P),fZ])) (U4 C (by subst_vars;exact j)),st,st,st,mk 4 47,RG.pt i85,st,yw⟩ λy A q p=>?_
 refine Yt <| Yt <| p.U [.x fZ,.x tZ] [2,3,26] ⟨st,st,yw⟩ λM t g=>Y5 g.ev<|Yt <| g.T [.x (pv (0:B P) (0:B P)),.u 1,.x fZ] [] [(1,1,ws (0:B P)++(ws (0:B P)))] [2,3] ⟨se (iU (P:=P)),RG.pt i109,st,yw⟩ λa K n=>?_
 exact Zr (n.r2 1 Z jM i109)
def TI(C:At P)(x y:B P):yy 227 #[(pv x y)] (pv x (0-y)):=by
 intro w;let⟨c1,k⟩:∃c,c=(0:B P)-y:=⟨_,Z⟩
 go_enter func227,ntmps227;refine RG.M.enter [(0,.v (pv x y))] 11 kR λa0 b=>?_
 refine Yt <| b.T [.m 0,.m 1] [(0,ws x++(ws y)),(1,RG.z 8)] [] [1,2] ⟨mk 0 93,mk 1 93,yw⟩ λi f m l e=>?_
 refine Yt <| e.D [.s (.p 0 0),.x (fv x),.c gv0,.x (fv (0:B P)),.s (.p 0 4),.x (fv y),.c (fv c1),.x (pv x c1),.u 1] [] [(1,8,ws x++(ws c1))] [2] ⟨st,ld u85 i85,cl bN,se (lW (P:=P)),st,ld u85 i85,cl ((OE C).e k),st,RG.pt i109,yw⟩ λg j d=>?_
 exact Zr (d.rr 1 Z jM i109)
def jF{i:I}(h:Kept w k [⟨e,0,a,b,c,d⟩,⟨k,0,g,i,f,0⟩,⟨j,0,0,0,0,0⟩] W):W.cell? ⟨e,0,G⟩=F (U a)/\W.cell? ⟨e,1,G⟩=F (U b)/\W.cell? ⟨e,2,G⟩=F (U c)/\W.cell? ⟨e,3,G⟩=F (U d)/\W.cell? ⟨k,0,G⟩=F (U g)/\W.cell? ⟨k,1,G⟩=F (U i)/\W.cell? ⟨k,2,G⟩=F (U f)/\W.cell? ⟨k,3,G⟩=F (U 0)/\Kept w k [⟨e,0,a,b,c,d⟩,⟨k,0,g,i,f,0⟩,⟨j,0,0,0,0,0⟩] W:=⟨h.head.c0,h.head.c1,h.head.c2,h.head.c3,h.tail.head.c0,h.tail.head.c1,h.tail.head.c2,h.tail.head.c3,h⟩
def pQ{i:I}(h:W.cell? ⟨e,0,G⟩=F (U a)/\W.cell? ⟨e,1,G⟩=F (U b)/\W.cell? ⟨e,2,G⟩=F (U c)/\W.cell? ⟨e,3,G⟩=F (U d)/\W.cell? ⟨k,0,G⟩=F (U g)/\W.cell? ⟨k,1,G⟩=F (U i)/\W.cell? ⟨k,2,G⟩=F (U f)/\W.cell? ⟨k,3,G⟩=F (U 0)/\Kept w k [⟨e,0,a,b,c,d⟩,⟨k,0,g,i,f,0⟩,⟨j,0,0,0,0,0⟩] W):Kept w k [⟨e,0,a,b,c,d⟩,⟨k,0,g,i,f,0⟩,⟨j,0,0,0,0,0⟩] W:=h.2.2.2.2.2.2.2.2
def D4{i:I}{o:Obj}(h:W.cell? ⟨e,0,G⟩=F (U a)/\W.cell? ⟨e,1,G⟩=F (U b)/\W.cell? ⟨e,2,G⟩=F (U c)/\W.cell? ⟨e,3,G⟩=F (U d)/\W.cell? ⟨k,0,G⟩=F (U g)/\W.cell? ⟨k,1,G⟩=F (U i)/\W.cell? ⟨k,2,G⟩=F (U f)/\W.cell? ⟨k,3,G⟩=F (U 0)/\Kept w k [⟨e,0,a,b,c,d⟩,⟨k,0,g,i,f,0⟩,⟨j,0,0,0,0,0⟩] W):(W.alloc o).cell? ⟨e,0,G⟩=F (U a)/\(W.alloc o).cell? ⟨e,1,G⟩=F (U b)/\(W.alloc o).cell? ⟨e,2,G⟩=F (U c)/\(W.alloc o).cell? ⟨e,3,G⟩=F (U d)/\(W.alloc o).cell? ⟨k,0,G⟩=F (U g)/\(W.alloc o).cell? ⟨k,1,G⟩=F (U i)/\(W.alloc o).cell? ⟨k,2,G⟩=F (U f)/\(W.alloc o).cell? ⟨k,3,G⟩=F (U 0)/\Kept w k [⟨e,0,a,b,c,d⟩,⟨k,0,g,i,f,0⟩,⟨j,0,0,0,0,0⟩] (W.alloc o):=jF ((pQ h).alloc o)
def Cu{i:I}{o:Obj}(h:W.drew.cell? ⟨e,0,G⟩=F (U a)/\W.drew.cell? ⟨e,1,G⟩=F (U b)/\W.drew.cell? ⟨e,2,G⟩=F (U c)/\W.drew.cell? ⟨e,3,G⟩=F (U d)/\W.drew.cell? ⟨k,0,G⟩=F (U g)/\W.drew.cell? ⟨k,1,G⟩=F (U i)/\W.drew.cell? ⟨k,2,G⟩=F (U f)/\W.drew.cell? ⟨k,3,G⟩=F (U 0)/\Kept w k [⟨e,0,a,b,c,d⟩,⟨k,0,g,i,f,0⟩,⟨j,0,0,0,0,0⟩] W.drew):(W.alloc o).drew.cell? ⟨e,0,G⟩=F (U a)/\(W.alloc o).drew.cell? ⟨e,1,G⟩=F (U b)/\(W.alloc o).drew.cell? ⟨e,2,G⟩=F (U c)/\(W.alloc o).drew.cell? ⟨e,3,G⟩=F (U d)/\(W.alloc o).drew.cell? ⟨k,0,G⟩=F (U g)/\(W.alloc o).drew.cell? ⟨k,1,G⟩=F (U i)/\(W.alloc o).drew.cell? ⟨k,2,G⟩=F (U f)/\(W.alloc o).drew.cell? ⟨k,3,G⟩=F (U 0)/\Kept w k [⟨e,0,a,b,c,d⟩,⟨k,0,g,i,f,0⟩,⟨j,0,0,0,0,0⟩] (W.alloc o).drew:=jF (((pQ h).undrew).alloc o).drew
def OD(pv:Yq)(p:zb Addr)(n cap:I)(w:Yp)(c d k:I)(b:pv=.agg #[U c,U d,U k,U 0])(f:n≠32):
 eZ 59 #[pv,.slice p n cap] w (.tuple #[.agg #[U 0,U 0,U 0,U 0],fZ]):=by
 subst b;go_enter func59,ntmps59;go_wp2;refine YB (by simp[results,Tryz.results59,go_sem];rfl) Z ?_;exact⟨_,Z,below2 _ _ _,Z⟩
def A9(j m l P g o cap:I)(bs:Bs)(hG:Gap j m l P)(w:Yp)(hs:bs.size=32)(hc:32<=cap)(hg:g<w.heap.size)(hB:yx encB w g o bs):
 Zl prog 59 #[.agg #[.int .u64 j,.int .u64 m,.int .u64 l,.int .u64 0],.slice (F ⟨g,o,G⟩) 32 cap] w
  (Ret λe w'=>Below w.heap.size w w'/\((beV bs.toList<P/\∃v,e=.tuple #[v,.bool J]/\zh v (beV bs.toList))\/(P<=beV bs.toList/\e=.tuple #[.agg #[.int .u64 0,.int .u64 0,.int .u64 0,.int .u64 0],.bool D]))):=by
 have C:E (Gap j m l P):=hG;have h3:E (yx encB w g o bs):=hB;have HS:E (bs.size=32):=hs;clear hG hB hs;go_enter func59,ntmps59;go_wp2_with fail
 have PR:=(At4.made w 120 j m l 0 Z).alloc (.cells #[.int .u64 0,.int .u64 0,.int .u64 0,.int .u64 0] 47);have RE:=At4.made (w.alloc (.cells #[.int .u64 j,.int .u64 m,.int .u64 l,.int .u64 0] 120)) 47 0 0 0 0 (YE _ _);have q:=((Kept.mk1 (below2 w (.cells #[.int .u64 j,.int .u64 m,.int .u64 l,.int .u64 0] 120) (.cells #[.int .u64 0,.int .u64 0,.int .u64 0,.int .u64 0] 47)) (below2 w (.cells #[.int .u64 j,.int .u64 m,.int .u64 l,.int .u64 0] 120) (.cells #[.int .u64 0,.int .u64 0,.int .u64 0,.int .u64 0] 47)).size).cons RE.blk).cons PR.blk;have r:=Holds.below h3 (below2 w (.cells #[.int .u64 j,.int .u64 m,.int .u64 l,.int .u64 0] 120) (.cells #[.int .u64 0,.int .u64 0,.int .u64 0,.int .u64 0] 47)) hg;clear PR RE;generalize Z4 _ _=W0 at q r⊢;apply(lI (F ⟨g,o,G⟩) g o 32 cap bs _ (Ys 32) hc HS (Or.inr ⟨Z,r⟩)).mono;rintro e w1 ⟨v,rfl,i,X⟩;obtain⟨a,b,c,d,rfl,ha,hb,Q,hd,es⟩:=id X;have O:E (zh _ _):=X;have W:=q.call i;clear es X i q r;go_wp2_with fail
 have f:=(W.alloc (.cells #[.int .u64 a,.int .u64 b,.int .u64 c,.int .u64 d] 47)).cons (At4.made w1 47 a b c d Z).blk;have M:w1.heap.size≠w.heap.size:=cW W.head.lt;clear W;generalize Z4 _ _=W1 at f⊢;generalize w1.heap.size=u at f M⊢;generalize h1:w.heap.size+1=A at f⊢;have V:E (w.heap.size<=A):=by unfold E;omega
 generalize h0:w.heap.size=p at f V hg M⊢;have H0:E (w.heap.size=p):=h0;clear h0 h1
 go_cut [8] (λs8 wx=>∃k:I,s8=.int .u64 k/\k<=1/\E (∃t,t<top/\t+top*k=beV bs.toList+val j m l 0)/\Kept w p [⟨u,0,a,b,c,d⟩,⟨p,0,j,m,l,0⟩,⟨A,0,0,0,0,0⟩] wx)
 case first =>
  go_region_held3 (λw'=>w'.cell? ⟨u,0,G⟩=F (.int .u64 a)/\w'.cell? ⟨u,1,G⟩=F (.int .u64 b)/\w'.cell? ⟨u,2,G⟩=F (.int .u64 c)/\w'.cell? ⟨u,3,G⟩=F (.int .u64 d)/\w'.cell? ⟨p,0,G⟩=F (.int .u64 j)/\w'.cell? ⟨p,1,G⟩=F (.int .u64 m)/\w'.cell? ⟨p,2,G⟩=F (.int .u64 l)/\w'.cell? ⟨p,3,G⟩=F (.int .u64 0)/\Kept w p [⟨u,0,a,b,c,d⟩,⟨p,0,j,m,l,0⟩,⟨A,0,0,0,0,0⟩] w') (first|(with_reducible exact jF f)|(with_reducible exact jF f.drew)|(with_reducible exact Cu (by assumption))|(with_reducible exact D4 (by assumption))|(with_reducible exact jF (f.alloc _))|(with_reducible exact jF (f.set4' z (λx hx=>cW (K x hx)) _ _ _ _))|(with_reducible exact jF (f.alloc _).drew)|(with_reducible exact jF (f.set4' z (λx hx=>cW (K x hx)) _ _ _ _).drew)) (first|(go_at_call 127;apply(kL O).mono;rintro e w2 ⟨v,rfl,i,rfl⟩;(try(with_reducible have L:=T.call i;clear T;have T:=L;clear L));(try(first|(with_reducible have T:=(At4.made _ 118 0 0 0 0 Z).call i)|(with_reducible have T:=(At4.made _ 118 0 0 0 0 Z).drew.call i));have K:=f.lts;have z:=f.le);have n:=Kept.call (pQ (by assumption)) i;clear f;have f:=n;clear n i)|(go_at_call 126;apply(tG _ _ _ _ O (Four.mk C.h0 C.h1 C.h2 dC Z) _).mono;rintro e w2 ⟨v,rfl,i,v2,t,k,rfl,s,y,he⟩;obtain⟨a',b',c',d',rfl,h9,hj,Q,hm,es⟩:=id s;have HT:E (t<top/\t+top*k=beV bs.toList+val j m l 0):=⟨s.lt,he⟩;clear es he s;(try(with_reducible have L:=T.call i;clear T;have T:=L;clear L));(try(first|(with_reducible have T:=(At4.made _ 118 0 0 0 0 Z).call i)|(with_reducible have T:=(At4.made _ 118 0 0 0 0 Z).drew.call i));have K:=f.lts;have z:=f.le);have n:=Kept.call (pQ (by assumption)) i;clear f;have f:=n;clear n i;(try(let⟨h5,hi,h7,h4,tf⟩:=id T;have zt:=T.lt))))
  all_goals (try go_wp2)
  all_goals (have N:E (∃t,t<top/\t+top*k=beV bs.toList+val j m l 0):=⟨t,HT⟩)
  all_goals (go_meet;first|(with_reducible exact⟨k,Z,y,N,f.alloc _⟩)|(with_reducible exact⟨k,Z,y,N,(f.alloc _).drew⟩)|(with_reducible exact⟨k,Z,y,N,f.set4' z (λx hx=>cW (K x hx)) _ _ _ _⟩)|(with_reducible exact⟨k,Z,y,N,(f.set4' z (λx hx=>cW (K x hx)) _ _ _ _).drew⟩))
 case rest =>
  clear f;obtain⟨k,rfl,y,HE,f⟩:=hcut;have z:k=0\/k=1:=S;rcases z with rfl|rfl
  .let⟨hn,h6,h8,hp,xf⟩:=f.head.at4
   let⟨K,N,s,L,rf⟩:=f.tail.tail.head.at4
   have z1:=f.tail.tail.head.lt;go_wp2;have n:=f.tail.tail.head.at4.self4 a b c d;unfold set4 at n;refine YB (by simp[results,Tryz.results59,go_sem,n.c0,n.c1,n.c2,n.c3];rfl) Z ?_;refine⟨_,Z,?_,Or.inl ⟨?_,_,Z,O⟩⟩
   .rw[H0.out];exact aE f.bl V
   let⟨t,h1,h2⟩:=HE
   have:=C.hP;omega
  let⟨K,N,s,L,rf⟩:=f.tail.tail.head.at4
  have z1:=f.tail.tail.head.lt;go_wp2;have n:At4 (set4 wc A (.int .u64 0) (.int .u64 0) (.int .u64 0) (.int .u64 0)) A 0 0 0 0:=f.tail.tail.head.at4.self4 0 0 0 0;unfold set4 at n;refine YB (by simp[results,Tryz.results59,go_sem,n.c0,n.c1,n.c2,n.c3];rfl) Z ?_;refine⟨_,Z,?_,Or.inr ⟨?_,Z⟩⟩
  .rw[H0.out];exact aE f.bl V
  let⟨t,h1,h2⟩:=HE
  have:=C.hP;omega
def Arg(w:Yp)(v:Yq)(bs:Bs):Prop:=∃(p:zb Addr) (n cap:I),v=.slice p n cap/\bs.size=n/\(n=32->∃g o,p=F ⟨g,o,G⟩/\32<=cap/\g<w.heap.size/\hZ w g o bs)
def Arg.below{b:Yp}{bs:Bs}(h:Arg w v bs)(k:kZ w b):Arg b v bs:=by
 obtain⟨p,n,cap,rfl,hs,h1⟩:=h;refine⟨p,n,cap,Z,hs,λi=>?_⟩;let⟨g,o,e,d,c,f⟩:=h1 i
 exact⟨g,o,e,d,Yr c k.size,Holds.below f k c⟩
def Sw(P:I)(bs:Bs):Prop:=bs.size=32/\beV bs.toList<P
section
def u131:yZ 102:=yQ
def i131:gZ 102 33:=gQ
def u5:wZ 5:=wQ
def SH:prog.underlying 102=F (.array 33 5):=kR
def Xl:prog.underlying 5=F (.int .u8):=kR
def cells5:prog.cellsOf 5=1:=kR
def Vs(k:33<=cap)(w:Yp):(Instr.sliceAt 23 (qZ g o 33 cap) (F (iZ 1)) G G).run prog w=.ok (qZ g (o+1) 32 (cap-1)) w:=by
 go_simp;omega
def Sg(w:Yp):(Instr.arrayAt 102 (qZ g o 33 cap)).run prog w=.ok (oZ g o) w:=kR
def Hz(k:0<n):(Instr.indexAt 23 (qZ g o n cap) (iZ 0)).run prog w=.ok (oZ g o) w:=by
 go_simp
def Rx(xs:yt Yq)(i:I)(h:xs[i]? = F v)(w:Yp):(part 5 xs i).run prog w=.ok v w:=by
 go_simp
def eqI{a b:I->Y}{D:I}(xs ys:yt Yq)(w:Yp):∀(k:H I),(∀i∈k,xs[i]? = F (.int .u8 (a i)))->(∀i∈k,ys[i]? = F (.int .u8 (b i))) ->
 (yEN (D+1) 5 1 xs ys k).run prog w=.ok (decide (∀i∈k,a i=b i)) w
 | [],_,_=>by
  rw[yEN];simp
 | i :: k,hx,hy=>by
  have d:=eqI xs ys (a:=a) (b:=b) (D:=D) w k (λj c=>hx j (Zd _ c)) (λj c=>hy j (Zd _ c));have p1:=Rx xs (i*1) (by rw[ay];exact hx i Zm) w;have p2:=Rx ys (i*1) (by rw[ay];exact hy i Zm) w;have f:=run_equalIn_int (P:=prog) w D 5 .u8 .u8 (a i) (b i) Xl;rw[yEN];simp only[Sem.run_bind,p1,p2,f,Zp];by_cases h:a i=b i
  .simp only[h,beq_self_eq_true,zk.not_true,zk.false_eq_true,if_false,d,yD8,true_and]
  have e:(a i == b i)=false:=by simpa using h
  simp only[e,zk.not_false,if_true,Sem.run_pure,yD8,h,false_and,decide_false]
def aA(bs:Bs):H Yq:=bs.toList.map encB
def z33:H Yq:=H.replicate 33 (.int .u8 0)
def uB{bs:Bs}{i:I}(h:i<bs.size):(aA bs)[i]? = F (.int .u8 (ub bs[i]!)):=by
 rw[aA,ZE,Zz,Y0 h,getElem!_pos bs i h];rfl
def eqz{bs:Bs}(h:bs.size=33)(w:Yp):(binOp .eql 102 (.agg (aA bs).toArray) (.agg z33.toArray)).run prog w=.ok (.bool (decide (∀i∈ZD 33,ub bs[i]! = 0))) w:=by
 have b:(prog.info? 5).isSome=J:=kR;let⟨c,k⟩:=ZT.1 b
 rw[run_eql_struct,run_equalIn_array w 9999 _ _ SH k,cells5,
  eqI _ _ w (ZD 33) (λi b=>by
   rw[YV];exact uB (by rw[h];exact Z6.1 b)) (λi b=>by
   rw[YV];rw[z33,H.getElem?_replicate,zd (Z6.1 b)])]
 rfl
@[reducible] def vU (bs:Bs):Prop:=∀i∈ZD 33,ub bs[i]! = 0
def Wz{bs:Bs}(h:bs.size=33)(k:vU bs)(w:Yp):(binOp .eql 102 (.agg (aA bs).toArray) (.agg z33.toArray)).run prog w=.ok tZ w:=by rw[eqz h,decide_eq_true (show ∀i∈ZD 33,ub bs[i]! = 0 from k)]
def WA{bs:Bs}(h:bs.size=33)(k:¬vU bs)(w:Yp):(binOp .eql 102 (.agg (aA bs).toArray) (.agg z33.toArray)).run prog w=.ok fZ w:=by rw[eqz h,decide_eq_false (show ¬ ∀i∈ZD 33,ub bs[i]! = 0 from k)]
def aB{bs:Bs}(h:bs.size=33):(aA bs).length=33:=by unfold aA;rw[YO,YM,h]
def Hw{bs:Bs}(b:hZ w g o bs):w.rangeAt g o (aA bs):=λj v hv=>by
 have k:j<bs.size:=by
  have:=(YF.1 hv).1;unfold aA at this;rwa[YO,YM]at this
 rw[uB k]at hv;rw[(b j k).1];exact hv
def wU(bs:Bs):Bs:=bs.extract 1 33
def pG{bs:Bs}(h:bs.size=33):(wU bs).size=32:=by unfold wU;rw[tj,h];rfl
theorem tl33_holds{bs:Bs}(h:bs.size=33)(b:hZ w g o bs):hZ w g (o+1) (wU bs):=
 Holds.part b (by rw[pG h,h];decide) (λj k=>by
  rw[pG h]at k;rw[wU,getElem!_pos _ j (by rw[tj,h];omega),getElem!_pos _ (1+j) (by rw[h];omega),yt.getElem_extract])
variable {P:Nat}[NeZero P]
def OA(C:At P){bs:Bs}(hs:bs.size=32)(f:32<=cap){x:B P}(hx:beV bs.toList=x.val)(b:g<w.heap.size)(c:hZ w g o bs):
 eZ 59 #[gv0,qZ g o 32 cap] w (.tuple #[fv x,tZ]):=
 (A9 4294968273 0 0 P g o cap bs C.gap w hs f b c).mono (by
  rintro e w' ⟨v,rfl,d,⟨hl,i,rfl,k⟩|⟨hl,rfl⟩⟩
  .refine⟨_,Z,d,?_⟩;rw[hx]at k;rw[k.nv]
  have:=x.isLt;omega)
def OC(C:At P){bs:Bs}(hs:bs.size=32)(d:32<=cap)(hx:¬beV bs.toList<P)(k:g<w.heap.size)(b:hZ w g o bs):
 eZ 59 #[gv0,qZ g o 32 cap] w (.tuple #[fv (0:B P),fZ]):=
 (A9 4294968273 0 0 P g o cap bs C.gap w hs d k b).mono (by
  rintro e w' ⟨v,rfl,c,⟨hl,f,rfl,i⟩|⟨hl,rfl⟩⟩
  .exact absurd hl hx
  refine⟨_,Z,c,?_⟩;rw[<-lW])
def rdx(P:I)[NeZero P](bs:Bs):B P:=aj P (beV (wU bs).toList)
def rd(P:I)[NeZero P](bs:Bs):zb (B P × B P):=
 if bs.size=33 then
  if vU bs then F (0,0) else
  if ub bs[0]! = 2\/ub bs[0]! = 3 then
   if beV (wU bs).toList<P then
    (rt (rdx P bs*rdx P bs*rdx P bs+7)).map (λy=>(rdx P bs,if ub bs[0]! = 3 then 0-y else y))
   else G
  else G
 else G
def rdV:zb (B P × B P)->Yq
 | none=>.tuple #[pv (0:B P) 0,fZ]
 | some p=>.tuple #[pv p.1 p.2,tZ]
end
def Ti(C:At P)(q:zb Addr)(n cap:I)(x:B P)(w:Yp)(g:¬n=33):eZ 193 #[(.slice q n cap)] w ((.tuple #[pv (0:B P) 0,fZ])):=by
 have k:∀w,(binOp .neq 3 (iZ n) (iZ 33)).run prog w=.ok tZ w:=λw=>by
  have h:¬(n:Y)=33:=S;go_simp
 go_enter func193,ntmps193;refine RG.M.enter [(0,.v (.slice q n cap))] 54 kR λa0 c=>?_
 refine Yt <| c.T [.m 0,.x fZ] [(0,RG.z 8)] [] [0,2,3] ⟨mk 0 93,st,yw⟩ λo j m d=>?_
 refine Yt <| Yt <| d.U [.x (.slice q n cap),.x (iZ n),.x tZ] [2,3,9] ⟨st,oU Z (t:=7) (.v (.slice q n cap)) (iZ n) Z sx (λa w=>kR) (λμ w=>kR),aH Z .neq (T:=3) 3 (t1:=8) (v1:=(iZ n)) (v2:=(iZ 33)) (v:=tZ) Z Z sx (λw=>kR) k,yw⟩ λl i b=>?_
 refine Y5 b.ev<|Yt <| b.T [.x (pv (0:B P) (0:B P)),.u 0,.x fZ] [] [(0,1,ws (0:B P)++(ws (0:B P)))] [2,3] ⟨se (iU (P:=P)),RG.pt i109,st,yw⟩ λp r f=>?_
 exact Zr (f.r2 0 Z jM i109)
abbrev v33(g o cap:I):Yq:=qZ g o 33 cap
def XA(C:At P)(g o cap:I)(bs:Bs)(w:Yp)(hs:bs.size=33)(hc:33<=cap)(b:g<w.heap.size)(z:hZ w g o bs):eZ 193 #[v33 g o cap] w (rdV (rd P bs)):=by
 have q:=Hw z;have k:w.cell? ⟨g,o,G⟩=F (.int .u8 (ub bs[0]!)):=by
  have:=(z 0 (by rw[hs];decide)).1;rw[ao]at this;exact this
 go_enter func193,ntmps193;refine RG.M.enter [(0,.v (v33 g o cap))] 54 kR λa0 M0=>?_
 refine Yt <| M0.T [.m 0,.x fZ] [(0,RG.z 8)] [] [0,2,3] ⟨mk 0 93,st,yw⟩ λj1 a1 w1 M1=>?_
 refine Yt <| Yt <| M1.U [.x (v33 g o cap),.x (iZ 33),.x fZ] [0,2,3,9] ⟨st,oU Z (t:=7) (.v (v33 g o cap)) (iZ 33) Z sx (λa w=>kR) (λμ w=>kR),st,yw⟩ λa2 w2 M=>?_
 refine YY M.ev<|ZK ?_
 repeat apply Yt
 rw[rd,zd hs];by_cases K:vU bs
 .rw[zd K];refine M.U [.x (v33 g o cap),.x (oZ g o),.x (.agg (aA bs).toArray),.x (.agg z33.toArray),.x tZ] [2,3,15] ⟨st,ES Z (T:=102) (t:=11) (v:=(v33 g o cap)) (b:=(oZ g o)) Z Z sx (Sg (g:=g) (o:=o) (cap:=cap)),eF Z (k:=g) (off:=o) b YI (T:=102) (t:=12) Z (cs:=(aA bs)) Z sx q u131 (by rw[aB hs];exact i131),st,aQ Z .eql (T:=102) 102 (t1:=13) (t2:=14) (v1:=(.agg (aA bs).toArray)) (v2:=(.agg z33.toArray)) (v:=tZ) Z Z sx sx (λw=>kR) (Wz hs K),yw⟩ λa3 w3 l=>?_
  refine Y5 l.ev<|Yt <| l.T [.x (pv (0:B P) (0:B P)),.u 0,.x tZ] [] [(0,1,ws (0:B P)++(ws (0:B P)))] [2,3] ⟨se (iU (P:=P)),RG.pt i109,st,yw⟩ λV O f=>?_
  exact Zr (f.r2 0 Z jM i109)
 rw[zi K];refine M.U [.x (v33 g o cap),.x (oZ g o),.x (.agg (aA bs).toArray),.x (.agg z33.toArray),.x fZ] [0,2,3,15] ⟨st,ES Z (T:=102) (t:=11) (v:=(v33 g o cap)) (b:=(oZ g o)) Z Z sx (Sg (g:=g) (o:=o) (cap:=cap)),eF Z (k:=g) (off:=o) b YI (T:=102) (t:=12) Z (cs:=(aA bs)) Z sx q u131 (by rw[aB hs];exact i131),st,aQ Z .eql (T:=102) 102 (t1:=13) (t2:=14) (v1:=(.agg (aA bs).toArray)) (v2:=(.agg z33.toArray)) (v:=fZ) Z Z sx sx (λw=>kR) (WA hs K),yw⟩ λa3 w3 l=>?_
 refine YY l.ev<|ZK ?_
 repeat apply Yt
 by_cases c:ub bs[0]! = 2\/ub bs[0]! = 3
 rotate_left
 .rw[zi c];generalize ub bs[0]! = m at k c;have h2:¬m=2:=λh=>c (.inl h)
  have A:¬m=3:=λh=>c (.inr h)
  have d:∀w,(binOp .neq 5 (.int .u8 m) (.int .u8 2)).run prog w=.ok tZ w:=λw=>by
   go_simp
  have i:∀w,(binOp .neq 5 (.int .u8 m) (.int .u8 3)).run prog w=.ok tZ w:=λw=>by
   go_simp
  refine l.U [.x (v33 g o cap),.x (oZ g o),.x (.int .u8 m),.x tZ,.x tZ,.x (v33 g o cap),.x (oZ g o),.x (.int .u8 m),.x tZ,.x tZ] [2,3,26] ⟨st,dH Z 23 (t:=17) (iZ 0) Z (.v (v33 g o cap)) sx (λμ w=>Hz (g:=g) (o:=o) (n:=33) (cap:=cap) dC (w:=w)),eG Z (k:=g) (off:=o) b YI (T:=5) (t:=18) Z (v:=(.int .u8 m)) Z sx k u5,aH Z .neq (T:=5) 5 (t1:=19) (v1:=(.int .u8 m)) (v2:=(.int .u8 2)) (v:=tZ) Z Z sx (λw=>kR) d,st,st,dH Z 23 (t:=22) (iZ 0) Z (.v (v33 g o cap)) sx (λμ w=>Hz (g:=g) (o:=o) (n:=33) (cap:=cap) dC (w:=w)),eG Z (k:=g) (off:=o) b YI (T:=5) (t:=23) Z (v:=(.int .u8 m)) Z sx k u5,aH Z .neq (T:=5) 5 (t1:=24) (v1:=(.int .u8 m)) (v2:=(.int .u8 3)) (v:=tZ) Z Z sx (λw=>kR) i,st,yw⟩ λV O f=>?_
  refine Y5 f.ev<|Yt <| f.T [.x (pv (0:B P) (0:B P)),.u 0,.x fZ] [] [(0,1,ws (0:B P)++(ws (0:B P)))] [2,3] ⟨se (iU (P:=P)),RG.pt i109,st,yw⟩ λa5 Q u=>?_
  exact Zr (u.r2 0 Z jM i109)
 rw[zd c];rcases c with c|c
 case' inl=>refine l.u [.x 17 [] (v33 g o cap),.x 18 [(17,0)] (oZ g o),.x 19 [(18,1)] (.int .u8 2),.x 20 [(19,2)] fZ,.x 21 [(20,3)] fZ,⟨F 22,[],.v ae,.pass⟩,⟨F 23,[],.v ae,.pass⟩,⟨F 24,[],.v ae,.pass⟩,⟨F 25,[],.v ae,.pass⟩,.x 26 [(21,4),(25,8)] fZ] [(0,.v (v33 g o cap)),(2,.p 0 0),(3,.v fZ),(26,.v fZ)] ⟨st,dH Z 23 (t:=17) (iZ 0) Z (.v (v33 g o cap)) sx (λμ w=>Hz (g:=g) (o:=o) (n:=33) (cap:=cap) dC (w:=w)),eG Z (k:=g) (off:=o) b YI (T:=5) (t:=18) Z (v:=(.int .u8 2)) Z sx (k.trans (by rw[c])) u5,st,st,cD Z Z,cD Z Z,cD Z Z,cD Z Z,st,yw⟩ ?_
 case' inr=>refine l.U [.x (v33 g o cap),.x (oZ g o),.x (.int .u8 3),.x tZ,.x tZ,.x (v33 g o cap),.x (oZ g o),.x (.int .u8 3),.x fZ,.x fZ] [0,2,3,26] ⟨st,dH Z 23 (t:=17) (iZ 0) Z (.v (v33 g o cap)) sx (λμ w=>Hz (g:=g) (o:=o) (n:=33) (cap:=cap) dC (w:=w)),eG Z (k:=g) (off:=o) b YI (T:=5) (t:=18) Z (v:=(.int .u8 3)) Z sx (k.trans (by rw[c])) u5,st,st,st,dH Z 23 (t:=22) (iZ 0) Z (.v (v33 g o cap)) sx (λμ w=>Hz (g:=g) (o:=o) (n:=33) (cap:=cap) dC (w:=w)),eG Z (k:=g) (off:=o) b YI (T:=5) (t:=23) Z (v:=(.int .u8 3)) Z sx (k.trans (by rw[c])) u5,st,st,yw⟩ ?_
 all_goals
  intro V O f;refine YY f.ev<|ZK ?_
  repeat apply Yt
  by_cases hx:beV (wU bs).toList<P
  rotate_left
  .rw[zi hx];have i:∀w',BelX w.heap.size [] w w'->cZ 59 #[gv0,qZ g (o+1) 32 (cap-1)] w' (Ret λe j=>kZ w' j/\e=.tuple #[fv (0:B P),fZ]):=λw' t=>OC C (pG hs) S hx (Yr b t.size) (Holds.below (tl33_holds hs z) t.below b)
   refine f.D [.c gv0,.x (v33 g o cap),.x (qZ g (o+1) 32 (cap-1)),.c (.tuple #[fv (0:B P),fZ]),.x (.tuple #[fv (0:B P),fZ]),.x (fv (0:B P)),.x fZ,.m 1,.u 1,.x fZ] [(7,RG.z 4)] [(1,8,ws (0:B P))] [2,3,5] ⟨cl bN,st,wM Z (T:=23) (t:=30) (b:=(iZ 1)) (v:=(v33 g o cap)) (c:=(qZ g (o+1) 32 (cap-1))) Z Z sx (Vs (g:=g) (o:=o) (cap:=cap) hc),wN Z (f:=59) (t1:=29) (t2:=31) (v1:=gv0) (v2:=(qZ g (o+1) 32 (cap-1))) (v:=(.tuple #[fv (0:B P),fZ])) Z (λa w=>kR) sx sx i,st,st,st,mk 1 47,RG.pt i85,st,yw⟩ λj5 a5 Q u=>?_
   refine Yt <| Yt <| u.U [.x fZ,.x tZ] [2,3,36] ⟨st,st,yw⟩ λa6 w6 n=>?_
   refine Y5 n.ev<|Yt <| n.T [.x (pv (0:B P) (0:B P)),.u 0,.x fZ] [] [(0,1,ws (0:B P)++(ws (0:B P)))] [2,3] ⟨se (iU (P:=P)),RG.pt i109,st,yw⟩ λa7 X p=>?_
   exact Zr (p.r2 0 Z jM i109)
  rw[zd hx];have s:beV (wU bs).toList=(rdx P bs).val:=(YL hx).symm;generalize rdx P bs=x at s;have i:∀w',BelX w.heap.size [] w w'->cZ 59 #[gv0,qZ g (o+1) 32 (cap-1)] w' (Ret λe j=>kZ w' j/\e=.tuple #[fv x,tZ]):=λw' t=>OA C (pG hs) S s (Yr b t.size) (Holds.below (tl33_holds hs z) t.below b)
  refine f.D [.c gv0,.x (v33 g o cap),.x (qZ g (o+1) 32 (cap-1)),.c (.tuple #[fv x,tZ]),.x (.tuple #[fv x,tZ]),.x (fv x),.x tZ,.m 1,.u 1,.x tZ] [(7,RG.z 4)] [(1,8,ws x)] [0,2,3,4,5] ⟨cl bN,st,wM Z (T:=23) (t:=30) (b:=(iZ 1)) (v:=(v33 g o cap)) (c:=(qZ g (o+1) 32 (cap-1))) Z Z sx (Vs (g:=g) (o:=o) (cap:=cap) hc),wN Z (f:=59) (t1:=29) (t2:=31) (v1:=gv0) (v2:=(qZ g (o+1) 32 (cap-1))) (v:=(.tuple #[fv x,tZ])) Z (λa w=>kR) sx sx i,st,st,st,mk 1 47,RG.pt i85,st,yw⟩ λj5 a5 Q u=>?_
  refine Yt <| Yt <| u.U [.x tZ,.x fZ] [0,2,3,4,5,36] ⟨st,st,yw⟩ λa6 w6 n=>?_
  refine YY n.ev<|ZK ?_
  repeat apply Yt
  cases T:rt (x*x*x+7) with
  | none =>
   refine n.T [.x (fv x),.c (.tuple #[pv (0:B P) (0:B P),fZ]),.x (.tuple #[pv (0:B P) (0:B P),fZ]),.x (pv (0:B P) (0:B P)),.x fZ,.m 2,.u 2,.x fZ] [(5,RG.z 8)] [(2,6,ws (0:B P)++(ws (0:B P)))] [2,3,5,6] ⟨ld u85 i85,AH Z (f:=115) (t1:=39) (v1:=(fv x)) (v:=(.tuple #[pv (0:B P) (0:B P),fZ])) Z (λa w=>kR) sx (Cd C x T),st,st,st,mk 2 93,RG.pt i109,st,yw⟩ λj7 a7 X p=>?_
   refine Yt <| Yt <| p.u [.x 43 [] fZ,.x 44 [(43,0)] fZ,⟨F 45,[],.v ae,.pass⟩,⟨F 46,[],.v ae,.pass⟩,⟨F 47,[],.v ae,.pass⟩,⟨F 48,[],.v ae,.pass⟩,.x 49 [(44,1),(48,5)] fZ] [(2,.p 0 0),(3,.v fZ),(5,.v fZ),(6,.p 2 0),(49,.v fZ)] ⟨st,st,cD Z Z,cD Z Z,cD Z Z,cD Z Z,st,yw⟩ λW w8 d=>?_
   refine YY d.ev<|ZK<|Yt <| d.T [.x (pv (0:B P) (0:B P)),.x fZ,.u 0,.x fZ] [] [(0,2,ws (0:B P)++(ws (0:B P)))] [2,3] ⟨ld jM i109,st,RG.pt i109,st,yw⟩ λa9 w9 r=>?_
   exact Zr (r.r2 0 Z jM i109)
  | some y =>
   refine n.T [.x (fv x),.c (.tuple #[pv x y,tZ]),.x (.tuple #[pv x y,tZ]),.x (pv x y),.x tZ,.m 2,.u 2,.x tZ] [(5,RG.z 8)] [(2,6,ws x++(ws y))] [0,2,3,5,6] ⟨ld u85 i85,AH Z (f:=115) (t1:=39) (v1:=(fv x)) (v:=(.tuple #[pv x y,tZ])) Z (λa w=>kR) sx (Cc C x y T),st,st,st,mk 2 93,RG.pt i109,st,yw⟩ λj7 a7 X p=>?_
   repeat apply Yt
   rw[ur];by_cases A:ub bs[0]! = 3
   .rw[zd A];generalize L:0-y=v;refine p.U [.x tZ,.x tZ,.x (v33 g o cap),.x (oZ g o),.x (.int .u8 3),.x tZ,.x tZ] [2,3,5,6,49] ⟨st,st,st,dH Z 23 (t:=45) (iZ 0) Z (.v (v33 g o cap)) sx (λμ w=>Hz (g:=g) (o:=o) (n:=33) (cap:=cap) dC (w:=w)),eG Z (k:=g) (off:=o) b YI (T:=5) (t:=46) Z (v:=(.int .u8 3)) Z sx (k.trans (by rw[A])) u5,st,st,yw⟩ λW w8 d=>?_
    refine Y5 d.ev<|d.T [.x (pv x y),.c (pv x v),.u 2] [] [(2,2,ws x++(ws v))] [2,3,5,6] ⟨ld jM i109,cl ((L ▸ TI C x y)),RG.pt i109,yw⟩ λa9 w9 r=>?_
    refine Yt <| r.T [.x (pv x v),.x tZ,.u 0,.x tZ] [] [(0,2,ws x++(ws v))] [2,3] ⟨ld jM i109,st,RG.pt i109,st,yw⟩ λh0 h4 N=>?_
    exact Zr (N.r2 0 Z jM i109)
   rw[zi A];have h2:ub bs[0]! = 2:=S;refine p.U [.x tZ,.x tZ,.x (v33 g o cap),.x (oZ g o),.x (.int .u8 2),.x fZ,.x fZ] [2,3,5,6,49] ⟨st,st,st,dH Z 23 (t:=45) (iZ 0) Z (.v (v33 g o cap)) sx (λμ w=>Hz (g:=g) (o:=o) (n:=33) (cap:=cap) dC (w:=w)),eG Z (k:=g) (off:=o) b YI (T:=5) (t:=46) Z (v:=(.int .u8 2)) Z sx (k.trans (by rw[h2])) u5,st,st,yw⟩ λW w8 d=>?_
   refine YY d.ev<|ZK<|Yt <| d.T [.x (pv x y),.x tZ,.u 0,.x tZ] [] [(0,2,ws x++(ws y))] [2,3] ⟨ld jM i109,st,RG.pt i109,st,yw⟩ λa9 w9 r=>?_
   exact Zr (r.r2 0 Z jM i109)
def Arg33(w:Yp)(v:Yq)(bs:Bs):Prop:=∃(p:zb Addr) (n cap:I),v=.slice p n cap/\bs.size=n/\(n=33->∃g o,p=F ⟨g,o,G⟩/\33<=cap/\g<w.heap.size/\hZ w g o bs)
def Arg33.below{b:Yp}{bs:Bs}(h:Arg33 w v bs)(k:kZ w b):Arg33 b v bs:=by
 obtain⟨p,n,cap,rfl,hs,h1⟩:=h;refine⟨p,n,cap,Z,hs,λi=>?_⟩;let⟨g,o,e,d,c,f⟩:=h1 i
 exact⟨g,o,e,d,Yr c k.size,Holds.below f k c⟩
def D5{bs:Bs}(C:At P)(hv:Arg33 w v bs):eZ 193 #[v] w (rdV (rd P bs)):=by
 obtain⟨p,n,cap,rfl,hs,h1⟩:=hv;by_cases k:n=33
 .subst k;obtain⟨g,o,rfl,d,b,c⟩:=h1 Z;exact XA C g o cap bs w hs d b c
 rw[rd,zi (by rw[hs];exact k)];exact Ti C p n cap 0 w k
def bx(n:I):Bs:=be32 (n%2^64) (n/2^64%2^64) (n/2^128%2^64) (n/2^192%2^64)
def bP(n:I):(bx n).size=32:=by unfold bx;exact qP
def mark(n:I):yv:=if n%2=1 then 3 else 2
def vQ(x y:B P):Bs:=if x=0/\y=0 then YD 33 0 else #[mark y.val]++bx x.val
def Jy{x:B P}(C:At P)(w:Yp):dZ 117 #[fv x] w λe w'=>∃g,e=sZ g 32 32/\w.heap.size<=g/\hZ w' g 0 (bx x.val):=
 (Cg _ _ w (C.four x)).mono (by
  rintro e w' ⟨v,rfl,i,g,a,b,c,d,rfl,j,k,l⟩;refine⟨_,Z,i,g,Z,j,?_⟩;have f:fv x=.agg #[U ((x.val%2^64:I):Y),U ((x.val/2^64%2^64:I):Y),U ((x.val/2^128%2^64:I):Y),U ((x.val/2^192%2^64:I):Y)]:=rfl;rw[f]at k;simp only[Y8.injEq,uo.injEq,qn.injEq,ZO.injEq,true_and,and_true,yi]at k;obtain⟨rfl,rfl,rfl,rfl⟩:=k;exact l)
def Sr(C:At P)(y:B P):yy 116 #[fv y] (.bool (decide (y.val%2=1))):=λw =>
 (Ju (C.four y)).mono (by rintro e w' ⟨v,rfl,k,rfl⟩;exact⟨_,Z,k,Z⟩)
def GN:(prog.info? 5).map (λi=>(i.zero,i.size,i.bytes))=F (F (.int .u8 0),1,1):=kR
def LG:prog.underlying 23=F (.slice 5):=kR
def mY(w:Yp)(T:Bs)(e:Yq)(w':Yp):Prop:=∃g cap,e=sZ g 33 cap/\33<=cap/\w.heap.size<=g/\g<w'.heap.size/\hZ w' g 0 T
def V6(w:Yp):(pq 23 (iZ 33) (iZ 33)).run prog w=.ok (sZ w.heap.size 33 33) (w.alloc (.cells (madeCells #[.int .u8 0] 33) 5)):=
 uq (P:=prog) 23 5 (.int .u8 0) 1 LG GN Z .i64 .i64 33 dC dC w
def Ud(w:Yp)(o:Obj):hZ ((w.alloc o).alloc (.cells (madeCells #[.int .u8 0] 33) 5)) (w.heap.size+1) 0 (YD 33 0):=by
 have h:=Holds.made (enc:=encB) (w.alloc o) 5 33 (0:yv);rw[YE]at h;exact h
omit [NeZero P] in
theorem lS(x y:B P):pv x y=.agg #[U ((x.val%2^64:I):Y),U ((x.val/2^64%2^64:I):Y),U ((x.val/2^128%2^64:I):Y),U ((x.val/2^192%2^64:I):Y),U ((y.val%2^64:I):Y),U ((y.val/2^64%2^64:I):Y),U ((y.val/2^128%2^64:I):Y),U ((y.val/2^192%2^64:I):Y)]:=rfl
def Hn(C:At P)(x y:B P)(i:x=0/\y=0)(w:Yp):dZ 52 #[pv x y] w λe w'=>mY w (YD 33 0) e w':=by
 have k:=NH C (x:=x) (y:=y) (z:=0) (t:=0) i;rw[<-iU,lS]at k;rw[lS];generalize ((x.val%2^64:I):Y)=a at k⊢;generalize ((x.val/2^64%2^64:I):Y)=b at k⊢;generalize ((x.val/2^128%2^64:I):Y)=c at k⊢;generalize ((x.val/2^192%2^64:I):Y)=d at k⊢;generalize ((y.val%2^64:I):Y)=p at k⊢;generalize ((y.val/2^64%2^64:I):Y)=q at k⊢;generalize ((y.val/2^128%2^64:I):Y)=r at k⊢;generalize ((y.val/2^192%2^64:I):Y)=s at k⊢;have g:=V6;generalize hT:(YD 33 0:Bs)=T;go_enter func52,ntmps52;go_wp2;go_ret;have f:=Ud w (.cells #[U a,U b,U c,U d,U p,U q,U r,U s] 93);rw[hT]at f;exact⟨_,Z,below2 _ _ _,_,33,Z,S,S,by simp,f⟩
def Nz{B:Bs}(f:B.size=32)(o:w.cell? ⟨k,0,G⟩=F (.int .u8 m))(r:yx encB w g 0 B)(l:m<256:=by decide):
 ∃(w':Yp) (cap:I),(Zn #[23,23] 23 #[sZ k 1 1,sZ g 32 32]).run prog w=.ok (sZ w.heap.size 33 cap) w'/\kZ w w'/\33<=cap/\w.heap.size<w'.heap.size/\yx encB w' w.heap.size 0 (#[YK m]++B):=by
 obtain⟨i,q,d⟩:=Yu.1 GN;simp only[ZV.injEq]at d;obtain⟨p,hs,n⟩:=d;have e:=run_append_grow (P:=prog) w 23 23 5 i (.int .u8 0) LG q p (aZ k) 1 1 [.int .u8 m] (by rw[hs];rfl) (λj v b=>by
  cases j with
  | zero =>
   obtain rfl:ZO .u8 m=v:=by simpa using b
   rw[yFl];exact o
  | succ j=>simp at b) ⟨g,0,G⟩ 32 32 (B.toList.map encB) (by rw[hs,YO,YM,f]) (λj v b=>by
  have c:j<B.size:=by
   have:=(YF.1 b).1;rwa[YO,YM]at this
  rw[yFl,(r j c).1];rw[ZE,Zz,Y0 c]at b;rw[getElem!_pos B j c];exact b) dC dC (by rw[n];decide)
 refine⟨_,_,e,?_,?_,?_,?_⟩
 .exact(YH _ w).drew.trans (aD (w:=w.drew) _)
 .exact grownCap_ge w (1+32) 1 5
 .show w.drew.heap.size<(w.drew.alloc _).heap.size;rw[YE];exact um _
 intro j b;have c:(#[YK m]++B).size=33:=by rw[Zi,f];rfl
 refine⟨?_,qj w.drew _ _ _⟩;show(w.drew.alloc _).cell? ⟨w.drew.heap.size,0+j,G⟩=_;rw[Yv,Zj,getElem!_pos _ j b,yCu (by
  rw[Zi,Zq,Zq,YO,YM];show j<1+B.size;omega)]
 cases j with
 | zero =>
  rw[yCu (by simp),yt.getElem_append_left (by simp)];show F (ZO .u8 m)=F (encB (YK m));rw[encB,sF,YL l]
 | succ i =>
  rw[yt.getElem?_append_right (by simp),yt.getElem_append_right (by simp),YV,ZE,Zz];show zb.map encB B[i]? = F (encB B[i]);rw[Y0 S];rfl
def RJ(w:Yp)(a b c d p q r s:I):Kept w w.heap.size [⟨w.heap.size,0,a,b,c,d⟩,⟨w.heap.size,4,p,q,r,s⟩] (w.alloc (.cells #[U a,U b,U c,U d,U p,U q,U r,U s] 93)):=by
 have F:=At8.made w 93 a b c d p q r s Z;refine((Kept.mk1 (aD (w:=w) _) (aD _).size).cons ?_).cons ?_
 .exact⟨F.c4,F.c5,F.c6,F.c7,F.fz⟩
 exact⟨F.c0,F.c1,F.c2,F.c3,F.fz⟩
def Lg(C:At P)(x y:Fin P)(hz:¬(x=0/\y=0))(ho:y.val%2=1)(w:Yp):dZ 52 #[pv x y] w λe w'=>mY w (#[3]++bx x.val) e w':=by
 have f:=G3 C (x:=x) (y:=y) (z:=0) (t:=0) hz;rw[<-iU,lS]at f;rw[lS];have i:∀w,eZ 116 #[.agg #[U ((y.val%2^64:I):Y),U ((y.val/2^64%2^64:I):Y),U ((y.val/2^128%2^64:I):Y),U ((y.val/2^192%2^64:I):Y)]] w tZ:=λw=>by
  have h:=Sr C y w;rw[decide_eq_true ho]at h;exact h
 have k:∀w,dZ 117 #[.agg #[U ((x.val%2^64:I):Y),U ((x.val/2^64%2^64:I):Y),U ((x.val/2^128%2^64:I):Y),U ((x.val/2^192%2^64:I):Y)]] w λe w'=>∃g,e=sZ g 32 32/\w.heap.size<=g/\hZ w' g 0 (bx x.val):=Jy C
 have n:=bP x.val;generalize bx x.val=B at k n⊢;generalize x.val%2^64=a at f i k⊢;generalize x.val/2^64%2^64=b at f i k⊢;generalize x.val/2^128%2^64=c at f i k⊢;generalize x.val/2^192%2^64=d at f i k⊢;generalize y.val%2^64=p at f i k⊢;generalize y.val/2^64%2^64=q at f i k⊢;generalize y.val/2^128%2^64=r at f i k⊢;generalize y.val/2^192%2^64=s at f i k⊢;have HQ:=mk1 (f);go_enter func52,ntmps52;go_wp2_with fail
 have j:=RJ w a b c d p q r s;generalize Q:w.heap.size=k0 at j⊢;apply(i _).mono;rintro e u ⟨v,rfl,A,rfl⟩;replace j:=j.call A;let⟨V,T,h0,X,xf⟩:=j.head
 have zx:=j.head.lt;go_wp2_with fail
 apply(k _).mono;rintro e O ⟨v,rfl,l,g,rfl,hg,hH⟩;have hc:O.cell? ⟨u.heap.size,0,G⟩=F (.int .u8 3):=by
  rw[l.cell (p:=⟨u.heap.size,0,G⟩) (by show u.heap.size<_;rw[YE];omega),Zj];rfl
 have o:=YA j.le (YA (by rw[YE];omega) l.size);let⟨W3,W,N,K,L,m,M⟩:=Nz n hc hH
 go_wp2_with (at_builtin;refine Z9 _ Z _ _ 23 23 Z _ _ Z Z _ _ N ?_)
 go_ret;refine⟨_,Z,?_,_,W,Z,L,?_,m,M⟩
 .rw[Q];exact(mk1 (((j.alloc _).call l).bl)).trans (K.mono o)
 rw[Q];exact o
def Hp(C:At P)(x y:Fin P)(hz:¬(x=0/\y=0))(ho:¬y.val%2=1)(w:Yp):dZ 52 #[pv x y] w λe w'=>mY w (#[2]++bx x.val) e w':=by
 have f:=G3 C (x:=x) (y:=y) (z:=0) (t:=0) hz;rw[<-iU,lS]at f;rw[lS];have i:∀w,eZ 116 #[.agg #[U ((y.val%2^64:I):Y),U ((y.val/2^64%2^64:I):Y),U ((y.val/2^128%2^64:I):Y),U ((y.val/2^192%2^64:I):Y)]] w fZ:=λw=>by
  have h:=Sr C y w;rw[decide_eq_false ho]at h;exact h
 have k:∀w,dZ 117 #[.agg #[U ((x.val%2^64:I):Y),U ((x.val/2^64%2^64:I):Y),U ((x.val/2^128%2^64:I):Y),U ((x.val/2^192%2^64:I):Y)]] w λe w'=>∃g,e=sZ g 32 32/\w.heap.size<=g/\hZ w' g 0 (bx x.val):=Jy C
 have n:=bP x.val;generalize bx x.val=B at k n⊢;generalize x.val%2^64=a at f i k⊢;generalize x.val/2^64%2^64=b at f i k⊢;generalize x.val/2^128%2^64=c at f i k⊢;generalize x.val/2^192%2^64=d at f i k⊢;generalize y.val%2^64=p at f i k⊢;generalize y.val/2^64%2^64=q at f i k⊢;generalize y.val/2^128%2^64=r at f i k⊢;generalize y.val/2^192%2^64=s at f i k⊢;have HQ:=mk1 (f);go_enter func52,ntmps52;go_wp2_with fail
 have j:=RJ w a b c d p q r s;generalize Q:w.heap.size=k0 at j⊢;apply(i _).mono;rintro e u ⟨v,rfl,A,rfl⟩;replace j:=j.call A;let⟨V,T,h0,X,xf⟩:=j.head
 have zx:=j.head.lt;go_wp2_with fail
 apply(k _).mono;rintro e O ⟨v,rfl,l,g,rfl,hg,hH⟩;have hc:O.cell? ⟨u.heap.size,0,G⟩=F (.int .u8 2):=by
  rw[l.cell (p:=⟨u.heap.size,0,G⟩) (by show u.heap.size<_;rw[YE];omega),Zj];rfl
 have o:=YA j.le (YA (by rw[YE];omega) l.size);let⟨W3,W,N,K,L,m,M⟩:=Nz n hc hH
 go_wp2_with (at_builtin;refine Z9 _ Z _ _ 23 23 Z _ _ Z Z _ _ N ?_)
 go_ret;refine⟨_,Z,?_,_,W,Z,L,?_,m,M⟩
 .rw[Q];exact(mk1 (((j.alloc _).call l).bl)).trans (K.mono o)
 rw[Q];exact o
def xN{x y:B P}(C:At P)(w:Yp):dZ 52 #[pv x y] w λe w'=>mY w (vQ x y) e w':=by
 unfold vQ mark;by_cases k:x=0/\y=0
 .rw[zd k];exact Hn C x y k w
 rw[zi k];by_cases ho:y.val%2=1
 .rw[zd ho];exact Lg C x y k ho w
 rw[zi ho];exact Hp C x y k ho w
def V8(e:N<=512):∃C0:H Yq,C0.length=8*N/\∀w:Yp,(pq 100 (iZ N) (iZ N)).run prog w=.ok (sZ w.heap.size N N) (w.alloc (.cells C0.toArray 93)):=by
 have j:(prog.info? 93).map (λi=>(i.size,decide (i.bytes<=4000),i.zero.isSome))=F (8,J,J):=kR;let⟨i,b,k⟩:=Yu.1 j
 simp only[ZV.injEq,decide_eq_true_eq]at k;let⟨h1,g,c⟩:=k
 let⟨z,f⟩:=ZT.1 c
 refine⟨(madeCells z.cells (N*8)).toList,by rw[YM,size_madeCells,Ze],λw=>?_⟩;have l:(i.bytes:Y)*(N:Y)<=281474976710656:=by
  have:i.bytes*N<=4000*512:=lp g e;have d:((i.bytes*N:I):Y)<=281474976710656:=S;rwa[py]at d
 have:=run_make (P:=prog) w 100 93 i z kR b f .i64 .i64 (N:Y) (N:Y) S S l S;rw[yCJ,h1]at this;rw[yCf];exact this
def XJ(e:N<=512):∃C0:H Yq,C0.length=4*N/\∀w:Yp,(pq 89 (iZ N) (iZ N)).run prog w=.ok (sZ w.heap.size N N) (w.alloc (.cells C0.toArray 47)):=by
 have j:(prog.info? 47).map (λi=>(i.size,decide (i.bytes<=4000),i.zero.isSome))=F (4,J,J):=kR;let⟨i,b,k⟩:=Yu.1 j
 simp only[ZV.injEq,decide_eq_true_eq]at k;let⟨h1,g,c⟩:=k
 let⟨z,f⟩:=ZT.1 c
 refine⟨(madeCells z.cells (N*4)).toList,by rw[YM,size_madeCells,Ze],λw=>?_⟩;have l:(i.bytes:Y)*(N:Y)<=281474976710656:=by
  have:i.bytes*N<=4000*512:=lp g e;have d:((i.bytes*N:I):Y)<=281474976710656:=S;rwa[py]at d
 have:=run_make (P:=prog) w 89 47 i z kR b f .i64 .i64 (N:Y) (N:Y) S S l S;rw[yCJ,h1]at this;rw[yCf];exact this
structure Rows(sz N:I)(cell:I->H Yq)(m:I)(C:H Yq):Prop where
 len:C.length=sz*N
 row:∀j r,j<m->r<sz->C[sz*j+r]? = (cell j)[r]?
def rq(N:I)(bs:Bs):zb I:=if bs.size=32/\beV bs.toList<N then F (beV bs.toList) else G
def rqV:zb I->Yq
 | none=>.tuple #[nv 0,fZ]
 | some n=>.tuple #[nv n,tZ]
def iQ:yy 58 #[] gv1:=λw=>(E8).mono (by rintro e w' ⟨rfl,rfl⟩;exact⟨_,Z,aD _,Z⟩)
def Ir{bs:Bs}(hG:Gap 4624529908474429119 4994812053365940164 1 N)(hv:Arg w v bs):eZ 59 #[gv1,v] w (rqV (rq N bs)):=by
 obtain⟨p,n,cap,rfl,hs,h1⟩:=hv;unfold rq;by_cases b:n=32
 .subst b;obtain⟨g,o,rfl,c,i,f⟩:=h1 Z;apply(A9 _ _ _ N g o cap bs hG w hs c i f).mono;rintro e w' ⟨v,rfl,k,⟨hl,j,rfl,d⟩|⟨hl,rfl⟩⟩
  .rw[zd ⟨hs,hl⟩];exact⟨_,Z,k,by rw[d.nv];rfl⟩
  rw[zi (λh=>S)];exact⟨_,Z,k,Z⟩
 apply(OD _ p n cap w _ _ _ Z b).mono;rintro e w' ⟨v,rfl,k,rfl⟩;rw[zi (λh=>b (hs.symm.trans h.1))];exact⟨_,Z,k,Z⟩
structure RefP(p0 p1 p2 p3 c0 c1 c2 c3 P:I):Prop where
 hp0:p0<18446744073709551616
 hp1:p1<18446744073709551616
 hp2:p2<18446744073709551616
 hp3:p3<18446744073709551616
 hc0:c0<18446744073709551616
 hc1:c1<18446744073709551616
 hc2:c2<18446744073709551616
 hc3:c3<18446744073709551616
 eP:P=val p0 p1 p2 p3
 hP:P+val c0 c1 c2 c3=top
 hP2:top<2*P
def VC:RefP 18446744069414583343 18446744073709551615 18446744073709551615 18446744073709551615 4294968273 0 0 0 Go.Proofs.YtdoammpgchejcaaGreat.p0:=
 ⟨dC,dC,dC,dC,dC,dC,dC,dC,dK,dK,dK⟩
def VB:RefP 13822214165235122497 13451932020343611451 18446744073709551614 18446744073709551615 4624529908474429119 4994812053365940164 1 0 Go.Proofs.YtdoammpgchejcaaGreat.p1:=
 ⟨dC,dC,dC,dC,dC,dC,dC,dC,dK,dK,dK⟩
def pK(x y:Yq)(m n:I)(hx:zh x m)(P:zh y n)(w:Yp):
 dZ 168 #[x,y] w λe w'=>∃(v:Yq) (s k:I),e=.tuple #[v,U k]/\zh v s/\k<=1/\s+n=m+top*k:=by
 obtain⟨a,b,c,d,rfl,Q,N,T,hd,L⟩:=hx;obtain⟨p,q,r,s,rfl,A,V,K,hs,en⟩:=P;let⟨s0,O,a0,u,o,e0⟩:=Cm a p Q A
 let⟨s1,M,a1,l,j,X⟩:=lM b q N V o
 let⟨s2,C,a2,t,i,W⟩:=lM c r T K j
 let⟨s3,z,a3,f,g,e3⟩:=lM d s hd hs i
 have hv:val s0 s1 s2 s3+n=m+top*z:=by rw[L,en];unfold val top;omega
 go_enter func168,ntmps168;go_wp2;refine rp 5 ?_;rw[Y4];go_wp2;go_region
 go_wp2;rw[Y4];go_wp2;go_region
 go_wp2;rw[Y4];go_wp2;go_region
 go_wp2;rw[Y4];go_wp2;go_region
 go_wp2;rw[Y4];go_wp2
 refine YB (by simp[results,Tryz.results168,go_sem];rfl) Z ?_;exact⟨_,Z,(iN _ _ _ _ _).drew.drew.drew.drew,_,_,z,Z,Four.mk u l t f Z,g,hv⟩
def nD(v:Yq)(n:I):Prop:=∃a b c d f e c' k:I,v=.agg #[U a,U b,U c,U d,U f,U e,U c',U k] /\
 a<2^64/\b<2^64/\c<2^64/\d<2^64/\f<2^64/\e<2^64/\c'<2^64/\k<2^64 /\
 n=val a b c d+top*val f e c' k
def H8{s u:I}(j:m=a+top*b)(en:n=c+top*d)(h1:s+top*k=a+c)(g:u+top*l=b+d+k)(i:m+n<top*top):m+n=s+top*u:=by
 have o:top*u+top*top*l=top*b+top*d+top*k:=by rw[kI,<-pi,g,pi,pi]
 have f:m+n=s+top*u+top*top*l:=S;have e:l=0:=by
  rcases yEp l with h|h
  .exact h
  have:=I.le_mul_of_pos_right (top*top) h;omega
 rw[f,e,qo,ao]
def uM(x y:Yq)(m n:I)(hx:nD x m)(hy:nD y n)(k:m+n<top*top)(w:Yp):
 dZ 103 #[x,y] w λe w'=>nD e (m+n):=by
 obtain⟨a,b,c,d,aa,bb,cc,dd,rfl,ha,hb,hc,hd,l,C,W,V,o⟩:=hx;obtain⟨p,q,r,s,pp,qq,rr,ss,rfl,hp,hq,hr,hs,i,v,h0,A,en⟩:=hy;let⟨s0,k0,a0,z,T,e0⟩:=vT ha hp
 let⟨s1,k1,a1,N,L,e1⟩:=oY hb hq T
 let⟨s2,k2,a2,M,K,e2⟩:=oY hc hr L
 let⟨s3,j,a3,P,f,e3⟩:=oY hd hs K
 let⟨s4,k4,a4,t,Q,e4⟩:=oY l i f
 let⟨s5,k5,a5,O,u,e5⟩:=oY C v Q
 let⟨s6,k6,a6,g,X,e6⟩:=oY W h0 u
 let⟨s7,k7,a7,h2,h3,e7⟩:=oY V A X
 have v1:val s0 s1 s2 s3+top*j=val a b c d+val p q r s:=by clear o en k e4 e5 e6 e7;unfold val top;omega
 have v2:val s4 s5 s6 s7+top*k7=val aa bb cc dd+val pp qq rr ss+j:=by clear o en k e0 e1 e2 e3;unfold val top;omega
 go_enter func103,ntmps103;go_wp2;refine rp 9 ?_;rw[Y4];go_wp2;go_region
 go_wp2;rw[Y4];go_wp2;go_region
 go_wp2;rw[Y4];go_wp2;go_region
 go_wp2;rw[Y4];go_wp2;go_region
 go_wp2;rw[Y4];go_wp2;go_region
 go_wp2;rw[Y4];go_wp2;go_region
 go_wp2;rw[Y4];go_wp2;go_region
 go_wp2;rw[Y4];go_wp2;go_region
 go_wp2;rw[Y4];go_wp2
 refine YB (by simp[results,Tryz.results103,go_sem];rfl) Z ?_;exact⟨_,Z,(below3 _ _ _).drew.drew.drew.drew.drew.drew.drew.drew,s0,s1,s2,s3,s4,s5,s6,s7,Z,z,N,M,P,t,O,g,h2,H8 o en v1 v2 k⟩
section
def Kn{r2 s0 s1 s2 s3 t0 t1 t2 u0 u1 u2 u3 h1 i:I}
 (p:g+18446744073709551616*val l r2 f k=a*n+val 0 0 0 0)
 (o:s0+18446744073709551616*val s1 s2 s3 h1=b*n+val l r2 f k)
 (m:t0+18446744073709551616*val t1 t2 e j=c*n+val s1 s2 s3 h1)
 (e3:u0+18446744073709551616*val u1 u2 u3 i=d*n+val t1 t2 e j) :
 val a b c d*n=val g s0 t0 u0+top*val u1 u2 u3 i:=by
 have m:val a b c d*n=val (a*n) (b*n) (c*n) (d*n):=by
  rw[Ze,CH,Ze n a,Ze n b,Ze n c,Ze n d]
 rw[m];unfold val at *;unfold top;omega
structure PrI(w W:Yp)(k0 k1 k2 k3 a b c d p q r s:I)(L:H I):Prop where
 x:At4 W k0 a b c d
 y:At4 W k1 p q r s
 r:At8 W k2 0 0 0 0 0 0 0 0
 o:At8 W k3 (L.getD 0 0) (L.getD 1 0) (L.getD 2 0) (L.getD 3 0) (L.getD 4 0) (L.getD 5 0) (L.getD 6 0) (L.getD 7 0)
 bl:Below k0 w W
 n:k0<k1/\k1<k2/\k2<k3
section
variable {w W:Yp}{k0 k1 k2 k3 a b c d p q r s x0 x1 x2 x3 x4 x5 x6 x7:Nat}{L:List Nat}
def PrI.dr(h:PrI w W k0 k1 k2 k3 a b c d p q r s L)(n:I):PrI w (W.drewN n) k0 k1 k2 k3 a b c d p q r s L:=⟨h.x.drewN n,h.y.drewN n,h.r.drewN n,h.o.drewN n,kM h.bl,h.n⟩
def PrI.st(h:PrI w W k0 k1 k2 k3 a b c d p q r s [x0,x1,x2,x3,x4,x5,x6,x7])(i v:I)(f:i<8)(e:[x0,x1,x2,x3,x4,x5,x6,x7].set i v=L':=by(simp only[Yy,Yz])<;>rfl):PrI w (W.setCell ⟨k3,i,G⟩ (uZ v)) k0 k1 k2 k3 a b c d p q r s L':=by
 subst e;let⟨hx,j,k,ho,g,n⟩:=h
 refine⟨hx.other S _,j.other S _,k.other S _,?_,g.setCell (p:=⟨k3,i,G⟩) (show k0<=k3 by omega) _,n⟩;match i,f with
 | 0,_=>exact ho.set0 v
 | 1,_=>exact ho.set1 v
 | 2,_=>exact ho.set2 v
 | 3,_=>exact ho.set3 v
 | 4,_=>exact ho.set4 v
 | 5,_=>exact ho.set5 v
 | 6,_=>exact ho.set6 v
 | 7,_=>exact ho.set7 v
end
def mD(x y:Yq)(m n:I)(hx:zh x m)(hy:zh y n)(w:Yp):
 Zl prog 102 #[x,y] w (Ret λe w'=>Below w.heap.size w w'/\nD e (m*n)):=by
 obtain⟨a,b,c,d,rfl,ha,hb,hc,hd,em⟩:=hx;obtain⟨p,q,r,s,rfl,hp,hq,hr,hs,en⟩:=hy;go_enter func102,ntmps102;go_wp2;refine rp 5 ?_;have K:PrI w _ w.heap.size (w.heap.size+1) (w.heap.size+1+1) (w.heap.size+1+1+1) a b c d p q r s [0,0,0,0,0,0,0,0]:=⟨(((At4.made w 54 a b c d Z).alloc _).alloc _).alloc _,((At4.made _ 54 p q r s (YE _ _)).alloc _).alloc _,(At8.made _ 176 0 0 0 0 0 0 0 0 (by simp)).alloc _,At8.made _ 176 0 0 0 0 0 0 0 0 (by simp),iN w _ _ _ _,by omega⟩
 generalize Z4 _ _=W0 at K⊢;generalize h3:w.heap.size+1+1+1=k3 at K⊢;generalize h2:w.heap.size+1+1=k2 at K⊢;generalize h1:w.heap.size+1=k1 at K⊢;generalize h0:w.heap.size=k0 at K⊢;have H0:E (w.heap.size=k0):=h0;have jk:k0≠k3:=S;have g8:k1≠k3:=S;have gt:k2≠k3:=S;clear h0 h1 h2 h3;obtain⟨⟨C,M,z,v,xf⟩,⟨L,A,N,u,yf⟩,-,⟨k,o,j,l,g,i,t,f,of⟩,-,-⟩:=id K;simp only[yBG,yBH,Zt]at k o j l g i t f;rw[Y4];go_wp2
 refine rp 5 ?_;obtain⟨jp,j2,s00,ic,hj,g7,jn,f0,cj,k8,ht,ei,eh,e0,dx,bj⟩:=dB (x:=a) (y:=p) (o:=0) (c:=0) ha hp dC dC;simp only[Zt]at k8 ht;rw[Y4];go_wp2
 go_quiet ((go_at_call 174;exact ZF (cj _)));revert nq;intro kk
 go_wp2_with (first|simp only[k8]|simp only[ht])
 obtain⟨j1,gq,s01,gj,X,i8,iw,ex,b5,b4,k5,ej,es,kg,da,dk⟩:=dB (x:=a) (y:=q) (o:=0) (c:=f0) ha hq dC dx;simp only[Zt]at k5;rw[Y4];go_wp2
 go_quiet ((go_at_call 174;exact ZF (b5 _)));revert nq;intro c8
 go_wp2_with (first|simp only[b4]|simp only[k5])
 obtain⟨jq,ib,s02,fq,W,j9,g1,e1,kl,di,k7,ey,e6,ct,dp,d0⟩:=dB (x:=a) (y:=r) (o:=0) (c:=ex) ha hr dC da;simp only[Zt]at k7;rw[Y4];go_wp2
 go_quiet ((go_at_call 174;exact ZF (kl _)));revert nq;intro ke
 go_wp2_with (first|simp only[di]|simp only[k7])
 obtain⟨gy,g3,s03,g9,P,iz,g2,hk,d5,dd,hw,eg,ff,c0,c7,cg⟩:=dB (x:=a) (y:=s) (o:=0) (c:=e1) ha hs dC dp;simp only[Zt]at hw;rw[Y4];go_wp2
 go_quiet ((go_at_call 174;exact ZF (d5 _)));revert nq;intro bk
 go_wp2_with (first|simp only[dd]|simp only[hw])
 rw[Y4];go_wp2
 have ep:=mk1 (sM (n:=val 0 0 0 0) (p:=0) (q:=0) (r:=0) (s:=0) (x:=a) (l0:=hj) (l1:=X) (l2:=W) (l3:=P) en Z bj dk d0 cg);replace K:=((((((((K.dr kk).st 0 hj dC).dr c8).st 1 X dC).dr ke).st 2 W dC).dr bk).st 3 P dC).st 4 hk dC;clear bj cj k8 ht ei eh dk b5 b4 k5 ej es d0 kl di k7 ey e6 cg d5 dd hw eg ff C M z v xf L A N u yf k o j l g i t f of;generalize xc _ _ _=W1 at K⊢;obtain⟨⟨C,M,z,v,xf⟩,⟨L,A,N,u,yf⟩,-,⟨k,o,j,l,g,i,t,f,of⟩,-,-⟩:=id K;simp only[yBG,yBH,Zt]at k o j l g i t f;rw[Y4];go_wp2
 refine rp 5 ?_;obtain⟨fx,ik,s10,g4,hi,i1,ij,e9,dw,hu,cd,eb,et,kw,d2,d3⟩:=dB (x:=b) (y:=p) (o:=X) (c:=0) hb hp kg dC;simp only[Zt]at hu;rw[Y4];go_wp2
 go_quiet ((go_at_call 174;exact ZF (dw _)));revert nq;intro dz
 go_wp2_with (first|simp only[hu]|simp only[cd])
 obtain⟨fy,j0,s11,ft,Q,ir,gh,e2,kd,bd,b9,eu,z11,bv,cz,bi⟩:=dB (x:=b) (y:=q) (o:=W) (c:=e9) hb hq ct d2;rw[Y4];go_wp2
 go_quiet ((go_at_call 174;exact ZF (kd _)));revert nq;intro bz
 go_wp2_with (first|simp only[bd]|simp only[b9])
 obtain⟨jf,fn,s12,i9,h5,ig,ix,e7,br,cp,b2,ea,z12,cf,c9,kh⟩:=dB (x:=b) (y:=r) (o:=P) (c:=e2) hb hr c0 cz;rw[Y4];go_wp2
 go_quiet ((go_at_call 174;exact ZF (br _)));revert nq;intro co
 go_wp2_with (first|simp only[cp]|simp only[b2])
 obtain⟨i7,fm,s13,ia,h4,ii,g6,hm,d1,bf,bh,e8,ec,kj,cu,kc⟩:=dB (x:=b) (y:=s) (o:=hk) (c:=e7) hb hs c7 c9;rw[Y4];go_wp2
 go_quiet ((go_at_call 174;exact ZF (d1 _)));revert nq;intro kp
 go_wp2_with (first|simp only[bf]|simp only[bh])
 rw[Y4];go_wp2
 have fb:=mk1 (sM (n:=val X W P hk) (p:=X) (q:=W) (r:=P) (s:=hk) (x:=b) (l0:=hi) (l1:=Q) (l2:=h5) (l3:=h4) en Z d3 bi kh kc);replace K:=((((((((K.dr dz).st 1 hi dC).dr bz).st 2 Q dC).dr co).st 3 h5 dC).dr kp).st 4 h4 dC).st 5 hm dC;clear d3 dw hu cd eb et bi kd bd b9 eu z11 kh br cp b2 ea z12 kc d1 bf bh e8 ec C M z v xf L A N u yf k o j l g i t f of;generalize xc _ _ _=W2 at K⊢;obtain⟨⟨C,M,z,v,xf⟩,⟨L,A,N,u,yf⟩,-,⟨k,o,j,l,g,i,t,f,of⟩,-,-⟩:=id K;simp only[yBG,yBH,Zt]at k o j l g i t f;rw[Y4];go_wp2
 refine rp 5 ?_;obtain⟨il,i2,s20,iq,h8,jl,gg,f9,cn,k4,kb,ez,fj,db,kz,dq⟩:=dB (x:=c) (y:=p) (o:=Q) (c:=0) hc hp bv dC;simp only[Zt]at k4;rw[Y4];go_wp2
 go_quiet ((go_at_call 174;exact ZF (cn _)));revert nq;intro cq
 go_wp2_with (first|simp only[k4]|simp only[kb])
 obtain⟨gr,fp,s21,fz,V,iu,j5,fa,dl,d7,c4,fk,f4,ds,kf,de⟩:=dB (x:=c) (y:=q) (o:=h5) (c:=f9) hc hq cf kz;rw[Y4];go_wp2
 go_quiet ((go_at_call 174;exact ZF (dl _)));revert nq;intro ba
 go_wp2_with (first|simp only[d7]|simp only[c4])
 obtain⟨jm,gb,s22,i6,T,jc,j7,f8,k9,bm,dh,fh,f6,cx,b7,d8⟩:=dB (x:=c) (y:=r) (o:=h4) (c:=fa) hc hr kj kf;rw[Y4];go_wp2
 go_quiet ((go_at_call 174;exact ZF (k9 _)));revert nq;intro bo
 go_wp2_with (first|simp only[bm]|simp only[dh])
 obtain⟨jg,fs,s23,je,h6,ja,jh,he,dy,c6,kr,ed,f7,ky,kx,bn⟩:=dB (x:=c) (y:=s) (o:=hm) (c:=f8) hc hs cu b7;rw[Y4];go_wp2
 go_quiet ((go_at_call 174;exact ZF (dy _)));revert nq;intro kt
 go_wp2_with (first|simp only[c6]|simp only[kr])
 rw[Y4];go_wp2
 have fg:=mk1 (sM (n:=val Q h5 h4 hm) (p:=Q) (q:=h5) (r:=h4) (s:=hm) (x:=c) (l0:=h8) (l1:=V) (l2:=T) (l3:=h6) en Z dq de d8 bn);replace K:=((((((((K.dr cq).st 2 h8 dC).dr ba).st 3 V dC).dr bo).st 4 T dC).dr kt).st 5 h6 dC).st 6 he dC;clear dq cn k4 kb ez fj de dl d7 c4 fk f4 d8 k9 bm dh fh f6 bn dy c6 kr ed f7 C M z v xf L A N u yf k o j l g i t f of;generalize xc _ _ _=W3 at K⊢;obtain⟨⟨C,M,z,v,xf⟩,⟨L,A,N,u,yf⟩,-,⟨k,o,j,l,g,i,t,f,of⟩,-,-⟩:=id K;simp only[yBG,yBH,Zt]at k o j l g i t f;rw[Y4];go_wp2
 refine rp 5 ?_;obtain⟨ih,ip,s30,jb,h9,gu,i0,fe,dm,k6,km,er,ek,c3,kv,df⟩:=dB (x:=d) (y:=p) (o:=V) (c:=0) hd hp ds dC;simp only[Zt]at k6;rw[Y4];go_wp2
 go_quiet ((go_at_call 174;exact ZF (dm _)));revert nq;intro bt
 go_wp2_with (first|simp only[k6]|simp only[km])
 obtain⟨gz,j3,s31,jo,h7,ge,j4,e4,c5,du,b8,f5,ef,dj,ki,bq⟩:=dB (x:=d) (y:=q) (o:=T) (c:=fe) hd hq cx kv;rw[Y4];go_wp2
 go_quiet ((go_at_call 174;exact ZF (c5 _)));revert nq;intro b6
 go_wp2_with (first|simp only[du]|simp only[b8])
 obtain⟨fu,g0,s32,j6,hg,j8,i3,e5,ko,bp,bc,fd,ew,bu,be,d4⟩:=dB (x:=d) (y:=r) (o:=h6) (c:=e4) hd hr ky ki;rw[Y4];go_wp2
 go_quiet ((go_at_call 174;exact ZF (ko _)));revert nq;intro d6
 go_wp2_with (first|simp only[bp]|simp only[bc])
 obtain⟨io,ie,s33,gk,o33,gw,iy,hz,ci,cy,ku,v33,z33,kn,d9,b3⟩:=dB (x:=d) (y:=s) (o:=he) (c:=e5) hd hs kx be;rw[Y4];go_wp2
 go_quiet ((go_at_call 174;exact ZF (ci _)));revert nq;intro ka
 go_wp2_with (first|simp only[cy]|simp only[ku])
 rw[Y4];go_wp2
 have eo:=mk1 (sM (n:=val V T h6 he) (p:=V) (q:=T) (r:=h6) (s:=he) (x:=d) (l0:=h9) (l1:=h7) (l2:=hg) (l3:=o33) en Z df bq d4 b3);replace K:=((((((((K.dr bt).st 3 h9 dC).dr b6).st 4 h7 dC).dr d6).st 5 hg dC).dr ka).st 6 o33 dC).st 7 hz dC;clear df dm k6 km er ek bq c5 du b8 f5 ef d4 ko bp bc fd ew b3 ci cy ku v33 z33 C M z v xf L A N u yf k o j l g i t f of;generalize xc _ _ _=W4 at K⊢;obtain⟨-,-,R,O,BL,hn⟩:=id K;obtain⟨k,o,j,l,g,i,t,f,of⟩:=id O;obtain⟨ji,i4,fl,im,g5,jj,jd,i5,rf⟩:=id R;simp only[yBG,yBH]at k o j l g i t f;have z3:=O.lt;have z2:=R.lt;rw[Y4];go_wp2
 have RF:=R.self8 hj hi h8 h9 h7 hg o33 hz;unfold DL at RF;refine YB (by simp[results,Tryz.results102,go_sem,RF.c0,RF.c1,RF.c2,RF.c3,RF.c4,RF.c5,RF.c6,RF.c7];rfl) Z ?_;refine⟨_,Z,?_,hj,hi,h8,h9,h7,hg,o33,hz,Z,e0,kw,db,c3,dj,bu,kn,d9,?_⟩
 .rw[H0.out];exact wO BL (by omega)
 rw[em];exact Kn ep fb fg eo
end
structure LessI(w wr:Yp)(p0 p1 p2 p3 c0 c1 c2 c3 a b c d e f g h:I):Prop where
 bl:Below w.heap.size w wr
 fr:At8 wr w.heap.size p0 p1 p2 p3 c0 c1 c2 c3
 wi:At8 wr (w.heap.size+1) a b c d e f g h
 re:At4 wr (w.heap.size+1+1) 0 0 0 0
 ha:a<18446744073709551616
 hb:b<18446744073709551616
 hc:c<18446744073709551616
 hd:d<18446744073709551616
 he:e<18446744073709551616
 hf:f<18446744073709551616
 hg:g<18446744073709551616
 hh:h<18446744073709551616
def GG{x y:I}(hx:x<top)(b:y<top):x*y+top<=top*top:=by
 have h1:x*y<=(top-1)*(top-1):=lp S S;have k:(top-1)*(top-1)+top<=top*top:=by unfold top;decide
 omega
def zW{i h:I}(H:Kept w i [⟨i,0,p0,p1,p2,n⟩,⟨i,4,j,c1,c2,l⟩,⟨k,0,a,b,c,d⟩,⟨k,4,e,f,g,h⟩,⟨m,0,0,0,0,0⟩] W):W.cell? ⟨i,4,G⟩=F (U j)/\W.cell? ⟨i,5,G⟩=F (U c1)/\W.cell? ⟨i,6,G⟩=F (U c2)/\W.cell? ⟨i,7,G⟩=F (U l)/\W.cell? ⟨k,0,G⟩=F (U a)/\W.cell? ⟨k,1,G⟩=F (U b)/\W.cell? ⟨k,2,G⟩=F (U c)/\W.cell? ⟨k,3,G⟩=F (U d)/\W.cell? ⟨k,4,G⟩=F (U e)/\W.cell? ⟨k,5,G⟩=F (U f)/\W.cell? ⟨k,6,G⟩=F (U g)/\W.cell? ⟨k,7,G⟩=F (U h)/\Kept w i [⟨i,0,p0,p1,p2,n⟩,⟨i,4,j,c1,c2,l⟩,⟨k,0,a,b,c,d⟩,⟨k,4,e,f,g,h⟩,⟨m,0,0,0,0,0⟩] W:=
 ⟨H.tail.head.c0,H.tail.head.c1,H.tail.head.c2,H.tail.head.c3,H.tail.tail.head.c0,H.tail.tail.head.c1,H.tail.tail.head.c2,H.tail.tail.head.c3,H.tail.tail.tail.head.c0,H.tail.tail.tail.head.c1,H.tail.tail.tail.head.c2,H.tail.tail.tail.head.c3,H⟩
def or4(e:a<2^64)(k:b<2^64)(f:c<2^64)(hd:d<2^64):
 ∃o:I,bits .or .u64 (bits .or .u64 (bits .or .u64 (a:Y) (b:Y)) (c:Y)) (d:Y)=(o:Y)/\(o=0↔(a=0/\b=0/\c=0/\d=0)):=by
 have lt:∀x y:I,x<2^64->y<2^64->x ||| y<2^64:=λx y hx g=>yEA (n:=64) hx g
 refine⟨a ||| b ||| c ||| d,?_,?_⟩
 .rw[wy a b e k,wy _ c (lt _ _ e k) f,wy _ d (lt _ _ (lt _ _ e k) f) hd]
 constructor
 .intro h;have h1:=yDH (n:=a ||| b ||| c) (m:=d);have q:=yDy (n:=a ||| b ||| c) (m:=d);have l:=yDH (n:=a ||| b) (m:=c);have j:=yDy (n:=a ||| b) (m:=c);have i:=yDH (n:=a) (m:=b);have p:=yDy (n:=a) (m:=b);omega
 rintro⟨rfl,rfl,rfl,rfl⟩;rfl
def J8{cc gk:I}(f:P+cc=top)(d:top<2*P)(b:0<k)(g:gk=c+top*k):k*cc+c<gk/\(k*cc+c)%P=gk%P:=by
 have e:gk=k*cc+c+P*k:=by rw[g,<-f,ph,Ze cc];omega
 rw[e,I.add_mul_mod_self_left];have:0<P*k:=I.mul_pos S b;exact⟨S,Z⟩
def uQ(p0 p1 p2 p3 c0 c1 c2 c3 P:I)(x:Yq)(m:I)(hp0:p0<18446744073709551616)(hp1:p1<18446744073709551616)(hp2:p2<18446744073709551616)(hp3:p3<18446744073709551616)
 (hc0:c0<18446744073709551616) (hc1:c1<18446744073709551616) (hc2:c2<18446744073709551616) (hc3:c3<18446744073709551616) (eP:P=val p0 p1 p2 p3) (hP:P+val c0 c1 c2 c3=top) (hP2:top<2*P) (hx:nD x m) (w:Yp) :
 dZ 101 #[.agg #[U p0,U p1,U p2,U p3,U c0,U c1,U c2,U c3],x] w λe w'=>zh e (m%P):=by
 obtain⟨a,b,c,d,e,f,g,h,rfl,ha,hb,hc,hd,he,hf,hg,hh,em⟩:=hx;go_enter func101,ntmps101;go_wp2;have HEP:=mk1 (eP);go_loopg [] (val a b c d+top*val e f g h) (λgk wr=>∃(a b c d e f g h:I),LessI w wr p0 p1 p2 p3 c0 c1 c2 c3 a b c d e f g h/\gk=val a b c d+top*val e f g h/\E (gk%P=m%P))
 case atStart =>
  refine⟨a,b,c,d,e,f,g,h,⟨below3 _ _ _,?_,?_,?_,ha,hb,hc,hd,he,hf,hg,hh⟩,Z,?_⟩
  .exact(((At8.made w 58 p0 p1 p2 p3 c0 c1 c2 c3 Z).alloc _).alloc _)
  .exact(At8.made (w.alloc _) 176 a b c d e f g h (YE _ _)).alloc _
  .exact At4.made ((w.alloc _).alloc _) 54 0 0 0 0 (by simp)
  .rw[em];rfl
 case round =>
  obtain⟨a,b,c,d,e,f,g,h,hI,hgk,HE⟩:=hrel;obtain⟨bl,fr,wi,re,ha,hb,hc,hd,he,hf,hg,hh⟩:=hI;have HB:=mk1 (bl);generalize q2:w.heap.size+1+1=k2 at re⊢;generalize q1:w.heap.size+1=k1 at wi⊢;have H:E (w.heap.size+1=k1/\w.heap.size+1+1=k2):=⟨q1,q2⟩
  have Q1:E (w.heap.size<=k1):=by unfold E;omega
  have Q2:E (w.heap.size<=k2):=by unfold E;omega
  generalize q0:w.heap.size=k0 at fr HB Q1 Q2⊢;have H0:E (w.heap.size=k0):=q0;have n01:k0≠k1:=S;have n12:k1≠k2:=S;have z0:=fr.lt;have z1:=wi.lt;have z2:=re.lt;clear q0 q1 q2;obtain⟨o,ho,hoz⟩:=or4 (a:=e) (b:=f) (c:=g) (d:=h) he hf hg hh;obtain⟨fc0,fc1,fc2,fc3,fc4,fc5,fc6,fc7,ff⟩:=id fr;obtain⟨wc0,wc1,wc2,wc3,wc4,wc5,wc6,wc7,wf⟩:=id wi;obtain⟨rc0,rc1,rc2,rc3,rf⟩:=id re;by_cases hz:o=0
  .obtain⟨rfl,rfl,rfl,rfl⟩:=hoz.1 hz;have hlow:gk=val a b c d:=by rw[hgk];rfl
   have HE2:E (val a b c d%P=m%P):=by unfold E;rw[<-hlow];exact HE.out
   clear hgk HE hoz hlow;subst hz;go_wp2;have N:=At4.made wr 54 a b c d Z;have M0:k0≠wr.heap.size:=oA z0;have M2:k2≠wr.heap.size:=oA z2;have M5:E (k0<=wr.heap.size):=ax z0;have HB0:E (Below k0 w _):=HB.alloc (ax z0) (.cells #[U a,U b,U c,U d] 54);replace fr:=fr.alloc (.cells #[U a,U b,U c,U d] 54);replace re:=re.alloc (.cells #[U a,U b,U c,U d] 54);clear wi fc0 fc1 fc2 fc3 fc4 fc5 fc6 fc7 ff wc0 wc1 wc2 wc3 wc4 wc5 wc6 wc7 wf rc0 rc1 rc2 rc3 rf z0 z1 z2 HB ho;generalize Z4 _ _=W0 at N fr re HB0⊢;generalize wr.heap.size=k5 at N M0 M2 M5⊢;have hB4:E (a<18446744073709551616/\b<18446744073709551616/\c<18446744073709551616/\d<18446744073709551616):=⟨ha,hb,hc,hd⟩
   have HPP:E (0<P):=by unfold E;have:=hP2;omega
   clear ha hb hc hd hP hP2;have KP:Kept w k0 [⟨k5,0,a,b,c,d⟩,⟨k0,0,p0,p1,p2,p3⟩,⟨k2,0,0,0,0,0⟩] W0:=
    (((Kept.mk1 HB0.out (ax fr.lt)).cons re.blk).cons (x:=⟨k0,0,p0,p1,p2,p3⟩) ⟨fr.c0,fr.c1,fr.c2,fr.c3,fr.fz⟩).cons N.blk
   clear fr re N HB0;go_loopg [] (val a b c d) (λgk2 wr2=>∃(a b c d:I),gk2=val a b c d/\Kept w k0 [⟨k5,0,a,b,c,d⟩,⟨k0,0,p0,p1,p2,p3⟩,⟨k2,0,0,0,0,0⟩] wr2/\E (a<18446744073709551616/\b<18446744073709551616/\c<18446744073709551616/\d<18446744073709551616)/\E (val a b c d%P=m%P))
   case atStart=>exact⟨a,b,c,d,Z,KP,hB4,HE2⟩
   case round =>
    clear KP hB4 HE2;obtain⟨a,b,c,d,hgk2,KP,hB4,HE2⟩:=hrel;obtain⟨xc0,xc1,xc2,xc3,xf⟩:=KP.head.at4;obtain⟨pc0,pc1,pc2,pc3,pf⟩:=KP.tail.head.at4;have z5:=KP.head.lt;have z0:=KP.tail.head.lt;go_wp2_with fail
    refine(pK _ _ _ _ (Four.mk hB4.1 hB4.2.1 hB4.2.2.1 hB4.2.2.2 Z) (Four.mk hp0 hp1 hp2 hp3 Z) _).mono ?_;rintro r w2 ⟨v,rfl,hb2,v2,t2,j,rfl,⟨a2,b2,c2,d2,rfl,ha2,hb2',hc2,hd2,es2⟩,hj,he2⟩;clear xc0 xc1 xc2 xc3 xf pc0 pc1 pc2 pc3 pf z5 z0;replace KP:=KP.call hb2;clear hb2;have HE3:E (val a2 b2 c2 d2+P=val a b c d+top*j):=by unfold E;rw[<-es2,HEP.out];exact he2
    clear he2 es2;have hj':j=0\/j=1:=S;rcases hj' with rfl|rfl
    .obtain⟨xc0,xc1,xc2,xc3,xf⟩:=KP.head.at4;have z5:=KP.head.lt;go_wp2;go_roundg (val a2 b2 c2 d2)
     case measure=>have:=HE3.out;have:=HPP.out;omega
     case rel =>
      refine⟨a2,b2,c2,d2,Z,?_,⟨ha2,hb2',hc2,hd2⟩,?_⟩
      .exact(KP.put M5.out (by simp only[Zb,YI,or_false];rintro x (rfl|rfl);exact M0.symm;exact M2.symm) a2 b2 c2 d2).alloc _
      .rw[E,<-HE2.out,show val a b c d=val a2 b2 c2 d2+P by have:=HE3.out;omega,I.add_mod_right]
    .obtain⟨xc0,xc1,xc2,xc3,xf⟩:=KP.head.at4;obtain⟨rc0,rc1,rc2,rc3,rf⟩:=KP.tail.tail.head.at4;have z5:=KP.head.lt;have z3:=KP.tail.tail.head.lt;go_wp2;have RF:=(KP.tail.tail.head.at4.self4 a b c d).alloc (.cells #[U a2,U b2,U c2,U d2] 54);unfold set4 at RF;refine YB (by simp[results,Tryz.results101,go_sem,RF.c0,RF.c1,RF.c2,RF.c3];rfl) Z ?_;refine⟨_,Z,?_,Four.mk hB4.1 hB4.2.1 hB4.2.2.1 hB4.2.2.2 ?_⟩
     .rw[H0.out];exact(aE KP.bl Q2.out).alloc (by rw[JI];exact KP.le) _
     .rw[<-HE2.out,YL (by have:=HE3.out;have:=jK ha2 hb2' hc2 hd2;omega)]
  .have hpos:0<val e f g h:=by
    rcases yEp (val e f g h)with h0|h0
    .exact absurd (hoz.2 (by unfold val at h0;omega)) hz
    .exact h0
   have HL:E (_/\_):=J8 hP hP2 hpos hgk;clear hoz hgk hpos;go_wp2;have KP:Kept w k0 [⟨k0,0,p0,p1,p2,p3⟩,⟨k0,4,c0,c1,c2,c3⟩,⟨k1,0,a,b,c,d⟩,⟨k1,4,e,f,g,h⟩,⟨k2,0,0,0,0,0⟩] wr:=
    (((((Kept.mk1 HB.out (ax z0)).cons re.blk).cons (x:=⟨k1,4,e,f,g,h⟩) ⟨wi.c4,wi.c5,wi.c6,wi.c7,wi.fz⟩).cons (x:=⟨k1,0,a,b,c,d⟩) ⟨wi.c0,wi.c1,wi.c2,wi.c3,wi.fz⟩).cons (x:=⟨k0,4,c0,c1,c2,c3⟩) ⟨fr.c4,fr.c5,fr.c6,fr.c7,fr.fz⟩).cons (x:=⟨k0,0,p0,p1,p2,p3⟩) ⟨fr.c0,fr.c1,fr.c2,fr.c3,fr.fz⟩
   clear HEP rc0 rc1 rc2 rc3 rf fc0 fc1 fc2 fc3 fr wi re HB;refine anyTill.begin (λw'=>w'.cell? ⟨k0,4,G⟩=F (U c0)/\w'.cell? ⟨k0,5,G⟩=F (U c1)/\w'.cell? ⟨k0,6,G⟩=F (U c2)/\w'.cell? ⟨k0,7,G⟩=F (U c3)/\w'.cell? ⟨k1,0,G⟩=F (U a)/\w'.cell? ⟨k1,1,G⟩=F (U b)/\w'.cell? ⟨k1,2,G⟩=F (U c)/\w'.cell? ⟨k1,3,G⟩=F (U d)/\w'.cell? ⟨k1,4,G⟩=F (U e)/\w'.cell? ⟨k1,5,G⟩=F (U f)/\w'.cell? ⟨k1,6,G⟩=F (U g)/\w'.cell? ⟨k1,7,G⟩=F (U h)/\Kept w k0 [⟨k0,0,p0,p1,p2,p3⟩,⟨k0,4,c0,c1,c2,c3⟩,⟨k1,0,a,b,c,d⟩,⟨k1,4,e,f,g,h⟩,⟨k2,0,0,0,0,0⟩] w') 22 mixed (zW KP.drew) (λhS=>?_);refine anyTill.tq 0 hS ?_;refine anyTill.tq 1 hS ?_;refine anyTill.tq 2 hS ?_;refine anyTill.tq 3 hS ?_;refine anyTill.tq 4 hS ?_;refine anyTill.tq 5 hS ?_;refine anyTill.tq 6 hS ?_;refine anyTill.tq 7 hS ?_;refine anyTill.tq 8 hS ?_;refine anyTill.tq 9 hS ?_;refine anyTill.tq 10 hS ?_;refine anyTill.tq 12 hS ?_;refine anyTill.tq 13 hS ?_;refine anyTill.tq 14 hS ?_;refine anyTill.tq 15 hS ?_;refine anyTill.tq 16 hS ?_;refine anyTill.tq 17 hS ?_;refine anyTill.tq 18 hS ?_;refine anyTill.tq 19 hS ?_;refine anyTill.tq 20 hS ?_;simp only[Zo];refine anyTill.step (i:=11) Z kR (λK hK=>?_);go_simp;refine(mD _ _ _ _ (Four.mk he hf hg hh Z) (Four.mk hc0 hc1 hc2 hc3 Z) _).mono ?_;rintro r w1 ⟨v,rfl,hb1,hE1⟩;obtain⟨x0,x1,x2,x3,x4,x5,x6,x7,rfl,hx0,hx1,hx2,hx3,hx4,hx5,hx6,hx7,hxe⟩:=id hE1;clear hxe hS;have KP1:=KP.drew.call hb1;clear hb1 KP;refine hK.out _ _ (λ_=>zW KP1) ?_;clear hK K;try simp only[Zo,Yw,Yz,Yy]
   refine anyTill.step (i:=21) Z kR (λK hK=>?_);go_simp;refine(uM _ _ _ _ hE1 ⟨a,b,c,d,0,0,0,0,Z,ha,hb,hc,hd,dC,dC,dC,dC,Z⟩ (by have h1:=GG (jK he hf hg hh) (jK hc0 hc1 hc2 hc3);have h2:=jK ha hb hc hd;have e0:val 0 0 0 0=0:=rfl;rw[e0,qo,ao];omega) _).mono ?_;rintro r w2 ⟨v,rfl,hb2,hE2⟩;obtain⟨y0,y1,y2,y3,y4,y5,y6,y7,rfl,hy0,hy1,hy2,hy3,hy4,hy5,hy6,hy7,hye⟩:=id hE2;rw[show val 0 0 0 0=0 from Z,qo,ao]at hye;have HY:E (_=_):=hye;clear hye hE1 hE2;have KP2:=KP1.call hb2;clear hb2 KP1;refine hK.out _ _ (λ_=>zW KP2) ?_;clear hK K;try simp only[Zo,Yw,Yz,Yy]
   have fr:At8 w2 k0 p0 p1 p2 p3 c0 c1 c2 c3:=⟨KP2.head.c0,KP2.head.c1,KP2.head.c2,KP2.head.c3,KP2.tail.head.c0,KP2.tail.head.c1,KP2.tail.head.c2,KP2.tail.head.c3,KP2.head.f⟩
   have wi:At8 w2 k1 a b c d e f g h:=⟨KP2.tail.tail.head.c0,KP2.tail.tail.head.c1,KP2.tail.tail.head.c2,KP2.tail.tail.head.c3,KP2.tail.tail.tail.head.c0,KP2.tail.tail.tail.head.c1,KP2.tail.tail.tail.head.c2,KP2.tail.tail.tail.head.c3,KP2.tail.tail.head.f⟩
   have re:At4 w2 k2 0 0 0 0:=KP2.tail.tail.tail.tail.head.at4;have HB:E (Below k0 w w2):=KP2.bl;clear KP2 wc0 wc1 wc2 wc3 wc4 wc5 wc6 wc7 wf z0 z1 z2;obtain⟨wc0,wc1,wc2,wc3,wc4,wc5,wc6,wc7,wf⟩:=id wi;have z1:=wi.lt;refine anyTill.step (i:=22) Z kR (λK hK=>?_);go_simp;refine hK.out _ _ (λh=>ww h) ?_;clear hK K;try simp only[Zo,Yw,Yz,Yy]
   refine anyTill.done kR ?_ _;obtain⟨q1,q2⟩:=H.out;have q0:=H0.out;subst q1 q2 q0;go_wp2;go_roundg (val y0 y1 y2 y3+top*val y4 y5 y6 y7)
   case measure=>rw[<-HY.out];exact HL.1
   case rel =>
    refine⟨y0,y1,y2,y3,y4,y5,y6,y7,⟨?_,?_,?_,?_,hy0,hy1,hy2,hy3,hy4,hy5,hy6,hy7⟩,Z,?_⟩
    .exact wO HB.out Q1.out
    .exact fr.other8 n01.symm _ _ _ _ _ _ _ _
    .exact wi.self8 y0 y1 y2 y3 y4 y5 y6 y7
    .exact re.other8 n12 _ _ _ _ _ _ _ _
    .rw[E,<-HY.out,<-HE.out];exact HL.2
def eY{i s:I}(h:Kept w k [⟨k,0,p0,p1,p2,g⟩,⟨k,4,i,c1,c2,j⟩,⟨f,0,a,b,c,d⟩,⟨e,0,p,q,r,s⟩] W):W.cell? ⟨k,0,G⟩=F (U p0)/\W.cell? ⟨k,1,G⟩=F (U p1)/\W.cell? ⟨k,2,G⟩=F (U p2)/\W.cell? ⟨k,3,G⟩=F (U g)/\W.cell? ⟨k,4,G⟩=F (U i)/\W.cell? ⟨k,5,G⟩=F (U c1)/\W.cell? ⟨k,6,G⟩=F (U c2)/\W.cell? ⟨k,7,G⟩=F (U j)/\W.cell? ⟨f,0,G⟩=F (U a)/\W.cell? ⟨f,1,G⟩=F (U b)/\W.cell? ⟨f,2,G⟩=F (U c)/\W.cell? ⟨f,3,G⟩=F (U d)/\W.cell? ⟨e,0,G⟩=F (U p)/\W.cell? ⟨e,1,G⟩=F (U q)/\W.cell? ⟨e,2,G⟩=F (U r)/\W.cell? ⟨e,3,G⟩=F (U s)/\Kept w k [⟨k,0,p0,p1,p2,g⟩,⟨k,4,i,c1,c2,j⟩,⟨f,0,a,b,c,d⟩,⟨e,0,p,q,r,s⟩] W:=
 ⟨h.head.c0,h.head.c1,h.head.c2,h.head.c3,h.tail.head.c0,h.tail.head.c1,h.tail.head.c2,h.tail.head.c3,h.tail.tail.head.c0,h.tail.tail.head.c1,h.tail.tail.head.c2,h.tail.tail.head.c3,h.tail.tail.tail.head.c0,h.tail.tail.tail.head.c1,h.tail.tail.tail.head.c2,h.tail.tail.tail.head.c3,h⟩
def My(p0 p1 p2 f g c1 c2 i P:I)(x y:Yq)(m n:I)(T:p0<2^64)(V:p1<2^64)(h8:p2<2^64)(h5:f<2^64)
 (L:g<2^64) (h7:c1<2^64) (K:c2<2^64) (h6:i<2^64) (eP:P=val p0 p1 p2 f) (hP:P+val g c1 c2 i=top) (N:top<2*P) (hx:zh x m) (hy:zh y n) (w:Yp) :
 Zl prog 33 #[.agg #[.int .u64 p0,.int .u64 p1,.int .u64 p2,.int .u64 f,.int .u64 g,.int .u64 c1,.int .u64 c2,.int .u64 i],x,y] w (Ret λe w'=>Below w.heap.size w w'/\zh e (m*n%P)):=by
 obtain⟨a,b,c,d,rfl,ha,hb,hc,hd,em⟩:=id hx;obtain⟨p,q,r,s,rfl,hp,hq,hr,hs,en⟩:=id hy;have HX:E (zh _ _):=hx;have HY:E (zh _ _):=hy;have HL:E (∀(v:Yq) (k:I) (w:Yp),nD v k->Zl prog 101 #[.agg #[.int .u64 p0,.int .u64 p1,.int .u64 p2,.int .u64 f,.int .u64 g,.int .u64 c1,.int .u64 c2,.int .u64 i],v] w (Ret λe w'=>Below w.heap.size w w'/\zh e (k%P))):=
  λv k w hv=>uQ p0 p1 p2 f g c1 c2 i P v k T V h8 h5 L h7 K h6 eP hP N hv w
 clear em en hx hy ha hb hc hd hp hq hr hs T V h8 h5 L h7 K h6 eP hP N;go_enter func33,ntmps33;go_wp2_with fail
 have FR:=((((At8.made w 58 p0 p1 p2 f g c1 c2 i Z).alloc (.cells #[.int .u64 a,.int .u64 b,.int .u64 c,.int .u64 d] 54)).alloc (.cells #[.int .u64 p,.int .u64 q,.int .u64 r,.int .u64 s] 54)).alloc (.cells #[.int .u64 0,.int .u64 0,.int .u64 0,.int .u64 0] 54))
 have X:=(((At4.made (w.alloc (.cells #[.int .u64 p0,.int .u64 p1,.int .u64 p2,.int .u64 f,.int .u64 g,.int .u64 c1,.int .u64 c2,.int .u64 i] 58)) 54 a b c d (YE _ _)).alloc (.cells #[.int .u64 p,.int .u64 q,.int .u64 r,.int .u64 s] 54)).alloc (.cells #[.int .u64 0,.int .u64 0,.int .u64 0,.int .u64 0] 54))
 have Y:=((At4.made ((w.alloc (.cells #[.int .u64 p0,.int .u64 p1,.int .u64 p2,.int .u64 f,.int .u64 g,.int .u64 c1,.int .u64 c2,.int .u64 i] 58)).alloc (.cells #[.int .u64 a,.int .u64 b,.int .u64 c,.int .u64 d] 54)) 54 p q r s (k:=w.heap.size+1+1) (by simp)).alloc (.cells #[.int .u64 0,.int .u64 0,.int .u64 0,.int .u64 0] 54))
 have T3:=At4.made (((w.alloc (.cells #[.int .u64 p0,.int .u64 p1,.int .u64 p2,.int .u64 f,.int .u64 g,.int .u64 c1,.int .u64 c2,.int .u64 i] 58)).alloc (.cells #[.int .u64 a,.int .u64 b,.int .u64 c,.int .u64 d] 54)).alloc (.cells #[.int .u64 p,.int .u64 q,.int .u64 r,.int .u64 s] 54)) 54 0 0 0 0 (k:=w.heap.size+1+1+1) (by simp);have j:=((((Kept.mk1 (iN w (.cells #[.int .u64 p0,.int .u64 p1,.int .u64 p2,.int .u64 f,.int .u64 g,.int .u64 c1,.int .u64 c2,.int .u64 i] 58) (.cells #[.int .u64 a,.int .u64 b,.int .u64 c,.int .u64 d] 54) (.cells #[.int .u64 p,.int .u64 q,.int .u64 r,.int .u64 s] 54) (.cells #[.int .u64 0,.int .u64 0,.int .u64 0,.int .u64 0] 54)) (iN w (.cells #[.int .u64 p0,.int .u64 p1,.int .u64 p2,.int .u64 f,.int .u64 g,.int .u64 c1,.int .u64 c2,.int .u64 i] 58) (.cells #[.int .u64 a,.int .u64 b,.int .u64 c,.int .u64 d] 54) (.cells #[.int .u64 p,.int .u64 q,.int .u64 r,.int .u64 s] 54) (.cells #[.int .u64 0,.int .u64 0,.int .u64 0,.int .u64 0] 54)).size).cons Y.blk).cons X.blk).cons (x:=⟨w.heap.size,4,g,c1,c2,i⟩) ⟨FR.c4,FR.c5,FR.c6,FR.c7,FR.fz⟩).cons (x:=⟨w.heap.size,0,p0,p1,p2,f⟩) ⟨FR.c0,FR.c1,FR.c2,FR.c3,FR.fz⟩;simp only[Zt]at T3;clear FR X Y;generalize Z4 _ _=W0 at j T3⊢;generalize h3:w.heap.size+1+1+1=k3 at T3⊢;generalize h2:w.heap.size+1+1=C at j⊢;generalize h1:w.heap.size+1=A at j⊢;have Q3:E (w.heap.size<=k3):=by unfold E;omega
 generalize h0:w.heap.size=l at j Q3⊢;have h4:∀x∈([⟨l,0,p0,p1,p2,f⟩,⟨l,4,g,c1,c2,i⟩,⟨A,0,a,b,c,d⟩,⟨C,0,p,q,r,s⟩]:H Blk),k3≠x.k:=by simp only[Zb,YI,or_false];rintro x (rfl|rfl|rfl|rfl)<;>simp only<;>omega
 let⟨O,W,Q,M,tf⟩:=id T3
 have zt:=T3.lt;go_region_held3 (λw'=>w'.cell? ⟨l,0,G⟩=F (.int .u64 p0)/\w'.cell? ⟨l,1,G⟩=F (.int .u64 p1)/\w'.cell? ⟨l,2,G⟩=F (.int .u64 p2)/\w'.cell? ⟨l,3,G⟩=F (.int .u64 f)/\w'.cell? ⟨l,4,G⟩=F (.int .u64 g)/\w'.cell? ⟨l,5,G⟩=F (.int .u64 c1)/\w'.cell? ⟨l,6,G⟩=F (.int .u64 c2)/\w'.cell? ⟨l,7,G⟩=F (.int .u64 i)/\w'.cell? ⟨A,0,G⟩=F (.int .u64 a)/\w'.cell? ⟨A,1,G⟩=F (.int .u64 b)/\w'.cell? ⟨A,2,G⟩=F (.int .u64 c)/\w'.cell? ⟨A,3,G⟩=F (.int .u64 d)/\w'.cell? ⟨C,0,G⟩=F (.int .u64 p)/\w'.cell? ⟨C,1,G⟩=F (.int .u64 q)/\w'.cell? ⟨C,2,G⟩=F (.int .u64 r)/\w'.cell? ⟨C,3,G⟩=F (.int .u64 s)/\Kept w l [⟨l,0,p0,p1,p2,f⟩,⟨l,4,g,c1,c2,i⟩,⟨A,0,a,b,c,d⟩,⟨C,0,p,q,r,s⟩] w') (first|exact eY j|exact eY j.drew|exact eY (j.set4' Q3 h4 _ _ _ _)|exact eY (j.set4' Q3 h4 _ _ _ _).drew) (first|(go_at_call 102;apply(mD _ _ _ _ HX HY _).mono;rintro e w1 ⟨v,rfl,z,o⟩;obtain⟨x0,x1,x2,x3,x4,x5,x6,x7,rfl,hn,k6,hu,k7,hj,hk,ht,k4,hi⟩:=id o;clear hi;have he:E (nD _ _):=o;clear o;replace j:=j.cl z;replace T3:=T3.cl z;clear z;let⟨O,W,Q,M,tf⟩:=id T3;have zt:=T3.lt)|(go_at_call 101;apply(HL _ _ _ he).mono;rintro e w2 ⟨v,rfl,t,u⟩;obtain⟨a',b',c',d',rfl,hw,hz,hm,k5,h9⟩:=id u;clear h9;have hg:E (zh _ _):=u;clear u;replace j:=j.cl t;replace T3:=T3.cl t;clear t;let⟨O,W,Q,M,tf⟩:=id T3;have zt:=T3.lt))
 go_wp2;have RF:=T3.self4 a' b' c' d';unfold set4 at RF;refine YB (by simp[results,Tryz.results33,go_sem,RF.c0,RF.c1,RF.c2,RF.c3];rfl) Z ?_;refine⟨_,Z,?_,hg⟩;rw[(mk1 h0).out];exact aE j.bl Q3
def Four.eight(h:zh (.agg #[uZ a,uZ b,uZ c,uZ d]) m):
 nD (.agg #[uZ a,uZ b,uZ c,uZ d,uZ 0,uZ 0,uZ 0,uZ 0]) m:=by
 obtain⟨p,q,r,s,e,k,g,f,hs,rfl⟩:=h;simp only[Y8.injEq,uo.injEq,qn.injEq,ZO.injEq,true_and,and_true,yi]at e;obtain⟨rfl,rfl,rfl,rfl⟩:=e;exact⟨a,b,c,d,0,0,0,0,Z,k,g,f,hs,dC,dC,dC,dC,Z⟩
def Lk{u:Yq}(hx:zh v m)(k:zh u n):m+n<top*top:=by
 have h1:=hx.lt;have c:=k.lt;have b:top+top<=top*top:=by unfold top;decide
 omega
def MD(p0 p1 p2 f g c1 c2 i P:I)(x y:Yq)(m n:I)(T:p0<2^64)(V:p1<2^64)(h8:p2<2^64)(h5:f<2^64)
 (L:g<2^64) (h7:c1<2^64) (K:c2<2^64) (h6:i<2^64) (eP:P=val p0 p1 p2 f) (hP:P+val g c1 c2 i=top) (N:top<2*P) (hx:zh x m) (hy:zh y n) (w:Yp) :
 Zl prog 35 #[.agg #[.int .u64 p0,.int .u64 p1,.int .u64 p2,.int .u64 f,.int .u64 g,.int .u64 c1,.int .u64 c2,.int .u64 i],x,y] w (Ret λe w'=>Below w.heap.size w w'/\zh e ((m+n)%P)):=by
 obtain⟨a,b,c,d,rfl,ha,hb,hc,hd,em⟩:=id hx;obtain⟨p,q,r,s,rfl,hp,hq,hr,hs,en⟩:=id hy;have HX:E (zh _ _):=hx;have HY:E (zh _ _):=hy;have HL:E (∀(v:Yq) (k:I) (w:Yp),nD v k->Zl prog 101 #[.agg #[.int .u64 p0,.int .u64 p1,.int .u64 p2,.int .u64 f,.int .u64 g,.int .u64 c1,.int .u64 c2,.int .u64 i],v] w (Ret λe w'=>Below w.heap.size w w'/\zh e (k%P))):=
  λv k w hv=>uQ p0 p1 p2 f g c1 c2 i P v k T V h8 h5 L h7 K h6 eP hP N hv w
 clear em en hx hy ha hb hc hd hp hq hr hs T V h8 h5 L h7 K h6 eP hP N;go_enter func35,ntmps35;go_wp2_with fail
 have FR:=((((At8.made w 58 p0 p1 p2 f g c1 c2 i Z).alloc (.cells #[.int .u64 a,.int .u64 b,.int .u64 c,.int .u64 d] 54)).alloc (.cells #[.int .u64 p,.int .u64 q,.int .u64 r,.int .u64 s] 54)).alloc (.cells #[.int .u64 0,.int .u64 0,.int .u64 0,.int .u64 0] 54))
 have X:=(((At4.made (w.alloc (.cells #[.int .u64 p0,.int .u64 p1,.int .u64 p2,.int .u64 f,.int .u64 g,.int .u64 c1,.int .u64 c2,.int .u64 i] 58)) 54 a b c d (YE _ _)).alloc (.cells #[.int .u64 p,.int .u64 q,.int .u64 r,.int .u64 s] 54)).alloc (.cells #[.int .u64 0,.int .u64 0,.int .u64 0,.int .u64 0] 54))
 have Y:=((At4.made ((w.alloc (.cells #[.int .u64 p0,.int .u64 p1,.int .u64 p2,.int .u64 f,.int .u64 g,.int .u64 c1,.int .u64 c2,.int .u64 i] 58)).alloc (.cells #[.int .u64 a,.int .u64 b,.int .u64 c,.int .u64 d] 54)) 54 p q r s (k:=w.heap.size+1+1) (by simp)).alloc (.cells #[.int .u64 0,.int .u64 0,.int .u64 0,.int .u64 0] 54))
 have T3:=At4.made (((w.alloc (.cells #[.int .u64 p0,.int .u64 p1,.int .u64 p2,.int .u64 f,.int .u64 g,.int .u64 c1,.int .u64 c2,.int .u64 i] 58)).alloc (.cells #[.int .u64 a,.int .u64 b,.int .u64 c,.int .u64 d] 54)).alloc (.cells #[.int .u64 p,.int .u64 q,.int .u64 r,.int .u64 s] 54)) 54 0 0 0 0 (k:=w.heap.size+1+1+1) (by simp);have j:=((((Kept.mk1 (iN w (.cells #[.int .u64 p0,.int .u64 p1,.int .u64 p2,.int .u64 f,.int .u64 g,.int .u64 c1,.int .u64 c2,.int .u64 i] 58) (.cells #[.int .u64 a,.int .u64 b,.int .u64 c,.int .u64 d] 54) (.cells #[.int .u64 p,.int .u64 q,.int .u64 r,.int .u64 s] 54) (.cells #[.int .u64 0,.int .u64 0,.int .u64 0,.int .u64 0] 54)) (iN w (.cells #[.int .u64 p0,.int .u64 p1,.int .u64 p2,.int .u64 f,.int .u64 g,.int .u64 c1,.int .u64 c2,.int .u64 i] 58) (.cells #[.int .u64 a,.int .u64 b,.int .u64 c,.int .u64 d] 54) (.cells #[.int .u64 p,.int .u64 q,.int .u64 r,.int .u64 s] 54) (.cells #[.int .u64 0,.int .u64 0,.int .u64 0,.int .u64 0] 54)).size).cons Y.blk).cons X.blk).cons (x:=⟨w.heap.size,4,g,c1,c2,i⟩) ⟨FR.c4,FR.c5,FR.c6,FR.c7,FR.fz⟩).cons (x:=⟨w.heap.size,0,p0,p1,p2,f⟩) ⟨FR.c0,FR.c1,FR.c2,FR.c3,FR.fz⟩;simp only[Zt]at T3;clear FR X Y;generalize Z4 _ _=W0 at j T3⊢;generalize h3:w.heap.size+1+1+1=k3 at T3⊢;generalize h2:w.heap.size+1+1=C at j⊢;generalize h1:w.heap.size+1=A at j⊢;have Q3:E (w.heap.size<=k3):=by unfold E;omega
 generalize h0:w.heap.size=l at j Q3⊢;have h4:∀x∈([⟨l,0,p0,p1,p2,f⟩,⟨l,4,g,c1,c2,i⟩,⟨A,0,a,b,c,d⟩,⟨C,0,p,q,r,s⟩]:H Blk),k3≠x.k:=by simp only[Zb,YI,or_false];rintro x (rfl|rfl|rfl|rfl)<;>simp only<;>omega
 let⟨O,W,Q,M,tf⟩:=id T3
 have zt:=T3.lt;go_region_held3 (λw'=>w'.cell? ⟨l,0,G⟩=F (.int .u64 p0)/\w'.cell? ⟨l,1,G⟩=F (.int .u64 p1)/\w'.cell? ⟨l,2,G⟩=F (.int .u64 p2)/\w'.cell? ⟨l,3,G⟩=F (.int .u64 f)/\w'.cell? ⟨l,4,G⟩=F (.int .u64 g)/\w'.cell? ⟨l,5,G⟩=F (.int .u64 c1)/\w'.cell? ⟨l,6,G⟩=F (.int .u64 c2)/\w'.cell? ⟨l,7,G⟩=F (.int .u64 i)/\w'.cell? ⟨A,0,G⟩=F (.int .u64 a)/\w'.cell? ⟨A,1,G⟩=F (.int .u64 b)/\w'.cell? ⟨A,2,G⟩=F (.int .u64 c)/\w'.cell? ⟨A,3,G⟩=F (.int .u64 d)/\w'.cell? ⟨C,0,G⟩=F (.int .u64 p)/\w'.cell? ⟨C,1,G⟩=F (.int .u64 q)/\w'.cell? ⟨C,2,G⟩=F (.int .u64 r)/\w'.cell? ⟨C,3,G⟩=F (.int .u64 s)/\Kept w l [⟨l,0,p0,p1,p2,f⟩,⟨l,4,g,c1,c2,i⟩,⟨A,0,a,b,c,d⟩,⟨C,0,p,q,r,s⟩] w') (first|exact eY j|exact eY j.drew|exact eY (j.set4' Q3 h4 _ _ _ _)|exact eY (j.set4' Q3 h4 _ _ _ _).drew) (first|(go_at_call 103;apply(uM _ _ _ _ (Four.eight HX) (Four.eight HY) (Lk HX HY) _).mono;rintro e w1 ⟨v,rfl,z,o⟩;obtain⟨x0,x1,x2,x3,x4,x5,x6,x7,rfl,hn,k6,hu,k7,hj,hk,ht,k4,hi⟩:=id o;clear hi;have he:E (nD _ _):=o;clear o;replace j:=j.cl z;replace T3:=T3.cl z;clear z;let⟨O,W,Q,M,tf⟩:=id T3;have zt:=T3.lt)|(go_at_call 101;apply(HL _ _ _ he).mono;rintro e w2 ⟨v,rfl,t,u⟩;obtain⟨a',b',c',d',rfl,hw,hz,hm,k5,h9⟩:=id u;clear h9;have hg:E (zh _ _):=u;clear u;replace j:=j.cl t;replace T3:=T3.cl t;clear t;let⟨O,W,Q,M,tf⟩:=id T3;have zt:=T3.lt))
 go_wp2;have RF:=T3.self4 a' b' c' d';unfold set4 at RF;refine YB (by simp[results,Tryz.results35,go_sem,RF.c0,RF.c1,RF.c2,RF.c3];rfl) Z ?_;refine⟨_,Z,?_,hg⟩;rw[(mk1 h0).out];exact aE j.bl Q3
def Gh(x y:Yq)(m n:I)(hx:zh x m)(j:zh y n)(w:Yp):
 eZ 166 #[x,y] w (.bool (decide (m<n))):=by
 obtain⟨a,b,c,d,rfl,ha,W,hc,hd,V⟩:=id hx;obtain⟨p,q,r,s,rfl,L,hq,P,hs,en⟩:=id j;have u:=mk1 (hx);have i:=mk1 (j);go_enter func166,ntmps166;go_wp2_with fail
 apply(pK _ _ _ _ u i _).mono;rintro e X ⟨v,rfl,g,v2,t,k,rfl,l,N,O⟩;have f:=mk1 ((below2 w _ _).trans (g.mono (below2 w _ _).size));have hd:decide (m<n)=decide (k=1):=by
  have h1:=l.lt;have z:=u.lt;have o:=i.lt;have:k=0\/k=1:=S;rcases this with rfl|rfl
  .rw[decide_eq_false S,decide_eq_false S]
  rw[decide_eq_true S,decide_eq_true Z]
 have o:=mk1 (hd);obtain⟨M,Q,c',d',rfl,A,C,K,z,T⟩:=id l;have:k=0\/k=1:=S;rcases this with rfl|rfl
 .go_wp2;go_ret;exact⟨_,Z,f.alloc f.size _,by rw[o.out];rfl⟩
 go_wp2;go_ret;exact⟨_,Z,f.alloc f.size _,by rw[o.out];rfl⟩
def At4.setq(h:At4 w k a b c d)(q o:I)(f:q<4):
 At4 (w.setCell ⟨k,q,G⟩ (uZ o)) k (if q=0 then o else a) (if q=1 then o else b) (if q=2 then o else c) (if q=3 then o else d):=by
 have e:q=0\/q=1\/q=2\/q=3:=S;rcases e with rfl|rfl|rfl|rfl
 .exact h.set0 o
 .exact h.set1 o
 .exact h.set2 o
 exact h.set3 o
def P7{M B:I}(e:a<2^64)(j:b<2^64)(f:c<2^64)(hd:d<2^64)(m:k<32)(l:B<256)(hv:val a b c d=M*256^(k+1)):
 bits .or .u64 (wd a b c d (k/8):Y) ((B*2^(8*(k%8)):I):Y)=((wd a b c d (k/8)+B*2^(8*(k%8)):I):Y)/\wd a b c d (k/8)+B*2^(8*(k%8))<2^64:=by
 have h1:wd a b c d (k/8)=256^(k%8+1)*(M%256^(7-k%8)):=by
  rw[Lv (k/8) S e j f hd,hv,TU Z Z]
 let⟨i,g⟩:=VY (y:=M%256^(7-k%8)) (x:=B) (r:=k%8) S l (ZL _ (oE dC))
 rw[h1];refine⟨?_,g⟩;rw[wy _ _ S S,i]
def P8{B:I}(f:k<32)(ho:o=wd a b c d (k/8)+B*2^(8*(k%8))):
 val (if k/8=0 then o else a) (if k/8=1 then o else b) (if k/8=2 then o else c) (if k/8=3 then o else d)=val a b c d+B*256^k:=by
 have h:=Ig a b c d (k/8) o S;have e:(256:I)^k=2^(64*(k/8))*2^(8*(k%8)):=by
  rw[<-ox,show 64*(k/8)+8*(k%8)=8*k by omega,I.pow_mul]
 rw[ho,pi,<-kI,Ze (2^(64*(k/8))) B,kI,<-e]at h;rw[ho];omega
def Oa{i:I}(k:i<s.size):beV (s.data.extract 0 (i+1)).toList=beV (s.data.extract 0 i).toList*256+s[i].toNat:=by
 have e:(s.data.extract 0 (i+1)).toList=(s.data.extract 0 i).toList++[s[i]]:=by
  rw[yt.extract_succ_right S k,yt.toList_push];rfl
 rw[e,fK];simp[beV]
def Ix(s:R)(hs:s.size=32)(w:Yp):
 Zl prog 165 #[.string s] w (rZ w λe w'=>zh e (beV s.data.toList)):=by
 go_enter func165,ntmps165;go_wp2;have f:=((Kept.mk1 (below2 w (.cells #[U 0,U 0,U 0,U 0] 54) (.cells #[U 0,U 0,U 0,U 0] 54)) (below2 w _ _).size).cons ((At4.made w 54 0 0 0 0 Z).alloc (.cells #[U 0,U 0,U 0,U 0] 54)).blk).cons (At4.made (w.alloc (.cells #[U 0,U 0,U 0,U 0] 54)) 54 0 0 0 0 (YE _ _)).blk;generalize h1:w.heap.size+1=z at f⊢;have A:z≠w.heap.size:=S;have X:E (w.heap.size<=z):=by unfold E;omega
 go_loopg [4] 32 (λgk s4 wr=>∃i a b c d:I,i+gk=32/\s4=iZ i/\Kept w w.heap.size [⟨z,0,a,b,c,d⟩,⟨w.heap.size,0,0,0,0,0⟩] wr/\E (zh (.agg #[U a,U b,U c,U d]) (beV (s.data.extract 0 i).toList*256^(32-i))))
 case atStart =>
  refine⟨0,0,0,0,0,Z,Z,f,?_⟩;have:beV (s.data.extract 0 0).toList=0:=by simp[beV]
  rw[this,I.zero_mul];exact Four.mk dC dC dC dC Z
 case round =>
  obtain⟨i,a,b,c,d,hi,rfl,f,N⟩:=hrel;by_cases h0:i<32
  .obtain⟨k,hk⟩:∃k,31-i=k:=⟨_,Z⟩
   have n:k<32:=S;have l:i<s.size:=S;have m:val a b c d=beV (s.data.extract 0 i).toList*256^(k+1)/\a<18446744073709551616/\b<18446744073709551616/\c<18446744073709551616/\d<18446744073709551616:=by
    obtain⟨p,C,c',K,e',h1,M,L,u,g⟩:=N.out;obtain⟨rfl,rfl,rfl,rfl⟩:p=a/\C=b/\c'=c/\K=d:=by
     simp only[Y8.injEq,uo.injEq,qn.injEq,ZO.injEq,true_and,and_true,yi]at e';exact⟨e'.1.symm,e'.2.1.symm,e'.2.2.1.symm,e'.2.2.2.symm⟩
    exact⟨by rw[<-g,show 32-i=k+1 by omega],h1,M,L,u⟩
   obtain⟨B,M⟩:∃B,s[i].toNat=B:=⟨_,Z⟩
   have p:=M ▸ s[i].toNat_lt;obtain⟨hor,g⟩:=P7 m.2.1 m.2.2.1 m.2.2.2.1 m.2.2.2.2 n p m.1;have L:=f.head.at4.wd (k/8) S;obtain⟨o,ho⟩:∃o,wd a b c d (k/8)+B*2^(8*(k%8))=o:=⟨_,Z⟩
   rw[ho]at hor g;have C:=P8 (a:=a) (b:=b) (c:=c) (d:=d) n ho.symm;have u:E (zh (.agg #[U ((if k/8=0 then o else a:I):Y),U ((if k/8=1 then o else b:I):Y),U ((if k/8=2 then o else c:I):Y),U ((if k/8=3 then o else d:I):Y)]) (beV (s.data.extract 0 (i+1)).toList*256^(32-(i+1)))):=by
    refine Four.mk ?_ ?_ ?_ ?_ ?_
    .split;exact g;exact m.2.1
    .split;exact g;exact m.2.2.1
    .split;exact g;exact m.2.2.2.1
    .split;exact g;exact m.2.2.2.2
    .rw[C,m.1,Oa (s:=s) (i:=i) l,M,show 32-(i+1)=k by omega,ph,Z5,kI,Ze (256^k) 256]
   obtain⟨y,O⟩:∃y,B*2^(8*(k%8))=y:=⟨_,Z⟩
   rw[O]at hor;obtain⟨v,hv⟩:∃v,wd a b c d (k/8)=v:=⟨_,Z⟩
   rw[hv]at hor L;obtain⟨q,hq⟩:∃q,k/8=q:=⟨_,Z⟩
   obtain⟨r,Q⟩:∃r,k%8=r:=⟨_,Z⟩
   obtain⟨t,T⟩:∃t,8*r=t:=⟨_,Z⟩
   have K:q<4:=S;have W:=λ(v:Yq)=>f.tail.set (j:=z) (i:=q) X.out (by simp only[Zb,YI,or_false];rintro x rfl;exact A) v
   rw[hq]at L u;have P:Zk.wrap ((B:Y)*2^t)=(y:Y):=by
    rw[<-T,<-Q,<-O,py,sy];have:=wrapN (a:=(B*2^(8*(k%8)))) S;rw[py,sy]at this;exact this
   have V:=f.head.at4.setq q o K;have z1:=f.head.lt;have xf:=f.head.f;go_wp2;go_region
   go_wp2;go_roundg (gk-1)
   case measure=>omega
   case rel =>
    refine⟨i+1,_,_,_,_,S,Z,?_,u⟩;exact((W _).cons V.blk).drew
  .have l:i=32:=S;subst l;have m:s.data.extract 0 32=s.data:=by
    rw[<-hs];exact yt.extract_size
   have h1:=N.out;rw[oF,gF,ay,m]at h1;obtain⟨p,L,M,C,P⟩:=f.head.at4;obtain⟨K,O,u,n,Q⟩:=f.tail.head.at4;have z1:=f.head.lt;have T:=f.tail.head.lt;go_wp2;have g:=f.tail.head.at4.self4 a b c d;unfold set4 at g;refine YB (by simp[results,Tryz.results165,go_sem,g.c0,g.c1,g.c2,g.c3];rfl) Z ?_;exact⟨_,Z,aE f.bl (Ys _),(mk1 h1).out⟩
def Uh(w:Yp)(p0 p1 p2 f e c1 c2 k a b c d p q r s:I):
 Kept w w.heap.size [⟨w.heap.size,0,p0,p1,p2,f⟩,⟨w.heap.size,4,e,c1,c2,k⟩,⟨w.heap.size+1,0,a,b,c,d⟩,⟨w.heap.size+1+1,0,p,q,r,s⟩,⟨w.heap.size+1+1+1,0,0,0,0,0⟩]
  ((((w.alloc (.cells #[U p0,U p1,U p2,U f,U e,U c1,U c2,U k] 58)).alloc (.cells #[U a,U b,U c,U d] 54)).alloc (.cells #[U p,U q,U r,U s] 54)).alloc (.cells #[U 0,U 0,U 0,U 0] 54)):=by
 have F:=(((At8.made w 58 p0 p1 p2 f e c1 c2 k Z).alloc (.cells #[U a,U b,U c,U d] 54)).alloc (.cells #[U p,U q,U r,U s] 54)).alloc (.cells #[U 0,U 0,U 0,U 0] 54);refine(((((Kept.mk1 (iN w _ _ _ _) (iN w _ _ _ _).size).cons ?_).cons ?_).cons ?_).cons ?_).cons ?_
 .exact(At4.made _ 54 0 0 0 0 (by simp)).blk
 .exact((At4.made _ 54 p q r s (by simp)).alloc _).blk
 .exact(((At4.made _ 54 a b c d (by simp)).alloc _).alloc _).blk
 .exact⟨F.c4,F.c5,F.c6,F.c7,F.fz⟩
 exact⟨F.c0,F.c1,F.c2,F.c3,F.fz⟩
def GL(w:Yp)(p0 p1 p2 f e c1 c2 k a b c d:I):
 Kept w w.heap.size [⟨w.heap.size,0,p0,p1,p2,f⟩,⟨w.heap.size,4,e,c1,c2,k⟩,⟨w.heap.size+1,0,a,b,c,d⟩,⟨w.heap.size+1+1,0,0,0,0,0⟩]
  (((w.alloc (.cells #[U p0,U p1,U p2,U f,U e,U c1,U c2,U k] 58)).alloc (.cells #[U a,U b,U c,U d] 54)).alloc (.cells #[U 0,U 0,U 0,U 0] 54)):=by
 have F:=((At8.made w 58 p0 p1 p2 f e c1 c2 k Z).alloc (.cells #[U a,U b,U c,U d] 54)).alloc (.cells #[U 0,U 0,U 0,U 0] 54);refine((((Kept.mk1 (below3 (w:=w) _ _ _) (below3 _ _ _).size).cons ?_).cons ?_).cons ?_).cons ?_
 .exact(At4.made _ 54 0 0 0 0 (by simp)).blk
 .exact((At4.made _ 54 a b c d (by simp)).alloc _).blk
 .exact⟨F.c4,F.c5,F.c6,F.c7,F.fz⟩
 exact⟨F.c0,F.c1,F.c2,F.c3,F.fz⟩
def Ui(w:Yp)(p0 p1 p2 c b c1 c2 k:I):
 Kept w w.heap.size [⟨w.heap.size,0,p0,p1,p2,c⟩,⟨w.heap.size,4,b,c1,c2,k⟩,⟨w.heap.size+1,0,0,0,0,0⟩] ((w.alloc (.cells #[U p0,U p1,U p2,U c,U b,U c1,U c2,U k] 58)).alloc (.cells #[U 0,U 0,U 0,U 0] 54)):=by
 have F:=(At8.made w 58 p0 p1 p2 c b c1 c2 k Z).alloc (.cells #[U 0,U 0,U 0,U 0] 54);refine(((Kept.mk1 (below2 w _ _) (below2 w _ _).size).cons ?_).cons ?_).cons ?_
 .exact(At4.made _ 54 0 0 0 0 (by simp)).blk
 .exact⟨F.c4,F.c5,F.c6,F.c7,F.fz⟩
 exact⟨F.c0,F.c1,F.c2,F.c3,F.fz⟩
def nS(p0 p1 p2 l n c1 c2 s P:I)(x:R)(hR:RefP p0 p1 p2 l n c1 c2 s P)(w:Yp):
 dZ 85 #[.agg #[U p0,U p1,U p2,U l,U n,U c1,U c2,U s],.string x] w λe w'=>∃(a b c d:I) (ok:zk),e=.tuple #[.agg #[U a,U b,U c,U d],.bool ok]/\(ok=J->Sw P x.data/\zh (.agg #[U a,U b,U c,U d]) (beV x.data.toList))/\(ok=D->¬Sw P x.data)/\(x.size=32->zh (.agg #[U a,U b,U c,U d]) (beV x.data.toList))/\(¬x.size=32->a=0/\b=0/\c=0/\d=0):=by
 have i:=mk1 (hR);by_cases hs:x.size=32
 .have o:=mk1 (hs);have p:(x.size:Y)=32:=S;go_enter func85,ntmps85;go_wp2_with fail
  have f:=Ui w p0 p1 p2 l n c1 c2 s;apply(Ix x o _).mono;rintro e W ⟨v,rfl,m,u⟩;obtain⟨a,b,c,d,rfl,ha,hb,hc,hd,es⟩:=id u;have r:=mk1 (u);replace f:=f.call m;let⟨K,C,N,y,pf⟩:=f.head.at4
  have z0:=f.head.lt;have n0:=oA z0;go_wp2_with fail
  apply(Gh _ _ _ _ r (Four.mk i.hp0 i.hp1 i.hp2 i.hp3 i.eP) _).mono;rintro e w2 ⟨v,rfl,q,rfl⟩;have k:=((f.alloc (.cells #[U a,U b,U c,U d] 54)).cons (At4.made W 54 a b c d Z).blk).call q;have n4:=oA f.tail.tail.head.lt;let⟨L,T,V,O,nf⟩:=k.head.at4
  let⟨Q,X,M,A,rf⟩:=k.tail.tail.tail.head.at4
  have z5:=k.head.lt;have z1:=k.tail.tail.tail.head.lt;let⟨ok,g⟩:∃ok,decide (beV x.data.toList<P)=ok:=⟨_,Z⟩
  rw[g];have t:=mk1 (g);go_wp2;have j:=k.tail.tail.tail.head.at4.self4 a b c d;unfold set4 at j;refine YB (by simp[results,Tryz.results85,go_sem,j.c0,j.c1,j.c2,j.c3];rfl) Z ?_;refine⟨_,Z,aE k.bl (ue _),a,b,c,d,ok,Z,λh=>⟨⟨o,?_⟩,r⟩,λh z=>?_,λ_=>r,λh=>absurd o h⟩
  .exact of_decide_eq_true (t.trans h)
  have:=t;rw[h]at this;exact of_decide_eq_false this z.2
 have p:¬(x.size:Y)=32:=S;go_enter func85,ntmps85;go_wp2;refine YB (by simp[results,Tryz.results85,go_sem];rfl) Z ?_;exact⟨_,Z,below2 _ _ _,0,0,0,0,D,Z,λh=>ww h,λ_ h=>hs h.1,λh=>absurd h hs,λ_=>⟨Z,Z,Z,Z⟩⟩
def kG(_:n<2^64):eZ 22 #[U n] w (.agg #[U n,U 0,U 0,U 0]):=by
 go_enter func22,ntmps22;go_wp2;refine YB (by simp[results,Tryz.results22,go_sem];rfl) Z ?_;exact⟨_,Z,aD _,Z⟩
def tC(x:Yq)(m i:I)(hx:zh x m)(r:i<256)(w:Yp):dZ 106 #[x,iZ i] w λe w'=>∃t:I,e=U t/\t=m/2^i%2:=by
 obtain⟨a,b,c,d,rfl,n,l,o,hd,q⟩:=id hx;have p:=(At4.made w 54 a b c d Z).wd (i/64) S;have f:wd a b c d (i/64)<2^64:=Lu n l o hd;have k:wd a b c d (i/64)/2^(i%64)%2=m/2^i%2:=by rw[q];exact Fq (i:=i) r n l o hd
 have y:(i:Y).tdiv 64=((i/64:I):Y):=by rw[sI S];omega
 have s:(i:Y).tmod 64=((i%64:I):Y):=by rw[yBI S];omega
 have u:(i/64:I)<4:=S;generalize wd a b c d (i/64)=v at p f k;have g:bits .and .u64 ((v:Y)/2^(i%64)) 1=((m/2^i%2:I):Y):=by
  have:=and_one (v:=(v/2^(i%64))) (yDm (I.div_le_self _ _) f);rw[k]at this;rw[<-this,yCQ,sy];rfl
 obtain⟨t,j⟩:=vH (m/2^i%2);rw[j]at g;go_enter func106,ntmps106
 go_upto_region 1 with fail
 have zx:w.heap.size<(w.alloc (.cells #[U a,U b,U c,U d] 54)).heap.size:=by simp
 go_wp2;go_ret;exact⟨_,Z,aD (w:=w) (.cells #[U a,U b,U c,U d] 54),t,Z,(mk1 j.symm).out⟩
def Gz(k:a<2^64)(c:b<2^64):∃x:I,bits .or .u64 (a:Y) (b:Y)=(x:Y)/\(x=0↔a=0/\b=0)/\x<2^64:=
 ⟨a ||| b,wy a b k c,I.or_eq_zero_iff,yEA (n:=64) k c⟩
def pU(x:Yq)(m:I)(hx:zh x m)(w:Yp):eZ 94 #[x] w (.bool (decide (m=0))):=by
 obtain⟨a,b,c,d,rfl,i,g,j,hd,f⟩:=id hx;let⟨y,p,n,l1⟩:=Gz i g
 let⟨z,q,k,l2⟩:=Gz l1 j
 let⟨t,r,o,l3⟩:=Gz l2 hd
 have l:decide (m=0)=decide (t=0):=by
  rw[decide_eq_decide,o,k,n,f];unfold val;omega
 rw[l];go_enter func94,ntmps94;go_wp2;go_ret;exact⟨_,Z,aD _,by by_cases h:t=0<;>simp[h]⟩
def neg_val{s:I}(e:m<P)(_:P<top)(d:¬m=0)(hs:s<top)(c:k<=1)(h:s+m=P+top*k):s=(P-m)%P:=by
 have:k=0\/k=1:=S;rw[YL S];rcases this with b|b<;>rw[b]at h<;>omega
def D9(p0 p1 p2 p3 c0 c1 c2 c3 P : I)(x : Yq)(m : I)(hR : RefP p0 p1 p2 p3 c0 c1 c2 c3 P)(hx : zh x m)(hm : m < P)(w : Yp):
    dZ 87 #[.agg #[U (p0 : Y), U (p1 : Y), U (p2 : Y), U (p3 : Y), U (c0 : Y), U (c1 : Y), U (c2 : Y), U (c3 : Y)], x] w λe w'=>zh e ((P - m) % P) := by
  have HR : E (RefP p0 p1 p2 p3 c0 c1 c2 c3 P) := hR;have HX : E (zh x m) := hx;have HM : E (m < P) := hm;obtain⟨a, b, c, d, rfl, ha, hb, hc, hd, em⟩ := id hx;clear hR hx hm em ha hb hc hd;go_enter func87, ntmps87;go_wp2_with fail
  have KP := GL w p0 p1 p2 p3 c0 c1 c2 c3 a b c d;generalize Z4 _ _ = W0 at KP⊢;generalize h2 : w.heap.size + 1 + 1 = k2 at KP⊢;generalize h1 : w.heap.size + 1 = k1 at KP⊢;have Q2 : E (w.heap.size <= k2) := by unfold E; omega
  generalize h0 : w.heap.size = k0 at KP Q2⊢;have H0 := mk1 (h0);refine(pU _ _ HX.out _).mono ?_;rintro e w1 ⟨v, rfl, hb1, rfl⟩;replace KP := KP.call hb1;obtain⟨xc0, xc1, xc2, xc3, xf⟩ := KP.tail.tail.head.at4;have zx := KP.tail.tail.head.lt;by_cases hz : m = 0
  · have hd := decide_eq_true hz
    rw [hd];have HZ := mk1 (hz);obtain⟨rc0, rc1, rc2, rc3, rf⟩ := KP.tail.tail.tail.head.at4;have zr := KP.tail.tail.tail.head.lt;go_wp2;have RF := KP.tail.tail.tail.head.at4.self4 a b c d;unfold set4 at RF;refine YB (by simp [results, Tryz.results87, go_sem, RF.c0, RF.c1, RF.c2, RF.c3]; rfl) Z ?_;refine⟨_, rfl, by rw [H0.out]; exact aE KP.bl Q2.out, ?_⟩;have h1 := HX.out;rw [HZ.out]at h1⊢;rw [I.sub_zero, I.mod_self];exact h1
  · have hd := decide_eq_false hz
    rw [hd];obtain⟨fc0, fc1, fc2, fc3, ff⟩ := KP.head.at4;have zf := KP.head.lt;go_wp2_with fail
    refine(pK _ _ _ _ (Four.mk HR.hp0 HR.hp1 HR.hp2 HR.hp3 HR.eP) HX.out _).mono ?_;rintro e w2 ⟨v, rfl, hb2, v2, t, k, rfl, hF, hk, he⟩;have HF : E (zh v2 ((P - m) % P)) := by
      have h1 := neg_val HM.out (by have h3 := HR.hP; have h4 := HR.hP2; have h5 := HM.out; have h6 : 0 < val c0 c1 c2 c3 ∨ val c0 c1 c2 c3 = 0 := S
                                    rcases h6 with h6 | h6
                                    · omega
                                    · have h7 := Four.mk HR.hp0 HR.hp1 HR.hp2 HR.hp3 HR.eP
                                      exact h7.lt) (mk1 hz).out hF.lt hk he
      rw [<-h1]; exact hF
    obtain⟨ra, rb, rc, rd, rfl, -⟩ := id hF;replace KP := KP.call hb2;obtain⟨rc0, rc1, rc2, rc3, rf⟩ := KP.tail.tail.tail.head.at4;have zr := KP.tail.tail.tail.head.lt;go_wp2;have RF := (KP.tail.tail.tail.head.at4.self4 ra rb rc rd).alloc (.cells #[U (ra : Y), U (rb : Y), U (rc : Y), U (rd : Y)] 54);unfold set4 at RF;refine YB (by simp [results, Tryz.results87, go_sem, RF.c0, RF.c1, RF.c2, RF.c3]; rfl) Z ?_;refine⟨_, rfl, ?_, HF.out⟩;rw [H0.out];exact(aE KP.bl Q2.out).alloc (by simpa [set4]using KP.le) _
def uFq:yZ 58:=yQ
def iFq:gZ 58 8:=gQ
def rl1:H Yq:=[U 13822214165235122497,U 13451932020343611451,U 18446744073709551614,U 18446744073709551615,U 4624529908474429119,U 4994812053365940164,U 1,U 0]
def rv1:Yq:=.agg rl1.toArray
def MA:yy 86 #[iZ 1] rv1:=λw=>(Tu w).mono (by rintro e w' ⟨v,rfl,k,rfl⟩;exact⟨_,Z,k,Z⟩)
def Dm:yy 21 #[] rv1:=by
 intro w;go_enter func21,ntmps21;refine RG.M.enter [] 2 kR λa0 b=>?_
 refine Yt <| b.T [.m 0] [(0,RG.z 8)] [] [0] ⟨mk 0 58,yw⟩ λe i g c=>?_
 refine Yt <| c.T [.c rv1,.u 0] [] [(0,1,rl1)] [0] ⟨cl MA,RG.pt iFq,yw⟩ λd f k=>?_
 refine Zr<|YB (v:=rv1) (fM k.st Z Z (k.at (s:=(.p 0 0))) uFq iFq) k.sl.defers ?_
 exact⟨_,Z,k.st.bel.below,Z⟩
def nuV(bs:Bs):I:=if bs.size=32 then beV bs.toList else 0
def Tt(hR:RefP 13822214165235122497 13451932020343611451 18446744073709551614 18446744073709551615 4624529908474429119 4994812053365940164 1 0 N)(s:R):yy 85 #[rv1,.string s] (.tuple #[nv (nuV s.data),.bool (rq N s.data).isSome]):=λw =>
 (nS _ _ _ _ _ _ _ _ N s hR w).mono (by
  rintro e w' ⟨v,rfl,g,a,b,c,d,ok,rfl,h1,l,j,f⟩;refine⟨_,Z,g,?_⟩;unfold nuV rq;cases ok with
  | true =>
   let⟨k,i⟩:=h1 Z
   rw[zd (show s.data.size=32/\beV s.data.toList<N from k),zd (show s.data.size=32 from k.1),i.nv];rfl
  | false =>
   rw[zi (show ¬(s.data.size=32/\beV s.data.toList<N) from l Z)];by_cases hs:s.data.size=32
   .rw[zd hs,(j hs).nv];rfl
   rw[zi hs];obtain⟨rfl,rfl,rfl,rfl⟩:=f hs;rfl)
def Vx{bs:Bs}(h:rq N bs=F n):n=nuV bs:=by
 unfold rq at h;split at h
 .rename_i hc
  rw[nuV,zd hc.1];exact(YR.inj h).symm
 cases h
def Gi(hR:RefP p0 p1 p2 k b c1 c2 c P)(hx:zh x m)(d:zh y n):
 dZ 35 #[.agg #[U p0,U p1,U p2,U k,U b,U c1,U c2,U c],x,y] w λe w'=>zh e ((m+n)%P):=
 MD p0 p1 p2 k b c1 c2 c P x y m n hR.hp0 hR.hp1 hR.hp2 hR.hp3 hR.hc0 hR.hc1 hR.hc2 hR.hc3 hR.eP hR.hP hR.hP2 hx d w
def uP(hR:RefP p0 p1 p2 k b c1 c2 c P)(hx:zh x m)(d:zh y n):
 dZ 33 #[.agg #[U p0,U p1,U p2,U k,U b,U c1,U c2,U c],x,y] w λe w'=>zh e (m*n%P):=
 My p0 p1 p2 k b c1 c2 c P x y m n hR.hp0 hR.hp1 hR.hp2 hR.hp3 hR.hc0 hR.hc1 hR.hc2 hR.hc3 hR.eP hR.hP hR.hP2 hx d w
def O6(k:n<P):(m+(P-n)%P)%P=(m+P-n)%P:=by
 rw[rh,I.mod_mod,<-rh,show m+P-n=m+(P-n) by omega]
def D7(p0 p1 p2 f g c1 c2 i P:I)(x y:Yq)(m n:I)(hR:RefP p0 p1 p2 f g c1 c2 i P)(hx:zh x m)(hy:zh y n)(hn:n<P)(w:Yp):
 Zl prog 23 #[.agg #[.int .u64 p0,.int .u64 p1,.int .u64 p2,.int .u64 f,.int .u64 g,.int .u64 c1,.int .u64 c2,.int .u64 i],x,y] w (Ret λe w'=>Below w.heap.size w w'/\zh e ((m+P-n)%P)):=by
 obtain⟨a,b,c,d,rfl,ha,hb,hc,hd,em⟩:=id hx;obtain⟨p,q,r,s,rfl,hp,hq,hr,hs,en⟩:=id hy;have HX:E (zh _ _):=hx;have HY:E (zh _ _):=hy;have HR:E (RefP p0 p1 p2 f g c1 c2 i P):=hR;have HN:E (n<P):=hn;clear em en hx hy ha hb hc hd hp hq hr hs hR hn;go_enter func23,ntmps23;go_wp2_with fail
 have FR:=((((At8.made w 58 p0 p1 p2 f g c1 c2 i Z).alloc (.cells #[.int .u64 a,.int .u64 b,.int .u64 c,.int .u64 d] 54)).alloc (.cells #[.int .u64 p,.int .u64 q,.int .u64 r,.int .u64 s] 54)).alloc (.cells #[.int .u64 0,.int .u64 0,.int .u64 0,.int .u64 0] 54))
 have X:=(((At4.made (w.alloc (.cells #[.int .u64 p0,.int .u64 p1,.int .u64 p2,.int .u64 f,.int .u64 g,.int .u64 c1,.int .u64 c2,.int .u64 i] 58)) 54 a b c d (YE _ _)).alloc (.cells #[.int .u64 p,.int .u64 q,.int .u64 r,.int .u64 s] 54)).alloc (.cells #[.int .u64 0,.int .u64 0,.int .u64 0,.int .u64 0] 54))
 have Y:=((At4.made ((w.alloc (.cells #[.int .u64 p0,.int .u64 p1,.int .u64 p2,.int .u64 f,.int .u64 g,.int .u64 c1,.int .u64 c2,.int .u64 i] 58)).alloc (.cells #[.int .u64 a,.int .u64 b,.int .u64 c,.int .u64 d] 54)) 54 p q r s (k:=w.heap.size+1+1) (by simp)).alloc (.cells #[.int .u64 0,.int .u64 0,.int .u64 0,.int .u64 0] 54))
 have T3:=At4.made (((w.alloc (.cells #[.int .u64 p0,.int .u64 p1,.int .u64 p2,.int .u64 f,.int .u64 g,.int .u64 c1,.int .u64 c2,.int .u64 i] 58)).alloc (.cells #[.int .u64 a,.int .u64 b,.int .u64 c,.int .u64 d] 54)).alloc (.cells #[.int .u64 p,.int .u64 q,.int .u64 r,.int .u64 s] 54)) 54 0 0 0 0 (k:=w.heap.size+1+1+1) (by simp);have j:=((((Kept.mk1 (iN w (.cells #[.int .u64 p0,.int .u64 p1,.int .u64 p2,.int .u64 f,.int .u64 g,.int .u64 c1,.int .u64 c2,.int .u64 i] 58) (.cells #[.int .u64 a,.int .u64 b,.int .u64 c,.int .u64 d] 54) (.cells #[.int .u64 p,.int .u64 q,.int .u64 r,.int .u64 s] 54) (.cells #[.int .u64 0,.int .u64 0,.int .u64 0,.int .u64 0] 54)) (iN w (.cells #[.int .u64 p0,.int .u64 p1,.int .u64 p2,.int .u64 f,.int .u64 g,.int .u64 c1,.int .u64 c2,.int .u64 i] 58) (.cells #[.int .u64 a,.int .u64 b,.int .u64 c,.int .u64 d] 54) (.cells #[.int .u64 p,.int .u64 q,.int .u64 r,.int .u64 s] 54) (.cells #[.int .u64 0,.int .u64 0,.int .u64 0,.int .u64 0] 54)).size).cons Y.blk).cons X.blk).cons (x:=⟨w.heap.size,4,g,c1,c2,i⟩) ⟨FR.c4,FR.c5,FR.c6,FR.c7,FR.fz⟩).cons (x:=⟨w.heap.size,0,p0,p1,p2,f⟩) ⟨FR.c0,FR.c1,FR.c2,FR.c3,FR.fz⟩;simp only[Zt]at T3;clear FR X Y;generalize Z4 _ _=W0 at j T3⊢;generalize h3:w.heap.size+1+1+1=k3 at T3⊢;generalize h2:w.heap.size+1+1=C at j⊢;generalize h1:w.heap.size+1=A at j⊢;have T:E (w.heap.size<=k3):=by unfold E;omega
 generalize h0:w.heap.size=l at j T⊢;have O:∀x∈([⟨l,0,p0,p1,p2,f⟩,⟨l,4,g,c1,c2,i⟩,⟨A,0,a,b,c,d⟩,⟨C,0,p,q,r,s⟩]:H Blk),k3≠x.k:=by simp only[Zb,YI,or_false];rintro x (rfl|rfl|rfl|rfl)<;>simp only<;>omega
 let⟨L,N,M,K,tf⟩:=id T3
 have zt:=T3.lt;go_region_held3 (λw'=>w'.cell? ⟨l,0,G⟩=F (.int .u64 p0)/\w'.cell? ⟨l,1,G⟩=F (.int .u64 p1)/\w'.cell? ⟨l,2,G⟩=F (.int .u64 p2)/\w'.cell? ⟨l,3,G⟩=F (.int .u64 f)/\w'.cell? ⟨l,4,G⟩=F (.int .u64 g)/\w'.cell? ⟨l,5,G⟩=F (.int .u64 c1)/\w'.cell? ⟨l,6,G⟩=F (.int .u64 c2)/\w'.cell? ⟨l,7,G⟩=F (.int .u64 i)/\w'.cell? ⟨A,0,G⟩=F (.int .u64 a)/\w'.cell? ⟨A,1,G⟩=F (.int .u64 b)/\w'.cell? ⟨A,2,G⟩=F (.int .u64 c)/\w'.cell? ⟨A,3,G⟩=F (.int .u64 d)/\w'.cell? ⟨C,0,G⟩=F (.int .u64 p)/\w'.cell? ⟨C,1,G⟩=F (.int .u64 q)/\w'.cell? ⟨C,2,G⟩=F (.int .u64 r)/\w'.cell? ⟨C,3,G⟩=F (.int .u64 s)/\Kept w l [⟨l,0,p0,p1,p2,f⟩,⟨l,4,g,c1,c2,i⟩,⟨A,0,a,b,c,d⟩,⟨C,0,p,q,r,s⟩] w') (first|exact eY j|exact eY j.drew|exact eY (j.set4' T O _ _ _ _)|exact eY (j.set4' T O _ _ _ _).drew) (first|(go_at_call 87;apply(D9 p0 p1 p2 f g c1 c2 i P _ _ HR HY HN _).mono;rintro e w1 ⟨v,rfl,z,t⟩;obtain⟨x0,x1,x2,x3,rfl,-⟩:=id t;have W:E (zh _ _):=t;clear t;replace j:=j.cl z;replace T3:=T3.cl z;clear z;let⟨L,N,M,K,tf⟩:=id T3;have zt:=T3.lt)|(go_at_call 35;apply(Gi HR HX W).mono;rintro e w2 ⟨v,rfl,u,o⟩;rw[O6 HN.out]at o;obtain⟨a',b',c',d',rfl,h6,h7,h5,h8,V⟩:=id o;clear V;have h4:E (zh _ _):=o;clear o;replace j:=j.cl u;replace T3:=T3.cl u;clear u;let⟨L,N,M,K,tf⟩:=id T3;have zt:=T3.lt))
 go_wp2;have Q:=T3.self4 a' b' c' d';unfold set4 at Q;refine YB (by simp[results,Tryz.results23,go_sem,Q.c0,Q.c1,Q.c2,Q.c3];rfl) Z ?_;refine⟨_,Z,?_,h4⟩;rw[(mk1 h0).out];exact aE j.bl T
def D8(p0 p1 p2 Q z c1 c2 A P:I)(x y:Yq)(m n:I)(hR:RefP p0 p1 p2 Q z c1 c2 A P)(hx:zh x m)(hy:zh y n)(w:Yp):
 dZ 173 #[.agg #[U p0,U p1,U p2,U Q,U z,U c1,U c2,U A],x,y] w λe w'=>zh e (m^n%P):=by
 obtain⟨a,b,c,d,rfl,ha,hb,hc,hd,em⟩:=id hx;obtain⟨p,q,r,s,rfl,hp,hq,hr,hs,en⟩:=id hy;have HX:Hid (zh _ _):=hx;have HY:Hid (zh _ _):=hy;have HR:Hid (RefP p0 p1 p2 Q z c1 c2 A P):=hR;clear em en hx hy ha hb hc hd hp hq hr hs hR;go_enter func173,ntmps173;go_wp2_with fail
 have k:=Uh w p0 p1 p2 Q z c1 c2 A a b c d p q r s;generalize Z4 _ _=W0 at k⊢;generalize h3:w.heap.size+1+1+1=k3 at k⊢;generalize h2:w.heap.size+1+1=k2 at k⊢;generalize h1:w.heap.size+1=k1 at k⊢;have Q3:Hid (w.heap.size<=k3):=by unfold Hid;omega
 generalize h0:w.heap.size=g at k Q3⊢;have H0:Hid (w.heap.size=g):=h0;clear h0 h1 h2 h3;apply(kG (n:=1) dC).mono;rintro e w1 ⟨v,rfl,h9,rfl⟩;replace k:=k.call h9;go_wp2;have KN:=(k.alloc (.cells #[U 1,U 0,U 0,U 0] 54)).cons (At4.made w1 54 1 0 0 0 Z).blk;have Q7:=mk1 (k.le);have V:=k.lts;generalize w1.heap.size=k7 at KN V Q7⊢;have C:∀x∈([⟨g,0,p0,p1,p2,Q⟩,⟨g,4,z,c1,c2,A⟩,⟨k1,0,a,b,c,d⟩,⟨k2,0,p,q,r,s⟩,⟨k3,0,0,0,0,0⟩]:H Blk),k7≠x.k:=λx hx=>cW (V x hx)
 have k6:=C ⟨k2,0,p,q,r,s⟩ (by simp);go_loopg [8] 256 (λgk s8 wr=>gk<=256/\s8=iZ ((gk:Y)-1)/\∃X nb nc nd:I,Kept w g (⟨k7,0,X,nb,nc,nd⟩ :: [⟨g,0,p0,p1,p2,Q⟩,⟨g,4,z,c1,c2,A⟩,⟨k1,0,a,b,c,d⟩,⟨k2,0,p,q,r,s⟩,⟨k3,0,0,0,0,0⟩]) wr/\Hid (zh (.agg #[U X,U nb,U nc,U nd]) (m^(n/2^gk)%P)))
 case atStart =>
  refine⟨Ys _,Z,1,0,0,0,KN,?_⟩;have h1:=HR.hP2;have h2:3<top:=dC;rw[show n/2^256=0 from I.div_eq_of_lt HY.lt,gF,YL S];exact Four.mk dC dC dC dC Z
 case round =>
  obtain⟨hg,rfl,X,nb,nc,nd,k,L⟩:=hrel;obtain⟨M,O,N,K,tf⟩:=k.head.at4;have zt:=k.head.lt;by_cases hz:gk=0
  .subst hz;have f:=L;rw[gF,wD]at f;obtain⟨o,T,l,u,rf⟩:=k.tail.tail.tail.tail.tail.head.at4;have W:=k.tail.tail.tail.tail.tail.head.lt;go_wp2;have j:=k.tail.tail.tail.tail.tail.head.at4.self4 X nb nc nd;unfold set4 at j;refine YB (by simp[results,Tryz.results173,go_sem,j.c0,j.c1,j.c2,j.c3];rfl) Z ?_;refine⟨_,Z,?_,(mk1 f).out⟩;rw[H0.out];exact aE k.bl Q3
  .obtain⟨i,hi⟩:∃i,gk=i+1:=⟨gk-1,S⟩
   have e1:(gk:Y)-1=(i:Y):=S;rw[e1];obtain⟨E,hE⟩:=vH (n/2^gk);rw[hE]at L;rw[hi]at hE;have HE:=mk1 (hE);have HI:=mk1 (hi);obtain⟨hj,h4,h7,he,ff⟩:=k.tail.head.at4;have fb:=k.tail.tail.head;obtain⟨o,l,u,j,fg⟩:=id fb;replace o:wr.cell? ⟨g,4,G⟩=F (U z):=o;replace l:wr.cell? ⟨g,5,G⟩=F (U c1):=l;replace u:wr.cell? ⟨g,6,G⟩=F (U c2):=u;replace j:wr.cell? ⟨g,7,G⟩=F (U A):=j;have zf:=k.tail.head.lt;go_wp2_with fail
   apply(uP HR L L).mono;rintro e w2 ⟨v,rfl,h8,f⟩;rw[Ed]at f;obtain⟨ya,yb,yc,yd,rfl,-⟩:=id f;have L:=mk1 (f);replace k:=k.call h8;obtain⟨M,O,N,K,tf⟩:=k.head.at4;have zt:=k.head.lt;obtain⟨hw,hm,k4,hn,ef⟩:=k.tail.tail.tail.tail.head.at4;have ze:=k.tail.tail.tail.tail.head.lt;go_wp2_with fail
   have W:=k.put Q7 C ya yb yc yd;apply(tC _ _ i HY S _).mono;rintro e w3 ⟨v,rfl,T,t,rfl,ht⟩;have k:=W.call T;have HT:=mk1 (ht);have h6:t=0\/t=1:=S;clear T W ht;rcases h6 with rfl|rfl
   .go_wp2;go_roundg (gk-1)
    case measure=>omega
    case rel =>
     refine⟨S,?_,ya,yb,yc,yd,k,?_⟩
     .have:=HI
      congr 1
      omega
     .have h1:=L;rw[Hid,HI.out,xq,CY n i,HE.out,<-HT.out,ao];exact h1
   .obtain⟨M,O,N,K,tf⟩:=k.head.at4;have zt:=k.head.lt;obtain⟨hu,k5,hk,k8,af⟩:=k.tail.tail.tail.head.at4;have za:=k.tail.tail.tail.head.lt;obtain⟨hj,h4,h7,he,ff⟩:=k.tail.head.at4;obtain⟨o,l,u,j,fg⟩:=id k.tail.tail.head;replace o:w3.cell? ⟨g,4,G⟩=F (U z):=o;replace l:w3.cell? ⟨g,5,G⟩=F (U c1):=l;replace u:w3.cell? ⟨g,6,G⟩=F (U c2):=u;replace j:w3.cell? ⟨g,7,G⟩=F (U A):=j;have zf:=k.tail.head.lt;go_wp2_with fail
    apply(uP HR L HX).mono;rintro e w4 ⟨v,rfl,h5,f⟩;rw[Cz]at f;obtain⟨ua,ub,uc,ud,rfl,-⟩:=id f;replace k:=k.call h5;obtain⟨M,O,N,K,tf⟩:=k.head.at4;have zt:=k.head.lt;go_wp2;go_roundg (gk-1)
    case measure=>omega
    case rel =>
     refine⟨S,?_,ua,ub,uc,ud,k.put Q7 C ua ub uc ud,?_⟩
     .have:=HI
      congr 1
      omega
     .have h1:=(mk1 f).out;rw[Hid,HI.out,xq,CY n i,HE.out,<-HT.out];exact h1
def Ea(p0 p1 p2 n i c1 c2 j P:I)(x:Yq)(m:I)(hR:RefP p0 p1 p2 n i c1 c2 j P)(hx:zh x m)(w:Yp):
 dZ 98 #[.agg #[U p0,U p1,U p2,U n,U i,U c1,U c2,U j],x] w λe w'=>zh e (m^(P-2)%P):=by
 have g:E (RefP p0 p1 p2 n i c1 c2 j P):=hR;have HX:E (zh x m):=hx;obtain⟨a,b,c,d,rfl,ha,W,hc,hd,em⟩:=id hx;clear hR hx em ha W hc hd;go_enter func98,ntmps98;go_wp2_with fail
 have f:=GL w p0 p1 p2 n i c1 c2 j a b c d;generalize Z4 _ _=W0 at f⊢;generalize h2:w.heap.size+1+1=k2 at f⊢;generalize h1:w.heap.size+1=k1 at f⊢;have K:E (w.heap.size<=k2):=by unfold E;omega
 generalize L:w.heap.size=y at f K⊢;have u:=Four.mk g.hp0 g.hp1 g.hp2 g.hp3 g.eP;apply(pK _ _ P 2 u (Four.mk (a:=2) (b:=0) (c:=0) (d:=0) dC dC dC dC Z) _).mono;rintro e z ⟨v,rfl,C,v2,t,k,rfl,l,hk,he⟩;have T:t=P-2:=by
  have h1:=l.lt;have h2:=u.lt;have o:=g.hP2;have:k=0\/k=1:=S;rcases this with h|h<;>rw[h]at he<;>omega
 have HE:E (zh v2 (P-2)):=by unfold E;rw[<-T];exact l
 obtain⟨ea,eb,ec,ed,rfl,-⟩:=id l;replace f:=f.call C;let⟨h9,X,h5,hj,xf⟩:=f.tail.tail.head.at4
 have zx:=f.tail.tail.head.lt;let⟨hi,N,h7,hg,ff⟩:=f.head.at4
 have M:=f.tail.head;let⟨r,p,s,o,fg⟩:=id M
 replace r:z.cell? ⟨y,4,G⟩=F (U i):=r;replace p:z.cell? ⟨y,5,G⟩=F (U c1):=p;replace s:z.cell? ⟨y,6,G⟩=F (U c2):=s;replace o:z.cell? ⟨y,7,G⟩=F (U j):=o;have zf:=f.head.lt;have n0:=oA zf;have n1:=oA zx;go_wp2_with fail
 apply(D8 p0 p1 p2 n i c1 c2 j P _ _ _ _ g HX HE _).mono;rintro e w2 ⟨v,rfl,A,l⟩;replace f:=(f.alloc _).call A;obtain⟨V,qb,Q,qd,rfl,-⟩:=id l;let⟨h4,h8,O,h6,rf⟩:=f.tail.tail.tail.head.at4
 have zr:=f.tail.tail.tail.head.lt;go_wp2;have q:=f.tail.tail.tail.head.at4.self4 V qb Q qd;unfold set4 at q;refine YB (by simp[results,Tryz.results98,go_sem,q.c0,q.c1,q.c2,q.c3];rfl) Z ?_;refine⟨_,Z,?_,(mk1 l).out⟩;rw[(mk1 L).out];exact aE f.bl K
def P3{v:I}(t:I)(b:r<64)(hv:v<2^r)(d:t<2):bits .or .u64 (v:Y) ((t*2^r:I):Y)=((v+t*2^r:I):Y)/\v+t*2^r<2^64:=by
 have h1:2^r<=2^63:=I.pow_le_pow_right dC S;have c:t*2^r<=1*2^r:=I.mul_le_mul_right _ S;have k:(2:I)^63=9223372036854775808:=dC;refine⟨?_,S⟩;rw[wy _ _ S S,I.or_comm,Ze t,<-(I.two_pow_add_eq_or_of_lt hv t),I.add_comm]
def Gk{Q i:I}(k:a<2^64)(f:b<2^64)(e:c<2^64)(hd:d<2^64)(g:i<256)(hv:val a b c d=Q%2^i):wd a b c d (i/64)<2^(i%64):=by
 rw[Lv (i/64) S k f e hd,hv];refine yDm (I.mod_le _ _) ?_;refine I.div_lt_of_lt_mul ?_;rw[<-ox,show 64*(i/64)+i%64=i by omega];exact ZL _ (oE dC)
def Gm{Q i:I}(f:i<256)(hv:val a b c d=Q%2^i)(k:t=Q/2^i%2)(ho:o=wd a b c d (i/64)+t*2^(i%64)):
 val (if i/64=0 then o else a) (if i/64=1 then o else b) (if i/64=2 then o else c) (if i/64=3 then o else d)=Q%2^(i+1):=by
 have h:=Ig a b c d (i/64) o S;have e:(2:I)^i=2^(64*(i/64))*2^(i%64):=by
  rw[<-ox,show 64*(i/64)+i%64=i by omega]
 rw[ho,pi,<-kI,Ze (2^(64*(i/64))) t,kI,<-e]at h;rw[ho,Z5,I.mod_mul,<-k,Ze (2^i)];omega
def yG{v i:I}(h:Kept w k (⟨e,0,o,n,l,m⟩ :: [⟨k,0,p0,p1,p2,f⟩,⟨k,4,i,c1,c2,q⟩,⟨p,0,a,b,c,d⟩,⟨g,0,0,0,0,0⟩]) W)(hx:W.cell? ⟨e,j,G⟩=F (U v)):W.cell? ⟨k,0,G⟩=F (U p0)/\W.cell? ⟨k,1,G⟩=F (U p1)/\W.cell? ⟨k,2,G⟩=F (U p2)/\W.cell? ⟨k,3,G⟩=F (U f)/\W.cell? ⟨e,j,G⟩=F (U v)/\Kept w k (⟨e,0,o,n,l,m⟩ :: [⟨k,0,p0,p1,p2,f⟩,⟨k,4,i,c1,c2,q⟩,⟨p,0,a,b,c,d⟩,⟨g,0,0,0,0,0⟩]) W:=
 ⟨h.tail.head.c0,h.tail.head.c1,h.tail.head.c2,h.tail.head.c3,hx,h⟩
def xE{i rd:I}(h:Kept w k (⟨e,0,g,i,m,rd⟩ :: [⟨k,0,p0,p1,p2,j⟩,⟨k,4,l,c1,c2,n⟩,⟨f,0,a,b,c,d⟩,⟨o,0,0,0,0,0⟩]) W):W.cell? ⟨k,0,G⟩=F (U p0)/\W.cell? ⟨k,1,G⟩=F (U p1)/\W.cell? ⟨k,2,G⟩=F (U p2)/\W.cell? ⟨k,3,G⟩=F (U j)/\W.cell? ⟨k,4,G⟩=F (U l)/\W.cell? ⟨k,5,G⟩=F (U c1)/\W.cell? ⟨k,6,G⟩=F (U c2)/\W.cell? ⟨k,7,G⟩=F (U n)/\W.cell? ⟨e,0,G⟩=F (U g)/\W.cell? ⟨e,1,G⟩=F (U i)/\W.cell? ⟨e,2,G⟩=F (U m)/\W.cell? ⟨e,3,G⟩=F (U rd)/\W.cell? ⟨f,0,G⟩=F (U a)/\W.cell? ⟨f,1,G⟩=F (U b)/\W.cell? ⟨f,2,G⟩=F (U c)/\W.cell? ⟨f,3,G⟩=F (U d)/\Kept w k (⟨e,0,g,i,m,rd⟩ :: [⟨k,0,p0,p1,p2,j⟩,⟨k,4,l,c1,c2,n⟩,⟨f,0,a,b,c,d⟩,⟨o,0,0,0,0,0⟩]) W:=
 ⟨h.tail.head.c0,h.tail.head.c1,h.tail.head.c2,h.tail.head.c3,h.tail.tail.head.c0,h.tail.tail.head.c1,h.tail.tail.head.c2,h.tail.tail.head.c3,h.head.c0,h.head.c1,h.head.c2,h.head.c3,h.tail.tail.tail.head.c0,h.tail.tail.tail.head.c1,h.tail.tail.tail.head.c2,h.tail.tail.tail.head.c3,h⟩
def BA(p0 p1 p2 n M c1 c2 N P:I)(x:Yq)(m:I)(hR:RefP p0 p1 p2 n M c1 c2 N P)(hu:P/4%18446744073709551616<18446744073709551615)(hx:zh x m)(w:Yp):
 Zl prog 219 #[.agg #[.int .u64 p0,.int .u64 p1,.int .u64 p2,.int .u64 n,.int .u64 M,.int .u64 c1,.int .u64 c2,.int .u64 N],x] w (Ret λe w'=>Below w.heap.size w w'/\RootR P m (m^(P/4+1)%P) e):=by
 obtain⟨a,b,c,d,rfl,ha,hb,hc,hd,em⟩:=id hx;have HX:E (zh _ m):=hx;have HR:E (RefP p0 p1 p2 n M c1 c2 N P):=hR;have ba:E (P/4%18446744073709551616<18446744073709551615):=hu;have hp:E (zh (.agg #[.int .u64 p0,.int .u64 p1,.int .u64 p2,.int .u64 n]) P):=Four.mk hR.hp0 hR.hp1 hR.hp2 hR.hp3 hR.eP;obtain⟨R,h8⟩:∃R,m^(P/4+1)%P=R:=⟨_,Z⟩
 have ki:R<P:=by
  rw[<-h8];refine ZL _ ?_;have:=hR.hP2;omega
 rw[h8];have b9:E (m^(P/4+1)%P=R):=h8;have k9:E (R<P):=ki;clear em hx ha hb hc hd hR h8 ki hu;go_enter func219,ntmps219;go_wp2;have K0:=GL w p0 p1 p2 n M c1 c2 N a b c d;have K1:=(K0.alloc (.cells #[.int .u64 0,.int .u64 0,.int .u64 0,.int .u64 0] 54)).cons (At4.made _ 54 0 0 0 0 Z).blk;have hz:(((w.alloc (.cells #[.int .u64 p0,.int .u64 p1,.int .u64 p2,.int .u64 n,.int .u64 M,.int .u64 c1,.int .u64 c2,.int .u64 N] 58)).alloc (.cells #[.int .u64 a,.int .u64 b,.int .u64 c,.int .u64 d] 54)).alloc (.cells #[.int .u64 0,.int .u64 0,.int .u64 0,.int .u64 0] 54)).heap.size=w.heap.size+1+1+1:=by simp
 rw[hz]at K1;clear K0 hz;generalize Z4 _ _=W0 at K1⊢;generalize h3:w.heap.size+1+1+1=V at K1⊢;generalize h2:w.heap.size+1+1=k2 at K1⊢;generalize h1:w.heap.size+1=L at K1⊢;have Q2:E (w.heap.size<=k2):=by unfold E;omega
 have Q3:E (w.heap.size<=V):=by unfold E;omega
 generalize h0:w.heap.size=g at K1 Q2 Q3⊢;have H0:E (w.heap.size=g):=h0;have hn:V≠g:=S;have kr:V≠L:=S;have ku:V≠k2:=S;clear h0 h1 h2 h3;have kg:∀x∈([⟨g,0,p0,p1,p2,n⟩,⟨g,4,M,c1,c2,N⟩,⟨L,0,a,b,c,d⟩,⟨k2,0,0,0,0,0⟩]:H Blk),V≠x.k:=by simp only[Zb,YI,or_false];rintro x (rfl|rfl|rfl|rfl);exact hn;exact hn;exact kr;exact ku
 go_loopg [7] 254 (λgk s7 wr=>∃i q z u A:I,i+gk=254/\s7=.int .i64 i/\Kept w g (⟨V,0,q,z,u,A⟩ :: [⟨g,0,p0,p1,p2,n⟩,⟨g,4,M,c1,c2,N⟩,⟨L,0,a,b,c,d⟩,⟨k2,0,0,0,0,0⟩]) wr/\E (zh (.agg #[.int .u64 q,.int .u64 z,.int .u64 u,.int .u64 A]) (P/4%2^i)))
 case atStart =>
  refine⟨0,0,0,0,0,Z,Z,K1,?_⟩;rw[gF,yEB];exact Four.mk dC dC dC dC Z
 case round =>
  clear K1;obtain⟨i,q,z,u,A,hi,rfl,k,T⟩:=hrel;by_cases br:i<254
  .have p:val q z u A=P/4%2^i/\q<18446744073709551616/\z<18446744073709551616/\u<18446744073709551616/\A<18446744073709551616:=by
    obtain⟨a',b',c',d',e',h1,h2,h3,h4,h5⟩:=T.out;obtain⟨rfl,rfl,rfl,rfl⟩:a'=q/\b'=z/\c'=u/\d'=A:=by
     simp only[Y8.injEq,uo.injEq,qn.injEq,ZO.injEq,true_and,and_true,yi]at e';exact⟨e'.1.symm,e'.2.1.symm,e'.2.2.1.symm,e'.2.2.2.symm⟩
    exact⟨h5.symm,h1,h2,h3,h4⟩
   have kd:=Gk p.2.1 p.2.2.1 p.2.2.2.1 p.2.2.2.2 (i:=i) S p.1;have xw:=k.head.at4.wd (i/64) S;obtain⟨t,ht⟩:∃t,P/2^(i+2)%2=t:=⟨_,Z⟩
   have kf:t=P/4/2^i%2:=by rw[<-ht,I.div_div_eq_div_mul,show 4*2^i=2^(i+2) by rw[ox,Ze]]
   obtain⟨o,ho⟩:∃o,wd q z u A (i/64)+t*2^(i%64)=o:=⟨_,Z⟩
   have kj:=Gm (i:=i) S p.1 kf ho.symm;obtain⟨hor,C⟩:=P3 t (r:=(i%64)) S kd S;rw[ho]at hor C;have k7:E (zh (.agg #[.int .u64 ((if i/64=0 then o else q:I):Y),.int .u64 ((if i/64=1 then o else z:I):Y),.int .u64 ((if i/64=2 then o else u:I):Y),.int .u64 ((if i/64=3 then o else A:I):Y)]) (P/4%2^(i+1))):=by
    refine Four.mk ?_ ?_ ?_ ?_ kj.symm
    .split;exact C;exact p.2.1
    .split;exact C;exact p.2.2.1
    .split;exact C;exact p.2.2.2.1
    .split;exact C;exact p.2.2.2.2
   obtain⟨y,hy⟩:∃y,t*2^(i%64)=y:=⟨_,Z⟩
   have bz:y<18446744073709551616:=S;rw[hy]at hor;obtain⟨v,hv⟩:∃v,wd q z u A (i/64)=v:=⟨_,Z⟩
   rw[hv]at hor xw;obtain⟨j,hj⟩:∃j,i/64=j:=⟨_,Z⟩
   obtain⟨r,hr⟩:∃r,i%64=r:=⟨_,Z⟩
   obtain⟨O,kh⟩:∃O,i+2=O:=⟨_,Z⟩
   rw[hj]at xw k7;have bq:Zk.wrap ((t:Y)*2^r)=(y:Y):=by
    rw[<-hr,<-hy,py,sy];have:=wrapN (a:=(t*2^(i%64))) S;rw[py,sy]at this;exact this
   have kt:E (∀w,Zl prog 106 #[.agg #[.int .u64 p0,.int .u64 p1,.int .u64 p2,.int .u64 n],.int .i64 O] w (Ret λe w'=>Below w.heap.size w w'/\∃t:I,e=.int .u64 t/\t=P/2^O%2)):=λw=>tC _ P O hp.out S w
   have HT:E (P/2^O%2=t):=by unfold E;rw[<-kh];exact ht
   have e1:(i:Y).tdiv 64=(j:Y):=by rw[sI S];omega
   have e2:(i:Y).tmod 64=(r:Y):=by rw[yBI S];omega
   have e3:(j:Y)<4:=S;have e4:YQ.wrap (j:Y)=(j:Y):=xW S;have e6:(i:Y)+2=(O:Y):=S;have e7:YQ.wrap (O:Y)=(O:Y):=xW S;have e9:r<64:=S;have be:(i:Y)<254:=S;have T1:=λW (h:At4 W V q z u A)=>At4.setq h j o S
   have hk:j<4:=S;have X:=λW (h:At4 W V q z u A)=>At4.wd h j hk
   rw[<-hj,hv,hj]at X;have HJ:E (j<4):=hk;clear hy hv hj hr ho kj p ht kf kd kh T hk
   go_upto_region 5 with fail
   refine anyTill.begin (λw'=>w'.cell? ⟨g,0,G⟩=F (.int .u64 p0)/\w'.cell? ⟨g,1,G⟩=F (.int .u64 p1)/\w'.cell? ⟨g,2,G⟩=F (.int .u64 p2)/\w'.cell? ⟨g,3,G⟩=F (.int .u64 n)/\w'.cell? ⟨V,j,G⟩=F (.int .u64 v)/\Kept w g (⟨V,0,q,z,u,A⟩ :: [⟨g,0,p0,p1,p2,n⟩,⟨g,4,M,c1,c2,N⟩,⟨L,0,a,b,c,d⟩,⟨k2,0,0,0,0,0⟩]) w') 16 mixed (yG k.drew (X _ k.head.at4.drew)) (λs=>?_);refine anyTill.tq 0 s ?_;refine anyTill.tq 1 s ?_;refine anyTill.tq 2 s ?_;refine anyTill.tq 3 s ?_;refine anyTill.tq 4 s ?_;refine anyTill.tq 5 s ?_;refine anyTill.tq 6 s ?_;refine anyTill.tq 7 s ?_;refine anyTill.tq 8 s ?_;refine anyTill.tq 9 s ?_;refine anyTill.tq 11 s ?_;refine anyTill.tq 12 s ?_;try simp only[Yz,Yy]
   refine anyTill.step (i:=10) Z kR (λK Q=>?_);go_simp;refine(kt _).mono ?_;rintro e w1 ⟨v',rfl,l,t',rfl,k5⟩;rw[HT.out]at k5;subst k5;have f:=k.drew.call l;refine Q.out _ _ (λ_=>yG f (X _ f.head.at4)) ?_;try simp only[Zo,Yw,Yz,Yy]
   have cj:=X _ f.head.at4;have cf:=f.head.f;have cz:=f.head.lt;refine anyTill.step (i:=13) Z kR (λK Q=>?_);go_simp;refine Q.out _ _ (λ_=>yG f (X _ f.head.at4)) ?_;try simp only[Zo,Yw,Yz,Yy]
   refine anyTill.step (i:=14) Z kR (λK Q=>?_);go_simp;refine Q.out _ _ (λ_=>yG f (X _ f.head.at4)) ?_;try simp only[Zo,Yw,Yz,Yy]
   refine anyTill.step (i:=15) Z kR (λK Q=>?_);go_simp;refine Q.out _ _ (λ_=>yG f (X _ f.head.at4)) ?_;try simp only[Zo,Yw,Yz,Yy]
   refine anyTill.step (i:=16) Z kR (λK Q=>?_);go_simp;refine Q.out _ _ (λh=>ww h) ?_;try simp only[Zo,Yw,Yz,Yy]
   refine anyTill.done kR ?_ _;go_wp2;go_roundg (gk-1)
   case measure=>omega
   case rel =>
    refine⟨i+1,_,_,_,_,S,Z,?_,k7⟩;exact(f.tail.set (j:=V) (i:=j) Q3.out kg _).cons (T1 _ f.head.at4).blk
  .have hg:i=254:=S;subst hg;have p:=T.out;have b2:=hp.lt;rw[YL (show P/4<2^254 by unfold top at b2;omega)]at p;have hq:val q z u A=P/4/\q<18446744073709551615/\z<18446744073709551616/\u<18446744073709551616/\A<18446744073709551616:=by
    obtain⟨a',b',c',d',e',h1,h2,h3,h4,h5⟩:=p;obtain⟨rfl,rfl,rfl,rfl⟩:a'=q/\b'=z/\c'=u/\d'=A:=by
     simp only[Y8.injEq,uo.injEq,qn.injEq,ZO.injEq,true_and,and_true,yi]at e';exact⟨e'.1.symm,e'.2.1.symm,e'.2.2.1.symm,e'.2.2.2.symm⟩
    refine⟨h5.symm,?_,h2,h3,h4⟩;have s:=ba.out;rw[h5]at s;unfold val at s;omega
   obtain⟨qe,kk⟩:∃qe,q+1=qe:=⟨_,Z⟩
   have HE:E (zh (.agg #[.int .u64 qe,.int .u64 z,.int .u64 u,.int .u64 A]) (P/4+1)):=by
    refine Four.mk S hq.2.2.1 hq.2.2.2.1 hq.2.2.2.2 ?_;rw[<-hq.1,<-kk];unfold val;omega
   have bf:(q:Y)+1=(qe:Y):=S;have hw:=wrapN (a:=qe) S;obtain⟨bn,bi,bj,bk,qf⟩:=k.head.at4;have zq:=k.head.lt;obtain⟨bt,bm,bo,bv,xf⟩:=k.tail.tail.tail.head.at4;have zx:=k.tail.tail.tail.head.lt;obtain⟨b7,kl,kw,b6,ff⟩:=k.tail.head.at4;have fb:=k.tail.tail.head;have b8:=fb.c0;have b3:=fb.c1;have bc:=fb.c2;have ky:=fb.c3;have zf:=k.tail.head.lt;go_wp2_with fail
   refine(D8 p0 p1 p2 n M c1 c2 N P _ _ _ _ HR.out HX.out HE.out _).mono ?_;rintro e w3 ⟨v,rfl,ko,p⟩;have K:=(k.tail.set (j:=V) (i:=0) Q3.out kg (.int .u64 qe)).call ko;obtain⟨ra,rb,rc,rd,rfl,-⟩:=id p;rw[b9.out]at p;have T:E (zh _ R):=p
   go_upto_region 8 with fail
   have k:Kept w g (⟨w3.heap.size,0,ra,rb,rc,rd⟩ :: [⟨g,0,p0,p1,p2,n⟩,⟨g,4,M,c1,c2,N⟩,⟨L,0,a,b,c,d⟩,⟨k2,0,0,0,0,0⟩]) _:=(K.alloc (.cells #[.int .u64 ra,.int .u64 rb,.int .u64 rc,.int .u64 rd] 54)).cons (At4.made w3 54 ra rb rc rd Z).blk;have b5:=cW K.head.lt;have bd:=cW K.tail.tail.head.lt;have kc:=cW K.tail.tail.tail.head.lt;have Q8:=mk1 (K.le);clear K;generalize Z4 _ _=W4 at k⊢;generalize w3.heap.size=X at k b5 bd kc Q8⊢;by_cases h7:R*R%P=m
   .have b4:=S9 a b c d;go_region_held3 (λw'=>w'.cell? ⟨g,0,G⟩=F (.int .u64 p0)/\w'.cell? ⟨g,1,G⟩=F (.int .u64 p1)/\w'.cell? ⟨g,2,G⟩=F (.int .u64 p2)/\w'.cell? ⟨g,3,G⟩=F (.int .u64 n)/\w'.cell? ⟨g,4,G⟩=F (.int .u64 M)/\w'.cell? ⟨g,5,G⟩=F (.int .u64 c1)/\w'.cell? ⟨g,6,G⟩=F (.int .u64 c2)/\w'.cell? ⟨g,7,G⟩=F (.int .u64 N)/\w'.cell? ⟨X,0,G⟩=F (.int .u64 ra)/\w'.cell? ⟨X,1,G⟩=F (.int .u64 rb)/\w'.cell? ⟨X,2,G⟩=F (.int .u64 rc)/\w'.cell? ⟨X,3,G⟩=F (.int .u64 rd)/\w'.cell? ⟨L,0,G⟩=F (.int .u64 a)/\w'.cell? ⟨L,1,G⟩=F (.int .u64 b)/\w'.cell? ⟨L,2,G⟩=F (.int .u64 c)/\w'.cell? ⟨L,3,G⟩=F (.int .u64 d)/\Kept w g (⟨X,0,ra,rb,rc,rd⟩ :: [⟨g,0,p0,p1,p2,n⟩,⟨g,4,M,c1,c2,N⟩,⟨L,0,a,b,c,d⟩,⟨k2,0,0,0,0,0⟩]) w') (first|exact xE k|exact xE k.drew) (first|(go_at_call 33;refine(uP HR.out T.out T.out).mono ?_;rintro e w5 ⟨v,rfl,l,Q⟩;rw[h7]at Q;obtain rfl:=Q.inj HX.out;clear Q;(first|have f:=k.drew.call l|have f:=k.call l);clear k l;have k:=f;clear f))
    have k4:=mk1 h7
    rename_i hHeld
    obtain⟨O,bu,bh,bp,e',kv,-⟩:=id T.out;obtain⟨rfl,-⟩:O=ra/\True:=by
     simp only[Y8.injEq,uo.injEq,qn.injEq,ZO.injEq,true_and,and_true,yi]at e';exact⟨e'.1.symm,yw⟩
    have C:R%2=O%2:=by
     obtain⟨x1,x2,x3,s,e',-,-,-,-,h5⟩:=id T.out;simp only[Y8.injEq,uo.injEq,qn.injEq,ZO.injEq,true_and,and_true,yi]at e';rw[h5,<-e'.1];unfold val;omega
    have h9:=and_one (v:=O) kv;obtain⟨kn,kz,kp,km,tf⟩:=k.head.at4;have zt:=k.head.lt;obtain⟨kb,ke,ka,k6,uf⟩:=k.tail.tail.tail.tail.head.at4;have zu:=k.tail.tail.tail.tail.head.lt;have h2:O%2=0\/O%2=1:=S;rcases h2 with h|h
    .rw[h]at h9 C;have he:E (zh (.agg #[.int .u64 O,.int .u64 rb,.int .u64 rc,.int .u64 rd]) (even P R)):=by
      have h1:even P R=R:=by unfold even;rw[zi S]
      rw[E,h1];exact T.out
     go_wp2;have s:=k.tail.tail.tail.tail.head.at4.self4 O rb rc rd;unfold set4 at s;refine YB (by simp[results,Tryz.results219,go_sem,s.c0,s.c1,s.c2,s.c3];rfl) Z ?_;refine⟨_,Z,?_,RootR.yes k4.out he.out⟩;rw[H0.out];exact aE k.bl Q2.out
    .rw[h]at h9 C;have HO:=mk1 (C);obtain⟨b7,kl,kw,b6,ff⟩:=k.tail.head.at4;have fb:=k.tail.tail.head;have b8:=fb.c0;have b3:=fb.c1;have bc:=fb.c2;have ky:=fb.c3;have zf:=k.tail.head.lt;go_wp2_with fail
     refine(D9 p0 p1 p2 n M c1 c2 N P _ _ HR.out T.out k9.out _).mono ?_;rintro e w8 ⟨v,rfl,kx,hm⟩;obtain⟨sa,sb,sc,sd,rfl,-⟩:=id hm;have he:E (zh (.agg #[.int .u64 sa,.int .u64 sb,.int .u64 sc,.int .u64 sd]) (even P R)):=by
      have h1:(P-R)%P=even P R:=by
       rw[even,zd HO.out];exact YL (by have:=k9.out;have:=HO.out;omega)
      rw[E,<-h1];exact hm
     replace k:=k.call kx;obtain⟨kn,kz,kp,km,tf⟩:=k.head.at4;have zt:=k.head.lt;obtain⟨kb,ke,ka,k6,uf⟩:=k.tail.tail.tail.tail.head.at4;have zu:=k.tail.tail.tail.tail.head.lt;go_wp2;have s:=(k.tail.tail.tail.tail.head.at4.other4 kc (.int .u64 sa) (.int .u64 sb) (.int .u64 sc) (.int .u64 sd)).self4 sa sb sc sd;unfold set4 at s;refine YB (by simp[results,Tryz.results219,go_sem,s.c0,s.c1,s.c2,s.c3];rfl) Z ?_;refine⟨_,Z,?_,RootR.yes k4.out he.out⟩;rw[H0.out];exact aE (aE k.bl Q8.out) Q2.out
   .go_region_held3 (λw'=>w'.cell? ⟨g,0,G⟩=F (.int .u64 p0)/\w'.cell? ⟨g,1,G⟩=F (.int .u64 p1)/\w'.cell? ⟨g,2,G⟩=F (.int .u64 p2)/\w'.cell? ⟨g,3,G⟩=F (.int .u64 n)/\w'.cell? ⟨g,4,G⟩=F (.int .u64 M)/\w'.cell? ⟨g,5,G⟩=F (.int .u64 c1)/\w'.cell? ⟨g,6,G⟩=F (.int .u64 c2)/\w'.cell? ⟨g,7,G⟩=F (.int .u64 N)/\w'.cell? ⟨X,0,G⟩=F (.int .u64 ra)/\w'.cell? ⟨X,1,G⟩=F (.int .u64 rb)/\w'.cell? ⟨X,2,G⟩=F (.int .u64 rc)/\w'.cell? ⟨X,3,G⟩=F (.int .u64 rd)/\w'.cell? ⟨L,0,G⟩=F (.int .u64 a)/\w'.cell? ⟨L,1,G⟩=F (.int .u64 b)/\w'.cell? ⟨L,2,G⟩=F (.int .u64 c)/\w'.cell? ⟨L,3,G⟩=F (.int .u64 d)/\Kept w g (⟨X,0,ra,rb,rc,rd⟩ :: [⟨g,0,p0,p1,p2,n⟩,⟨g,4,M,c1,c2,N⟩,⟨L,0,a,b,c,d⟩,⟨k2,0,0,0,0,0⟩]) w') (first|exact xE k|exact xE k.drew) (first|(go_at_call 33;refine(uP HR.out T.out T.out).mono ?_;rintro e w5 ⟨v,rfl,l,Q⟩;obtain⟨ta,tb,tc,td,rfl,C⟩:=four_ne Q HX.out h7;have O:=PZ C;clear Q;(first|have f:=k.drew.call l|have f:=k.call l);clear k l;have k:=f;clear f))
    rename_i hHeld
    obtain⟨kb,ke,ka,k6,uf⟩:=k.tail.tail.tail.tail.head.at4;have zu:=k.tail.tail.tail.tail.head.lt;go_wp2;have s:At4 (set4 w5 k2 (.int .u64 0) (.int .u64 0) (.int .u64 0) (.int .u64 0)) k2 0 0 0 0:=k.tail.tail.tail.tail.head.at4.self4 0 0 0 0;unfold set4 at s;refine YB (by simp[results,Tryz.results219,go_sem,s.c0,s.c1,s.c2,s.c3];rfl) Z ?_;refine⟨_,Z,?_,RootR.no (mk1 h7).out⟩;rw[H0.out];exact aE k.bl Q2.out
def lD(T:Bs):I->Bs
 | 0=>YD 32 0
 | k+1=>(lD T k).setIfInBounds k T[k]!
def jW(T:Bs)(k:I):(lD T k).size=32:=by
 induction k with
 | zero=>simp[lD]
 | succ k ih=>simp[lD,ih]
def Ht(T:Bs)(j:I)(b:k<=32)(c:j<k):(lD T k)[j]! = T[j]!:=by
 induction k with
 | zero=>omega
 | succ k ih =>
  by_cases h:j=k
  .subst h;exact getElem!_set_same _ _ _ (by rw[jW];omega)
  rw[lD,getElem!_set_other _ _ _ _ h];exact ih S S
def EW{T:Bs}(hT:T.size=32)(h:hZ w g 0 (lD T 32)):hZ w g 0 T:=by
 intro j k;rw[<-Ht T j (Ys _) S];exact h j (by rw[jW];omega)
def wordOf(a b c d k:I):I:=if k<8 then a else if k<16 then b else if k<24 then c else d
def Di(x j:I)(k:j<8):(be8 x)[j]! = YK (x/2^(8*(7-j))):=by
 match j,k with
 | 0,_=>rfl
 | 1,_=>rfl
 | 2,_=>rfl
 | 3,_=>rfl
 | 4,_=>rfl
 | 5,_=>rfl
 | 6,_=>rfl
 | 7,_ =>
  show YK x=YK (x/2^(8*(7-7)));rw[oF,qo,gF,wD]
def QN{i:I}(a b c d:I)(f:i<32):(be32 a b c d)[i]! = YK (wordOf a b c d (31-i)/2^(8*((31-i)%8))):=by
 have e:be32 a b c d=be8 d++be8 c++be8 b++be8 a:=rfl;have s1:(be8 d++be8 c).size=16:=by simp only[Zi,aX]
 have s2:(be8 d++be8 c++be8 b).size=24:=by simp only[Zi,aX]
 unfold wordOf;by_cases k:i<8
 .rw[zi S,zi S,zi S,show(31-i)%8=7-i by omega,<-Di d i k,
   e,app_front _ _ i S,<-getElem!_pos (be8 d++be8 c++be8 b) i S,app_front _ _ i S,<-getElem!_pos (be8 d++be8 c) i S,app_front _ _ i (by rw[aX];exact k),<-getElem!_pos (be8 d) i (by rw[aX];exact k)]
 by_cases g:i<16
 .rw[zi S,zi S,zd S,show(31-i)%8=7-(i-8) by omega,<-Di c (i-8) S,
   e,app_front _ _ i S,<-getElem!_pos (be8 d++be8 c++be8 b) i S,app_front _ _ i S,<-getElem!_pos (be8 d++be8 c) i S,app_back _ _ i (by rw[aX];omega) (by rw[aX,aX];omega),aX]
 by_cases j:i<24
 .rw[zi S,zd S,show(31-i)%8=7-(i-16) by omega,<-Di b (i-16) S,
   e,app_front _ _ i S,<-getElem!_pos (be8 d++be8 c++be8 b) i S,app_back _ _ i S (by rw[s1,aX];omega),s1]
 rw[zd S,show(31-i)%8=7-(i-24) by omega,<-Di a (i-24) S,
  e,app_back _ _ i S (by rw[s2,aX];omega),s2]
def JD(k:I)(e:a<2^64)(g:b<2^64)(f:c<2^64)(hd:d<2^64):wordOf a b c d k<2^64:=by
 unfold wordOf;split;exact e;split;exact g;split;exact f;exact hd
def At4.word(h:At4 w k a b c d)(i:I)(g:i<32):w.cell? ⟨k,i/8,G⟩=F (uZ (wordOf a b c d i:Int)):=by
 unfold wordOf;by_cases h1:i<8
 .rw[zd h1,show i/8=0 by omega];exact h.c0
 rw[zi h1];by_cases f:i<16
 .rw[zd f,show i/8=1 by omega];exact h.c1
 rw[zi f];by_cases e:i<24
 .rw[zd e,show i/8=2 by omega];exact h.c2
 rw[zi e,show i/8=3 by omega];exact h.c3
def yT(x:Yq)(m:I)(w:Yp)(hx:zh x m):
 dZ 40 #[x] w λe w'=>∃a b c d:I,x=.agg #[U a,U b,U c,U d]/\e=.string ⟨be32 a b c d⟩:=by
 obtain⟨a,b,c,d,rfl,N,M,O,hd,L⟩:=hx;clear L;have o:∀w:Yp,(pq 23 (iZ 32) (iZ 32)).run prog w=.ok (sZ w.heap.size 32 32) (w.alloc (.cells (madeCells #[.int .u8 0] 32) 5)):=
  uq (P:=prog) 23 5 (.int .u8 0) 1 slice22 info5 Z .i64 .i64 32 S S
 go_enter func40,ntmps40;go_wp2;have l:hZ ((w.alloc (.cells #[U a,U b,U c,U d] 54)).alloc (.cells (madeCells #[.int .u8 0] 32) 5)) (w.heap.size+1) 0 (YD 32 0):=by
  have:=Holds.made (enc:=encB) (w.alloc (.cells #[U a,U b,U c,U d] 54)) 5 32 0;rw[YE]at this;exact this
 have g:=below2 w (.cells #[U a,U b,U c,U d] 54) (.cells (madeCells #[.int .u8 0] 32) 5);have X:=(At4.made w 54 a b c d Z).alloc (.cells (madeCells #[.int .u8 0] 32) 5);generalize Z4 _ _=W at l g X⊢;have r:E (kZ w W):=g;clear g o;go_loopg [4] 32 (λgk s4 wr=>∃(k:I),k+gk=32/\s4=iZ k/\hZ wr (w.heap.size+1) 0 (lD (be32 a b c d) k)/\At4 wr w.heap.size a b c d/\E (kZ w wr))
 case atStart=>exact⟨0,Z,Z,l,X,r⟩
 case round =>
  obtain⟨k,V,rfl,n,u,y⟩:=hrel;by_cases s:k<32
  .obtain⟨C,Q⟩:=n k (by rw[jW];omega);rw[Yv]at C Q;have t:=u.word (31-k) S;have j:=JD (31-k) N M O hd;have f:=QN a b c d (i:=k) s;obtain⟨q,A⟩:=vH (31-k);rw[A]at t j f;generalize wordOf a b c d q=v at t j f;have i1:(31:Y)-(k:Y)=(q:Y):=S;have i2:(q:Y).tdiv 8=((q/8:I):Y):=by rw[sI S];omega
   have i3:(q:Y).tmod 8=((q%8:I):Y):=by rw[yBI S];omega
   have i4:(q/8:I)<4:=S;have z:(k:Y)<32:=S;have T:(8:Y)*((q%8:I):Y)=((8*(q%8):I):Y):=S;have hv:(ZO .u8 ((v:Y)/2^(8*(q%8))%256))=encB (be32 a b c d)[k]!:=by
    rw[f,<-byte_at (x:=v) (k:=(2^(8*(q%8)))),sy];rfl
   have K:E (_=_):=hv;clear hv f A;go_wp2;rw[K.out];go_roundg (gk-1)
   case measure=>omega
   case rel =>
    refine⟨k+1,S,Z,?_,u.other S _,y.setCell (p:=⟨w.heap.size+1,k,G⟩) (ue _) _⟩;have:=Holds.set n (i:=k) (by rw[jW];omega) (be32 a b c d)[k]!;rw[Yv]at this;exact this
  .have f:k=32:=S;subst f;have hT:=EW (qP (a:=a) (b:=b) (c:=c) (d:=d)) n;have j:=conv_str prog 23 9 5 slice22 int5 str9 wr (w.heap.size+1) 0 32 32 _ hT (qP (a:=a) (b:=b) (c:=c) (d:=d));clear n hT;go_wp2;go_ret;exact⟨_,Z,y,a,b,c,d,Z,Z⟩
section
structure Ord(N:I):Prop where
 gap:Gap 4624529908474429119 4994812053365940164 1 N
 ref:RefP 13822214165235122497 13451932020343611451 18446744073709551614 18446744073709551615 4624529908474429119 4994812053365940164 1 0 N
 le:N<=top
 n2:2<=N%18446744073709551616
variable {N:Nat}
def Ord.pos(O:Ord N):0<N:=oN O.n2
def Ord.four(O:Ord N)(h:a<N):zh (nv a) a:=fD (Yr h O.le)
def sMi(N a b:I):I:=(a+N-b)%N
def sTi(N a b:I):I:=a*b%N
def sIn(N a:I):I:=a^(N-2)%N
def LZ(O:Ord N)(c:a<N)(k:b<N):yy 198 #[gv1,nv a,nv b] (nv (sMi N a b)):=λw =>
 (vW O.gap (O.four c) (O.four k) c k).mono (by rintro e w' ⟨v,rfl,k,d⟩;exact⟨_,Z,k,d.nv⟩)
def LY(O:Ord N)(c:a<N)(k:b<N):yy 154 #[gv1,nv a,nv b] (nv (sTi N a b)):=λw =>
 (qQ O.gap (O.four c) (O.four k)).mono (by rintro e w' ⟨v,rfl,k,d⟩;exact⟨_,Z,k,d.nv⟩)
def Tb(O:Ord N)(k:a<N):yy 185 #[gv1,nv a] (nv (sIn N a)):=λw =>
 (wR _ _ _ N _ a O.gap O.n2 (O.four k) w).mono (by rintro e w' ⟨v,rfl,c,b⟩;exact⟨_,Z,c,b.nv⟩)
def TA(O:Ord N)(c:a<N)(k:b<N):yy 23 #[rv1,nv a,nv b] (nv (sMi N a b)):=λw =>
 (D7 _ _ _ _ _ _ _ _ N _ _ a b O.ref (O.four c) (O.four k) k w).mono (by rintro e w' ⟨v,rfl,k,d⟩;exact⟨_,Z,k,d.nv⟩)
def TC(O:Ord N)(c:a<N)(k:b<N):yy 33 #[rv1,nv a,nv b] (nv (sTi N a b)):=λw =>
 (uP O.ref (O.four c) (O.four k)).mono (by rintro e w' ⟨v,rfl,k,d⟩;exact⟨_,Z,k,d.nv⟩)
def MF(O:Ord N)(k:a<N):yy 98 #[rv1,nv a] (nv (sIn N a)):=λw =>
 (Ea _ _ _ _ _ _ _ _ N _ a O.ref (O.four k) w).mono (by rintro e w' ⟨v,rfl,c,b⟩;exact⟨_,Z,c,b.nv⟩)
def Ek{x y z u:I}(h:nv a=.agg #[U x,U y,U z,U u]):be32 x y z u=bx a:=by
 have h1:wn a=[U x,U y,U z,U u]:=by
  unfold nv at h;injection h with h
  exact congrArg yFg h
 unfold wn at h1;simp only[qn.injEq,ZO.injEq,true_and,and_true,Y.natCast_inj]at h1;obtain⟨rfl,rfl,rfl,rfl⟩:=h1;rfl
def nT(O:Ord N)(k:a<N):yy 40 #[nv a] (.string ⟨bx a⟩):=λw =>
 (yT _ a w (O.four k)).mono (by
  rintro e w' ⟨v,rfl,c,x,y,z,u,b,rfl⟩;exact⟨_,Z,c,by rw[Ek b]⟩)
def cb(b:Bs):H Yq:=b.toList.map encB
def qN(b:Bs):(cb b).length=b.size:=by unfold cb;rw[YO,YM]
def uA{b:Bs}(h:hZ w g 0 b):w.rangeAt g 0 (cb b)/\w.there g 0 (cb b).length:=by
 refine⟨λj v hv=>?_,λj k=>?_⟩
 .have k:j<b.size:=by rw[<-qN];exact(YF.1 hv).1
  rw[(h j k).1];unfold cb at hv;rw[ZE,Zz,Y0 k]at hv;rw[getElem!_pos b j k];exact hv
 rw[qN]at k;exact⟨by rw[(h j k).1];rfl,(h j k).2⟩
theorem cb_holds{b:Bs}(h1:w.rangeAt g 0 (cb b))(c:w.there g 0 (cb b).length):hZ w g 0 b:=λj k=>by
 refine⟨h1 j _ ?_,(c j (by rw[qN];exact k)).2⟩;rw[cb,ZE,Zz,Y0 k,getElem!_pos b j k];rfl
def OK(f:FuncId)(args:yt Yq)(b:Bs)(n:I):Prop:=∀w,cZ f args w (Ret λe w'=>∃k,Made w k (cb b) w'/\e=sZ k n n)
def Mb(O:Ord N)(f:a<N):OK 117 #[nv a] (bx a) 32:=λw =>
 (Cg _ a w (O.four f)).mono (by
  rintro e w' ⟨v,rfl,d,g,x,y,z,u,rfl,k,c,b⟩;rw[Ek c]at b;let⟨h1,i⟩:=uA b
  exact⟨_,Z,g,⟨d,k,Holds.lt b (by rw[bP];omega),h1,i⟩,Z⟩)
end
def XZ{s:I}:(binOp .eql 49 (.agg #[U a,U b,U c,U d]) (.agg #[U p,U q,U r,U s])).run prog w=.ok (.bool (decide (a=p/\b=q/\c=r/\d=s))) w:=by
 go_simp;rw[I6 9997,Zp];by_cases h1:a=p/\b=q/\c=r/\d=s
 .rw[decide_eq_true h1];obtain⟨rfl,rfl,rfl,rfl⟩:=h1;simp
 have k:(decide (a=p) && (decide (b=q) && (decide (c=r) && decide (d=s))))=D:=by
  rw[<-zk.not_eq_true,YJ,YJ,YJ];simpa using h1
 rw[decide_eq_false h1,k];simp
def eqS(k:a<top)(c:b<top):(binOp .eql 49 (nv a) (nv b)).run prog w=.ok (.bool (decide (a=b))) w:=by
 refine(XZ).trans ?_;simp only[uJ k c]
def u40:yZ 49:=yQ
def i40:gZ 49 4:=gQ
def u38:yZ 47:=yQ
def i38:gZ 47 4:=gQ
def u44:yZ 54:=yQ
def i44:gZ 54 4:=gQ
def Ma(O:Ord N)(a b:I)(k:a<N)(f:b<N):yy 131 #[(nv a),(nv b)] (nv (sMi N a b)):=by
 intro w;go_enter func131,ntmps131;refine RG.M.enter [(0,.v (nv a)),(1,.v (nv b))] 12 kR λa0 c=>?_
 refine Yt <| c.T [.m 0,.m 1,.m 2] [(0,wn a),(1,wn b),(2,RG.z 4)] [] [2,3,4] ⟨mk 0 49,mk 1 49,mk 2 49,yw⟩ λj g l o n e=>?_
 refine Yt <| e.D [.c gv1,.s (.p 0 0),.x (nv a),.s (.p 1 0),.x (nv b),.c (nv (sMi N a b)),.x (nv (sMi N a b)),.u 2] [] [(2,7,wn (sMi N a b))] [4] ⟨cl iQ,st,ld u38 i38,st,ld u38 i38,cl (LZ O k f),st,RG.pt i40,yw⟩ λi m d=>?_
 exact Zr (d.rr 2 Z u40 i40)
def kF(O:Ord N)(a b:I)(k:a<N)(f:b<N):yy 79 #[(nv a),(nv b)] (nv (sTi N a b)):=by
 intro w;go_enter func79,ntmps79;refine RG.M.enter [(0,.v (nv a)),(1,.v (nv b))] 12 kR λa0 c=>?_
 refine Yt <| c.T [.m 0,.m 1,.m 2] [(0,wn a),(1,wn b),(2,RG.z 4)] [] [2,3,4] ⟨mk 0 49,mk 1 49,mk 2 49,yw⟩ λj g l o n e=>?_
 refine Yt <| e.D [.c gv1,.s (.p 0 0),.x (nv a),.s (.p 1 0),.x (nv b),.c (nv (sTi N a b)),.x (nv (sTi N a b)),.u 2] [] [(2,7,wn (sTi N a b))] [4] ⟨cl iQ,st,ld u38 i38,st,ld u38 i38,cl (LY O k f),st,RG.pt i40,yw⟩ λi m d=>?_
 exact Zr (d.rr 2 Z u40 i40)
def Cq(O:Ord N)(a:I)(k:a<N):yy 159 #[(nv a)] (nv (sIn N a)):=by
 intro w;go_enter func159,ntmps159;refine RG.M.enter [(0,.v (nv a))] 8 kR λa0 b=>?_
 refine Yt <| b.T [.m 0,.m 1] [(0,wn a),(1,RG.z 4)] [] [1,2] ⟨mk 0 49,mk 1 49,yw⟩ λg e l j d=>?_
 refine Yt <| d.D [.c gv1,.s (.p 0 0),.x (nv a),.c (nv (sIn N a)),.x (nv (sIn N a)),.u 1] [] [(1,5,wn (sIn N a))] [2] ⟨cl iQ,st,ld u38 i38,cl (Tb O k),st,RG.pt i40,yw⟩ λf i c=>?_
 exact Zr (c.rr 1 Z u40 i40)
def O8(v:Yq)(m:I)(ok:zk)(w:Yp)(b:∀w',BelX w.heap.size [] w w'->cZ 59 #[gv1,v] w' (Ret λe c=>kZ w' c/\e=.tuple #[nv m,.bool ok])):
 eZ 16 #[v] w (.tuple #[nv m,.bool ok]):=by
 go_enter func16,ntmps16;refine RG.M.enter [(0,.v v)] 15 kR λa0 d=>?_
 refine Yt <| d.T [.m 0,.x fZ] [(0,RG.z 4)] [] [0,2,3] ⟨mk 0 49,st,yw⟩ λp j n g=>?_
 refine Yt <| g.T [.c gv1,.x v,.c (.tuple #[nv m,.bool ok]),.x (.tuple #[nv m,.bool ok]),.x (nv m),.x (.bool ok),.m 1,.u 1,.x (.bool ok)] [(6,RG.z 4)] [(1,7,wn m)] [2,3,4,5] ⟨cl iQ,st,clB (λ_ _=>kR) b,st,st,st,mk 1 47,RG.pt i38,st,yw⟩ λo l i f=>?_
 refine Yt <| f.T [.x (nv m),.x (nv m),.x (.bool ok),.u 0,.x (.bool ok)] [] [(0,3,wn m)] [2,3] ⟨ld u38 i38,st,st,RG.pt i40,st,yw⟩ λq r k=>?_
 refine Zr<|YB (v:=.tuple #[nv m,.bool ok]) (rK k.st Z Z (k.at (s:=.p 0 0)) (k.av (v:=.bool ok) kR) u40 i40) k.sl.defers ?_
 exact⟨_,Z,k.st.bel.below,Z⟩
def Io{bs:Bs}(O:Ord N)(hv:Arg w v bs):eZ 16 #[v] w (.tuple #[nv ((rq N bs).getD 0),.bool (rq N bs).isSome]):=by
 refine O8 v _ _ w λw' b=>?_
 have h:=Ir O.gap (hv.below b.below);cases k:rq N bs with
 | none=>rw[k]at h;exact h
 | some n=>rw[k]at h;exact h
def sK(O:Ord N)(c:a<N):OK 141 #[nv a] (bx a) 32:=by
 intro w;go_enter func141,ntmps141;refine RG.M.enter [(0,.v (nv a))] 6 kR λa0 d=>?_
 refine Yt <| d.T [.m 0,.x nZ] [(0,wn a)] [] [1,2] ⟨mk 0 49,st,yw⟩ λg l j e=>?_
 refine Yt <| e.t [.s 3 [] (.p 0 0),.x 4 [(3,0)] (nv a),⟨F 5,[(4,1)],.s 1 32 32,.make 1⟩,.s 2 [(5,2)] (.s 1 32 32)] [(2,cb (bx a))] [] [wn a,cb (bx a)] [(2,.s 1 32 32)] ⟨st,ld u38 i38,RG.cm 1 (λw _=>Mb O c w) λ_ _=>kR,st,yw⟩ λm f i k=>?_
 refine Zr<|YB (v:=_) (lN Z (k.at (s:=.s 1 32 32))) k.sl.defers ?_
 exact⟨_,Z,_,k.st.made (b:=1) Z,Z⟩
def Iy(O:Ord N)(s:R):yy 20 #[.string s] (.tuple #[nv (nuV s.data),.bool (rq N s.data).isSome]):=by
 intro w;have k:=Tt O.ref s;let⟨m,g⟩:∃m,m=nuV s.data:=⟨_,Z⟩
 let⟨ok,d⟩:∃b,b=(rq N s.data).isSome:=⟨_,Z⟩
 rw[<-g,<-d]at k⊢;go_enter func20,ntmps20;refine RG.M.enter [(0,.v (.string s))] 9 kR λa0 e=>?_
 refine Yt <| e.T [.m 0,.x fZ] [(0,RG.z 4)] [] [0,2,3] ⟨mk 0 54,st,yw⟩ λj o n f=>?_
 refine Yt <| f.T [.c rv1,.x (.string s),.c (.tuple #[nv m,.bool ok]),.x (nv m),.x (.bool ok),.u 0,.x (.bool ok)] [] [(0,5,wn m)] [2,3] ⟨cl Dm,st,cl k,st,st,RG.pt i44,st,yw⟩ λi l c=>?_
 refine Zr<|YB (v:=.tuple #[nv m,.bool ok]) (rK c.st Z Z (c.at (s:=.p 0 0)) (c.av (v:=.bool ok) kR) u44 i44) c.sl.defers ?_
 exact⟨_,Z,c.st.bel.below,Z⟩
namespace SP
def XL(x:BitVec 64):(x.toNat:Y)<2^64:=by
 have:=x.isLt;omega
def dX(x:BitVec 64):tn 64 (x.toNat:Y)=x:=by
 apply BitVec.eq_of_toNat_eq;rw[BitVec.ofInt_natCast,yEa];exact YL x.isLt
def fR(x:BitVec 64):Zk.wrap (x.toNat:Y)=x.toNat:=by
 rw[rj];have:=XL x;exact Y.emod_eq_of_lt S this
def u(v:BitVec 64):Y:=(v.toNat:Y)
def dA(a b:BitVec 64):bits .xor .u64 (u a) (u b)=u (a ^^^ b):=by
 show Zk.wrap ((tn 64 (a.toNat:Y) ^^^ tn 64 (b.toNat:Y)).toNat:Y)=_;rw[dX,dX,fR];rfl
def dV(a b:BitVec 64):bits .and .u64 (u a) (u b)=u (a &&& b):=by
 show Zk.wrap ((tn 64 (a.toNat:Y) &&& tn 64 (b.toNat:Y)).toNat:Y)=_;rw[dX,dX,fR];rfl
def dJ(a b:BitVec 64):bits .or .u64 (u a) (u b)=u (a ||| b):=by
 show Zk.wrap ((tn 64 (a.toNat:Y) ||| tn 64 (b.toNat:Y)).toNat:Y)=_;rw[dX,dX,fR];rfl
def rU(a:BitVec 64):bits .xor .u64 Zk.max (u a)=u (~~~a):=by
 have e:Zk.max=u (BitVec.allOnes 64):=dK;rw[e,dA,BitVec.allOnes_xor]
def WY(b:k<64):bits .and .u64 (k:Y) 63=k:=by
 have h:∀j:B 64,bits .and .u64 ((j.val:I):Y) 63=(j.val:Y):=dK;exact h ⟨k,b⟩
def Bw(x:BitVec 64)(k:I):Zk.wrap (u x*2^k)=u (x <<< k):=by
 unfold u;rw[rj,BitVec.toNat_shiftLeft,I.shiftLeft_eq,Y.natCast_emod,py,sy];rfl
def Ip(x:BitVec 64)(k:I):u x/2^k=u (x >>> k):=by
 unfold u;rw[BitVec.toNat_ushiftRight,I.shiftRight_eq_div_pow,yCQ,sy];rfl
def rol(w:BitVec 64)(n:I):BitVec 64:=w <<< n ||| w >>> (64-n)
abbrev St:=yt (BitVec 64)
def enc(v:BitVec 64):Yq:=U (u v)
def G9(d:St)(x:I):BitVec 64:=d[x]! ^^^ d[x+5]! ^^^ d[x+10]! ^^^ d[x+15]! ^^^ d[x+20]!
def mB(d:St):I->St
 | 0=>#[0,0,0,0,0]
 | k+1=>(mB d k).setIfInBounds k (G9 d k)
def bJ(d:St)(i:I)(v:BitVec 64):St:=d.setIfInBounds i (d[i]! ^^^ v)
def mR(v:BitVec 64)(x:I)(d:St):I->St
 | 0=>d
 | m+1=>bJ (mR v x d m) (x+5*m) v
def bQ(s:St)(x:I):BitVec 64:=s[(x+4)%5]! ^^^ rol s[(x+1)%5]! 1
def kQ(s d:St):I->St
 | 0=>d
 | k+1=>mR (bQ s k) k (kQ s d k) 5
def v7(d:St):St:=kQ (mB d 5) d 5
def cE(d:St)(i:I)(v:BitVec 64):(bJ d i v).size=d.size:=by simp[bJ]
def v8(d:St)(k:I):(mB d k).size=5:=by
 induction k with
 | zero=>rfl
 | succ k ih=>simp[mB,ih]
def tM(v:BitVec 64)(x:I)(d:St)(m:I):(mR v x d m).size=d.size:=by
 induction m with
 | zero=>rfl
 | succ k ih=>simp[mR,cE,ih]
def sH{s d:St}:(kQ s d m).size=d.size:=by
 induction m with
 | zero=>rfl
 | succ k ih=>simp[kQ,tM,ih]
structure Tm where
 x:I
 y:I
 m:BitVec 64
 d:St
def zK(t:I):I:=(t+1)*(t+2)/2%64
def Fy(t:I)(s:Tm):Tm:=
 { x:=s.y,y:=(2*s.x+3*s.y)%5,m:=s.d[s.y+5*((2*s.x+3*s.y)%5)]!,d:=s.d.setIfInBounds (s.y+5*((2*s.x+3*s.y)%5)) (rol s.m (zK t)) }
def wT(d:St):I->Tm
 | 0=>{ x:=1,y:=0,m:=d[1]!,d:=d }
 | t+1=>Fy t (wT d t)
def tA(d:St):St:=(wT d 24).d
def Ik{d:St}(hd:d.size=25)(t:I):(wT d t).x<5/\(wT d t).y<5/\(wT d t).d.size=25:=by
 induction t with
 | zero=>exact⟨show 1<5 by decide,show 0<5 by decide,hd⟩
 | succ t ih =>
  let⟨h1,b,k⟩:=ih
  refine⟨b,?_,?_⟩
  .show(2*(wT d t).x+3*(wT d t).y)%5<5;omega
  show((wT d t).d.setIfInBounds _ _).size=25;rw[Zg,k]
def rowAt(d:St)(i:I):St:=
 bJ (bJ (bJ (bJ (bJ d i (~~~d[i+1]! &&& d[i+2]!)) (i+1) (~~~d[i+2]! &&& d[i+3]!)) (i+2) (~~~d[i+3]! &&& d[i+4]!)) (i+3) (~~~d[i+4]! &&& d[i]!)) (i+4) (~~~d[i]! &&& d[i+1]!)
def Az(d:St):I->St
 | 0=>d
 | k+1=>rowAt (Az d k) (5*k)
def chi(d:St):St:=Az d 5
def FZ(d:St)(i:I):(rowAt d i).size=d.size:=by simp[rowAt,cE]
def Ay{d:St}:(Az d k).size=d.size:=by
 induction k with
 | zero=>rfl
 | succ k ih=>simp[Az,FZ,ih]
def mZ(r:I):I:=if 255<2*r then(2*r) ^^^ 369 else 2*r
def yR(r:I):I->BitVec 64 × I
 | 0=>(0,r)
 | j+1=>((yR r j).1 ||| yg 64 ((yR r j).2%2) <<< (2^j-1),mZ (yR r j).2)
def yS(h:r<256):mZ r<256:=by
 have H:∀j:B 256,mZ j.val<256:=dK;exact H ⟨r,h⟩
def Pr(h:r<256):(yR r j).2<256:=by
 induction j with
 | zero=>exact h
 | succ j ih=>exact yS ih
def Mt(h:r<256):bits .xor .i64 ((r:Y)*2) 369=(((2*r) ^^^ 369:I):Y):=by
 have H:∀j:B 256,bits .xor .i64 ((j.val:Y)*2) 369=(((2*j.val) ^^^ 369:I):Y):=dK;exact H ⟨r,h⟩
def Mv(h:r<256):bits .and .i64 (r:Y) 1=u (yg 64 (r%2)):=by
 have H:∀j:B 256,bits .and .i64 (j.val:Y) 1=u (yg 64 (j.val%2)):=dK;exact H ⟨r,h⟩
def rC(x:BitVec 64):Zk.wrap (u x)=u x:=fR x
def oJ(d:St)(c:BitVec 64):St:=bJ (chi (tA (v7 d))) 0 c
def rcC(r:I):BitVec 64:=(yR r 7).1
def rcN(r:I):I:=(yR r 7).2
def Tq(h:r<256):rcN r<256:=by
 unfold rcN;exact Pr h
def Bd:I->I
 | 0=>1
 | k+1=>rcN (Bd k)
def Pu(k:I):Bd k<256:=by
 induction k with
 | zero=>decide
 | succ k ih=>exact Tq ih
def nY(d:St):I->St
 | 0=>d
 | k+1=>oJ (nY d k) (rcC (Bd k))
def perm(d:St):St:=nY d 24
def kD(d:St):(v7 d).size=d.size:=sH
def mE{d:St}(hd:d.size=25):(tA d).size=25:=(Ik hd 24).2.2
def EQ(d:St):(chi d).size=d.size:=Ay
def Ex{d:St}{c:BitVec 64}(hd:d.size=25):(oJ d c).size=25:=by
 rw[oJ,cE,EQ,mE];rw[kD,hd]
def nX{d:St}(hd:d.size=25)(k:I):(nY d k).size=25:=by
 induction k with
 | zero=>exact hd
 | succ k ih=>exact Ex ih
def uU{d:St}(hd:d.size=25):(perm d).size=25:=nX hd 24
abbrev Bs:=yt yv
def ub(x:yv):Y:=(x.toNat:Y)
def encB(x:yv):Yq:=.int .u8 (ub x)
def wide(x:yv):BitVec 64:=yg 64 x.toNat
def low(v:BitVec 64):yv:=YK v.toNat
def OU(x:yv):ub x=u (wide x):=by
 unfold ub u wide;rw[yEa,YL];have:=x.toNat_lt;omega
def Ch(x:yv):Zk.wrap (ub x)=u (wide x):=by rw[OU,rC]
def RI(v:BitVec 64):xb.wrap (u v)=ub (low v):=by
 have e:xb.wrap (u v)=u v%256:=by simp[IntKind.wrap,IntKind.bits,IntKind.signed]
 rw[e];unfold u ub low;rw[yv.toNat_ofNat'];omega
def lF(bs:Bs)(o:I):I->BitVec 64
 | 0=>0
 | i+1=>lF bs o i ||| wide bs[o+i]! <<< (8*i)
def wordOf(bs:Bs)(o:I):BitVec 64:=lF bs o 8
def fY(bs:Bs)(d:St):I->St
 | 0=>d
 | i+1=>bJ (fY bs d i) i (wordOf bs (8*i))
def dT(bs:Bs)(d:St)(k:I):(fY bs d k).size=d.size:=by
 induction k with
 | zero=>rfl
 | succ k ih=>simp[fY,cE,ih]
def byteOf(d:St)(k:I):yv:=low (d[k/8]! >>> (8*(k%8)))
def eM(d:St)(n:I):I->Bs
 | 0=>YD n 0
 | k+1=>(eM d n k).setIfInBounds k (byteOf d k)
def front(d:St)(n:I):Bs:=eM d n n
def jV{d:St}:(eM d n k).size=n:=by
 induction k with
 | zero=>simp[eM]
 | succ k ih=>simp[eM,ih]
def aS{d:St}:(front d n).size=n:=jV
end SP
namespace SP
structure Only(b off n:I)(w w':Yp):Prop where
 os:w'.os=w.os
 tape:w'.tape=w.tape
 output:w'.output=w.output
 size:w.heap.size<=w'.heap.size
 block:∀k,k<w.heap.size->k≠b->w'.heap[k]? = w.heap[k]?
 cell:∀o,(o<off\/off+n<=o)->w'.cell? ⟨b,o,G⟩=w.cell? ⟨b,o,G⟩
 froz:∀o,w'.frozen? ⟨b,o,G⟩=w.frozen? ⟨b,o,G⟩
variable {b off n:Nat}{w w1 w2:Yp}
def Only.refl(b off n:I)(w:Yp):Only b off n w w:=⟨Z,Z,Z,Ys _,λ_ _ _=>rfl,λ_ _=>rfl,λ_=>rfl⟩
def Only.trans(h:Only b off n w w1)(k:Only b off n w1 w2):Only b off n w w2:=
 ⟨k.os.trans h.os,k.tape.trans h.tape,k.output.trans h.output,YA h.size k.size,
  λi d c=>(k.block i (Yr d h.size) c).trans (h.block i d c),
  λo ho=>(k.cell o ho).trans (h.cell o ho),λo=>(k.froz o).trans (h.froz o)⟩
def Only.drewN(h:Only b off n w w1)(q:I):Only b off n w (w1.drewN q):=⟨h.os,h.tape,h.output,h.size,h.block,h.cell,h.froz⟩
def Only.drew(h:Only b off n w w1):Only b off n w w1.drew:=⟨h.os,h.tape,h.output,h.size,h.block,h.cell,h.froz⟩
def Only.setCell(h:Only b off n w w1)(h1:off<=o)(f:o<off+n)(v:Yq):Only b off n w (w1.setCell ⟨b,o,G⟩ v):=by
 refine h.trans ⟨Z,Z,Z,by simp,λk _ d=>Below.heap_setCell _ _ _ _ d,λc ho=>?_,λc=>by simp⟩;exact Z8 _ _ _ _ (by intro e;simp only[Addr.mk.injEq,and_true,true_and]at e;omega)
def Only.alloc(h:Only b off n w w1)(e:b<w1.heap.size)(o:Obj):Only b off n w (w1.alloc o):=by
 refine h.trans ⟨Z,Z,Z,by simp,λk c _=>Below.heap_alloc _ _ _ c,λd _=>?_,λd=>?_⟩
 .exact World.cell?_alloc_lt _ _ _ e
 exact World.frozen?_alloc_old _ _ _ (by show b≠_;omega)
def Only.below(h:Only b off n w w1){B:I}(e:B<=w.heap.size)(d:B<=b):Below B w w1:=
 ⟨h.os,h.tape,h.output,h.size,λk c=>h.block k S S⟩
def Only.of_below{B:I}(h:Below B w w1)(e:B=w.heap.size)(c:b<B):Only b off n w w1:=
 ⟨h.os,h.tape,h.output,h.size,λk d _=>h.block k S,λo _=>h.cell (p:=⟨b,o,G⟩) c,λo=>h.frozen (p:=⟨b,o,G⟩) c⟩
def Only.other(h:Only b off n w w1)(k:c≠b)(hs:c<w.heap.size):w1.cell? ⟨c,o,G⟩=w.cell? ⟨c,o,G⟩/\w1.frozen? ⟨c,o,G⟩=w.frozen? ⟨c,o,G⟩:=
 ⟨World.cell?_of_block (w:=w) (h.block c hs k),World.frozen?_of_block (w:=w) (h.block c hs k)⟩
def Only.fresh{x:Obj}(h:Only w.heap.size o m (w.alloc x) w1):Below w.heap.size w w1:=
 ((YH _ _).alloc (Ys _) x).trans (h.below (by simp) (Ys _))
section
variable {α:Type}[Inhabited α]{enc:α->Yq}{d:Array α}
def Holds.lt(h:yx enc w b off d)(hd:0<d.size):b<w.heap.size:=World.block_lt_of_cell? _ _ (h 0 hd).1
def Holds.other(h:yx enc w c o d)(k:Only b off n w w1)(f:c≠b)(hd:0<d.size):yx enc w1 c o d:=by
 intro j e;have:=h j e;have:=k.other (o:=o+j) f (Holds.lt h hd);rw[this.1,this.2];exact h j e
def Holds.same(h:yx enc w b o d)(k:Only b off n w w1)(hd:o+d.size<=off\/off+n<=o):yx enc w1 b o d:=by
 intro j c;rw[k.cell _ S,k.froz];exact h j c
def Holds.below{B:I}(h:yx enc w b off d)(k:Below B w w1)(c:b<B):yx enc w1 b off d:=by
 intro j e;rw[k.cell (p:=⟨b,off+j,G⟩) c,k.frozen (p:=⟨b,off+j,G⟩) c];exact h j e
def Holds.drewN(h:yx enc w b off d)(q:I):yx enc (w.drewN q) b off d:=h
def Holds.drew(h:yx enc w b off d):yx enc w.drew b off d:=h
def Holds.set(h:yx enc w b off d){i:I}(c:i<d.size)(x:α):yx enc (w.setCell ⟨b,off+i,G⟩ (enc x)) b off (d.setIfInBounds i x):=by
 intro j k;rw[Zg]at k;rw[World.frozen?_setCell];by_cases e:j=i
 .subst e;rw[getElem!_set_same d j x c];exact⟨World.cell?_setCell_same _ _ _ (h j k).1,(h j k).2⟩
 rw[getElem!_set_other d i j x e,Z8 _ _ _ _ (by intro e';simp only[Addr.mk.injEq,and_true,true_and]at e';omega)];exact h j k
def Holds.new(w:Yp)(t:YW)(d:yt α):yx enc (w.alloc (.cells (d.map enc) t)) w.heap.size 0 d:=by
 intro j k;rw[Zj,qj];refine⟨?_,Z⟩;simp only[Yv,yt.getElem?_map,Y0 k,ur,getElem!_pos d j k]
def Holds.made(w:Yp)(t:YW)(n:I)(x:α):yx enc (w.alloc (.cells (madeCells #[enc x] n) t)) w.heap.size 0 (YD n x):=by
 intro j k;rw[yt.size_replicate]at k;rw[Zj,qj];refine⟨?_,Z⟩;rw[getElem!_pos _ j (by simpa using k),yt.getElem_replicate];simp[madeCells,k,yEB]
end
def Holds.xor{d:St}(h:yx enc w b off d){i:I}(k:i<d.size){x:BitVec 64}(hx:d[i]! = x)(v:BitVec 64):yx enc (w.setCell ⟨b,off+i,G⟩ (uZ (u (x ^^^ v)))) b off (bJ d i v):=by
 rw[bJ,hx];exact Holds.set h k (x ^^^ v)
def bW{d:St}{i:I}{v:BitVec 64}(h:j≠i):(bJ d i v)[j]! = d[j]!:=getElem!_set_other d i j _ h
end SP
namespace SP
def mixed:prog.follows .mixedOrders=J:=kR
def aT{i:I}{d:St}(h:yx enc w b off d)(k:i<d.size){x:BitVec 64}(hx:d[i]! = x):
 w.cell? ⟨b,off+i,G⟩=F (U (u x))/\w.frozen? ⟨b,off+i,G⟩=D:=by
 rw[<-hx];exact h i k
def ret_int{k:IntKind}{a b:Y}(h:a=b):Ending.returned (.int k a)=.returned (.int k b):=by rw[h]
def DR(x:BitVec 64)(k:I)(w:Yp)(b:k<64):
 cZ 252 #[U (u x),iZ k] w λe w'=>e=.returned (U (u (rol x k)))/\w'=w:=by
 have c:=WY b;go_enter func252,ntmps252;go_wp2;go_ret;refine⟨ret_int ?_,Z⟩;rw[Bw,Ip,dJ];rfl
end SP
namespace SP
def Ey{t:YW}:yx enc (w.alloc (.cells #[U 0,U 0,U 0,U 0,U 0] t)) w.heap.size 0 (#[0,0,0,0,0]:St):=by
 have h:=Holds.new (enc:=enc) w t (#[0,0,0,0,0]:St);have e:yt.map enc (#[0,0,0,0,0]:St)=#[U 0,U 0,U 0,U 0,U 0]:=by simp[enc,u]
 rw[e]at h;exact h
attribute [local go_sem] dA dV dJ
def zS(b off:I)(d:St)(w:Yp)(hd:d.size=25)(hH:yx enc w b off d):
 Zl prog 248 #[.pointer (F ⟨b,off,G⟩)] w λe w'=>e=.returned (.tuple #[])/\Only b off 25 w w'/\yx enc w' b off (v7 d):=by
 have hb:=Holds.lt hH S;go_enter func248,ntmps248;go_wp2;generalize o:(w.alloc _)=W1;go_loopg [7] 5 (λg s7 wr=>∃k l,k+g=5/\s7=.int .i64 (k:I)/\yx enc wr w.heap.size 0 l/\Only w.heap.size 0 5 W1 wr/\E (l=mB d k))
 case atStart =>
  refine⟨0,#[0,0,0,0,0],Z,Z,?_,Only.refl _ _ _ _,Z⟩;rw[<-o];exact Ey (w:=w) (t:=314)
 case round =>
  obtain⟨k,l,X,rfl,L,n,q⟩:=hrel;have j:yx enc wr b off d:=Holds.other (by rw[<-o];exact Holds.below hH ((YH _ _).alloc (Ys _) _) hb) n S S;by_cases A:k<5
  .obtain⟨C,r⟩:∃x,d[k]! = x:=⟨_,Z⟩
   obtain⟨K,t⟩:∃x,d[k+5]! = x:=⟨_,Z⟩
   obtain⟨a,s⟩:∃x,d[k+10]! = x:=⟨_,Z⟩
   obtain⟨N,u⟩:∃x,d[k+15]! = x:=⟨_,Z⟩
   obtain⟨y,p⟩:∃x,d[k+20]! = x:=⟨_,Z⟩
   obtain⟨x5,v⟩:∃x,l[k]! = x:=⟨_,Z⟩
   have P:l.size=5:=by rw[q.out,v8]
   obtain⟨M,f0⟩:=aT j (i:=k) S r;obtain⟨c1,f1⟩:=aT j (i:=(k+5)) S t;obtain⟨c2,f2⟩:=aT j (i:=(k+10)) S s;obtain⟨c3,f3⟩:=aT j (i:=(k+15)) S u;obtain⟨c4,f4⟩:=aT j (i:=(k+20)) S p;obtain⟨O,Q⟩:=aT L (i:=k) S v;rw[Yv]at O Q;have T:E (G9 d k=C ^^^ K ^^^ a ^^^ N ^^^ y):=by rw[<-r,<-t,<-s,<-u,<-p];rfl
   clear r t s u p v j;have k5:(k:Y)<5:=S;have b0:(k:Y)<25:=S;have b1:(k:Y)+5<25:=S;have b2:(k:Y)+10<25:=S;have b3:(k:Y)+15<25:=S;have b4:(k:Y)+20<25:=S;have p1:0<=(k:Y)+5:=S;have p2:0<=(k:Y)+10:=S;have p3:0<=(k:Y)+15:=S;have W:0<=(k:Y)+20:=S;have e1:((k:Y)+5).toNat=k+5:=S;have V:((k:Y)+10).toNat=k+10:=S;have e3:((k:Y)+15).toNat=k+15:=S;have e4:((k:Y)+20).toNat=k+20:=S;have v1:YQ.wrap ((k:Y)+5)=(k:Y)+5:=ZG _ S;have v2:YQ.wrap ((k:Y)+10)=(k:Y)+10:=ZG _ S;have v3:YQ.wrap ((k:Y)+15)=(k:Y)+15:=ZG _ S;have v4:YQ.wrap ((k:Y)+20)=(k:Y)+20:=ZG _ S;go_wp2_with fail
   go_still_tail 35,mixed;go_wp2;go_roundg (gk-1)
   case measure=>omega
   case rel =>
    refine⟨k+1,l.setIfInBounds k (C ^^^ K ^^^ a ^^^ N ^^^ y),S,by go_num,?_,?_,?_⟩
    .have:=Holds.set L (i:=k) S (C ^^^ K ^^^ a ^^^ N ^^^ y);rw[Yv]at this;exact Holds.drew this
    .exact(n.setCell (I.zero_le _) S _).drew
    .show _=(mB d k).setIfInBounds k (G9 d k);rw[T.out,q.out]
  .have t:k=5:=S;subst t;have HS:E (l=mB d 5):=q;have T:Only b off 25 w wr:=by
    rw[<-o]at n;exact Only.of_below n.fresh Z hb
   clear X A q n o;go_wp2;go_loopg [46] 5 (λg s46 C=>∃k r,k+g=5/\s46=.int .i64 (k:I)/\yx enc C b off r/\Only b off 25 wr C/\E (r=kQ l d k))
   case atStart=>exact⟨0,d,Z,Z,j,Only.refl _ _ _ _,Z⟩
   case round =>
    obtain⟨k,r,X,rfl,hD,n,q⟩:=hrel;by_cases A:k<5
    .have P:l.size=5:=by rw[HS.out,v8]
     have y:=Holds.other L n S S;obtain⟨a,u⟩:∃x,l[(k+4)%5]! = x:=⟨_,Z⟩
     obtain⟨v,s⟩:∃x,l[(k+1)%5]! = x:=⟨_,Z⟩
     obtain⟨M,f0⟩:=aT y (i:=((k+4)%5)) S u;obtain⟨c1,f1⟩:=aT y (i:=((k+1)%5)) S s;rw[Yv]at M c1;have HD:E (bQ l k=a ^^^ rol v 1):=by rw[<-u,<-s];rfl
     clear u s f0 f1;have k5:(k:Y)<5:=S;go_wp2_with fail
     go_quiet ((go_at_call 252;exact ZF (DR _ 1 _ dC)));clear M c1;go_wp2;have h2:=n.drewN nq;have W:r.size=25:=by rw[q.out,sH,hd]
     go_loopg [6] 5 (λg s6 C=>∃m p,m+g=5/\s6=.int .i64 ((k+5*m:I):Y)/\yx enc C b off p/\Only b off 25 wr C/\E (p=mR (a ^^^ rol v 1) k r m))
     case atStart=>exact⟨0,r,Z,Z,Holds.drewN hD nq,(Only.refl _ _ _ _).drewN _,Z⟩
     case round =>
      obtain⟨m,p,hm,rfl,V,K,O⟩:=hrel;by_cases h0:m<5
      .have h3:p.size=25:=by rw[O.out,tM,W]
       obtain⟨z,Q⟩:∃x,p[k+5*m]! = x:=⟨_,Z⟩
       obtain⟨c,f⟩:=aT V (i:=(k+5*m)) S Q;have HZ:E (p[k+5*m]! = z):=Q;clear Q;have r1:((k+5*m:I):Y)<25:=S;generalize N:k+5*m=i at *;have Hi:E (k+5*m=i):=N;clear N;go_wp2_with fail
       go_still_tail 9,mixed;go_wp2;go_roundg (gk-1)
       case measure=>omega
       case rel =>
        refine⟨m+1,p.setIfInBounds i (z ^^^ (a ^^^ rol v 1)),S,?_,?_,?_,?_⟩
        .rw[<-Hi.out];go_num
        .exact Holds.drew (Holds.set V S _)
        .exact(K.setCell (xt _ _) S _).drew
        .show _=bJ (mR (a ^^^ rol v 1) k r m) (k+5*m) (a ^^^ rol v 1);rw[<-O.out,Hi.out,<-HZ.out];rfl
      .have Q:m=5:=S;subst Q;have r1:(25:Y)<=((k+5*5:I):Y):=S;generalize N:k+5*5=i at *;go_wp2;go_roundg (4-k)
       case measure=>omega
       case rel =>
        refine⟨k+1,p,S,by go_num,V,n.trans K,?_⟩;show _=mR (bQ l k) k (kQ l d k) 5;rw[<-q.out,HD.out];exact O
    .have t:k=5:=S;subst t;go_wp2
     go_end0
     refine⟨Z,T.trans n,?_⟩;have:v7 d=r:=by rw[q.out,HS.out];rfl
     rw[this];exact hD
end SP
namespace SP
attribute [local go_sem] dA dV dJ
def MR(h:t<24):(wrap64 ((wrap64 (((t:Y)+1)*((t:Y)+2))).tdiv 2)).tmod 64=(zK t:Y):=by
 have H:∀j:B 24,(wrap64 ((wrap64 (((j.val:Y)+1)*((j.val:Y)+2))).tdiv 2)).tmod 64=(zK j.val:Y):=dK;exact H ⟨t,h⟩
def wS(b off:I)(d:St)(w:Yp)(hd:d.size=25)(L:yx enc w b off d):
 cZ 249 #[oZ b off] w λe w'=>e=.returned (.tuple #[])/\Only b off 25 w w'/\yx enc w' b off (tA d):=by
 obtain⟨P,l⟩:∃x,d[1]! = x:=⟨_,Z⟩
 obtain⟨c1,f1⟩:=aT L (i:=1) S l;go_enter func249,ntmps249;go_wp2;go_loopg [2,3,4,12] 24 (λg sx M sm st wr=>∃t T,t+g=24/\st=iZ (t:I)/\sx=iZ (T.x:I)/\M=iZ (T.y:I)/\sm=U (u T.m)/\yx enc wr b off T.d/\Only b off 25 w wr/\E (T=wT d t))
 case atStart=>exact⟨0,wT d 0,Z,Z,Z,Z,by rw[<-l];rfl,L,Only.refl _ _ _ _,Z⟩
 case round =>
  obtain⟨t,⟨x,y,m,K⟩,Q,rfl,rfl,rfl,rfl,q,a,r⟩:=hrel;have j:=Ik (d:=d) hd t;rw[<-r.out]at j;obtain⟨hx,N,hs⟩:=j;dsimp only at hx N hs q;by_cases v:t<24
  .obtain⟨i,O⟩:=vH (y+5*((2*x+3*y)%5));obtain⟨z,C⟩:∃z,K[i]! = z:=⟨_,Z⟩
   obtain⟨c,f⟩:=aT q (i:=i) S C;have A:=mk1 (O);go_wp2_with fail
   rw[MR (t:=t) v];apply(DR m (zK t) _ (ZL _ dC)).mono;rintro e w' ⟨rfl,rfl⟩;go_wp2_with fail
   obtain⟨p,s⟩:=vH ((2*x+3*y)%5);have o:(2*(x:Y)+3*(y:Y))%5=(p:Y):=S;rw[o];have k:=mk1 (s);have V:((y:Y)+5*(p:Y)).toNat=i:=by have:=A;have:=k;omega
   go_region
   go_wp2;go_roundg (gk-1)
   case measure=>omega
   case rel =>
    refine⟨t+1,⟨y,p,z,K.setIfInBounds i (rol m (zK t))⟩,S,by go_num,Z,Z,Z,?_,?_,?_⟩
    .exact Holds.drew (Holds.set q S _)
    .exact(a.setCell (xt _ _) S _).drew
    .show _=Fy t (wT d t);rw[<-r.out];simp only[Fy,k.out];have e:y+5*p=i:=by have:=A;have:=k;omega
     rw[e,(mk1 C).out]
  .have k:t=24:=S;subst k;go_wp2
   go_end0
   refine⟨Z,a,?_⟩;show yx enc _ b off (wT d 24).d;rw[<-r.out];exact q
end SP
namespace SP
attribute [local go_sem] dA dV dJ rU
def Ep(b off:I)(d:St)(w:Yp)(hd:d.size=25)(hH:yx enc w b off d):
 Zl prog 250 #[.pointer (F ⟨b,off,G⟩)] w λe w'=>e=.returned (.tuple #[])/\Only b off 25 w w'/\yx enc w' b off (chi d):=by
 go_enter func250,ntmps250;go_wp2;go_loopg [2] 5 (λg si wr=>∃k j,k+g=5/\si=.int .i64 ((5*k:I):Y)/\yx enc wr b off j/\Only b off 25 w wr/\E (j=Az d k))
 case atStart=>exact⟨0,d,Z,Z,hH,Only.refl _ _ _ _,Z⟩
 case round =>
  obtain⟨k,j,hk,rfl,A,hO,HE⟩:=hrel;have hs:j.size=25:=by rw[HE.out,Ay,hd]
  by_cases hu:k<5
  .obtain⟨i,hi⟩:=vH (5*k);rw[hi];have Hi:E (5*k=i):=hi;obtain⟨u,O⟩:∃x,j[i]! = x:=⟨_,Z⟩
   obtain⟨s,h3⟩:∃x,j[i+1]! = x:=⟨_,Z⟩
   obtain⟨r,T⟩:∃x,j[i+2]! = x:=⟨_,Z⟩
   obtain⟨p,h4⟩:∃x,j[i+3]! = x:=⟨_,Z⟩
   obtain⟨m,M⟩:∃x,j[i+4]! = x:=⟨_,Z⟩
   obtain⟨c0,f0⟩:=aT A (i:=i) S O;obtain⟨c1,f1⟩:=aT A (i:=(i+1)) S h3;obtain⟨c2,f2⟩:=aT A (i:=(i+2)) S T;obtain⟨c3,f3⟩:=aT A (i:=(i+3)) S h4;obtain⟨c4,f4⟩:=aT A (i:=(i+4)) S M;have L:E (j[i]! = u):=O;have q:E (j[i+1]! = s):=h3;have l:E (j[i+2]! = r):=T;have f:E (j[i+3]! = p):=h4;have c:E (j[i+4]! = m):=M;have Q0:=L;have Q1:=q;have Q2:=l;have Q3:=f;have Q4:=c;have b1:(i:Y)+1<25:=S;have p1:0<=(i:Y)+1:=S;have e1:((i:Y)+1).toNat=i+1:=S;have v1:YQ.wrap ((i:Y)+1)=(i:Y)+1:=ZG _ S;have b2:(i:Y)+2<25:=S;have p2:0<=(i:Y)+2:=S;have e2:((i:Y)+2).toNat=i+2:=S;have v2:YQ.wrap ((i:Y)+2)=(i:Y)+2:=ZG _ S;have b3:(i:Y)+3<25:=S;have p3:0<=(i:Y)+3:=S;have e3:((i:Y)+3).toNat=i+3:=S;have v3:YQ.wrap ((i:Y)+3)=(i:Y)+3:=ZG _ S;have b4:(i:Y)+4<25:=S;have p4:0<=(i:Y)+4:=S;have e4:((i:Y)+4).toNat=i+4:=S;have v4:YQ.wrap ((i:Y)+4)=(i:Y)+4:=ZG _ S;go_wp2_with fail
   go_quiet (fail);clear c1 c2 c3 c4 f1 f2 f3 f4 b1 p1 e1 v1 b2 p2 e2 v2 b3 p3 e3 v3 b4 p4 e4 v4;go_wp2_with fail
   go_region
   go_wp2_with fail
   generalize z:xc _ _ _=W0;have hq:(bJ j i (~~~s &&& r)).size=25:=by rw[cE];omega
   have h0:yx enc W0 b off (bJ j i (~~~s &&& r)):=by rw[<-z];exact Holds.xor (Holds.drewN A _) S L _
   have h6:Only b off 25 w W0:=by rw[<-z];exact(hO.drewN _).setCell (o:=off+i) S S _
   generalize n:bJ j i (~~~s &&& r)=t at *;have hb:E (bJ j i (~~~s &&& r)=t):=n;have q:E (t[i+1]! = s):=by show _=_;rw[<-n,bW S];exact q
   have l:E (t[i+2]! = r):=by show _=_;rw[<-n,bW S];exact l
   have f:E (t[i+3]! = p):=by show _=_;rw[<-n,bW S];exact f
   have c:E (t[i+4]! = m):=by show _=_;rw[<-n,bW S];exact c
   obtain⟨c1,f1⟩:=aT h0 (i:=(i+1)) S q;clear n z c0 f0;have b1:(i:Y)+1<25:=S;have p1:0<=(i:Y)+1:=S;have e1:((i:Y)+1).toNat=i+1:=S;have v1:YQ.wrap ((i:Y)+1)=(i:Y)+1:=ZG _ S;go_region
   go_wp2_with fail
   generalize N:xc _ _ _=W1;have ht:(bJ t (i+1) (~~~r &&& p)).size=25:=by rw[cE];omega
   have Q:yx enc W1 b off (bJ t (i+1) (~~~r &&& p)):=by rw[<-N];exact Holds.xor h0 S q _
   have hc:Only b off 25 w W1:=by rw[<-N];exact(h6).setCell (o:=off+(i+1)) S S _
   generalize v:bJ t (i+1) (~~~r &&& p)=y at *;have he:E (bJ t (i+1) (~~~r &&& p)=y):=v;have l:E (y[i+2]! = r):=by show _=_;rw[<-v,bW S];exact l
   have f:E (y[i+3]! = p):=by show _=_;rw[<-v,bW S];exact f
   have c:E (y[i+4]! = m):=by show _=_;rw[<-v,bW S];exact c
   obtain⟨c2,f2⟩:=aT Q (i:=(i+2)) S l;clear b1 p1 e1 v1;have b2:(i:Y)+2<25:=S;have p2:0<=(i:Y)+2:=S;have e2:((i:Y)+2).toNat=i+2:=S;have v2:YQ.wrap ((i:Y)+2)=(i:Y)+2:=ZG _ S;go_region
   go_wp2_with fail
   generalize h2:xc _ _ _=W2;have hr:(bJ y (i+2) (~~~p &&& m)).size=25:=by rw[cE];omega
   have X:yx enc W2 b off (bJ y (i+2) (~~~p &&& m)):=by rw[<-h2];exact Holds.xor Q S l _
   have hg:Only b off 25 w W2:=by rw[<-h2];exact(hc).setCell (o:=off+(i+2)) S S _
   generalize C:bJ y (i+2) (~~~p &&& m)=a at *;have hj:E (bJ y (i+2) (~~~p &&& m)=a):=C;have f:E (a[i+3]! = p):=by show _=_;rw[<-C,bW S];exact f
   have c:E (a[i+4]! = m):=by show _=_;rw[<-C,bW S];exact c
   obtain⟨c3,f3⟩:=aT X (i:=(i+3)) S f;clear b2 p2 e2 v2;have b3:(i:Y)+3<25:=S;have p3:0<=(i:Y)+3:=S;have e3:((i:Y)+3).toNat=i+3:=S;have v3:YQ.wrap ((i:Y)+3)=(i:Y)+3:=ZG _ S;go_region
   go_wp2_with fail
   generalize W:xc _ _ _=W3;have hw:(bJ a (i+3) (~~~m &&& u)).size=25:=by rw[cE];omega
   have h5:yx enc W3 b off (bJ a (i+3) (~~~m &&& u)):=by rw[<-W];exact Holds.xor X S f _
   have hn:Only b off 25 w W3:=by rw[<-W];exact(hg).setCell (o:=off+(i+3)) S S _
   generalize P:bJ a (i+3) (~~~m &&& u)=K at *;have h8:E (bJ a (i+3) (~~~m &&& u)=K):=P;have c:E (K[i+4]! = m):=by show _=_;rw[<-P,bW S];exact c
   obtain⟨c4,f4⟩:=aT h5 (i:=(i+4)) S c;clear b3 p3 e3 v3;have b4:(i:Y)+4<25:=S;have p4:0<=(i:Y)+4:=S;have e4:((i:Y)+4).toNat=i+4:=S;have v4:YQ.wrap ((i:Y)+4)=(i:Y)+4:=ZG _ S;go_region
   go_wp2;generalize V:xc _ _ _=W4;have hp:(bJ K (i+4) (~~~u &&& s)).size=25:=by rw[cE];omega
   have h9:yx enc W4 b off (bJ K (i+4) (~~~u &&& s)):=by rw[<-V];exact Holds.xor h5 S c _
   have h7:Only b off 25 w W4:=by rw[<-V];exact(hn).setCell (o:=off+(i+4)) S S _
   generalize hm:bJ K (i+4) (~~~u &&& s)=d4 at *;have ha:E (bJ K (i+4) (~~~u &&& s)=d4):=hm;go_roundg (gk-1)
   case measure=>omega
   case rel =>
    refine⟨k+1,d4,S,?_,?_,?_,?_⟩
    .rw[<-Hi.out];go_num
    .exact h9
    .exact h7.drewN 4
    .show d4=rowAt (Az d k) (5*k);rw[<-HE.out,Hi.out];unfold rowAt;rw[Q0.out,Q1.out,Q2.out,Q3.out,Q4.out,hb.out,he.out,hj.out,h8.out,ha.out]
  .have c:k=5:=S;subst c;go_wp2
   go_end0
   refine⟨Z,hO,?_⟩;show yx enc _ b off (Az d 5);rw[<-HE.out];exact A
end SP
namespace SP
attribute [local go_sem] dA dV dJ rC
def JX(k:j<7):∃p:I,wrap64 (wrap64 ((2:Y)^j)-1)=(p:Y)/\p<=63/\E (2^j-1=p):=by
 have H:∀j:B 7,wrap64 (wrap64 ((2:Y)^j.val)-1)=((2^j.val-1:I):Y)/\2^j.val-1<=63:=dK;exact⟨_,(H ⟨j,k⟩).1,(H ⟨j,k⟩).2,Z⟩
def sQ(r:I)(w:Yp)(m:r<256):
 cZ 251 #[iZ r] w λe w'=>e=.returned (.tuple #[U (u (rcC r)),iZ (rcN r:Y)])/\w'=w:=by
 go_enter func251,ntmps251;go_wp2
 go_loop [0,2,6] (λs0 s2 s6=>∃j:I,j<=7/\∃(c:BitVec 64) (q:I),s6=iZ j/\s2=U (u c)/\s0=iZ q/\q<256/\E (yR r j=(c,q))) (λ_ _ s6=>7-(intOf s6).toNat)
 exact⟨0,dC,0,r,Z,Z,Z,m,Z⟩;obtain⟨j,x,c,q,rfl,rfl,rfl,f,l⟩:=hrel;by_cases g:j<7
 .have t:=Mv f;have v:=Mt f;let⟨p,y,s,o⟩:=JX g
  have i:E (yR r (j+1)=(c ||| yg 64 (q%2) <<< p,mZ q)):=by
   show((yR r j).1 ||| yg 64 ((yR r j).2%2) <<< (2^j-1),mZ (yR r j).2)=_;rw[l.out,o.out]
  have hs:=Bw (yg 64 (q%2)) p;have b:=yS f;by_cases k:255<2*q
  .have d:E (mZ q=2*q ^^^ 369):=zd k;rw[d.out]at b;generalize 2*q ^^^ 369=n at *;go_wp2
   go_round
   case rel=>exact⟨j+1,S,_,n,by go_num,Z,Z,b,by rw[i.out,d.out];rfl⟩
   case measure=>simp[intOf];omega
  have d:E (mZ q=2*q):=zi k;go_wp2
  go_round
  case rel=>exact⟨j+1,S,_,2*q,by go_num,Z,by go_num,S,by rw[i.out,d.out];rfl⟩
  case measure=>simp[intOf];omega
 have k:j=7:=S;subst k;go_wp2
 go_ret2
 unfold rcC rcN;rw[l.out];exact⟨Z,Z⟩
def wE(b off:I)(d:St)(w:Yp)(hd:d.size=25)(Q:yx enc w b off d):
 cZ 241 #[oZ b off] w λe w'=>e=.returned (.tuple #[])/\Only b off 25 w w'/\yx enc w' b off (perm d):=by
 go_enter func241,ntmps241;go_wp2;go_loopg [2,3,4] 24 (λg sc P C wr=>∃(k:I) (c:BitVec 64) (f:St),k+g=24/\C=iZ k/\sc=U (u c)/\P=iZ (Bd k:I)/\yx enc wr b off f/\Only b off 25 w wr/\E (f=nY d k))
 case atStart=>exact⟨0,0,d,Z,Z,Z,Z,Q,Only.refl _ _ _ _,Z⟩
 case round =>
  obtain⟨k,c,f,W,rfl,rfl,rfl,v,y,p⟩:=hrel;have hs:f.size=25:=by rw[p.out,nX (d:=d) hd]
  by_cases N:k<24
  .have L:(k:Y)<24:=S;go_wp2_with fail
   apply(zS b off f _ hs v).mono;rintro e X ⟨rfl,m,n⟩;go_wp2_with fail
   apply(wS b off _ _ (by rw[kD,hs]) n).mono;rintro e V ⟨rfl,q,l⟩;go_wp2_with fail
   apply(Ep b off _ _ (mE (by rw[kD,hs])) l).mono;rintro e w3 ⟨rfl,s,j⟩;have A:E (Bd (k+1)=rcN (Bd k)):=rfl;have O:E (nY d (k+1)=oJ (nY d k) (rcC (Bd k))):=rfl;have t:=Pu k;generalize Bd k=r at *;go_wp2_with fail
   apply(sQ r _ t).mono;rintro e T ⟨rfl,rfl⟩;have z:(chi (tA (v7 f))).size=25:=by rw[EQ,mE (by rw[kD,hs])]
   obtain⟨x,hx⟩:∃x,(chi (tA (v7 f)))[0]! = x:=⟨_,Z⟩
   obtain⟨a,K⟩:=aT j (i:=0) S hx;rw[ao]at a K;have M:E ((chi (tA (v7 f)))[0]! = x):=hx;clear hx;go_wp2_with fail
   go_region
   go_wp2;go_roundg (gk-1)
   case measure=>omega
   case rel =>
    refine⟨k+1,rcC r,oJ f (rcC r),S,by go_num,Z,by rw[A.out],?_,?_,?_⟩
    .exact Holds.drew (Holds.xor (i:=0) j S M (rcC r))
    .exact((((y.trans m).trans q).trans s).setCell (o:=off) S S _).drew
    .rw[O.out,p.out];rfl
  .have j:k=24:=S;subst j;go_wp2
   go_end0
   refine⟨Z,y,?_⟩;rw[perm,<-p.out];exact v
end SP
end Go.Proofs.YtdoammpgchejcaaGreat
