import Derived.Deep.RegionHeld3
import Derived.Lib.LazyBuf
import Derived.Lib.ConvBytes
import Derived.Deep.DeepCutAuto
import Derived.Test.YtdoammpgchejcaaGreatrp1
set_option linter.unusedVariables false
set_option linter.defProp false
set_option linter.constructorNameAsVariable false
set_option linter.unusedSimpArgs false
set_option maxRecDepth 1000000
set_option maxHeartbeats 4000000
namespace Go.Proofs.YtdoammpgchejcaaGreat
open _root_ renaming Array->yu,Bool->zk,Fin->B,Int->Y,List->H,Nat->I,Option->zb,UInt8->yw,rfl->Z
open Go.Proofs.YtdoammpgchejcaaGreat renaming Four->zh,Row->yz,mk1->yv,oM->S,top->zl,uZ->U,val->zm,yFU->zd,yFV->zi,yFW->yx
open Go.RowKit renaming Hid->E
open Go.Sort renaming Holds->yt
open _root_.Bool renaming false->D,true->J
open _root_.Option renaming none->G,some->F
open EC RG
open _root_.Array renaming any_eq_true'->rz,getElem?_eq_none->uz,getElem_replicate->Z3,getElem_toList->wt,replicate->YD,setIfInBounds->yBF,setIfInBounds_comm->yDL,size_append->Zi,size_replicate->YN
open _root_.Bool renaming and_eq_true->YJ,false_eq_true->yEn,noConfusion->ww,or_eq_false_iff->yC0
open _root_.Fin renaming ext_iff->yEP
open _root_.Go renaming Calls->Zl,FuncId->ak,Oper->Y9,Operand->am,Program->Zw,TypeId->YW,Value->Yq,World->Yp,bits_or_u64_nat->wy,bodyPost_ret->YB,execOp->Za,getD_set_ne->ug,rounds_succ->Y4,run_storeVar_mid->yFu,run_underlying->uh,undef->ae,wpList_plain->gH,wpOp_mono->uj,wp_block->ZR,wp_cond_false->YY,wp_cond_true->Y5,wp_exit->fT,wp_loop_rounds->rp,wp_ret->Zr,wp_seq->Yt,wp_skip->ZK
open _root_.Go.Act renaming put->Zo
open _root_.Go.Addr renaming add->oB
open _root_.Go.Builtin renaming copy_->uk
open _root_.Go.Code renaming region->ZP
open _root_.Go.Exit renaming inBlock->ri
open _root_.Go.Instr renaming box->ZM,index->yDr,indexAt->ZW,storeAt->yC2,sureAddr->xn
open _root_.Go.IntKind renaming i64->YQ,u64->Zk,wrap_i64->Zy,wrap_u64->rj
open _root_.Go.IntWalk renaming i64_in->ZG,i8_in->yDC
open _root_.Go.Next renaming value->fI
open _root_.Go.Op renaming equalIn->yDN
open _root_.Go.Oper renaming upon_enter->rl,wp->ZY
open _root_.Go.Operand renaming tmp->yEM
open _root_.Go.Region renaming binds->ZH,free->xp,free_spec->yEk,noSelect->sw,noSelect_spec->yD2,ready->Y6,wanted->gE
open _root_.Go.Result renaming andThen_ok->Zp
open _root_.Go.RowKit.Below renaming heap_setCell->yEg,refl->YH
open _root_.Go.Sem renaming run_bind->YU,run_pure->gM
open _root_.Go.Value renaming agg->Y8,int->ZO
open _root_.Go.World renaming alloc->Z4,block_lt_of_cell?->ul,cell?_alloc_new->Zj,cell?_of_block->Y1,cell?_setCell_other->Z8,frozen?_alloc_new->qj,frozen?_setCell->ve,size_alloc->YE
open _root_.Int renaming add_mul->yFE,add_zero->yDv,mul_assoc->yDQ,mul_comm->yDl,natCast_ediv->yCQ,natCast_emod->yET,natCast_mul->py,natCast_pow->sy,natCast_zero->Zt,pow_succ->yFt,tdiv_eq_ediv_of_nonneg->sI,zero_mul->yDk
open _root_.List renaming append_nil->po,foldl_nil->yE4,map_nil->xo,map_cons->pg,nil_append->ZQ,cons_append->ZI,cons->qn,ext_getElem?->vj,foldl_cons->yDE,forIn_cons->yES,forIn_nil->yE3,getElem?_cons_succ->YP,getElem?_cons_zero->YS,getElem?_eq_none->qz,getElem?_eq_some_iff->YF,getElem?_toArray->YV,getElem_map->qm,length_map->YO,mem_cons->Zb,mem_singleton->ZX,not_mem_nil->YI,range->ZD,range'->yFs,replicate->ZB,setIfInBounds_toArray->Yw,set_cons_succ->Yy,set_cons_zero->Yz
open _root_.Nat renaming add_assoc->oz,add_mod_right->yED,add_zero->ao,div_div_eq_div_mul->yA3,div_eq_of_lt->pj,div_le_self->yE1,div_one->wD,le_of_lt->ax,le_refl->Ys,le_succ->ue,le_trans->YA,lt_of_le_of_lt->yDm,lt_of_lt_of_le->Yr,lt_or_ge->iB,lt_succ_self->um,mod_eq_of_lt->YL,mod_lt->ZL,mod_one->yEB,mul_assoc->kI,mul_comm->Ze,mul_le_mul_right->te,mul_mod->mi,mul_one->ay,mul_zero->qo,ne_of_gt->cW,ne_of_lt->oA,or_comm->yFz,pow_add->ox,pow_le_pow_right->ZU,pow_mul->ye,pow_pos->oE,pow_succ->Z5,pow_zero->gF,sub_self->oF,sub_zero->qp,two_pow_add_eq_or_of_lt->yBA,zero_add->Yv
open _root_.Ne renaming symm->qs
open _root_.Option renaming map_eq_some_iff->Yu
open _root_.Or renaming inl->Y3,inr->YZ
open _root_.Prod renaming mk->ZV
open _root_.Std.Legacy.Range renaming forIn_eq_forIn_range'->yCq,size->yC8
open _root_.UInt8 renaming ofNat->YK
open Go.Proofs.Tryz
open Go.RowKit Go.Sort Go.Deep
variable {P:Nat}[NeZero P]{N:Nat}
variable {A x:Yq}{C C0 cs us us' vs:List Yq}{Q:Exit->Act->Yp->Prop}{W W' w:Yp}{a:Act}{args t:Array Yq}{b c cap g i j m n o off p q r s:Nat}{d:Nat->Int}{f:ak}{k:Array Bool}{l:List Y9}{y:am}
section
structure At8(w:Yp)(k a b c d e f g h:I):Prop where
 c0:w.cell? ⟨k,0,G⟩=F (U a)
 c1:w.cell? ⟨k,1,G⟩=F (U b)
 c2:w.cell? ⟨k,2,G⟩=F (U c)
 c3:w.cell? ⟨k,3,G⟩=F (U d)
 c4:w.cell? ⟨k,4,G⟩=F (U e)
 c5:w.cell? ⟨k,5,G⟩=F (U f)
 c6:w.cell? ⟨k,6,G⟩=F (U g)
 c7:w.cell? ⟨k,7,G⟩=F (U h)
 fz:∀o,w.frozen? ⟨k,o,G⟩=D
variable {w w1:Yp}{k a b c d e f g h:Nat}
def At8.lt(H:At8 w k a b c d e f g h):k<w.heap.size:=ul _ _ H.c0
def At8.below{B:I}(H:At8 w k a b c d e f g h)(j:Below B w w1)(i:k<B):At8 w1 k a b c d e f g h:=
 ⟨cb_ j i H.c0,cb_ j i H.c1,cb_ j i H.c2,cb_ j i H.c3,cb_ j i H.c4,cb_ j i H.c5,cb_ j i H.c6,cb_ j i H.c7,λo=>by rw[j.frozen (p:=⟨k,o,G⟩) i];exact H.fz o⟩
def At8.call(H:At8 w k a b c d e f g h)(i:kZ w w1):At8 w1 k a b c d e f g h:=H.below i H.lt
def At8.alloc(H:At8 w k a b c d e f g h)(o:Obj):At8 (w.alloc o) k a b c d e f g h:=H.call (aD o)
def At8.drewN(H:At8 w k a b c d e f g h)(q:I):At8 (w.drewN q) k a b c d e f g h:=⟨H.c0,H.c1,H.c2,H.c3,H.c4,H.c5,H.c6,H.c7,H.fz⟩
def At8.made(w:Yp)(t:YW)(a b c d e f g h:I){k:I}(i:w.heap.size=k):At8 (w.alloc (.cells #[uZ a,uZ b,uZ c,uZ d,uZ e,uZ f,uZ g,uZ h] t)) k a b c d e f g h:=by
 subst i;exact⟨by rw[Zj];rfl,by rw[Zj];rfl,by rw[Zj];rfl,by rw[Zj];rfl,by rw[Zj];rfl,by rw[Zj];rfl,by rw[Zj];rfl,by rw[Zj];rfl,λo=>qj _ _ _ _⟩
def At8.other(H:At8 w k a b c d e f g h)(i:j≠k)(v:Yq):At8 (w.setCell ⟨j,o,G⟩ v) k a b c d e f g h:=
 ⟨co_ H.c0 i,co_ H.c1 i,co_ H.c2 i,co_ H.c3 i,co_ H.c4 i,co_ H.c5 i,co_ H.c6 i,co_ H.c7 i,fs_ H.fz⟩
def At8.set0(H:At8 w k a b c d e f g h)(x:I):At8 (w.setCell (aZ k) (uZ x)) k x b c d e f g h:=⟨cs_ H.c0,cs_ H.c1,cs_ H.c2,cs_ H.c3,cs_ H.c4,cs_ H.c5,cs_ H.c6,cs_ H.c7,fs_ H.fz⟩
def At8.set1(H:At8 w k a b c d e f g h)(x:I):At8 (w.setCell ⟨k,1,G⟩ (uZ x)) k a x c d e f g h:=⟨cs_ H.c0,cs_ H.c1,cs_ H.c2,cs_ H.c3,cs_ H.c4,cs_ H.c5,cs_ H.c6,cs_ H.c7,fs_ H.fz⟩
def At8.set2(H:At8 w k a b c d e f g h)(x:I):At8 (w.setCell ⟨k,2,G⟩ (uZ x)) k a b x d e f g h:=⟨cs_ H.c0,cs_ H.c1,cs_ H.c2,cs_ H.c3,cs_ H.c4,cs_ H.c5,cs_ H.c6,cs_ H.c7,fs_ H.fz⟩
def At8.set3(H:At8 w k a b c d e f g h)(x:I):At8 (w.setCell ⟨k,3,G⟩ (uZ x)) k a b c x e f g h:=⟨cs_ H.c0,cs_ H.c1,cs_ H.c2,cs_ H.c3,cs_ H.c4,cs_ H.c5,cs_ H.c6,cs_ H.c7,fs_ H.fz⟩
def At8.set4(H:At8 w k a b c d e f g h)(x:I):At8 (w.setCell ⟨k,4,G⟩ (uZ x)) k a b c d x f g h:=⟨cs_ H.c0,cs_ H.c1,cs_ H.c2,cs_ H.c3,cs_ H.c4,cs_ H.c5,cs_ H.c6,cs_ H.c7,fs_ H.fz⟩
def At8.set5(H:At8 w k a b c d e f g h)(x:I):At8 (w.setCell ⟨k,5,G⟩ (uZ x)) k a b c d e x g h:=⟨cs_ H.c0,cs_ H.c1,cs_ H.c2,cs_ H.c3,cs_ H.c4,cs_ H.c5,cs_ H.c6,cs_ H.c7,fs_ H.fz⟩
def At8.set6(H:At8 w k a b c d e f g h)(x:I):At8 (w.setCell ⟨k,6,G⟩ (uZ x)) k a b c d e f x h:=⟨cs_ H.c0,cs_ H.c1,cs_ H.c2,cs_ H.c3,cs_ H.c4,cs_ H.c5,cs_ H.c6,cs_ H.c7,fs_ H.fz⟩
def At8.set7(H:At8 w k a b c d e f g h)(x:I):At8 (w.setCell ⟨k,7,G⟩ (uZ x)) k a b c d e f g x:=⟨cs_ H.c0,cs_ H.c1,cs_ H.c2,cs_ H.c3,cs_ H.c4,cs_ H.c5,cs_ H.c6,cs_ H.c7,fs_ H.fz⟩
def DL(w:Yp)(k:I)(g d j c i e f b:Yq):Yp:=
 (((((((w.setCell (aZ k) g).setCell ⟨k,1,G⟩ d).setCell ⟨k,2,G⟩ j).setCell ⟨k,3,G⟩ c).setCell ⟨k,4,G⟩ i).setCell ⟨k,5,G⟩ e).setCell ⟨k,6,G⟩ f).setCell ⟨k,7,G⟩ b
def At8.self8(H:At8 w k a b c d e f g h)(o l q j p m n i:I):At8 (DL w k (uZ o) (uZ l) (uZ q) (uZ j) (uZ p) (uZ m) (uZ n) (uZ i)) k o l q j p m n i:=
 (((((((H.set0 o).set1 l).set2 q).set3 j).set4 p).set5 m).set6 n).set7 i
def At8.other8(H:At8 w k a b c d e f g h)(i:j≠k)(q n s m r o p l:Yq):At8 (DL w j q n s m r o p l) k a b c d e f g h:=
 (((((((H.other i q).other i n).other i s).other i m).other i r).other i o).other i p).other i l
def At4.other8{k a d:I}(H:At4 w k a b c d)(e:j≠k)(n i p g o l m f:Yq):At4 (DL w j n i p g o l m f) k a b c d:=
 (((((((H.other e n).other e i).other e p).other e g).other e o).other e l).other e m).other e f
def wO{b e m d l f g c:Yq}{B:I}{i:Yp}(H:Below B i w)(k:B<=j):Below B i (DL w j b e m d l f g c):=
 (((((((H.setCell (p:=⟨j,0,G⟩) k b).setCell (p:=⟨j,1,G⟩) k e).setCell (p:=⟨j,2,G⟩) k m).setCell (p:=⟨j,3,G⟩) k d).setCell (p:=⟨j,4,G⟩) k l).setCell (p:=⟨j,5,G⟩) k f).setCell (p:=⟨j,6,G⟩) k g).setCell (p:=⟨j,7,G⟩) k c
def kM{B:I}{k:Yp}(H:Below B k w):Below B k (w.drewN q):=⟨H.os,H.tape,H.output,H.size,H.block⟩
end
structure Gap(g0 g1 g2 P:I):Prop where
 h0:g0<18446744073709551616
 h1:g1<18446744073709551616
 h2:g2<18446744073709551616
 hor:(g1=0/\g2=0)\/∃o:I,bits .or .u64 (g1:Y) (g2:Y)=(o:Y)/\o≠0
 hP:P+zm g0 g1 g2 0=zl
 hP2:zl<2*P
 hg:0<zm g0 g1 g2 0
def AU{k a d:I}{e:Yp}(h:E (Below k w W))(pr:At4 W k a b c d)(f:kZ W e):E (Below k w e):=h.trans (f.mono (ax pr.lt))
section
structure Blk where
 k:I
 o:I
 a:I
 b:I
 c:I
 d:I
structure Blk.at(x:Blk)(w:Yp):Prop where
 c0:w.cell? ⟨x.k,x.o,G⟩=F (uZ (x.a:Int))
 c1:w.cell? ⟨x.k,x.o+1,G⟩=F (uZ (x.b:Int))
 c2:w.cell? ⟨x.k,x.o+2,G⟩=F (uZ (x.c:Int))
 c3:w.cell? ⟨x.k,x.o+3,G⟩=F (uZ (x.d:Int))
 f:∀o,w.frozen? ⟨x.k,o,G⟩=false
structure Kept(w:Yp)(k0:I)(l:H Blk)(W:Yp):Prop where
 bl:Below k0 w W
 le:k0<=W.heap.size
 at':∀x∈l,x.at W
variable {w W w1:Yp}{k0:Nat}{l:List Blk}{x:Blk}
def Blk.at.lt(h:x.at W):x.k<W.heap.size:=ul _ _ h.c0
def Blk.at.call(h:x.at W)(k:kZ W w1):x.at w1:=
 ⟨by rw[k.cell (p:=⟨x.k,x.o,G⟩) h.lt];exact h.c0,by rw[k.cell (p:=⟨x.k,x.o+1,G⟩) h.lt];exact h.c1,by rw[k.cell (p:=⟨x.k,x.o+2,G⟩) h.lt];exact h.c2,by rw[k.cell (p:=⟨x.k,x.o+3,G⟩) h.lt];exact h.c3,
  λo=>by rw[k.frozen (p:=⟨x.k,o,G⟩) h.lt];exact h.f o⟩
def Blk.at.other(h : x.at W)(hj : j ≠ x.k)(v : Yq): x.at (W.setCell ⟨j, i, G⟩ v) :=
  ⟨by rw [Z8 _ _ _ _ (mO (Y3 hj))]; exact h.c0, by rw [Z8 _ _ _ _ (mO (Y3 hj))]; exact h.c1,
   by rw [Z8 _ _ _ _ (mO (Y3 hj))]; exact h.c2, by rw [Z8 _ _ _ _ (mO (Y3 hj))]; exact h.c3, λo => by rw [ve]; exact h.f o⟩
def Kept.call(h:Kept w k0 l W)(k:kZ W w1):Kept w k0 l w1:=
 ⟨h.bl.trans (k.mono h.le),YA h.le k.size,λx hx=>(h.at' x hx).call k⟩
def Kept.drew(h:Kept w k0 l W):Kept w k0 l W.drew:=⟨h.bl.drew,h.le,λx hx=>⟨(h.at' x hx).c0,(h.at' x hx).c1,(h.at' x hx).c2,(h.at' x hx).c3,(h.at' x hx).f⟩⟩
def Kept.cl(h:Kept w k0 l W)(k:kZ W' w1)(e:W'=W\/W'=W.drew:=by first|exact Y3 rfl|exact YZ rfl):Kept w k0 l w1:=by
 rcases e with rfl|rfl
 .exact h.call k
 exact h.drew.call k
def Kept.undrew(h:Kept w k0 l W.drew):Kept w k0 l W:=
 ⟨⟨h.bl.os,h.bl.tape,h.bl.output,h.bl.size,h.bl.block⟩,h.le,λx hx=>⟨(h.at' x hx).c0,(h.at' x hx).c1,(h.at' x hx).c2,(h.at' x hx).c3,(h.at' x hx).f⟩⟩
def Kept.alloc(h:Kept w k0 l W)(o:Obj):Kept w k0 l (W.alloc o):=h.call (aD o)
def Kept.set(h:Kept w k0 l W)(k:k0<=j)(hl:∀x∈l,j≠x.k)(v:Yq):Kept w k0 l (W.setCell ⟨j,i,G⟩ v):=
 ⟨h.bl.setCell (p:=⟨j,i,G⟩) k v,by simpa using h.le,λx hx=>(h.at' x hx).other (hl x hx) v⟩
def Kept.set4(h:Kept w k0 l W)(k:k0<=j)(hl:∀x∈l,j≠x.k)(p q r s:Yq):Kept w k0 l (Go.Proofs.YtdoammpgchejcaaGreat.set4 W j p q r s):=
 (((h.set k hl p).set k hl q).set k hl r).set k hl s
def Kept.set4'(h:Kept w k0 l W)(k:k0<=j)(hl:∀x∈l,j≠x.k)(p q r s:Yq):
 Kept w k0 l ((((W.setCell (aZ j) p).setCell ⟨j,1,G⟩ q).setCell ⟨j,2,G⟩ r).setCell ⟨j,3,G⟩ s):=h.set4 k hl p q r s
def Kept.lts(h:Kept w k0 l W):∀x∈l,x.k<W.heap.size:=λx hx=>(h.at' x hx).lt
def Kept.head(h:Kept w k0 (x :: l) W):x.at W:=h.at' x (H.mem_cons_self)
def Kept.tail(h:Kept w k0 (x :: l) W):Kept w k0 l W:=⟨h.bl,h.le,λy k=>h.at' y (H.mem_cons_of_mem _ k)⟩
def At4.blk{k a d:I}(h:At4 W k a b c d):(Blk.mk k 0 a b c d).at W:=⟨h.c0,h.c1,h.c2,h.c3,h.f⟩
def Blk.at.at4{k a d:I}(h:(Blk.mk k 0 a b c d).at W):At4 W k a b c d:=⟨h.c0,h.c1,h.c2,h.c3,h.f⟩
def Kept.mk1(k:Below k0 w W)(hl:k0<=W.heap.size):Kept w k0 [] W:=⟨k,hl,λ_ h=>by cases h⟩
def Kept.cons(h:Kept w k0 l W)(hx:x.at W):Kept w k0 (x :: l) W:=
 ⟨h.bl,h.le,λy b=>by rcases Zb.1 b with rfl|k;exact hx;exact h.at' y k⟩
def Kept.put{a d:I}(h:Kept w k0 (⟨j,0,a,b,c,d⟩ :: l) W)(k:k0<=j)(hl:∀x∈l,j≠x.k)(x y z t:I):
 Kept w k0 (⟨j,0,x,y,z,t⟩ :: l) ((((W.setCell (aZ j) (uZ x)).setCell ⟨j,1,G⟩ (uZ y)).setCell ⟨j,2,G⟩ (uZ z)).setCell ⟨j,3,G⟩ (uZ t)):=
 (h.tail.set4' k hl _ _ _ _).cons (h.head.at4.self4 x y z t).blk
end
def IR(w:Yp)(t0 t1 t2 q:YW)(a b c d e f g h i j k l m n o p:I):
 Kept w w.heap.size [⟨w.heap.size,0,a,b,c,d⟩,⟨w.heap.size+1,0,e,f,g,h⟩,⟨w.heap.size+1+1,0,i,j,k,l⟩,⟨w.heap.size+1+1+1,0,m,n,o,p⟩]
  ((((w.alloc (.cells #[U a,U b,U c,U d] t0)).alloc (.cells #[U e,U f,U g,U h] t1)).alloc (.cells #[U i,U j,U k,U l] t2)).alloc (.cells #[U m,U n,U o,U p] q)):=by
 refine((((Kept.mk1 (iN w _ _ _ _) (iN w _ _ _ _).size).cons ?_).cons ?_).cons ?_).cons ?_
 .exact(At4.made _ q m n o p (by simp)).blk
 .exact((At4.made _ t2 i j k l (by simp)).alloc _).blk
 .exact(((At4.made _ t1 e f g h (by simp)).alloc _).alloc _).blk
 exact((((At4.made _ t0 a b c d Z).alloc _).alloc _).alloc _).blk
def PQ{k l:I}(hG:Gap b c k P)(h1:s+zl*0=m+n)(d:l+zl*0=s+zm b c k 0)(hl:l<zl):(m+n)%P=s:=by
 have:=hG.hP;rw[<-h1,qo,ao,YL S]
def PS{e f l k:I}(hG:Gap e g f P)(q:m<P)(p:n<P)(h1:s+zl*k=m+n)(o:l+zl*j=s+zm e g f 0)(r:k<=1)(u:j<=1)(i:¬(k=0/\j=0))(hs:s<zl)(_:l<zl):(m+n)%P=l:=by
 have v:=hG.hP;have t:=hG.hP2;have c:k=0\/k=1:=S;have d:j=0\/j=1:=S;have:m+n=l+P:=by
  rcases c with h|h<;>rcases d with b|b<;>rw[h]at h1<;>rw[b]at o<;>first|omega|(exfalso;exact i ⟨h,b⟩)
 rw[this,yED,YL S]
def or2{a:I}(c:a<=1)(d:b<=1):∃o:I,bits .or .u64 (a:Y) (b:Y)=(o:Y)/\(o=0↔(a=0/\b=0)):=by
 have h1:a=0\/a=1:=S;have k:b=0\/b=1:=S;rcases h1 with rfl|rfl<;>rcases k with rfl|rfl
 .exact⟨0,dK,dC⟩
 .exact⟨1,dK,dC⟩
 .exact⟨1,dK,dC⟩
 exact⟨1,dK,dC⟩
def Na(b:m<P)(k:n<P)(h1:s+n=m+zl*0):(m+P-n)%P=s:=by
 rw[show m+P-n=s+P by omega,yED,YL S]
def Nb{e l:I}(hG:Gap c b e P)(_:m<P)(g:n<P)(h1:s+n=m+zl*1)(f:l+zm c b e 0=s+zl*j)(i:j<=1)(hl:l<zl)(hs:s<zl):(m+P-n)%P=l:=by
 have o:=hG.hP;have k:j=0\/j=1:=S;have:m+P-n=l:=by
  rcases k with d|d<;>rw[d]at f<;>omega
 rw[this,YL S]
def sum_any(V g1 g2 P:I)(x y:Yq)(m n:I)(hG:Gap V g1 g2 P)(hx:zh x m)(hy:zh y n)(hm:m<P)(hn:n<P)(w:Yp):
 dZ 215 #[.agg #[U V,U g1,U g2,U 0],x,y] w λe w'=>zh e ((m+n)%P):=by
 obtain⟨a,b,c,d,rfl,ha,hb,hc,hd,em⟩:=id hx;obtain⟨p,q,r,s,rfl,hp,hq,hr,hs,en⟩:=id hy;clear em en ha hb hc hd hp hq hr hs;go_enter func215,ntmps215;go_wp2_with fail
 have g:=IR w 120 118 118 118 V g1 g2 0 a b c d p q r s 0 0 0 0;simp only[Zt]at g;generalize Z4 _ _=W0 at g⊢;generalize h3:w.heap.size+1+1+1=k3 at g⊢;generalize h2:w.heap.size+1+1=k2 at g⊢;generalize h1:w.heap.size+1=k1 at g⊢;have Q3:E (w.heap.size<=k3):=by unfold E;omega
 generalize h0:w.heap.size=k0 at g Q3⊢;have H0:E (w.heap.size=k0):=h0;have h4:k0≠k3:=S;clear h0 h1 h2 h3;apply(tG _ _ _ _ hx hy _).mono;rintro e w1 ⟨v,rfl,h6,v2,t,k,rfl,⟨O,b1,c1,T,rfl,K,i,L,M,es⟩,hk,he⟩;have HE:E (zm O b1 c1 T+zl*k=m+n):=by unfold E;rw[<-es];exact he
 clear es he;replace g:=g.call h6;have f:=(g.alloc (.cells #[U O,U b1,U c1,U T] 118)).cons (At4.made w1 118 O b1 c1 T Z).blk;have m0:=oA g.head.lt;have m3:=oA g.tail.tail.tail.head.lt;let⟨hw,h7,k8,k6,pf⟩:=f.tail.head.at4
 have z0:=f.tail.head.lt;go_wp2_with fail
 apply(tG _ _ _ _ (Four.mk K i L M Z) (Four.mk hG.h0 hG.h1 hG.h2 dC Z) _).mono;rintro e w2 ⟨v,rfl,h5,v3,t2,j,rfl,⟨a2,W,c2,X,rfl,N,u,z,C,es⟩,hj,he⟩;have Q:E (zm a2 W c2 X+zl*j=zm O b1 c1 T+zm V g1 g2 0):=by unfold E;rw[<-es];exact he
 replace f:=f.call h5;have HG:=yv (hG);have HM:=mk2 hm hn;clear hG hm hn hx hy m0 h4;generalize w1.heap.size=k4 at f m3⊢;let⟨k7,ht,k9,h9,sf⟩:=f.head.at4
 let⟨hi,k5,h8,hu,rf⟩:=f.tail.tail.tail.tail.head.at4
 have z4:=f.head.lt;have z3:=f.tail.tail.tail.tail.head.lt;let⟨o,ho,A⟩:=or2 hk hj
 by_cases hz:k=0/\j=0
 .obtain⟨rfl,rfl⟩:=hz;obtain rfl:o=0:=A.2 ⟨Z,Z⟩;clear A;replace ho:bits .or .u64 0 0=0:=ho;go_wp2;have l:=(f.tail.tail.tail.tail.head.at4.self4 O b1 c1 T).alloc (.cells #[U a2,U W,U c2,U X] 118);unfold set4 at l;refine YB (by simp[results,Tryz.results215,go_sem,l.c0,l.c1,l.c2,l.c3];rfl) Z ?_;refine⟨_,Z,?_,Four.mk K i L M (PQ HG HE Q (jK N u z C))⟩;rw[H0.out];exact(aE f.bl Q3).alloc (by simpa[set4]using f.le) _
 have hg:¬o=0:=λh=>hz (A.1 h)
 go_wp2;have l:=(f.tail.tail.tail.tail.head.at4.self4 a2 W c2 X).alloc (.cells #[U a2,U W,U c2,U X] 118);unfold set4 at l;refine YB (by simp[results,Tryz.results215,go_sem,l.c0,l.c1,l.c2,l.c3];rfl) Z ?_;refine⟨_,Z,?_,Four.mk N u z C (PS HG HM.1 HM.2 HE Q hk hj hz (jK K i L M) (jK N u z C))⟩;rw[H0.out];exact(aE f.bl Q3).alloc (by simpa[set4]using f.le) _
def oO(W g1 g2 P:I)(x y:Yq)(m n:I)(hG:Gap W g1 g2 P)(hx:zh x m)(hy:zh y n)(hm:m<P)(hn:n<P)(w:Yp):
 dZ 221 #[.agg #[U W,U g1,U g2,U 0],x,y] w λe w'=>zh e ((m+P-n)%P):=by
 obtain⟨a,b,c,d,rfl,ha,hb,hc,hd,em⟩:=id hx;obtain⟨p,q,r,s,rfl,hp,hq,hr,hs,en⟩:=id hy;clear em en ha hb hc hd hp hq hr hs;go_enter func221,ntmps221;go_wp2_with fail
 have g:=IR w 120 118 118 118 W g1 g2 0 a b c d p q r s 0 0 0 0;simp only[Zt]at g;generalize Z4 _ _=W0 at g⊢;generalize h3:w.heap.size+1+1+1=k3 at g⊢;generalize h2:w.heap.size+1+1=k2 at g⊢;generalize h1:w.heap.size+1=k1 at g⊢;have Q3:E (w.heap.size<=k3):=by unfold E;omega
 generalize h0:w.heap.size=k0 at g Q3⊢;have H0:=yv (h0);apply(vE _ _ _ _ hx hy _).mono;rintro e w1 ⟨v,rfl,h7,v2,t,k,rfl,⟨C,b1,c1,K,rfl,u,i,z,A,es⟩,hk,he⟩;have HE:E (zm C b1 c1 K+n=m+zl*k):=by unfold E;rw[<-es];exact he
 replace g:=g.call h7;have f:=(g.alloc (.cells #[U C,U b1,U c1,U K] 118)).cons (At4.made w1 118 C b1 c1 K Z).blk;have m0:=oA g.head.lt;have m3:=oA g.tail.tail.tail.head.lt;have X:=yv (hG);have HM:=mk2 hm hn;have Q4:=yv (g.le);have h5:k=0\/k=1:=S;let⟨N,T,M,O,rf⟩:=g.tail.tail.tail.head.at4
 have z3:=g.tail.tail.tail.head.lt;rcases h5 with rfl|rfl
 .clear f;go_wp2;have l:=(g.tail.tail.tail.head.at4.self4 C b1 c1 K).alloc (.cells #[U C,U b1,U c1,U K] 118);unfold set4 at l;refine YB (by simp[results,Tryz.results221,go_sem,l.c0,l.c1,l.c2,l.c3];rfl) Z ?_;refine⟨_,Z,?_,Four.mk u i z A (Na HM.1 HM.2 HE)⟩;rw[H0.out];exact(aE g.bl Q3).alloc (by simpa[set4]using g.le) _
 clear g N T M O rf z3;let⟨hi,h8,hw,ht,pf⟩:=f.tail.head.at4
 have z0:=f.tail.head.lt;go_wp2_with fail
 apply(vE _ _ _ _ (Four.mk u i z A Z) (Four.mk X.h0 X.h1 X.h2 dC Z) _).mono;rintro e w2 ⟨v,rfl,h6,v3,t2,j,rfl,⟨a2,b2,c2,d2,rfl,V,o,L,Q,es⟩,hj,he⟩;have h4:E (zm a2 b2 c2 d2+zm W g1 g2 0=zm C b1 c1 K+zl*j):=by unfold E;rw[<-es];exact he
 replace f:=f.call h6;let⟨hu,hg,hz,h9,sf⟩:=f.head.at4
 let⟨N,T,M,O,rf⟩:=f.tail.tail.tail.tail.head.at4
 have z4:=f.head.lt;have z3:=f.tail.tail.tail.tail.head.lt;go_wp2;have l:=(f.tail.tail.tail.tail.head.at4.other4 m3.symm (U a2) (U b2) (U c2) (U d2)).self4 a2 b2 c2 d2;unfold set4 at l;refine YB (by simp[results,Tryz.results221,go_sem,l.c0,l.c1,l.c2,l.c3];rfl) Z ?_;refine⟨_,Z,?_,Four.mk V o L Q (Nb X HM.1 HM.2 HE h4 hj (jK V o L Q) (jK u i z A))⟩;rw[H0.out];exact aE (aE f.bl Q4) Q3
def Mh{a d s0 t0 u0 e k f:I}(l:m=zm a b c d)
 (p:g+18446744073709551616*e=a*n+zm 0 0 0 0)
 (o:s0+18446744073709551616*i=b*n+e)
 (j:t0+18446744073709551616*k=c*n+i)
 (e3:u0+18446744073709551616*f=d*n+k) :
 zm g s0 t0 u0+zl*f=m*n:=by
 have j:zm a b c d*n=zm (a*n) (b*n) (c*n) (d*n):=by
  rw[Ze,CH,Ze n a,Ze n b,Ze n c,Ze n d]
 rw[l,j];unfold zm at *;unfold zl;omega
def nW(g0 g1 g2 P:I)(x y:Yq)(m n:I)(hG:Gap g0 g1 g2 P)(hx:zh x m)(hy:zh y n)(w:Yp):
 Zl prog 213 #[.agg #[.int .u64 g0,.int .u64 g1,.int .u64 g2,.int .u64 0],x,y] w (Ret λe w'=>Below w.heap.size w w'/\zh e (m*n%P)):=by
 obtain⟨a,b,c,d,rfl,ha,hb,hc,hd,em⟩:=hx;obtain⟨p,q,r,s,rfl,hp,hq,hr,hs,en⟩:=id hy;have HM:E (m=zm a b c d):=em;clear em en;go_enter func213,ntmps213;go_wp2_with fail
 have C:=IR w 120 118 118 118 g0 g1 g2 0 a b c d p q r s 0 0 0 0;simp only[Zt]at C;have PR:=C.head.at4;have X:=C.tail.head.at4;have Y:=C.tail.tail.head.at4;have f:=C.tail.tail.tail.head.at4;have BL:E (Below w.heap.size w _):=C.bl;clear C;generalize Z4 _ _=w1 at X Y PR f BL⊢;generalize h3:w.heap.size+1+1+1=k3 at f⊢;generalize h2:w.heap.size+1+1=k4 at Y⊢;generalize h1:w.heap.size+1=k1 at X⊢;have Q3:E (w.heap.size<=k3):=by unfold E;omega
 generalize h0:w.heap.size=L at PR BL Q3⊢;have kn:L≠k3:=S;have kr:k1≠k3:=S;have H0:E (w.heap.size=L):=h0;clear h0 h1 h2 h3;refine(kW a _ _ _ _ ha hy (Four.mk (a:=0) (b:=0) (c:=0) (d:=0) dC dC dC dC Z) _).mono ?_;rintro e w2 ⟨v,rfl,i,l0,v2,t0,rfl,hn,⟨a0,b0,c0,d0,rfl,hu,kb,ht,ki,z⟩,u⟩;have k5:E (l0+18446744073709551616*zm a0 b0 c0 d0=a*n+zm 0 0 0 0):=by unfold E;rw[<-z];exact u
 clear u z;replace BL:E (Below L w w2):=AU BL PR i;replace X:=X.call i;replace Y:=Y.call i;replace f:=f.call i;replace PR:=PR.call i;obtain⟨hi,h6,h8,hj,xf⟩:=id X;have z1:=X.lt;obtain⟨Q,h9,hk,V,yf⟩:=id Y;have z4:=Y.lt;obtain⟨l,t,j,o,rf⟩:=id f;have z3:=f.lt;obtain⟨K,A,N,M,pf⟩:=id PR;have z0:=PR.lt;go_wp2_with fail
 refine(kW b _ _ _ _ hb hy (Four.mk hu kb ht ki Z) _).mono ?_;rintro e w3 ⟨v,rfl,g,l1,v3,t1,rfl,hz,⟨a1,b1,c1,d1,rfl,kc,ke,kf,kh,z⟩,u⟩;have k7:E (l1+18446744073709551616*zm a1 b1 c1 d1=b*n+zm a0 b0 c0 d0):=by unfold E;rw[<-z];exact u
 have O:=oA PR.lt;have j1:=oA X.lt;have j3:=oA f.lt;have j4:=oA Y.lt;have J0:=yv (ax PR.lt);have T:=(At4.made w2 118 a0 b0 c0 d0 Z).call g;replace BL:E (Below L w w3):=AU (W:=w2.alloc (.cells #[.int .u64 a0,.int .u64 b0,.int .u64 c0,.int .u64 d0] 118)) (BL.alloc (ax PR.lt) _) (PR.alloc _) g;replace X:=(X.alloc _).call g;replace Y:=(Y.alloc _).call g;replace f:=(f.alloc _).call g;replace PR:=(PR.alloc _).call g;obtain⟨hi,h6,h8,hj,xf⟩:=id X;have z1:=X.lt;obtain⟨Q,h9,hk,V,yf⟩:=id Y;have z4:=Y.lt;obtain⟨l,t,j,o,rf⟩:=id f;have z3:=f.lt;obtain⟨K,A,N,M,pf⟩:=id PR;have z0:=PR.lt;obtain⟨h5,hg,h7,h4,tf⟩:=id T;have z5:=T.lt;go_wp2_with fail
 refine(kW c _ _ _ _ hc hy (Four.mk kc ke kf kh Z) _).mono ?_;rintro e w4 ⟨v,rfl,k,l2,v4,t4,rfl,kg,⟨a2,b2,c2,d2,rfl,kj,i,hm,k9,z⟩,u⟩;have k8:E (l2+18446744073709551616*zm a2 b2 c2 d2=c*n+zm a1 b1 c1 d1):=by unfold E;rw[<-z];exact u
 replace BL:E (Below L w w4):=AU (aE BL.out J0.out) (PR.other4 O.symm _ _ _ _) k;replace X:=(X.other4 j1.symm _ _ _ _).call k;replace Y:=(Y.other4 j4.symm _ _ _ _).call k;replace f:=(f.other4 j3.symm _ _ _ _).call k;replace PR:=(PR.other4 O.symm _ _ _ _).call k;replace T:=(T.self4 a1 b1 c1 d1).call k;obtain⟨hi,h6,h8,hj,xf⟩:=id X;have z1:=X.lt;obtain⟨Q,h9,hk,V,yf⟩:=id Y;have z4:=Y.lt;obtain⟨l,t,j,o,rf⟩:=id f;have z3:=f.lt;obtain⟨K,A,N,M,pf⟩:=id PR;have z0:=PR.lt;obtain⟨h5,hg,h7,h4,tf⟩:=id T;have z5:=T.lt;go_wp2_with fail
 refine(kW d _ _ _ _ hd hy (Four.mk kj i hm k9 Z) _).mono ?_;rintro e w5 ⟨v,rfl,k,l3,v4,t4,rfl,ka,⟨a3,b3,c3,d3,rfl,k6,g,kd,hw,z⟩,u⟩;have k2:E (l3+18446744073709551616*zm a3 b3 c3 d3=d*n+zm a2 b2 c2 d2):=by unfold E;rw[<-z];exact u
 replace BL:E (Below L w w5):=AU (aE BL.out J0.out) (PR.other4 O.symm _ _ _ _) k;replace X:=(X.other4 j1.symm _ _ _ _).call k;replace Y:=(Y.other4 j4.symm _ _ _ _).call k;replace f:=(f.other4 j3.symm _ _ _ _).call k;replace PR:=(PR.other4 O.symm _ _ _ _).call k;replace T:=(T.self4 a2 b2 c2 d2).call k;obtain⟨l,t,j,o,rf⟩:=id f;have z3:=f.lt;obtain⟨K,A,N,M,pf⟩:=id PR;have z0:=PR.lt;obtain⟨h5,hg,h7,h4,tf⟩:=id T;have z5:=T.lt;go_wp2_with fail
 refine(Ak g0 g1 g2 _ _ _ _ P hG.h0 hG.h1 hG.h2 hG.hor hG.hP hG.hP2 (Four.mk hn hz kg ka Z) (Four.mk k6 g kd hw Z) _).mono ?_;rintro e w6 ⟨v,rfl,k,hv⟩;rw[Mh HM.out k5.out k7.out k8.out k2.out]at hv;replace BL:E (Below L w w6):=AU (aE BL.out J0.out) (PR.other4 O.symm _ _ _ _) k;replace f:=(f.other4 j3.symm _ _ _ _).call k;replace PR:=(PR.other4 O.symm _ _ _ _).call k;obtain⟨a7,b7,c7,d7,rfl,kp,kl,km,kk,ko⟩:=id hv;have HV:=yv (hv);obtain⟨l,t,j,o,rf⟩:=id f;have z3:=f.lt;go_wp2;have RF:=f.self4 a7 b7 c7 d7;unfold set4 at RF;refine YB (by simp[results,Tryz.results213,go_sem,RF.c0,RF.c1,RF.c2,RF.c3];rfl) Z ?_;refine⟨_,Z,?_,HV.out⟩;rw[H0.out];exact aE BL.out Q3.out
def Ci{k e f a d:I}(h:Kept w k [⟨k,0,i,j,g,0⟩,⟨e,0,a,b,c,d⟩,⟨f,0,p,q,r,s⟩] W):W.cell? ⟨k,0,G⟩=F (U i)/\W.cell? ⟨k,1,G⟩=F (U j)/\W.cell? ⟨k,2,G⟩=F (U g)/\W.cell? ⟨k,3,G⟩=F (U 0)/\W.cell? ⟨e,0,G⟩=F (U a)/\W.cell? ⟨e,1,G⟩=F (U b)/\W.cell? ⟨e,2,G⟩=F (U c)/\W.cell? ⟨e,3,G⟩=F (U d)/\W.cell? ⟨f,0,G⟩=F (U p)/\W.cell? ⟨f,1,G⟩=F (U q)/\W.cell? ⟨f,2,G⟩=F (U r)/\W.cell? ⟨f,3,G⟩=F (U s)/\Kept w k [⟨k,0,i,j,g,0⟩,⟨e,0,a,b,c,d⟩,⟨f,0,p,q,r,s⟩] W:=
 ⟨h.head.c0,h.head.c1,h.head.c2,h.head.c3,h.tail.head.c0,h.tail.head.c1,h.tail.head.c2,h.tail.head.c3,h.tail.tail.head.c0,h.tail.tail.head.c1,h.tail.tail.head.c2,h.tail.tail.head.c3,h⟩
def uK(i l j:I)(x y:Yq)(m n R:I)(hx:zh x m)(hy:zh y n)(w:Yp):((∀w,Zl prog 215 #[.agg #[.int .u64 i,.int .u64 l,.int .u64 j,.int .u64 0],x,y] w (Ret λe w'=>Below w.heap.size w w'/\zh e R))->Zl prog 155 #[.agg #[.int .u64 i,.int .u64 l,.int .u64 j,.int .u64 0],x,y] w (Ret λe w'=>Below w.heap.size w w'/\zh e R))/\((∀w,Zl prog 221 #[.agg #[.int .u64 i,.int .u64 l,.int .u64 j,.int .u64 0],x,y] w (Ret λe w'=>Below w.heap.size w w'/\zh e R))->Zl prog 198 #[.agg #[.int .u64 i,.int .u64 l,.int .u64 j,.int .u64 0],x,y] w (Ret λe w'=>Below w.heap.size w w'/\zh e R))/\((∀w,Zl prog 213 #[.agg #[.int .u64 i,.int .u64 l,.int .u64 j,.int .u64 0],x,y] w (Ret λe w'=>Below w.heap.size w w'/\zh e R))->Zl prog 154 #[.agg #[.int .u64 i,.int .u64 l,.int .u64 j,.int .u64 0],x,y] w (Ret λe w'=>Below w.heap.size w w'/\zh e R)):=by
 obtain⟨a,b,c,d,rfl,ha,hb,hc,hd,em⟩:=id hx;obtain⟨p,q,r,s,rfl,hp,hq,hr,hs,en⟩:=id hy;have HX:=yv (hx);have HY:=yv (hy);refine⟨λN=>?_,λN=>?_,λN=>?_⟩;all_goals replace N:E _:=N
 all_goals clear em en hx hy ha hb hc hd hp hq hr hs
 case' refine_1=>go_enter func155,ntmps155
 case' refine_2=>go_enter func198,ntmps198
 case' refine_3=>go_enter func154,ntmps154
 all_goals
  go_wp2_with fail
  have f:=IR w 120 47 47 47 i l j 0 a b c d p q r s 0 0 0 0;simp only[Zt]at f;generalize h3:w.heap.size+1+1+1=k3 at f⊢;generalize h2:w.heap.size+1+1=K at f⊢;generalize h1:w.heap.size+1=L at f⊢;have Q:E (w.heap.size<=k3):=by unfold E;omega
  generalize h0:w.heap.size=A at f Q⊢;have H0:E (w.heap.size=A):=h0;have O:∀x∈([⟨A,0,i,l,j,0⟩,⟨L,0,a,b,c,d⟩,⟨K,0,p,q,r,s⟩]:H Blk),k3≠x.k:=by simp only[Zb,YI,or_false];rintro x (rfl|rfl|rfl)<;>simp only<;>omega
  have g:=(((Kept.mk1 f.bl f.le).cons f.tail.tail.head).cons f.tail.head).cons f.head;have T3:=f.tail.tail.tail.head.at4;let⟨z,u,t,o,T⟩:=id T3
  have V:=T3.lt;go_region_held3 (λw'=>w'.cell? ⟨A,0,G⟩=F (.int .u64 i)/\w'.cell? ⟨A,1,G⟩=F (.int .u64 l)/\w'.cell? ⟨A,2,G⟩=F (.int .u64 j)/\w'.cell? ⟨A,3,G⟩=F (.int .u64 0)/\w'.cell? ⟨L,0,G⟩=F (.int .u64 a)/\w'.cell? ⟨L,1,G⟩=F (.int .u64 b)/\w'.cell? ⟨L,2,G⟩=F (.int .u64 c)/\w'.cell? ⟨L,3,G⟩=F (.int .u64 d)/\w'.cell? ⟨K,0,G⟩=F (.int .u64 p)/\w'.cell? ⟨K,1,G⟩=F (.int .u64 q)/\w'.cell? ⟨K,2,G⟩=F (.int .u64 r)/\w'.cell? ⟨K,3,G⟩=F (.int .u64 s)/\Kept w A [⟨A,0,i,l,j,0⟩,⟨L,0,a,b,c,d⟩,⟨K,0,p,q,r,s⟩] w') (first|exact Ci g|exact Ci g.drew|exact Ci (g.set4' Q O _ _ _ _)|exact Ci (g.set4' Q O _ _ _ _).drew) (first|(go_at_call_of 127 (Y8 #[ZO .u64 a,ZO .u64 b,ZO .u64 c,ZO .u64 d]);apply(kL HX).mono;rintro e X ⟨v,rfl,k,rfl⟩;replace g:=g.cl k;replace T3:=T3.cl k;clear k;let⟨z,u,t,o,T⟩:=id T3;have V:=T3.lt)|(go_at_call_of 127 (Y8 #[ZO .u64 p,ZO .u64 q,ZO .u64 r,ZO .u64 s]);apply(kL HY).mono;rintro e X ⟨v,rfl,k,rfl⟩;replace g:=g.cl k;replace T3:=T3.cl k;clear k;let⟨z,u,t,o,T⟩:=id T3;have V:=T3.lt)|((first|go_at_call 215|go_at_call 221|go_at_call 213);apply(N _).mono;rintro e X ⟨v,rfl,k,C⟩;obtain⟨a',b',c',d',rfl,h5,h6,h7,h4,W⟩:=id C;clear W;have M:E (zh _ _):=C;clear C;replace g:=g.cl k;replace T3:=T3.cl k;clear k;let⟨z,u,t,o,T⟩:=id T3;have V:=T3.lt)|(go_at_call 214;apply(kJ M).mono;rintro e X ⟨v,rfl,k,rfl⟩;replace g:=g.cl k;replace T3:=T3.cl k;clear k;let⟨z,u,t,o,T⟩:=id T3;have V:=T3.lt))
  all_goals (try go_wp2)
  all_goals (have P:=T3.self4 a' b' c' d')
  all_goals unfold set4 at P
  all_goals (refine YB (v:=(.agg #[.int .u64 a',.int .u64 b',.int .u64 c',.int .u64 d'])) ?_ Z ?_)
  all_goals first|(refine⟨_,Z,?_,M⟩;rw[H0.out];exact aE g.bl Q)|(simp[results,Tryz.results155,Tryz.results198,Tryz.results154,go_sem,P.c0,P.c1,P.c2,P.c3];done)|fail
def Ff{k:I}{y:Yq}(hG:Gap b c k P)(hx:zh x m)(d:zh y n)(g:m<P)(f:n<P):
 dZ 155 #[.agg #[U b,U c,U k,U 0],x,y] w λe w'=>zh e ((m+n)%P):=
 (uK b c k x y m n _ hx d w).1 (λw=>sum_any b c k P _ _ m n hG hx d g f w)
def vW{k:I}{y:Yq}(hG:Gap b c k P)(hx:zh x m)(d:zh y n)(g:m<P)(f:n<P):
 dZ 198 #[.agg #[U b,U c,U k,U 0],x,y] w λe w'=>zh e ((m+P-n)%P):=
 (uK b c k x y m n _ hx d w).2.1 (λw=>oO b c k P _ _ m n hG hx d g f w)
def qQ{k:I}{y:Yq}(hG:Gap b c k P)(hx:zh x m)(d:zh y n):
 dZ 154 #[.agg #[U b,U c,U k,U 0],x,y] w λe w'=>zh e (m*n%P):=
 (uK b c k x y m n _ hx d w).2.2 (λw=>nW b c k P _ _ m n hG hx d w)
section
open Go
section
variable {P:Zw}{ops:Array Y9}{Q:Exit->Act->Yp->Prop}{S:Yp->Prop}{p:Nat}
def anyTill(P:Zw)(k:yu Y9)(Q:Exit->Act->Yp->Prop)(S:Yp->Prop)(p:I):I->yu zk->Act->Yp->Prop
 | 0,listed,a,w=>Y6 .any k listed=[]/\Q .normal a w
 | fuel+1,listed,a,w=>(Y6 .any k listed=[]->Q .normal a w) /\
  ∀i∈Y6 .any k listed,wpOp P k Q i (λb w'=>((listed.setIfInBounds i J).getD p D=D->S w')/\anyTill P k Q S p fuel (listed.setIfInBounds i J) b w') a w
def anyTill.any:∀(k:I) (b:yu zk) (a:Act) (w:Yp),anyTill P ops Q S p k b a w->wpAny P .any ops Q k b a w
 | 0,_,_,_,h=>h
 | k+1,_,_,_,h=>⟨h.1,λi c=>uj (λe w' d=>anyTill.any k _ e w' d.2) (h.2 i c)⟩
def anyTill.first{t op:Y9}{v:Yq}(hi:ops[i]? = F t)(hp:ops[p]? = F op)(W:∃e∈op.after,ZH .any e=J/\e.on=i)(h2:p≠i)
 (n:∀(j:I) (o:Y9) cs b,ops[j]? = F o->o.op≠.select cs b) (hQ:∀c a w,Q (.panic c) (a.put t.dst v) w->Q (.panic c) a w) :
 ∀(f:I) (d:yu zk) (a:Act) (w:Yp),d.getD p false=false ->
  (∀j s,ops[j]? = F s->j≠i->d.getD j J=false->(∀e∈s.after,ZH .any e=J->e.on≠i)->t.apart ops s=J) ->
  i∈Y6 .any ops d->YieldsIf P ops S t v a->S w ->
  anyTill P ops Q S p f (d.setIfInBounds i J) (a.put t.dst v) w->anyTill P ops Q S p (f+1) d a w:=by
 intro f;induction f with
 | zero =>
  intro d a w _ _ z M A H;refine⟨λh=>absurd z (by rw[h];exact YI),λj L=>?_⟩;by_cases g:j=i
  .subst g;exact M.wpOp hi A ⟨λ_=>A,H⟩
  exact absurd (ready_mono L g) (by rw[H.1];exact YI)
 | succ f ih =>
  intro d a w hl m z M A H;refine⟨λh=>absurd z (by rw[h];exact YI),λj L=>?_⟩;by_cases g:j=i
  .subst g;exact M.wpOp hi A ⟨λ_=>A,H⟩
  let⟨q,s,l,y⟩:=mem_ready.1 L
  have r:∀e∈s.after,ZH .any e=J->e.on≠i:=λe T X V=>by
   have h1:=y e T X;have x:=(mem_ready.1 z).1;rw[V]at h1;rcases iB i d.size with u|u
   .simp[u]at x h1;rw[x]at h1;cases h1
   simp[uz u]at h1
  have C:j≠p:=by
   intro h;subst h;rw[hp]at l;let⟨e,T,X,u⟩:=W
   injection l with l
   subst l;exact r e T X u
  have h4:(d.setIfInBounds j J).getD p false=false:=by rw[ug false C];exact hl
  refine uj (λa' w' h3=>?_) (wpOp_putIf l (m j s l g q r) (λcs b=>n i t cs b hi) (λcs b=>n j s cs b l) hQ M (H.2 j (ready_mono L g)));have u:=h3.2.1 (by rw[ug false C,ug false (qs h2)];exact hl);refine⟨λ_=>u,ih (d.setIfInBounds j J) a' w' h4 (λk ok hk O x N=>?_) (ready_mono z (qs g)) h3.1 u ?_⟩
  .refine m k ok hk O ?_ N;by_cases K:j=k
   .subst K;exact q
   rw[ug J K]at x;exact x
  rw[yDL _ _ g];exact h3.2.2
def waits(k:yu Y9)(p i:I):zk:=match k[p]? with
 | some o=>o.after.any (λe=>ZH .any e && e.on == i)
 | none=>D
def anyTill.take{f:Y9}{v:Yq}(j:ops[i]? = F f)(d:waits ops p i=J)(hs:sw ops=J)
 (hl:(k.getD p false || p == i)=false) (hf:xp .any ops k i=J) (m:(Y6 .any ops k).contains i=J)
 (q:∀c a w,Q (.panic c) (a.put f.dst v) w->Q (.panic c) a w) (o:YieldsIf P ops S f v a) (n:S w)
 (h:anyTill P ops Q S p b (k.setIfInBounds i J) (a.put f.dst v) w):anyTill P ops Q S p (b+1) k a w:=by
 rw[yC0]at hl;unfold waits at d;cases ho:ops[p]? with
 | none=>rw[ho]at d;cases d
 | some op =>
  rw[ho]at d;let⟨e,l,g⟩:=rz.1 d
  simp only[YJ,beq_iff_eq]at g;exact anyTill.first j ho ⟨e,l,g.1,g.2⟩ (by simpa using hl.2) (yD2 hs) q b k a w hl.1 (yEk j hf) (by simpa using m) o n h
def anyTill.tk{d:Y9}{v:Yq}(m:ops[i]? = F d)(j:YieldsIf P ops S d v a)(g:S w)
 (h:anyTill P ops Q S p b (k.setIfInBounds i J) (a.put d.dst v) w) (e:waits ops p i=J:=by kernel_rfl) (hs:sw ops=J:=by kernel_rfl)
 (hl:(k.getD p false || p == i)=false:=by kernel_rfl) (hf:xp .any ops k i=J:=by kernel_rfl) (f:(Y6 .any ops k).contains i=J:=by kernel_rfl)
 (l:∀c a w,Q (.panic c) (a.put d.dst v) w->Q (.panic c) a w:=by exact λ_ _ _ h=>h):anyTill P ops Q S p (b+1) k a w:=anyTill.take m e hs hl hf f l j g h
def anyTill.tq(i:I){d:Y9}{v:Yq}(j:S w)(h:anyTill P ops Q S p b (k.setIfInBounds i J) (a.put d.dst v) w)(n:ops[i]? = F d:=by rfl)(l:YieldsIf P ops S d v a:=by(refine Y3 ⟨by rfl,?_⟩;intro w e;(try dsimp only at e);go_simp;try(with_reducible rfl)))
 (f:waits ops p i=J:=by kernel_rfl) (hs:sw ops=J:=by kernel_rfl)
 (hl:(k.getD p false || p == i)=false:=by kernel_rfl) (hf:xp .any ops k i=J:=by kernel_rfl) (g:(Y6 .any ops k).contains i=J:=by kernel_rfl)
 (m:∀c a w,Q (.panic c) (a.put d.dst v) w->Q (.panic c) a w:=by exact λ_ _ _ h=>h):anyTill P ops Q S p (b+1) k a w:=anyTill.tk n l j h f hs hl hf g m
def anyTill.step{o:Y9}(ho:ops[i]? = F o)(e:Y6 .any ops k=[i])
 (h:∀c:Act->Yp->Prop,Shut (∀a w,((k.setIfInBounds i J).getD p false=false->S w)->anyTill P ops Q S p b (k.setIfInBounds i J) a w->c a w) ->
  if gE o (yielded ops a.tmps)=J then ZY P o a w c Q else c (a.put o.dst ae) w):anyTill P ops Q S p (b+1) k a w:=by
 refine⟨λd=>(by rw[e]at d;cases d),λj f=>?_⟩;rw[e,ZX]at f;subst f;exact wpOp_step ho (λc g=>h c (λa w l m=>g a w ⟨l,m⟩))
def anyTill.done(c:Y6 .any ops k=[])(h:Q .normal a w):∀b,anyTill P ops Q S p b k a w
 | 0=>⟨c,h⟩
 | _+1=>⟨λ_=>h,by rw[c];intro i d;cases d⟩
def anyTill.begin{id:I}(S:Yp->Prop)(p:I)(b:P.follows .mixedOrders=J)(k:S w.drew)
 (h:S w.drew->anyTill P ops Q S p ops.size (YD ops.size false) a w.drew):(ZP id ops J).wp P Q a w:=
 wp_region_any b ((h k).any)
end
end
section
section
variable {P:Zw}{ops:Array Y9}{Q:Exit->Act->Yp->Prop}{S:Array Bool->Yp->Prop}
def bT{o:Y9}(k:o.guard=G):gE o (yielded ops t)=J:=by
 rw[gE,k]
def anyS(P:Zw)(k:yu Y9)(Q:Exit->Act->Yp->Prop)(S:yu zk->Yp->Prop):I->yu zk->Act->Yp->Prop
 | 0,listed,a,w=>Y6 .any k listed=[]/\Q .normal a w
 | fuel+1,listed,a,w=>(Y6 .any k listed=[]->Q .normal a w) /\
  ∀i∈Y6 .any k listed,wpOp P k Q i (λb w'=>S (listed.setIfInBounds i J) w'/\anyS P k Q S fuel (listed.setIfInBounds i J) b w') a w
def anyS.any:∀(k:I) (b:yu zk) (a:Act) (w:Yp),anyS P ops Q S k b a w->wpAny P .any ops Q k b a w
 | 0,_,_,_,h=>h
 | k+1,_,_,_,h=>⟨h.1,λi c=>uj (λe w' d=>anyS.any k _ e w' d.2) (h.2 i c)⟩
def Bef(S:yu zk->Yp->Prop)(p:I)(w:Yp):Prop:=∃l:yu zk,l.getD p D=D/\S l w
def anyS.first{y op:Y9}{v:Yq}(hi:ops[i]? = F y)(hp:ops[p]? = F op)(h4:∃e∈op.after,ZH .any e=J/\e.on=i)(h6:p≠i)(h5:∀l w,S (yBF l i J) w->S l w)
 (q:∀(j:I) (o:Y9) cs b,ops[j]? = F o->o.op≠.select cs b) (hQ:∀c a w,Q (.panic c) (a.put y.dst v) w->Q (.panic c) a w) :
 ∀(f:I) (d:yu zk) (a:Act) (w:Yp),d.getD p false=false ->
  (∀j u,ops[j]? = F u->j≠i->d.getD j J=false->(∀e∈u.after,ZH .any e=J->e.on≠i)->y.apart ops u=J) ->
  i∈Y6 .any ops d->YieldsIf P ops (Bef S p) y v a->Bef S p w->S (d.setIfInBounds i J) w ->
  anyS P ops Q S f (d.setIfInBounds i J) (a.put y.dst v) w->anyS P ops Q S (f+1) d a w:=by
 intro f;induction f with
 | zero =>
  intro d a w _ _ C N hS x H;refine⟨λh=>absurd C (by rw[h];exact YI),λj M=>?_⟩;by_cases g:j=i
  .subst g;exact N.wpOp hi hS ⟨x,H⟩
  exact absurd (ready_mono M g) (by rw[H.1];exact YI)
 | succ f ih =>
  intro d a w hl n C N hS x H;refine⟨λh=>absurd C (by rw[h];exact YI),λj M=>?_⟩;by_cases g:j=i
  .subst g;exact N.wpOp hi hS ⟨x,H⟩
  let⟨r,u,m,A⟩:=mem_ready.1 M
  have s:∀e∈u.after,ZH .any e=J->e.on≠i:=λe X hb h2=>by
   have h1:=A e X hb;have z:=(mem_ready.1 C).1;rw[h2]at h1;rcases iB i d.size with t|t
   .simp[t]at z h1;rw[z]at h1;cases h1
   simp[uz t]at h1
  have K:j≠p:=by
   intro h;subst h;rw[hp]at m;let⟨e,X,hb,t⟩:=h4
   injection m with m
   subst m;exact s e X hb t
  have h7:(d.setIfInBounds j J).getD p false=false:=by rw[ug false K];exact hl
  refine uj (λa' w' O=>?_) (wpOp_putIf m (n j u m g r s) (λcs b=>q i y cs b hi) (λcs b=>q j u cs b m) hQ N (H.2 j (ready_mono M g)));have e2:(d.setIfInBounds i J).setIfInBounds j J=(d.setIfInBounds j J).setIfInBounds i J:=(yDL _ _ (qs g))
  have t:=O.2.1;rw[e2]at t;have V:Bef S p w':=⟨_,by rw[ug false K,ug false (qs h6)];exact hl,O.2.1⟩
  refine⟨h5 _ _ t,ih (d.setIfInBounds j J) a' w' h7 (λk ok hk W z T=>?_) (ready_mono C (qs g)) O.1 V t ?_⟩
  .refine n k ok hk W ?_ T;by_cases L:j=k
   .subst L;exact r
   rw[ug J L]at z;exact z
  rw[<-e2];exact O.2.2
def anyS.take{f:Y9}{v:Yq}(n:ops[i]? = F f)(g:∀l w,S (yBF l i J) w->S l w)(s:YieldsIf P ops (Bef S p) f v a)(r:Bef S p w)(m:S (k.setIfInBounds i J) w)
 (h:anyS P ops Q S b (k.setIfInBounds i J) (a.put f.dst v) w) (d:waits ops p i=J:=by kernel_rfl) (hs:sw ops=J:=by kernel_rfl)
 (hl:(k.getD p false || p == i)=false:=by kernel_rfl) (hf:xp .any ops k i=J:=by kernel_rfl) (q:(Y6 .any ops k).contains i=J:=by kernel_rfl)
 (t:∀c a w,Q (.panic c) (a.put f.dst v) w->Q (.panic c) a w:=by exact λ_ _ _ h=>h):anyS P ops Q S (b+1) k a w:=by
 rw[yC0]at hl;unfold waits at d;cases ho:ops[p]? with
 | none=>rw[ho]at d;cases d
 | some op =>
  rw[ho]at d;let⟨e,o,j⟩:=rz.1 d
  simp only[YJ,beq_iff_eq]at j;exact anyS.first n ho ⟨e,o,j.1,j.2⟩ (by simpa using hl.2) g (yD2 hs) t b k a w hl.1 (yEk n hf) (by simpa using q) s r m h
def anyS.step{o:Y9}(ho:ops[i]? = F o)(e:Y6 .any ops k=[i])
 (h:∀c:Act->Yp->Prop,Shut (∀a w,S (k.setIfInBounds i J) w->anyS P ops Q S b (k.setIfInBounds i J) a w->c a w) ->
  if gE o (yielded ops a.tmps)=J then ZY P o a w c Q else c (a.put o.dst ae) w):anyS P ops Q S (b+1) k a w:=by
 refine⟨λd=>(by rw[e]at d;cases d),λj f=>?_⟩;rw[e,ZX]at f;subst f;exact wpOp_step ho (λc g=>h c (λa w l m=>g a w ⟨l,m⟩))
def anyS.done(c:Y6 .any ops k=[])(h:Q .normal a w):∀b,anyS P ops Q S b k a w
 | 0=>⟨c,h⟩
 | _+1=>⟨λ_=>h,by rw[c];intro i d;cases d⟩
def anyS.begin{id:I}(S:yu zk->Yp->Prop)(k:P.follows .mixedOrders=J)(h:anyS P ops Q S ops.size (YD ops.size false) a w.drew):(ZP id ops J).wp P Q a w:=
 wp_region_any k (anyS.any _ _ _ _ h)
section
variable {i p fuel:Nat}{o:Y9}{listed:Array Bool}{a:Act}{w w':Yp}{v:Yq}
def anyS.ins{d:zb Tmp}{I:Sem Yq}(ho:ops[i]? = F o)(hx:I.run P w=.ok v w')(c:S (listed.setIfInBounds i J) w')(h:anyS P ops Q S fuel (listed.setIfInBounds i J) (a.put d v) w')
 (b:Y6 .any ops listed=[i]:=by kernel_rfl) (e:o.guard=G:=by rfl) (k:Za a.eval o=I >>= λv=>pure (fI v):=by kernel_rfl) (hd:o.dst=d:=by kernel_rfl):anyS P ops Q S (fuel+1) listed a w:=by
 subst hd;exact anyS.step ho b λK f=>by
  rw[zd (bT e)];rw[ZY,k,YU,hx];exact f _ _ c h
def anyS.cal{d:zb Tmp}{R:Yq->Yp->Prop}(ho:ops[i]? = F o)(k:Zl P f args w (Ret R))(h:∀v w',R v w'->S (listed.setIfInBounds i J) w'/\anyS P ops Q S fuel (listed.setIfInBounds i J) (a.put d v) w')
 (b:Y6 .any ops listed=[i]:=by kernel_rfl) (c:o.guard=G:=by rfl) (hx:(Za a.eval o).run P w=.ok (.enter f args) w:=by kernel_rfl) (hd:o.dst=d:=by kernel_rfl):anyS P ops Q S (fuel+1) listed a w:=by
 subst hd;exact anyS.step ho b λK g=>by
  rw[zd (bT c)];rw[ZY,hx,rl];refine k.mono ?_;rintro e w' ⟨v,rfl,hR⟩;exact g _ _ (h v w' hR).1 (h v w' hR).2
def anyS.sto{d:zb Tmp}(ho:ops[i]? = F o)(k:YW)(x y:am)(c:o.op=.store k x y)(b off:I)(u:Yq)(hv:u.cells=#[u])(h1:u.oneCell'=J)(m:w.there b off 1)(p:(P.info? k).map (·.size)=F 1)
 (l:S (listed.setIfInBounds i J) (w.setCells b off [u])) (h:anyS P ops Q S fuel (listed.setIfInBounds i J) (a.put d ae) (w.setCells b off [u])) (hx:a.eval x=oZ b off:=by kernel_rfl) (n:a.eval y=u:=by kernel_rfl)
 (f:Y6 .any ops listed=[i]:=by kernel_rfl) (g:o.guard=G:=by rfl) (hd:o.dst=d:=by kernel_rfl):anyS P ops Q S (fuel+1) listed a w:=by
 subst hd;exact anyS.step ho f λK j=>by
  rw[zd (bT g)];have f:=yFu (P:=P) w b off k #[u] m p (by simp[h1]);have e:storeVar k ⟨b,off,G⟩ u=storeVar k ⟨b,off,G⟩ (.agg #[u]):=by
   rw[storeVar,hv];rfl
  unfold ZY Za;simp only[c,hx,n,yC2,xn,YU,gM,Zp,e,f];exact j _ _ l h
def anyS.cel{d:zb Tmp}(ho:ops[i]? = F o)(p:I)(f:∀l w,S (yBF l i J) w->S l w)(T:YW)(t:Tmp)(b off:I)(k:o.op=.load T (.tmp t))(m:(P.underlying T).map (·.isRow)=F false)(s:∀w,Bef S p w->w.cell? ⟨b,off,G⟩=F x)(r:Bef S p w)(g:S (listed.setIfInBounds i J) w)
 (h:anyS P ops Q S fuel (listed.setIfInBounds i J) (a.put d x) w) (hx:a.eval (.tmp t)=oZ b off:=by kernel_rfl) (n:o.guard=G:=by rfl) (j:waits ops p i=J:=by kernel_rfl) (hs:sw ops=J:=by kernel_rfl)
 (hl:(listed.getD p false || p == i)=false:=by kernel_rfl) (hf:xp .any ops listed i=J:=by kernel_rfl) (q:(Y6 .any ops listed).contains i=J:=by kernel_rfl)
 (u:∀c a w,Q (.panic c) (a.put o.dst x) w->Q (.panic c) a w:=by exact λ_ _ _ h=>h) (hd:o.dst=d:=by kernel_rfl):anyS P ops Q S (fuel+1) listed a w:=by
 subst hd;exact anyS.take (p:=p) ho f (Y3 ⟨bT n,λw e=>by
  rw[Za,k];dsimp only;rw[hx,YU,iH (s w e) m];rfl⟩) r g h j hs hl hf q u
def anyS.row{d:zb Tmp}(ho:ops[i]? = F o)(p:I)(e:∀l w,S (yBF l i J) w->S l w)(T:YW)(t:Tmp)(b off:I)(g:TypeDesc)(k:o.op=.load T (.tmp t))(n:P.underlying T=F g)(f:g.isRow=J)(x:(P.info? T).map (·.size)=F cs.length)(u:∀w,Bef S p w->w.rangeAt b off cs)(s:Bef S p w)(j:S (listed.setIfInBounds i J) w)
 (h:anyS P ops Q S fuel (listed.setIfInBounds i J) (a.put d (.agg cs.toArray)) w) (hx:a.eval (.tmp t)=oZ b off:=by kernel_rfl) (q:o.guard=G:=by rfl) (m:waits ops p i=J:=by kernel_rfl) (hs:sw ops=J:=by kernel_rfl)
 (hl:(listed.getD p false || p == i)=false:=by kernel_rfl) (hf:xp .any ops listed i=J:=by kernel_rfl) (r:(Y6 .any ops listed).contains i=J:=by kernel_rfl)
 (v:∀c a w,Q (.panic c) (a.put o.dst (.agg cs.toArray)) w->Q (.panic c) a w:=by exact λ_ _ _ h=>h) (hd:o.dst=d:=by kernel_rfl):anyS P ops Q S (fuel+1) listed a w:=by
 subst hd;exact anyS.take (p:=p) ho e (yieldsIf_load_mid (bT q) T (.tmp t) k b off hx cs g u n f x) s j h m hs hl hf r v
def anyS.val{d:zb Tmp}(ho:ops[i]? = F o)(p:I)(k:∀l w,S (yBF l i J) w->S l w)(j:Bef S p w)(b:S (listed.setIfInBounds i J) w)(h:anyS P ops Q S fuel (listed.setIfInBounds i J) (a.put d x) w)(hv:∀w,(Za a.eval o).run P w=.ok (.value x) w:=by intro _;kernel_rfl)(f:o.guard=G:=by rfl)(e:waits ops p i=J:=by kernel_rfl)(hs:sw ops=J:=by kernel_rfl)
 (hl:(listed.getD p false || p == i)=false:=by kernel_rfl) (hf:xp .any ops listed i=J:=by kernel_rfl) (g:(Y6 .any ops listed).contains i=J:=by kernel_rfl)
 (m:∀c a w,Q (.panic c) (a.put o.dst x) w->Q (.panic c) a w:=by exact λ_ _ _ h=>h) (hd:o.dst=d:=by kernel_rfl):anyS P ops Q S (fuel+1) listed a w:=by
 subst hd;exact anyS.take (p:=p) ho k (Y3 ⟨bT f,λw _=>hv w⟩) j b h e hs hl hf g m
def anyS.nxt{d:zb Tmp}(ho:ops[i]? = F o)(b:S (listed.setIfInBounds i J) w)(h:anyS P ops Q S fuel (listed.setIfInBounds i J) (a.put d x) w)(hv:(Za a.eval o).run P w=.ok (.value x) w:=by kernel_rfl)(k:Y6 .any ops listed=[i]:=by kernel_rfl)(c:o.guard=G:=by rfl)(hd:o.dst=d:=by kernel_rfl):anyS P ops Q S (fuel+1) listed a w:=by
 subst hd;exact anyS.step ho k λK e=>by
  rw[zd (bT c)];rw[ZY,hv];exact e _ _ b h
end
end
def anyS.sta{P:Zw}{c:yu Y9}{S:yu zk->Yp->Prop}{e:I}{o:Y9}{d:zb Tmp}(ho:c[i]? = F o)(g:YW)(x y:am)(f:o.op=.store g x y)(b off:I)(us:yu Yq)(h1:us.all (·.oneCell')=J)(p:w.there b off us.size)(r:(P.info? g).map (·.size)=F us.size)
 (n:S (k.setIfInBounds i J) (w.setCells b off us.toList)) (h:anyS P c Q S e (k.setIfInBounds i J) (a.put d ae) (w.setCells b off us.toList)) (hx:a.eval x=oZ b off:=by kernel_rfl) (q:a.eval y=.agg us:=by kernel_rfl)
 (j:Y6 .any c k=[i]:=by kernel_rfl) (l:o.guard=G:=by rfl) (hd:o.dst=d:=by kernel_rfl):anyS P c Q S (e+1) k a w:=by
 subst hd;exact anyS.step ho j λK m=>by
  rw[zd (bT l)];have j:=yFu (P:=P) w b off g us p r h1;unfold ZY Za;simp only[f,hx,q,yC2,xn,YU,gM,Zp,j];exact m _ _ n h
structure Iv where
 p:Yp->Prop
 gr:∀W W',kZ W W'->p W->p W'
 b:zk
abbrev Iv.bel(k:Yp):Iv:=⟨λW=>kZ k W,λ_ _ b h=>h.trans (b.mono h.size),J⟩
section
variable {P:Zw}{ops:Array Y9}{Q:Exit->Act->Yp->Prop}{p r:Nat}{J:Iv}{W:Yp}
def Sa(p r:I)(J:Iv)(l:yu zk)(W:Yp):Prop:=(J.b=true/\l.getD p D=true/\l.getD r D=true)\/J.p W
def Sa.back(h:p≠i)(k:r≠i)(l:yu zk)(W:Yp)(hs:Sa p r J (l.setIfInBounds i true) W):Sa p r J l W:=by
 rcases hs with hs|hs
 .rw[ug false (qs h),ug false (qs k)]at hs;exact Y3 hs
 exact YZ hs
def qw(k:yu Y9)(b:zk)(p r i:I):I:=bif b then bif waits k p i then p else r else((ZD k.size).find? λj=>waits k j i).getD 0
def Sa.bel(h:Bef (Sa p r J) (qw ops J.b p r i) W):J.p W:=by
 obtain⟨l,h1,⟨c,k⟩|k⟩:=h
 .exfalso;unfold qw at h1;rw[c]at h1;cases b:waits ops p i with
  | true=>rw[b]at h1;exact ww (h1.symm.trans k.1)
  | false=>rw[b]at h1;exact ww (h1.symm.trans k.2)
 exact k
def Sa.bef(h:J.p W):Bef (Sa p r J) q W:=⟨#[],by simp,YZ h⟩
def AW(P:Zw)(c:yu Y9)(Q:Exit->Act->Yp->Prop)(p r:I)(J:Iv)(b:I)(k:yu zk)(a:Act)(w:Yp):Prop:=J.p w->anyS P c Q (Sa p r J) b k a w
def AW.beg{J:Iv}{id:I}(p r:I)(k:J.p w.drew)(h:AW P ops Q p r J ops.size (YD ops.size false) a w.drew)(b:P.follows .mixedOrders=true:=by kernel_rfl):(ZP id ops true).wp P Q a w:=anyS.begin (Sa p r J) b (h k)
def AW.begin{id:I}(p r:I)(h:AW P ops Q p r (Iv.bel w) ops.size (YD ops.size false) a w.drew)(k:P.follows .mixedOrders=true:=by kernel_rfl):(ZP id ops true).wp P Q a w:=AW.beg p r (YH _ w).drew h k
def aw1(b:yu Y9)(p r q i:I)(k:yu zk):zk:=waits b q i && sw b && !(k.getD q D || q == i) && xp .any b k i && (Y6 .any b k).contains i && !(p == i) && !(r == i)
def fw(k:yu Y9)(i:I):I:=((ZD k.size).find? λj=>waits k j i).getD 0
variable {i fuel:Nat}{o:Y9}{listed:Array Bool}{a a':Act}{w w':Yp}{d:Option Tmp}{x v:Yq}{t:Tmp}{T:YW}{b off:Nat}{cs:List Yq}
def AW.take(i q:I)(ho:ops[i]? = F o)(hd:o.dst=d)(g:YieldsIf P ops (Bef (Sa p r J) q) o x a)(j:a.put d x=a')(b:aw1 ops p r q i listed=true)(n:∀c a w,Q (.panic c) (a.put o.dst x) w->Q (.panic c) a w)(h:AW P ops Q p r J fuel (listed.setIfInBounds i true) a' w):AW P ops Q p r J (fuel+1) listed a w:=λk=>by
 subst j hd;simp only[aw1,YJ,zk.not_eq_true']at b;let⟨⟨⟨⟨⟨⟨h1,t⟩,l⟩,f⟩,e⟩,s⟩,m⟩:=b
 exact anyS.take (p:=q) ho (Sa.back (by simpa using s) (by simpa using m)) g (Sa.bef k) (YZ k) (h k) h1 t l f e n
def AW.va(i:I)(x:Yq)(h:AW P ops Q p r J fuel (listed.setIfInBounds i true) a' w)(ho:ops[i]? = F o:=by(simp only[YV,YP,YS])<;>rfl)(hd:o.dst=d:=by rfl)(f:o.guard=G:=by rfl)(hv:∀w,(Za a.eval o).run P w=.ok (.value x) w:=by intro _;kernel_rfl)
 (k:a.put d x=a':=by(simp only[Zo,Yw,Yy,Yz])<;>rfl) (b:aw1 ops p r (fw ops i) i listed=true:=by kernel_rfl) (e:∀c a w,Q (.panic c) (a.put o.dst x) w->Q (.panic c) a w:=by exact λ_ _ _ h=>h):AW P ops Q p r J (fuel+1) listed a w:=
 AW.take i (fw ops i) ho hd (Y3 ⟨bT f,λw _=>hv w⟩) k b e h
def AW.iv(i:Nat){I:Sem Yq}(f:∀w,I.run P w=.ok x w)(h:AW P ops Q p r J fuel (listed.setIfInBounds i true) a' w)(ho:ops[i]? = F o:=by(simp only[YV,YP,YS])<;>rfl)(hd:o.dst=d:=by rfl)(j:o.guard=G:=by rfl)(b:Za a.eval o=I >>= λv=>pure (fI v):=by kernel_rfl)
 (k:a.put d x=a':=by(simp only[Zo,Yw,Yy,Yz])<;>rfl) (e:aw1 ops p r (fw ops i) i listed=true:=by kernel_rfl) (g:∀c a w,Q (.panic c) (a.put o.dst x) w->Q (.panic c) a w:=by exact λ_ _ _ h=>h):AW P ops Q p r J (fuel+1) listed a w:=
 AW.take i (fw ops i) ho hd (Y3 ⟨bT j,λw _=>by rw[b,YU,f w];rfl⟩) k e g h
def UN{c:yu YW}{s t k:Tmp}{y:Yq}(hf:∀args W,(callFunc f args).run P W=.ok (.enter f args) W)(ho:o.op=.call ⟨.value (.tmp s),#[.tmp t,.tmp k],c⟩)(hs:a.eval (.tmp s)=.func (.func f) #[] #[])(hx:a.eval (.tmp t)=x)(b:a.eval (.tmp k)=y):(Za a.eval o).run P w=.ok (.enter f #[x,y]) w:=by
 rw[Za,ho];have e:(#[yEM t,yEM k].map a.eval)=#[x,y]:=by simp[hx,b]
 simp only[resolve,hs,Deferred.ofValue,YU,gM,Zp,invoke,e];exact hf _ w
def AW.mv(i:I)(h:AW P ops Q p r J fuel (listed.setIfInBounds i true) a' w)(ho:ops[i]? = F o:=by(simp only[YV,YP,YS])<;>rfl)(hd:o.dst=d:=by rfl)(g:o.guard=G:=by rfl)(k:o.op=.move (.tmp t):=by rfl)(hx:a.eval (.tmp t)=x:=by(conv=>lhs;whnf)<;>rfl)
 (b:a.put d x=a':=by(simp only[Zo,Yw,Yy,Yz])<;>rfl) (e:aw1 ops p r (fw ops i) i listed=true:=by kernel_rfl) (f:∀c a w,Q (.panic c) (a.put o.dst x) w->Q (.panic c) a w:=by exact λ_ _ _ h=>h):AW P ops Q p r J (fuel+1) listed a w:=
 AW.take i (fw ops i) ho hd (Y3 ⟨bT g,λw _=>by unfold Za;rw[k];dsimp only;rw[hx];rfl⟩) b e f h
def AW.ce(i:I)(m:(P.underlying T).map (·.isRow)=F false)(j:∀W,J.p W->W.cell? ⟨b,off,G⟩=F x)(h:AW P ops Q p r J fuel (listed.setIfInBounds i true) a' w)(ho:ops[i]? = F o:=by(simp only[YV,YP,YS])<;>rfl)(hd:o.dst=d:=by rfl)(n:o.guard=G:=by rfl)(k:o.op=.load T (.tmp t):=by rfl)(hx:a.eval (.tmp t)=oZ b off:=by rfl)
 (f:a.put d x=a':=by(simp only[Zo,Yw,Yy,Yz])<;>rfl) (g:aw1 ops p r (qw ops J.b p r i) i listed=true:=by kernel_rfl) (l:∀c a w,Q (.panic c) (a.put o.dst x) w->Q (.panic c) a w:=by exact λ_ _ _ h=>h):AW P ops Q p r J (fuel+1) listed a w:=
 AW.take i (qw ops J.b p r i) ho hd (Y3 ⟨bT n,λw e=>by
  rw[Za,k];dsimp only;rw[hx,YU,iH (j w (Sa.bel e)) m];rfl⟩) f g l h
def AW.ro(i:I)(m:∀W,J.p W->W.rangeAt b off cs)(hv:Hid (.agg cs.toArray=x))(e:(P.underlying T).map (·.isRow)=F true)(u:(P.info? T).map (·.size)=F cs.length)(h:AW P ops Q p r J fuel (listed.setIfInBounds i true) a' w)(ho:ops[i]? = F o:=by(simp only[YV,YP,YS])<;>rfl)(hd:o.dst=d:=by rfl)(f:o.guard=G:=by rfl)(k:o.op=.load T (.tmp t):=by rfl)(hx:a.eval (.tmp t)=oZ b off:=by rfl)
 (l:a.put d x=a':=by(simp only[Zo,Yw,Yy,Yz])<;>rfl) (g:aw1 ops p r (qw ops J.b p r i) i listed=true:=by kernel_rfl) (q:∀c a w,Q (.panic c) (a.put o.dst x) w->Q (.panic c) a w:=by exact λ_ _ _ h=>h):AW P ops Q p r J (fuel+1) listed a w:=by
 obtain rfl:=hv;let⟨n,h1,s⟩:=Yu.1 e
 exact AW.take i (qw ops J.b p r i) ho hd (yieldsIf_load_mid (bT f) T (.tmp t) k b off hx cs n (λw j=>m w (Sa.bel j)) h1 s u) l g q h
def AW.ca(i:I){R:Yq->Yp->Prop}{F:Yq->Act}(j:J.p w->Zl P f args w (Ret R))(hR:∀e w',R e w'->kZ w w')(h:∀e w',R e w'->AW P ops Q p r J fuel (listed.setIfInBounds i true) (F e) w')(ho:ops[i]? = some o:=by(simp only[YV,YP,YS])<;>rfl)(hd:o.dst=d:=by rfl)(g:o.guard=G:=by rfl)(hx:(Za a.eval o).run P w=.ok (.enter f args) w:=by kernel_rfl)(b:Y6 .any ops listed=[i]:=by kernel_rfl)(hf:∀e,a.put d e=F e:=by intro _;(simp only[Zo,Yw,Yy,Yz])<;>rfl):AW P ops Q p r J (fuel+1) listed a w:=λc =>
 anyS.cal ho (j c) (λe w' b=>by
  have k:=J.gr w w' (hR e w' b) c;exact⟨YZ k,hf e ▸ h e w' b k⟩) b g hx hd
def AW.cw(i:I){R:Yq->Yp->Prop}{F:Yq->Act}(c:J.p w->Zl P f args w (Ret R))(hR:∀e w',J.p w->R e w'->J.p w')(h:∀e w',R e w'->AW P ops Q p r J fuel (listed.setIfInBounds i true) (F e) w')(ho:ops[i]? = some o:=by(simp only[YV,YP,YS])<;>rfl)(hd:o.dst=d:=by rfl)(g:o.guard=G:=by rfl)(hx:(Za a.eval o).run P w=.ok (.enter f args) w:=by kernel_rfl)(k:Y6 .any ops listed=[i]:=by kernel_rfl)(hf:∀e,a.put d e=F e:=by intro _;(simp only[Zo,Yw,Yy,Yz])<;>rfl):AW P ops Q p r J (fuel+1) listed a w:=λb =>
 anyS.cal ho (c b) (λe w' k=>⟨YZ (hR e w' b k),hf e ▸ h e w' k (hR e w' b k)⟩) k g hx hd
def AW.gi(i:I)(b:J.p w->Zl P f args w (rZ w λe w'=>e=x))(h:∀w',kZ w w'->AW P ops Q p r J fuel (listed.setIfInBounds i true) a' w')(ho:ops[i]? = some o:=by(simp only[YV,YP,YS])<;>rfl)(hd:o.dst=d:=by rfl)(g:o.guard=G:=by rfl)(hx:(Za a.eval o).run P w=.ok (.enter f args) w:=by kernel_rfl)
 (k:a.put d x=a':=by(simp only[Zo,Yw,Yy,Yz])<;>rfl) (c:Y6 .any ops listed=[i]:=by kernel_rfl):AW P ops Q p r J (fuel+1) listed a w:=AW.ca (F:=λe=>a.put d e) i b (λe w' h=>h.1) (λe w' hR=>by
 obtain⟨h1,rfl⟩:=hR;subst k;exact h w' h1) ho hd g hx c λ_=>rfl
def AW.ns(i:Nat){I:Sem Yq}(hx:I.run P w=.ok x w')(b:kZ w w')(h:AW P ops Q p r J fuel (listed.setIfInBounds i true) a' w')(ho:ops[i]? = F o:=by(simp only[YV,YP,YS])<;>rfl)(hd:o.dst=d:=by rfl)(g:o.guard=G:=by rfl)(e:Za a.eval o=I >>= λv=>pure (fI v):=by kernel_rfl)
 (c:a.put d x=a':=by(simp only[Zo,Yw,Yy,Yz])<;>rfl) (f:Y6 .any ops listed=[i]:=by kernel_rfl):AW P ops Q p r J (fuel+1) listed a w:=λj=>by
 subst c;have k:=J.gr w w' b j;exact anyS.ins ho hx (YZ k) (h k) f g e hd
def AW.nx(i:I)(x:Yq)(h:AW P ops Q p r J fuel (listed.setIfInBounds i true) a' w)(ho:ops[i]? = F o:=by(simp only[YV,YP,YS])<;>rfl)(hd:o.dst=d:=by rfl)(e:o.guard=G:=by rfl)(hv:(Za a.eval o).run P w=.ok (.value x) w:=by kernel_rfl)
 (b:a.put d x=a':=by(simp only[Zo,Yw,Yy,Yz])<;>rfl) (c:Y6 .any ops listed=[i]:=by kernel_rfl):AW P ops Q p r J (fuel+1) listed a w:=λk=>by
 subst b;exact anyS.nxt ho (YZ k) (h k) hv c e hd
def AW.dn(h:J.p w->Q .normal a w)(k:Y6 .any ops listed=[]:=by kernel_rfl):AW P ops Q p r J fuel listed a w:=λb=>anyS.done k (h b) _
def AW.fi{k:I}(hv:Hid (.agg us.toArray=v))(d:us.toArray.all (·.oneCell')=true)(l:(P.info? T).map (·.size)=F us.length)(h:J.p w->w.there k off us.length/\Q .normal a' (w.setCells k off us))(ho:ops[p]? = F o:=by(simp only[YV,YP,YS])<;>rfl)(hd:o.dst=G:=by rfl)(e:o.guard=G:=by rfl)(c:o.op=.store T (.tmp t) y:=by rfl)(hx:a.eval (.tmp t)=oZ k off:=by rfl)(g:a.eval y=v:=by rfl)
 (i:a.put G ae=a':=by(simp only[Zo])<;>rfl) (b:(Y6 .any ops listed,Y6 .any ops (listed.setIfInBounds p true),J.b,(listed.setIfInBounds p true).getD p false,(listed.setIfInBounds p true).getD r false)=([p],[],true,true,true):=by kernel_rfl):AW P ops Q p r J (fuel+1) listed a w:=λf=>by
 simp only[ZV.injEq]at b;let⟨h1,j⟩:=h f
 subst i;exact anyS.sta ho T (.tmp t) y c k off us.toArray d h1 l (Y3 b.2.2) (anyS.done b.2.1 j _) hx (g.trans hv.symm) b.1 e hd
def AW.ss(i:I){k:I}(hv:Hid (.agg us.toArray=v))(d:us.toArray.all (·.oneCell')=true)(q:(P.info? T).map (·.size)=F us.length)(l:Hid (w.setCells k off us=w'))(h:J.p w->w.there k off us.length/\J.p w')(e:AW P ops Q p r J fuel (listed.setIfInBounds i true) a' w')(ho:ops[i]? = F o:=by(simp only[YV,YP,YS])<;>rfl)(hd:o.dst=G:=by rfl)(f:o.guard=G:=by rfl)(b:o.op=.store T (.tmp t) y:=by rfl)(hx:a.eval (.tmp t)=oZ k off:=by rfl)(m:a.eval y=v:=by rfl)
 (n:a.put G ae=a':=by(simp only[Zo])<;>rfl) (g:Y6 .any ops listed=[i]:=by kernel_rfl):AW P ops Q p r J (fuel+1) listed a w:=λj=>by
 let⟨h1,c⟩:=h j
 obtain rfl:=l;subst n;exact anyS.sta ho T (.tmp t) y b k off us.toArray d h1 q (YZ c) (e c) hx (m.trans hv.symm) g f hd
def AW.f2{k:I}{j:YW}(hv:Hid (.agg us.toArray=v))(u:Hid (.agg us'.toArray=A))(K:us.toArray.all (·.oneCell')=true)(hi:(P.info? T).map (·.size)=F us.length)(s:us'.toArray.all (·.oneCell')=true)(q:(P.info? j).map (·.size)=F us'.length)(h:J.p w->w.there k 0 us.length/\(w.setCells k 0 us).there c 0 us'.length/\Q .normal a' ((w.setCells k 0 us).setCells c 0 us'))(ho:ops[p]? = F o:=by(simp only[YV,YP,YS])<;>rfl)(hd:o.dst=G:=by rfl)(L:o.guard=G:=by rfl)(i:o.op=.store T (.tmp t) y:=by rfl)(hx:a.eval (.tmp t)=jZ k:=by rfl)(W:a.eval y=v:=by rfl)
 (ha:a.put G ae=a':=by(simp only[Zo])<;>rfl){d:Y9}{x:am}{l:Tmp}(z:ops[p+1]? = F d:=by(simp only[YV,YP,YS])<;>rfl) (f:d.dst=G:=by rfl) (e:d.guard=G:=by rfl) (b:d.op=.store j (.tmp l) x:=by rfl) (m:a'.eval (.tmp l)=jZ c:=by rfl) (g:a'.eval x=A:=by rfl) (n:a'.put G ae=a':=by rfl)
 (C:(Y6 .any ops listed,Y6 .any ops (listed.setIfInBounds p true),Y6 .any ops ((listed.setIfInBounds p true).setIfInBounds (p+1) true),J.b,(listed.setIfInBounds p true).getD p false,(listed.setIfInBounds p true).getD r false,((listed.setIfInBounds p true).setIfInBounds (p+1) true).getD p false,((listed.setIfInBounds p true).setIfInBounds (p+1) true).getD r false)=([p],[p+1],[],true,true,true,true,true):=by kernel_rfl):AW P ops Q p r J (fuel+2) listed a w:=λV=>by
 simp only[ZV.injEq]at C;let⟨r1,r2,X,d,M,r5,N,O⟩:=C
 let⟨h1,h2,h3⟩:=h V
 subst ha;exact anyS.sta ho T (.tmp t) y i k 0 us.toArray K h1 hi (Y3 ⟨d,M,r5⟩) (anyS.sta z j (.tmp l) x b c 0 us'.toArray s h2 q (Y3 ⟨d,N,O⟩) (anyS.done X (by rw[n];exact h3) _) m (g.trans u.symm) r2 e f) hx (W.trans hv.symm) r1 L hd
end
section
variable {P:Zw}{ops:Array Y9}{rest:List Y9}{op:Y9}{a a':Act}{w w':Yp}{Q:Exit->Act->Yp->Prop}{d:Option Tmp}{x v:Yq}{t:Tmp}{T:YW}{b off:Nat}{cs:List Yq}
def PW.begin{id:I}(h:wpList P l.toArray Q l a w):(ZP id l.toArray false).wp P Q a w:=wp_region_list h
def PW.dn(h:Q .normal a w):wpList P ops Q [] a w:=h
def PW.va(x:Yq)(h:wpList P ops Q rest a' w)(hd:op.dst=d:=by rfl)(b:op.guard=G:=by rfl)(hv:(Za a.eval op).run P w=.ok (.value x) w:=by kernel_rfl)(k:a.put d x=a':=by(simp only[Zo,Yw,Yy,Yz])<;>rfl):wpList P ops Q (op :: rest) a w:=by
 subst k hd;exact gH b λK c=>by
  rw[ZY,hv];exact c _ _ h
def PW.ns{I:Sem Yq}(hx:I.run P w=.ok x w')(h:wpList P ops Q rest a' w')(hd:op.dst=d:=by rfl)(c:op.guard=G:=by rfl)(b:Za a.eval op=I >>= λv=>pure (fI v):=by kernel_rfl)(k:a.put d x=a':=by(simp only[Zo,Yw,Yy,Yz])<;>rfl):wpList P ops Q (op :: rest) a w:=by
 subst k hd;exact gH c λK e=>by
  rw[ZY,b,YU,hx];exact e _ _ h
def PW.ca{R:Yq->Yp->Prop}{F:Yq->Act}(c:Zl P f args w (Ret R))(h:∀e w',R e w'->wpList P ops Q rest (F e) w')(hd:op.dst=d:=by rfl)(k:op.guard=G:=by rfl)(hx:(Za a.eval op).run P w=.ok (.enter f args) w:=by kernel_rfl)(hf:∀e,a.put d e=F e:=by intro _;(simp only[Zo,Yw,Yy,Yz])<;>rfl):wpList P ops Q (op :: rest) a w:=by
 subst hd;exact gH k λK b=>by
  rw[ZY,hx,rl];refine c.mono ?_;rintro e w' ⟨v,rfl,hR⟩;exact b _ _ (hf v ▸ h v w' hR)
def PW.gi(b:Zl P f args w (rZ w λe w'=>e=x))(h:∀w',kZ w w'->wpList P ops Q rest a' w')(hd:op.dst=d:=by rfl)(c:op.guard=G:=by rfl)(hx:(Za a.eval op).run P w=.ok (.enter f args) w:=by kernel_rfl)(k:a.put d x=a':=by(simp only[Zo,Yw,Yy,Yz])<;>rfl):wpList P ops Q (op :: rest) a w:=
 PW.ca (F:=λe=>a.put d e) b (λe w' hR=>by
  obtain⟨h1,rfl⟩:=hR;subst k;exact h w' h1) hd c hx λ_=>rfl
def PW.al{b:Obj}(f:Hid (w.heap.size=g))(i:Hid (w.alloc b=w'))(h:wpList P ops Q rest a' w')(hd:op.dst=d:=by rfl)(k:op.guard=G:=by rfl)(e:(Za a.eval op).run P w=.ok (.value (jZ w.heap.size)) (w.alloc b):=by kernel_rfl)(c:a.put d (jZ g)=a':=by(simp only[Zo,Yw,Yy,Yz])<;>rfl):wpList P ops Q (op :: rest) a w:=by
 subst c hd;exact gH k λK j=>by
  rw[ZY,e,f.out,i.out];exact j _ _ h
def PW.st(e:Hid (w.setCells b off cs=w'))(hv:Hid (.agg cs.toArray=v))(th:w.there b off cs.length)(d:(P.info? T).map (·.size)=F cs.length)(h1:cs.toArray.all (·.oneCell')=J)(h:wpList P ops Q rest a' w')(hd:op.dst=G:=by rfl)(k:op.guard=G:=by rfl)(ho:op.op=.store T (.tmp t) y:=by rfl)(hx:a.eval (.tmp t)=oZ b off:=by rfl)(f:a.eval y=v:=by rfl)(c:a.put G ae=a':=by(simp only[Zo])<;>rfl):wpList P ops Q (op :: rest) a w:=
 wpList_store_mid k T (.tmp t) y ho b off cs.toArray hx (f.trans hv.symm) th d h1 (by rw[show cs.toArray.toList=cs from Z,e.out,hd,c];exact h)
def PW.ro(f:w.rangeAt b off cs)(hv:Hid (.agg cs.toArray=v))(g:(P.underlying T).map (·.isRow)=F J)(i:(P.info? T).map (·.size)=F cs.length)(h:wpList P ops Q rest a' w)(hd:op.dst=d:=by rfl)(k:op.guard=G:=by rfl)(ho:op.op=.load T (.tmp t):=by rfl)(hx:a.eval (.tmp t)=oZ b off:=by rfl)(c:a.put d v=a':=by(simp only[Zo,Yw,Yy,Yz])<;>rfl):wpList P ops Q (op :: rest) a w:=by
 let⟨e,h1,j⟩:=Yu.1 g
 exact wpList_load_mid k T (.tmp t) ho b off hx cs e f h1 j i (by rw[hv.out,hd,c];exact h)
def PW.ce(e:w.cell? ⟨b,off,G⟩=F x)(f:(P.underlying T).map (·.isRow)=F false)(h:wpList P ops Q rest a' w)(hd:op.dst=d:=by rfl)(k:op.guard=G:=by rfl)(ho:op.op=.load T (.tmp t):=by rfl)(hx:a.eval (.tmp t)=oZ b off:=by rfl)(c:a.put d x=a':=by(simp only[Zo,Yw,Yy,Yz])<;>rfl):wpList P ops Q (op :: rest) a w:=
 PW.va x h hd k (by
  rw[Za,ho];dsimp only;rw[hx,YU,iH e f];rfl) c
def PW.au(op:Y9)(a:Act):zb Yq:=match op.guard,op.op with
 | none,.move (.tmp t)=>F (a.eval (.tmp t))
 | _,_=>G
def PW.fr:H Y9->Act->H Yq->Act × H Y9
 | [],a,_=>(a,[])
 | op :: l,a,vs=>match PW.au op a,vs with
  | some v,_=>PW.fr l (a.put op.dst v) vs
  | none,[]=>(a,op :: l)
  | none,v :: vs=>PW.fr l (a.put op.dst v) vs
def PW.ck(P:Zw)(w:Yp)(b:zk):H Y9->Act->H Yq->H (zb (I × zk) × Result Next)
 | [],_,_=>[]
 | op :: l,a,vs=>match PW.au op a,vs with
  | some v,_=>(if b then(op.guard,(Za a.eval op).run P w) else(G,.ok (.value v) w)) :: PW.ck P w b l (a.put op.dst v) vs
  | none,[]=>[]
  | none,v :: vs=>(if b then(op.guard,(Za a.eval op).run P w) else(G,.ok (.value v) w)) :: PW.ck P w b l (a.put op.dst v) vs
def PW.go1:∀(l:H Y9) (a:Act) (vs:H Yq),PW.ck P w J l a vs=PW.ck P w false l a vs->wpList P ops Q (PW.fr l a vs).2 (PW.fr l a vs).1 w->wpList P ops Q l a w
 | [],_,_,_,h=>h
 | op :: l,a,vs,k,h=>by
  unfold PW.ck at k;unfold PW.fr at h;revert k h;cases PW.au op a with
  | some v =>
   intro k h;simp only[qn.injEq,if_true,yEn,if_false,ZV.injEq]at k;exact PW.va v (PW.go1 l _ vs k.2 h) Z k.1.1 k.1.2 Z
  | none =>
   cases vs with
   | nil=>exact λ_ h=>h
   | cons v vs =>
    intro k h;simp only[qn.injEq,if_true,yEn,if_false,ZV.injEq]at k;exact PW.va v (PW.go1 l _ vs k.2 h) Z k.1.1 k.1.2 Z
def PW.f3(h:PW.fr l a vs=(a',rest):=by(simp only[PW.fr,PW.au,Act.eval,Zo,Yw,Yy,Yz,Array.getD_eq_getD_getElem?,YV,YP,YS,Option.getD_some])<;>rfl):PW.fr l a vs=(a',rest):=h
variable {l:List Y9}{id:Nat}{c:Code}(vs:List Yq)
def PW.go(h:wpList P ops Q rest a' w)(b:PW.ck P w J l a vs=PW.ck P w false l a vs:=by kernel_rfl)(k:PW.fr l a vs=(a',rest):=by exact PW.f3):wpList P ops Q l a w:=PW.go1 l a vs b (by rw[k];exact h)
def PW.en(h:Q .normal a' w)(b:PW.ck P w J l a vs=PW.ck P w false l a vs:=by kernel_rfl)(k:PW.fr l a vs=(a',[]):=by exact PW.f3):wpList P ops Q l a w:=PW.go vs (PW.dn h) b k
def PW.bb(h:wpList P l.toArray Q rest a' w)(b:PW.ck P w J l a vs=PW.ck P w false l a vs:=by kernel_rfl)(k:PW.fr l a vs=(a',rest):=by exact PW.f3):(ZP id l.toArray false).wp P Q a w:=PW.begin (PW.go vs h b k)
def PW.bg(h:wpList P l.toArray (Exit.then (c.wp P Q) Q) rest a' w)(b:PW.ck P w J l a vs=PW.ck P w false l a vs:=by kernel_rfl)(k:PW.fr l a vs=(a',rest):=by exact PW.f3):((ZP id l.toArray false).seq c).wp P Q a w:=Yt (PW.bb vs h b k)
def PW.rg(h:c.wp P Q a' w)(b:PW.ck P w J l a vs=PW.ck P w false l a vs:=by kernel_rfl)(k:PW.fr l a vs=(a',[]):=by exact PW.f3):((ZP id l.toArray false).seq c).wp P Q a w:=PW.bg vs (PW.dn h) b k
end
end
def N9(m i s:I):m/2^i%2^(s+1)=2*(m/2^(i+1)%2^s)+m/2^i%2:=by
 have e:m/2^(i+1)=m/2^i/2:=by rw[Z5,yA3]
 rw[e,Z5,Ze (2^s),I.mod_mul];omega
def low_bit(y z r:I)(d:r<64)(b:z=y%18446744073709551616):z/2^r%2=y/2^r%2:=by
 have e:(18446744073709551616:I)=2^r*(2*2^(63-r)):=by
  rw[<-kI,<-Z5,<-ox,show r+1+(63-r)=64 by omega]
 have c:y/2^r=2*(2^(63-r)*(y/18446744073709551616))+z/2^r:=by
  have k:y=2^r*(2*(2^(63-r)*(y/18446744073709551616)))+z:=by
   have:=I.div_add_mod y 18446744073709551616;rw[b];rw[e]at this⊢;rw[kI,kI]at this;exact this.symm
  conv=>lhs;rw[k]
  rw[I.mul_add_div (oE dC)]
 omega
def wd(a b c d q:I):I:=if q=0 then a else if q=1 then b else if q=2 then c else d
def Lu{a d:I}(k:a<2^64)(f:b<2^64)(e:c<2^64)(hd:d<2^64):wd a b c d q<2^64:=by
 unfold wd;split;exact k;split;exact f;split;exact e;exact hd
def Lv{a d:I}(q:I)(g:q<4)(k:a<2^64)(f:b<2^64)(e:c<2^64)(hd:d<2^64):
 wd a b c d q=zm a b c d/2^(64*q)%2^64:=by
 have h:q=0\/q=1\/q=2\/q=3:=S;rcases h with rfl|rfl|rfl|rfl
 .show a=zm a b c d/1%_;unfold zm;omega
 .show b=zm a b c d/2^64%_;unfold zm;omega
 .show c=zm a b c d/2^128%_;unfold zm;omega
 show d=zm a b c d/2^192%_;unfold zm;omega
def Fq{a d:I}(g:i<256)(k:a<2^64)(f:b<2^64)(e:c<2^64)(hd:d<2^64):
 wd a b c d (i/64)/2^(i%64)%2=zm a b c d/2^i%2:=by
 rw[low_bit _ _ (i%64) S (Lv (i/64) S k f e hd),yA3,<-ox,show 64*(i/64)+i%64=i by omega]
def Ig(a b c d q x:I)(k:q<4):zm (if q=0 then x else a) (if q=1 then x else b) (if q=2 then x else c) (if q=3 then x else d)+2^(64*q)*wd a b c d q=zm a b c d+2^(64*q)*x:=by
 have h:q=0\/q=1\/q=2\/q=3:=S;rcases h with rfl|rfl|rfl|rfl<;>simp[wd,zm]<;>omega
def Ed(a P k:I):a^k%P*(a^k%P)%P=a^(2*k)%P:=by
 rw[<-mi,<-ox,I.two_mul]
def Cz(a P k:I):a^k%P*a%P=a^(k+1)%P:=by
 rw[Z5,mi,I.mod_mod,<-mi]
def CY(e i:I):e/2^i=2*(e/2^(i+1))+e/2^i%2:=by
 rw[Z5,<-yA3];omega
def TU{M k:I}(e:q=k/8)(d:r=k%8):M*256^(k+1)/2^(64*q)%2^64=256^(r+1)*(M%256^(7-r)):=by
 have c:256^(k+1)=2^(64*q)*256^(r+1):=by
  rw[show(2:I)^(64*q)=256^(8*q) by rw[show 64*q=8*(8*q) by omega,ye],<-ox,show 8*q+(r+1)=k+1 by omega]
 have b:(2^64:I)=256^(r+1)*256^(7-r):=by
  rw[<-ox,show r+1+(7-r)=8 by omega]
 rw[c,I.mul_left_comm,I.mul_div_cancel_left _ (oE dC),b,Ze M,I.mul_mod_mul_left]
def VY{y x:I}(d:r<8)(hx:x<256)(c:y<256^(7-r)):(256^(r+1)*y) ||| (x*2^(8*r))=256^(r+1)*y+x*2^(8*r)/\256^(r+1)*y+x*2^(8*r)<2^64:=by
 have e:(256:I)^(r+1)=2^(8*(r+1)):=by rw[ye]
 have h1:x*2^(8*r)<2^(8*(r+1)):=by
  rw[show 8*(r+1)=8+8*r by omega,ox];exact I.mul_lt_mul_of_pos_right S (oE dC)
 have b:(2^64:I)=256^(r+1)*256^(7-r):=by
  rw[<-ox,show r+1+(7-r)=8 by omega]
 refine⟨?_,?_⟩
 .rw[e];exact(yBA h1 y).symm
 have k:256^(r+1)*(y+1)<=256^(r+1)*256^(7-r):=I.mul_le_mul_left _ c;rw[<-b,I.mul_add,ay]at k;rw[<-e]at h1;omega
def Gj(a b c d:I):
 zm (a/4+b*4611686018427387904%2^64) (b/4+c*4611686018427387904%2^64) (c/4+d*4611686018427387904%2^64) (d/4)=zm a b c d/4:=by
 unfold zm;omega
def At4.wd{k a d:I}(h:At4 w k a b c d)(q:I)(f:q<4):w.cell? ⟨k,q,G⟩=F (uZ (wd a b c d q:Int)):=by
 have e:q=0\/q=1\/q=2\/q=3:=S;rcases e with rfl|rfl|rfl|rfl
 .exact h.c0
 .exact h.c1
 .exact h.c2
 exact h.c3
def xW(h:n<9223372036854775808):YQ.wrap (n:Y)=(n:Y):=by rw[Zy];omega
def or_bit(t:I)(c:b<4294967296)(d:t<2):bits .or .i64 ((2*b:I):Y) (t:Y)=((2*b+t:I):Y):=by
 rw[(bits_nat .i64 40 dC (λn k h1=>by rw[Zy];omega) (2*b) t S S).2];have:=yBA (i:=1) (b:=t) S b;rw[show 2^1*b=2*b from Z]at this;rw[<-this]
def and_one{v:I}(hv:v<2^64):bits .and .u64 (v:Y) 1=((v%2:I):Y):=by
 have:=bits_and_u64_nat v 1 hv S;rw[show v &&& 1=v%2 from I.and_one_is_mod v]at this;exact this
def AV{f:I}(k:m<zl)(h:g=c\/f+g=256):m/2^(f+g)%2^(c-g)=0:=by
 rcases h with rfl|h
 .rw[oF,gF,yEB]
 rw[h,pj (by exact k),I.zero_mod]
def B7{f:I}(b:0<g)(k:g<=c):m/2^(f+(g-1))%2^(c-(g-1))=2*(m/2^(f+g)%2^(c-g))+m/2^(f+(g-1))%2:=by
 rw[show c-(g-1)=c-g+1 by omega,N9,show f+(g-1)+1=f+g by omega]
def Fj(x:Yq)(m f c:I)(hx:zh x m)(hf:f<=256)(hc:c<=32)(w:Yp):
 eZ 220 #[x,iZ f,iZ c] w (iZ ((m/2^f%2^c:I):Y)):=by
 obtain⟨q,o,p,n,rfl,h0,N,M,O,em⟩:=id hx;have k:=mk5 h0 N M O em;have HM:=yv ((yv hx).lt);obtain⟨R,hR⟩:=vH (m/2^f%2^c);have HR:=yv (hR);rw[hR];by_cases h2:(f:Y)+(c:Y)<=256
 .have a:¬(256:Y)<(f:Y)+(c:Y):=S;go_enter func220,ntmps220;go_wp2;have X:=At4.made w 47 q o p n Z;have BL:=yv (aD (w:=w) (.cells #[U q,U o,U p,U n] 47));generalize Z4 _ _=W at X BL⊢;go_loopg [7,8] c (λgk s7 s8 wr=>gk<=c/\f+gk<=256/\s7=iZ ((m/2^(f+gk)%2^(c-gk):I):Y)/\s8=iZ ((f:Y)+(gk:Y)-1)/\W=wr)
  case atStart=>exact⟨S,S,by rw[AV HM.out (Y3 Z)];rfl,by congr 1<;>omega,Z⟩
  case round =>
   obtain⟨s,C,rfl,rfl,rfl⟩:=hrel;by_cases V:gk=0
   .subst V;have Q:¬(f:Y)<=(f:Y)+((0:I):Y)-1:=S;rw[ao,qp,HR.out];go_wp2;go_ret;exact⟨_,Z,BL,Z⟩
   .obtain⟨i,z⟩:=vH (f+(gk-1));have A:(f:Y)+(gk:Y)-1=(i:Y):=S;have Q:(f:Y)<=(i:Y):=S;have L:=X.wd (i/64) S;have d:wd q o p n (i/64)<2^64:=Lu k.1 k.2.1 k.2.2.1 k.2.2.2.1;have b:wd q o p n (i/64)/2^(i%64)%2=m/2^i%2:=by rw[k.2.2.2.2];exact Fq (i:=i) S k.1 k.2.1 k.2.2.1 k.2.2.2.1
    have i2:(i:Y).tdiv 64=((i/64:I):Y):=by rw[sI S];omega
    have T:(i:Y).tmod 64=((i%64:I):Y):=by rw[Y.tmod_eq_emod_of_nonneg S];omega
    have i4:(i/64:I)<4:=S;generalize wd q o p n (i/64)=v at L d b;have j:bits .and .u64 ((v:Y)/2^(i%64)) 1=((m/2^i%2:I):Y):=by
     have:=and_one (v:=(v/2^(i%64))) (yDm (yE1 _ _) d);rw[b]at this;rw[<-this,yCQ,sy];rfl
    obtain⟨t,y⟩:=vH (m/2^i%2);have r:=B7 (m:=m) (f:=f) (g:=gk) (c:=c) S s;rw[z,y]at r;have l:m/2^(f+gk)%2^(c-gk)<4294967296:=Yr (ZL _ (oE dC)) (show 2^(c-gk)<=2^32 from ZU dC S);rw[y]at j;generalize m/2^(f+gk)%2^(c-gk)=B at r l⊢;have hor:=or_bit (b:=B) t l S;have K:YQ.wrap ((B:Y)*2)=((2*B:I):Y):=by rw[show(B:Y)*2=((2*B:I):Y) by omega];exact xW S
    have P:YQ.wrap (t:Y)=(t:Y):=xW S;have u:=yv (z);have zx:=X.lt;rw[A];go_wp2;go_roundg (gk-1)
    case measure=>omega
    case rel =>
     refine⟨S,S,?_,?_,Z⟩
     .rw[u.out,(yv r).out,<-hor,py];rfl
     .congr 1;have:=u;omega
 .have h3:(256:Y)<(f:Y)+(c:Y):=S;go_enter func220,ntmps220;go_wp2;have X:=At4.made w 47 q o p n Z;have BL:=yv (aD (w:=w) (.cells #[U q,U o,U p,U n] 47));generalize Z4 _ _=W at X BL⊢;go_loopg [7,8] (256-f) (λgk s7 s8 wr=>gk<=c/\f+gk<=256/\s7=iZ ((m/2^(f+gk)%2^(c-gk):I):Y)/\s8=iZ ((f:Y)+(gk:Y)-1)/\W=wr)
  case atStart=>exact⟨S,S,by rw[AV HM.out (YZ S)];rfl,by congr 1<;>omega,Z⟩
  case round =>
   obtain⟨s,C,rfl,rfl,rfl⟩:=hrel;by_cases V:gk=0
   .subst V;have Q:¬(f:Y)<=(f:Y)+((0:I):Y)-1:=S;rw[ao,qp,HR.out];go_wp2;go_ret;exact⟨_,Z,BL,Z⟩
   .obtain⟨i,z⟩:=vH (f+(gk-1));have A:(f:Y)+(gk:Y)-1=(i:Y):=S;have Q:(f:Y)<=(i:Y):=S;have T:i<256:=S;have L:=X.wd (i/64) S;have d:wd q o p n (i/64)<2^64:=Lu k.1 k.2.1 k.2.2.1 k.2.2.2.1;have b:wd q o p n (i/64)/2^(i%64)%2=m/2^i%2:=by rw[k.2.2.2.2];exact Fq (i:=i) T k.1 k.2.1 k.2.2.1 k.2.2.2.1
    generalize wd q o p n (i/64)=v at L d b;have P:v/2^(i%64)<2^64:=yDm (yE1 _ _) d;have j:bits .and .u64 ((v:Y)/2^(i%64)) 1=((m/2^i%2:I):Y):=by
     have:=and_one (v:=(v/2^(i%64))) P;rw[b]at this;rw[<-this,yCQ,sy];rfl
    obtain⟨t,y⟩:=vH (m/2^i%2);have a:t<2:=S;have r:=B7 (m:=m) (f:=f) (g:=gk) (c:=c) S s;rw[z,y]at r;have l:m/2^(f+gk)%2^(c-gk)<4294967296:=Yr (ZL _ (oE dC)) (show 2^(c-gk)<=2^32 from ZU dC S);rw[y]at j;generalize m/2^(f+gk)%2^(c-gk)=B at r l⊢;have K:YQ.wrap ((B:Y)*2)=((2*B:I):Y):=by rw[show(B:Y)*2=((2*B:I):Y) by omega];exact xW S
    have HN:=yv (r);have u:=yv (z);have zx:=X.lt;rw[A];go_wp2;go_roundg (gk-1)
    case measure=>omega
    case rel =>
     refine⟨S,S,?_,?_,Z⟩
     .rw[u.out,HN.out,<-(or_bit (b:=B) t l a),py];rfl
     .congr 1;have:=u;omega
section
def tbN(f:I->I):I->H Yq
 | 0=>[]
 | n+1=>tbN f n++wn (f n)
def kS(f:I->I):∀n,(tbN f n).length=4*n
 | 0=>rfl
 | n+1=>by
  show(tbN f n++wn _).length=_;rw[H.length_append,kS f n];rfl
def FD(f:I->I){a b:I}(k:b<4):∀n,a<n->(tbN f n)[4*a+b]? = (wn (f a))[b]?
 | n+1,ha=>by
  show(tbN f n++wn _)[4*a+b]? = _;by_cases h:a<n
  .rw[H.getElem?_append_left (by rw[kS];omega)];exact FD f k n h
  obtain rfl:a=n:=S;rw[H.getElem?_append_right (by rw[kS];omega),kS,I.add_sub_cancel_left]
def FC{f g:I->I}:∀n,(∀j,j<n->f j=g j)->tbN f n=tbN g n
 | 0,_=>rfl
 | n+1,h=>by
  show tbN f n++wn (f n)=tbN g n++wn (g n);rw[FC n λj k=>h j S,h n S]
def up(f:I->I)(i v j:I):I:=if j=i then v else f j
section
variable {W:Yp}{k a i v:Nat}{f:Nat->Nat}
def O5(h:W.rangeAt k 0 (tbN f 16))(c:a<16):W.rangeAt k (4*a) (wn (f a)):=λj u b=>by
 have:=h (4*a+j) u (by rw[FD f (YF.1 b).1 16 c];exact b);rw[Yv]at this;exact this
def Rf(h:yz W k (tbN f 16))(b:i<16):W.there k (4*i) 4:=λj c=>by
 have:=h.2.2 (4*i+j) (by rw[kS];omega);rw[Yv]at this;exact this
def SN(h:yz W k (tbN f 16))(d:i<16):yz (W.setCells k (4*i) (wn v)) k (tbN (up f i v) 16):=by
 refine⟨by rw[setCells_size];exact h.1,λj u c=>?_,by have:=World.there_setCells h.2.2 k (4*i) (wn v);rw[kS]at this⊢;exact this⟩;have hl:=(YF.1 c).1;rw[kS]at hl;have e:4*(j/4)+j%4=j:=S;rw[<-e,FD _ S 16 S]at c;rw[Yv,<-e];by_cases b:j/4=i
 .rw[show up f i v (j/4)=v from zd b]at c;rw[b];exact World.rangeAt_setCells_same W k (4*i) (wn v) (Rf h d) _ u c
 rw[show up f i v (j/4)=f (j/4) from zi b]at c;exact World.rangeAt_setCells_apart (O5 h.2.1 S) k (4*i) (wn v) (YZ (show 4*(j/4)+4<=4*i\/4*i+4<=4*(j/4) by omega)) _ u c
end
def gC(a b c:I):H Yq:=[U a,U b,U c,U 0]
def WQ(a b c:I)(w:Yp):(ZM 120 (.agg (gC a b c).toArray)).run prog w=.ok (jZ w.heap.size) (w.alloc (.cells (gC a b c).toArray 120)):=kR
def Se(n:I)(w:Yp):(ZM 47 (nv n)).run prog w=.ok (jZ w.heap.size) (w.alloc (.cells (wn n).toArray 47)):=kR
def Qi{k:I}(c:i<16)(w:Yp):(ZW 308 (jZ k) (iZ i)).run prog w=.ok (oZ k (4*i)) w:=by
 have h1:¬(i:Y)<0:=S;have b:(i:Y)<16:=S;go_simp
def uPr:yZ 120:=yQ
def iPr:gZ 120 4:=gQ
def uNu:yZ 47:=yQ
def iNu:gZ 47 4:=gQ
def uWo:yZ 118:=yQ
def iWo:gZ 118 4:=gQ
def iTb{f:I->I}:(prog.info? 308).map (·.size)=F (tbN f 16).length:=by rw[kS];kernel_rfl
def TF(m q P:I):(m^q%P)*(m^q%P)%P=m^(q*2)%P:=by rw[<-mi,<-ox,I.mul_two]
def pwT(m P i j:I):I:=if j<i then m^j%P else 0
def BH(p z u P:I)(x y:Yq)(m n:I)(hQ:Gap p z u P)(hx:zh x m)(hy:zh y n)(w:Yp):
 Zl prog 223 #[.agg #[U p,U z,U u,U 0],x,y] w (rZ w λe w'=>zh e (m^n%P)):=by
 have hP:=hQ.hP2;have kb:=hQ.hP;have ht:3<zl:=dC;have hn:=hy.lt;have HM:=yv (λi=>Yr (ZL (m^i) (show 0<P by omega)) (show P<=zl by omega));have H1:E (1=m^0%P):=(YL (show 1<P by omega)).symm;obtain⟨gp,t⟩:=hE (Y8 (gC p z u).toArray);have h5:E (∀(i j:I) W,i<zl->j<zl->Zl prog 213 #[gp,nv i,nv j] W (rZ W λe w'=>e=nv (i*j%P))):=λi j W hi hj=>by
  rw[<-t.out];exact(nW p z u P _ _ i j hQ (fD hi) (fD hj) W).mono λe w' ⟨v,h1,A,k⟩=>⟨v,h1,A,k.nv⟩
 have k0:E (∀W,Zl prog 127 #[nv m] W (rZ W λe w'=>e=nv m)):=λW=>kL (m:=m) (fD hx.lt) (w:=W)
 have k2:E (∀(i:I) W,i<zl->Zl prog 214 #[nv i] W (rZ W λe w'=>e=nv i)):=λi W hi=>kJ (m:=i) (fD hi) (w:=W)
 have hu:E (∀(f:I) W,f<=256->Zl prog 220 #[nv n,iZ f,iZ 4] W (rZ W λe w'=>e=iZ ((n/2^f%2^4:I):Y))):=λf W hf=>Fj _ n f 4 (fD hy.lt) hf dC W
 have HX:E (m<zl):=hx.lt;obtain rfl:=hx.nv;obtain rfl:=hy.nv;clear hx hy hQ hP kb ht;refine hG w.heap.size λk3 Q=>?_
 refine hG (w.alloc (.cells (gC p z u).toArray 120)) λw1 ha=>?_
 refine hG w1.heap.size λk4 hg=>?_
 refine hG (w1.alloc (.cells (wn m).toArray 47)) λT h7=>?_
 refine hG T.heap.size λk5 h9=>?_
 refine hG (T.alloc (.cells (wn n).toArray 47)) λw3 g=>?_
 refine hG w3.heap.size λN hk=>?_
 refine hG (w3.alloc (.cells (wn 0).toArray 47)) λw4 h6=>?_
 refine hG w4.heap.size λo V=>?_
 refine hG (w4.alloc (.cells (tbN (λ_=>0) 16).toArray 308)) λw5 h4=>?_
 refine hG (w5.setCells o 0 (tbN (up (λ_=>0) 0 1) 16)) λw6 hm=>?_
 have B1:=WQ p z u w;have B2:=Se m w1;have B3:=Se n T;rw[Q.out,ha.out,t.out]at B1;rw[hg.out,h7.out]at B2;rw[h9.out,g.out]at B3;have K5:=yv ((((((Mp.start w).new Q ha).new hg h7).new h9 g).new hk h6).new V h4);have e6:tbN (up (λ_=>0) 0 1) 16=tbN (pwT m P 1) 16:=FC 16 λj _=>by
  unfold up pwT;by_cases h:j=0
  .subst h;rw[zd Z,zd dC];exact H1.out
  .rw[zi h,zi S]
 have K6:E (Mp w w6 [(k3,gC p z u),(k4,wn m),(k5,wn n),(N,wn 0),(o,tbN (pwT m P 1) 16)] []):=by
  have:=K5.out.put 4 hm;rw[e6]at this;exact this
 obtain⟨vt,he⟩:=hE (Y8 (tbN (up (λ_=>0) 0 1) 16).toArray);obtain⟨vm,L⟩:=hE (nv m);obtain⟨vn,h8⟩:=hE (nv n);rw[L.out]at B2 k0;rw[h8.out]at B3 hu;rw[show Y8 #[U p,U z,U u,U 0]=gp from t.out,L.out,h8.out];go_enter func223,ntmps223;refine PW.bg [] ?_;refine PW.ns B1 ?_;refine PW.ns B2 ?_;refine PW.ns B3 ?_;refine PW.al hk h6 ?_;refine PW.dn ?_;refine PW.bg [.agg (wn 1).toArray,.agg (tbN (up (λ_=>0) 0 1) 16).toArray] ?_;rw[he.out];refine PW.al V h4 ?_;refine PW.st hm he (K5.out.th 4) iTb kR ?_;refine PW.dn ?_;clear K5 ha h7 g h6 h4 hm B1 B2 B3 Q hg h9 hk V he e6;refine Yt<|PW.rg [iZ 1] ?_
 refine ZR ?_;go_loopg [8] 15 (λgk s8 wr=>∃i:I,i+gk=16/\1<=i/\s8=iZ i/\E (Mp w wr [(k3,gC p z u),(k4,wn m),(k5,wn n),(N,wn 0),(o,tbN (pwT m P i) 16)] []))
 case atStart=>exact⟨1,Z,dC,Z,K6⟩
 case round =>
  clear K6;obtain⟨i,ke,kd,rfl,K⟩:=hrel;refine Yt<|PW.rg [.bool (decide ((i:Y)<16))] ?_
  by_cases hi:i<16
  .have k1:(i:Y)<16:=S;rw[decide_eq_true k1];have X:YQ.wrap ((i:Y)-1)=((i-1:I):Y):=by rw[Zy];omega
   have M:YQ.wrap ((i:Y)+1)=((i+1:I):Y):=by rw[Zy];omega
   have ep:pwT m P (i-1+1) (i-1)=m^(i-1)%P:=zd S;rw[show i-1+1=i by omega]at ep;have eq:m^(i-1)%P*m%P=m^i%P:=by
    rw[I.mod_mul_mod,<-Z5];show m^(i-1+1)%P=_;rw[show i-1+1=i by omega]
   have C:=h5.out (m^(i-1)%P) m;rw[eq,L.out]at C;obtain⟨va,r⟩:=hE (nv (m^(i-1)%P));obtain⟨vr,k⟩:=hE (nv (m^i%P));rw[r.out,k.out]at C;have HT:E (∀W,kZ wr W->W.rangeAt o (4*(i-1)) (wn (m^(i-1)%P))):=λW b=>by
    have:=O5 ((K.out.at_ 4).below b).2.1 (show i-1<16 by omega);rw[ep]at this;exact this
   refine Y5 rfl<|ZK<|Yt<|ZR<|AW.begin 10 10 ?_
   refine AW.mv 0 ?_;refine AW.ro 1 (λW b=>((K.out.at_ 0).below b).2.1) t uPr iPr ?_;refine AW.mv 2 ?_;refine AW.va 3 (iZ (YQ.wrap ((i:Y)-1))) ?_;rw[X];refine AW.iv 4 (Qi (k:=o) (i:=(i-1)) S) ?_;refine AW.ro 5 HT.out r uWo iWo ?_;refine AW.ro 6 (λW b=>((K.out.at_ 1).below b).2.1) L uNu iNu ?_;refine AW.gi 7 (λ_=>k0.out _) λW1 _=>?_
   refine AW.gi 8 (λ_=>C _ (HM.out _) HX.out) λW2 _=>?_
   refine AW.ns 9 (Qi (k:=o) (i:=i) hi W2) (YH _ _) ?_;refine AW.fi (us:=wn (m^i%P)) k aM iWo (λb=>?_);have l:=K.out.grow b;have e7:tbN (up (pwT m P i) i (m^i%P)) 16=tbN (pwT m P (i+1)) 16:=FC 16 λj _=>by
    unfold up pwT;by_cases h:j=i
    .rw[zd h,zd S,h]
    .rw[zi h];by_cases A:j<i
     .rw[zd A,zd S]
     .rw[zi A,zi S]
   obtain⟨W3,A⟩:=hE (W2.setCells o (4*i) (wn (m^i%P)));have R3:=SN (v:=m^i%P) (l.at_ 4) hi;rw[e7]at R3;have O:=yv (l.upd 4 A R3);rw[A.out];refine⟨Rf (l.at_ 4) hi,?_⟩;clear K l R3 b HT;refine PW.bb [iZ (YQ.wrap ((i:Y)+1))] ?_;rw[M];go_wp2;go_roundg (gk-1)
   case measure=>omega
   case rel=>exact⟨i+1,S,S,Z,O⟩
  .have k1:¬(i:Y)<16:=S;obtain rfl:i=16:=S;have e0:pwT m P 16 0=m^0%P:=rfl;obtain⟨v0,hz⟩:=hE (nv (m^0%P));refine hG wr.heap.size λk9 hp=>?_
   refine hG (wr.alloc (.cells (wn 0).toArray 118)) λw7 hc=>?_
   refine hG (w7.setCells k9 0 (wn (m^0%P))) λw8 X=>?_
   have T0:=O5 (a:=0) (K.out.at_ 4).2.1 dC;rw[e0]at T0;have K7:=yv (K.out.new hp hc);have K8:E (Mp w w8 [(k3,gC p z u),(k4,wn m),(k5,wn n),(N,wn 0),(o,tbN (pwT m P 16) 16),(k9,wn (m^(n/2^(4*64))%P))] []):=by
    rw[pj (show n<2^(4*64) from hn)];exact K7.out.put 5 X
   refine YY rfl<|fT<|PW.bg (P:=prog) [] ?_
   refine PW.ns (Qi (k:=o) (i:=0) dC wr) ?_;refine PW.ro T0 hz uWo iWo ?_;refine PW.al hp hc ?_;refine PW.st X hz (K7.out.th 5) iWo aM ?_;refine PW.dn ?_;clear K K7 T0 hc X hp;refine Yt<|PW.rg [iZ 252] ?_
   refine ZR ?_;go_loopg [10] 64 (λgk s10 wr=>gk<=64/\s10=iZ (4*(gk:Y)-4)/\E (Mp w wr [(k3,gC p z u),(k4,wn m),(k5,wn n),(N,wn 0),(o,tbN (pwT m P 16) 16),(k9,wn (m^(n/2^(4*gk))%P))] []))
   case atStart=>exact⟨Ys _,Z,K8⟩
   case round =>
    clear K8;obtain⟨kf,rfl,K⟩:=hrel;refine Yt<|PW.rg [.bool (decide ((0:Y)<=4*(gk:Y)-4))] ?_
    by_cases h0:0<gk
    .obtain⟨c,rfl⟩:∃c,gk=c+1:=⟨gk-1,S⟩
     rw[decide_eq_true (show(0:Y)<=4*((c+1:I):Y)-4 by omega)];have es:4*((c+1:I):Y)-4=((4*c:I):Y):=S;rw[es];have k8:YQ.wrap (((4*c:I):Y)-4)=4*(c:Y)-4:=by rw[Zy];omega
     have ed:n/2^(4*c)=n/2^(4*(c+1))*2^4+n/2^(4*c)%2^4:=by
      rw[show n/2^(4*(c+1))=n/2^(4*c)/2^4 by rw[yA3,<-ox];rfl];omega
     have hd:n/2^(4*c)%2^4<16:=ZL _ dC;have hr:=hu.out (4*c);generalize n/2^(4*c)%2^4=d at ed hd hr;generalize n/2^(4*(c+1))=q at ed K;have KQ:E (Mp w wr [(k3,gC p z u),(k4,wn m),(k5,wn n),(N,wn 0),(o,tbN (pwT m P 16) 16),(k9,wn (m^(q*2^0)%P))] []):=by rw[gF,ay];exact K
     refine Y5 rfl<|ZK<|Yt<|ZR<|Yt<|PW.rg [iZ 0] ?_
     refine ZR ?_;clear K;go_loopg [33] 4 (λgk s33 wr=>∃s:I,s+gk=4/\s33=iZ s/\E (Mp w wr [(k3,gC p z u),(k4,wn m),(k5,wn n),(N,wn 0),(o,tbN (pwT m P 16) 16),(k9,wn (m^(q*2^s)%P))] []))
     case atStart=>exact⟨0,Z,Z,KQ⟩
     case round =>
      clear KQ;obtain⟨s,kc,rfl,K⟩:=hrel;refine PW.rg [.bool (decide ((s:Y)<4))] ?_;by_cases hs:s<4
      .have hq:(s:Y)<4:=S;rw[decide_eq_true hq];have ka:YQ.wrap ((s:Y)+1)=((s+1:I):Y):=by rw[Zy];omega
       have C:=h5.out (m^(q*2^s)%P) (m^(q*2^s)%P) wr (HM.out _) (HM.out _);rw[TF,kI,<-Z5]at C;obtain⟨vq,r⟩:=hE (nv (m^(q*2^s)%P));obtain⟨vr,k⟩:=hE (nv (m^(q*2^s.succ)%P));rw[r.out,k.out]at C;refine Yt<|Y5 rfl<|ZK<|Yt<|ZR<|PW.bb [] ?_
       refine PW.ro (K.out.at_ 0).2.1 t uPr iPr ?_;refine PW.ro (K.out.at_ 5).2.1 r uWo iWo ?_;refine PW.ro (K.out.at_ 5).2.1 r uWo iWo ?_;refine PW.gi C λT M=>?_
       have l:=yv (K.out.grow M);refine hG (T.setCells k9 0 (wn (m^(q*2^s.succ)%P))) λw3 g=>?_
       have O:=yv (l.out.put 5 g);refine PW.st g k (l.out.th 5) iWo aM ?_;refine PW.dn ?_;clear K l M;refine PW.bb [iZ (YQ.wrap ((s:Y)+1))] ?_;rw[ka];go_wp2;go_roundg (gk-1)
       case measure=>omega
       case rel=>exact⟨s+1,S,Z,O⟩
      .have hq:¬(s:Y)<4:=S;obtain rfl:s=4:=S;have ep:pwT m P 16 d=m^d%P:=zd hd;have em:m^(q*2^4)%P*(m^d%P)%P=m^(n/2^(4*c))%P:=by rw[<-mi,<-ox,<-ed]
       have C:=h5.out (m^(q*2^4)%P) (m^d%P);obtain⟨vq,r⟩:=hE (nv (m^(q*2^4)%P));obtain⟨vd,hw⟩:=hE (nv (m^d%P));obtain⟨vr,k⟩:=hE (nv (m^(n/2^(4*c))%P));rw[em,r.out,hw.out,k.out]at C;have HT:E (∀W,kZ wr W->W.rangeAt o (4*d) (wn (m^d%P))):=λW b=>by
        have:=O5 ((K.out.at_ 4).below b).2.1 hd;rw[ep]at this;exact this
       refine Yt<|YY rfl<|fT<|AW.begin (P:=prog) 8 8 ?_
       refine AW.ro 0 (λW b=>((K.out.at_ 0).below b).2.1) t uPr iPr ?_;refine AW.ro 1 (λW b=>((K.out.at_ 5).below b).2.1) r uWo iWo ?_;refine AW.ro 2 (λW b=>((K.out.at_ 2).below b).2.1) h8 uNu iNu ?_;refine AW.mv 3 ?_;refine AW.gi 4 (λ_=>hr _ S) λW1 _=>?_
       refine AW.iv 5 (Qi (k:=o) (i:=d) hd) ?_;refine AW.ro 6 HT.out hw uWo iWo ?_;refine AW.gi 7 (λ_=>C _ (HM.out _) (HM.out _)) λW2 _=>?_
       refine AW.fi (us:=wn (m^(n/2^(4*c))%P)) k aM iWo (λb=>?_);have l:=K.out.grow b;obtain⟨W3,A⟩:=hE (W2.setCells k9 0 (wn (m^(n/2^(4*c))%P)));have O:=yv (l.put 5 A);rw[A.out];refine⟨l.th 5,?_⟩;clear K l b HT;refine PW.bb [iZ (YQ.wrap (((4*c:I):Y)-4))] ?_;rw[k8];go_wp2;go_roundg c
       case measure=>omega
       case rel=>exact⟨S,Z,O⟩
    .obtain rfl:gk=0:=S;obtain⟨vr,k⟩:=hE (nv (m^(n/2^(4*0))%P));have en:m^(n/2^(4*0))%P=m^n%P:=by rw[qo,gF,wD]
     have b:=k2.out _ wr (HM.out (n/2^(4*0)));rw[k.out]at b;refine YY rfl<|fT<|PW.bg (P:=prog) [] ?_
     refine PW.ro (K.out.at_ 5).2.1 k uWo iWo ?_;refine PW.gi b λT M=>?_
     have l:=yv (K.out.grow M);refine hG (T.setCells N 0 (wn (m^(n/2^(4*0))%P))) λw3 g=>?_
     have O:=yv (l.out.put 3 g);refine PW.st g k (l.out.th 3) iNu aM ?_;refine PW.dn ?_;refine Zr<|YB (aC 6 (T:=47) Z (show yz w3 N (wn (m^(n/2^(4*0))%P)) from O.out.at_ 3) Z uNu iNu) Z ?_
     exact⟨_,Z,O.out.bl,en ▸ fD (HM.out _)⟩
end
def p0:I:=115792089237316195423570985008687907853269984665640564039457584007908834671663
def p1:I:=115792089237316195423570985008687907852837564279074904382605163141518161494337
def Tv(w:Yp):
 eZ 86 #[iZ 0] w (.agg #[U 18446744069414583343,U 18446744073709551615,U 18446744073709551615,U 18446744073709551615,U 4294968273,U 0,U 0,U 0]):=by
 let⟨s0,o,a0,j,c,u⟩:=Cm 0 4294968273 dC dC
 let⟨s1,n,g,l,b,r⟩:=lM 0 0 dC dC c
 let⟨s2,m,s,i,k,q⟩:=lM 0 0 dC dC b
 let⟨s3,p,t,d,f,e3⟩:=lM 0 0 dC dC k
 have c:o=1:=S;have b:n=1:=S;have k:m=1:=S;have f:p=1:=S;have j:s0=18446744069414583343:=S;have l:s1=18446744073709551615:=S;have i:s2=18446744073709551615:=S;have d:s3=18446744073709551615:=S;subst c b k f j l i d;replace g:∀w,(callFunc 167 #[U 0,U 0,U 1]).run prog w=.ok (.value (.tuple #[U 18446744073709551615,U 1])) w:=g;replace a0:∀w,(callFunc 167 #[U 0,U 4294968273,U 0]).run prog w=.ok (.value (.tuple #[U 18446744069414583343,U 1])) w:=a0;go_enter func86,ntmps86;go_wp2;refine rp 5 ?_;rw[Y4];go_wp2_with (simp only[a0])
 rw[Y4];go_wp2_with (simp only[g])
 rw[Y4];go_wp2_with (simp only[g])
 rw[Y4];go_wp2_with (simp only[g])
 rw[Y4];go_wp2
 refine YB (by simp[results,Tryz.results86,go_sem];rfl) Z ?_;exact⟨_,Z,below3 _ _ _,Z⟩
def Tu(w:Yp):
 eZ 86 #[iZ 1] w (.agg #[U 13822214165235122497,U 13451932020343611451,U 18446744073709551614,U 18446744073709551615,U 4624529908474429119,U 4994812053365940164,U 1,U 0]):=by
 let⟨s0,q,a0,i,c,u⟩:=Cm 0 4624529908474429119 dC dC
 let⟨s1,p,l,j,b,t⟩:=lM 0 4994812053365940164 dC dC c
 let⟨s2,o,m,g,k,s⟩:=lM 0 1 dC dC b
 let⟨s3,r,n,d,f,e3⟩:=lM 0 0 dC dC k
 have c:q=1:=S;have b:p=1:=S;have k:o=1:=S;have f:r=1:=S;have i:s0=13822214165235122497:=S;have j:s1=13451932020343611451:=S;have g:s2=18446744073709551614:=S;have d:s3=18446744073709551615:=S;subst c b k f i j g d;replace a0:∀w,(callFunc 167 #[U 0,U 4624529908474429119,U 0]).run prog w=.ok (.value (.tuple #[U 13822214165235122497,U 1])) w:=a0;replace l:∀w,(callFunc 167 #[U 0,U 4994812053365940164,U 1]).run prog w=.ok (.value (.tuple #[U 13451932020343611451,U 1])) w:=l;replace m:∀w,(callFunc 167 #[U 0,U 1,U 1]).run prog w=.ok (.value (.tuple #[U 18446744073709551614,U 1])) w:=m;replace n:∀w,(callFunc 167 #[U 0,U 0,U 1]).run prog w=.ok (.value (.tuple #[U 18446744073709551615,U 1])) w:=n;go_enter func86,ntmps86;go_wp2;refine rp 5 ?_;rw[Y4];go_wp2_with (simp only[a0])
 rw[Y4];go_wp2_with (simp only[l])
 rw[Y4];go_wp2_with (simp only[m])
 rw[Y4];go_wp2_with (simp only[n])
 rw[Y4];go_wp2
 refine YB (by simp[results,Tryz.results86,go_sem];rfl) Z ?_;exact⟨_,Z,below3 _ _ _,Z⟩
def gv0:Yq:=.agg #[U 4294968273,U 0,U 0,U 0]
def gv1:Yq:=.agg #[U 4624529908474429119,U 4994812053365940164,U 1,U 0]
def XT:Gap 4294968273 0 0 p0:=⟨dC,dC,dC,Y3 ⟨Z,Z⟩,dK,dK,dK⟩
def XR:Gap 4624529908474429119 4994812053365940164 1 p1:=⟨dC,dC,dC,YZ ⟨4994812053365940165,dK,dC⟩,dK,dK,dK⟩
def xA:
 cZ 114 #[] w λe w'=>e=.returned (.agg #[U 4294968273,U 0,U 0,U 0])/\w'=w.alloc (.cells #[U 4294968273,U 0,U 0,U 0] 120):=by
 go_enter func114,ntmps114;go_wp2;refine YB (by simp[results,Tryz.results114,go_sem];rfl) Z ?_;exact⟨Z,Z⟩
def E8:
 cZ 58 #[] w λe w'=>e=.returned (.agg #[U 4624529908474429119,U 4994812053365940164,U 1,U 0])/\w'=w.alloc (.cells #[U 4624529908474429119,U 4994812053365940164,U 1,U 0] 120):=by
 go_enter func58,ntmps58;go_wp2;refine YB (by simp[results,Tryz.results58,go_sem];rfl) Z ?_;exact⟨Z,Z⟩
section
abbrev Bs:=yu yw
def ub(x:yw):Y:=(x.toNat:Y)
def encB(x:yw):Yq:=.int .u8 (ub x)
abbrev LB:=H (I × Bs)
abbrev hZ(w:Yp)(b o:I)(d:Bs):Prop:=Go.Sort.Holds encB w b o d
structure Only(b off n:I)(w w':Yp):Prop where
 os:w'.os=w.os
 tape:w'.tape=w.tape
 output:w'.output=w.output
 size:w.heap.size<=w'.heap.size
 block:∀k,k<w.heap.size->k≠b->w'.heap[k]? = w.heap[k]?
 cell:∀o,(o<off\/off+n<=o)->w'.cell? ⟨b,o,G⟩=w.cell? ⟨b,o,G⟩
 froz:∀o,w'.frozen? ⟨b,o,G⟩=w.frozen? ⟨b,o,G⟩
variable {b off n:Nat}{w w1 w2:Yp}
def Only.refl(b off n:I)(w:Yp):Only b off n w w:=⟨Z,Z,Z,Ys _,λ_ _ _=>rfl,λ_ _=>rfl,λ_=>rfl⟩
def Only.trans(h:Only b off n w w1)(k:Only b off n w1 w2):Only b off n w w2:=
 ⟨k.os.trans h.os,k.tape.trans h.tape,k.output.trans h.output,YA h.size k.size,
  λi d c=>(k.block i (Yr d h.size) c).trans (h.block i d c),
  λo ho=>(k.cell o ho).trans (h.cell o ho),λo=>(k.froz o).trans (h.froz o)⟩
def Only.setCell(h:Only b off n w w1)(h1:off<=o)(f:o<off+n)(v:Yq):Only b off n w (w1.setCell ⟨b,o,G⟩ v):=by
 refine h.trans ⟨Z,Z,Z,by simp,λk _ d=>yEg _ _ _ _ d,λc ho=>?_,λc=>by simp⟩;exact Z8 _ _ _ _ (by intro e;simp only[Addr.mk.injEq,and_true,true_and]at e;omega)
def Only.below(h:Only b off n w w1){B:I}(e:B<=w.heap.size)(d:B<=b):Below B w w1:=
 ⟨h.os,h.tape,h.output,h.size,λk c=>h.block k S S⟩
section
variable {α:Type}[Inhabited α]{enc:α->Yq}{d:Array α}
def Holds.lt(h:yt enc w b off d)(hd:0<d.size):b<w.heap.size:=ul _ _ (h 0 hd).1
def Holds.same(h:yt enc w b o d)(k:Only b off n w w1)(hd:o+d.size<=off\/off+n<=o):yt enc w1 b o d:=by
 intro j c;rw[k.cell _ S,k.froz];exact h j c
def Holds.below{B:I}(h:yt enc w b off d)(k:Below B w w1)(c:b<B):yt enc w1 b off d:=by
 intro j e;rw[k.cell (p:=⟨b,off+j,G⟩) c,k.frozen (p:=⟨b,off+j,G⟩) c];exact h j e
def Holds.drewN(h:yt enc w b off d)(q:I):yt enc (w.drewN q) b off d:=h
def Holds.set(h:yt enc w b off d)(c:i<d.size)(x:α):yt enc (w.setCell ⟨b,off+i,G⟩ (enc x)) b off (d.setIfInBounds i x):=by
 intro j k;rw[yu.size_setIfInBounds]at k;rw[ve];by_cases e:j=i
 .subst e;rw[getElem!_set_same d j x c];exact⟨World.cell?_setCell_same _ _ _ (h j k).1,(h j k).2⟩
 rw[getElem!_set_other d i j x e,Z8 _ _ _ _ (by intro e';simp only[Addr.mk.injEq,and_true,true_and]at e';omega)];exact h j k
def Holds.new(w:Yp)(t:YW)(d:yu α):yt enc (w.alloc (.cells (d.map enc) t)) w.heap.size 0 d:=by
 intro j k;rw[Zj,qj];refine⟨?_,Z⟩;simp only[Yv,yu.getElem?_map,yu.getElem?_eq_getElem k,zb.map_some,getElem!_pos d j k]
def Holds.made(w:Yp)(t:YW)(n:I)(x:α):yt enc (w.alloc (.cells (madeCells #[enc x] n) t)) w.heap.size 0 (YD n x):=by
 intro j k;rw[YN]at k;rw[Zj,qj];refine⟨?_,Z⟩;rw[getElem!_pos _ j (by simpa using k),Z3];simp[madeCells,k,yEB]
end
section
variable {w w1:Yp}{b o n:Nat}
def heap_setCells(b:I){k:I}(c:k≠b):∀(vs:H Yq) (p:I) (w:Yp),(w.setCells b p vs).heap[k]? = w.heap[k]?
 | [],_,_=>rfl
 | v :: r,p,w=>by rw[World.setCells,heap_setCells b c r (p+1) _,yEg _ _ _ _ c]
def Holds.setCells{bs r:Bs}(h:hZ w b o bs)(vs:H Yq)(p:I)(e:r.size=bs.size)(f:p+vs.length<=bs.size)
 (h1:∀j (c:j<vs.length),vs[j]=encB r[p+j]!) (k:∀j,j<bs.size->j<p\/p+vs.length<=j->r[j]! = bs[j]!):hZ (w.setCells b (o+p) vs) b o r:=by
 intro j c;rw[e]at c;rw[World.frozen?_setCells];refine⟨?_,(h j c).2⟩;by_cases d:j<p\/p+vs.length<=j
 .rw[World.cell?_setCells_out b vs (o+p) w ⟨b,o+j,G⟩ (λ_ _=>by simp only;omega),k j c d];exact(h j c).1
 have k:j-p<vs.length:=S;have:=World.cell?_setCells_in b vs (o+p) w (λi g=>by
  have:=(h (p+i) S).1;rw[<-oz]at this;rw[this];rfl) (j-p) k
 rw[show o+p+(j-p)=o+j by omega]at this;rw[this,h1 (j-p) k,show p+(j-p)=j by omega]
def app_front(a r:Bs)(j:I)(k:j<a.size):(a++r)[j]! = a[j]:=by
 have h:j<(a++r).size:=by rw[Zi];omega
 rw[getElem!_pos (a++r) j h,yu.getElem_append_left k]
def app_back(a r:Bs)(j:I)(h1:a.size<=j)(k:j<a.size+r.size):(a++r)[j]! = r[j-a.size]!:=by
 have h:j<(a++r).size:=by rw[Zi];omega
 rw[getElem!_pos (a++r) j h,yu.getElem_append_right h1,getElem!_pos r (j-a.size) S]
def rep_at(n j:I)(h:j<n):(YD n (0:yw))[j]! = 0:=by
 have k:j<(YD n (0:yw)).size:=by rw[YN];exact h
 rw[getElem!_pos (YD n (0:yw)) j k,Z3]
def conv_str(P:Zw)(src k e:YW)(hs:P.underlying src=F (.slice e))(l:P.underlying e=F (.int .u8))(hd:P.underlying k=F .string)
 (w:Yp) (b o n cap:I) (bs:Bs) (m:hZ w b o bs) (i:bs.size=n):(convert src k (qZ b o n cap)).run P w=.ok (.string ⟨bs⟩) w:=by
 have h:=run_convert_bytes_back (P:=P) w src k e ⟨b,o,G⟩ cap bs.toList hs l hd (λj p=>by
  have c:j<bs.size:=by simpa using p
  have f:=(m j c).1;rw[getElem!_pos bs j c]at f;have g:(⟨b,o,G⟩:Addr).add j=⟨b,o+j,G⟩:=by
   unfold oB;by_cases d:j=0
   .subst d;rfl
   rw[zi d]
  rw[g,f];simp[encB,ub])
 simpa[i]using h
end
section
def slice22:prog.underlying 23=F (.slice 5):=kR
def info5:(prog.info? 5).map (λi=>(i.zero,i.size,i.bytes))=F (F (.int .u8 0),1,1):=kR
def int5:prog.underlying 5=F (.int .u8):=kR
def str9:prog.underlying 9=F .string:=kR
end
end
def be8(x:I):Bs:=#[YK (x/72057594037927936),YK (x/281474976710656),YK (x/1099511627776),YK (x/4294967296),YK (x/16777216),YK (x/65536),YK (x/256),YK x]
def be32(a b c d:I):Bs:=be8 d++be8 c++be8 b++be8 a
def sF(x:I):ub (YK x)=((x%256:I):Y):=by
 rw[ub,yw.toNat_ofNat']
def byte_at{x k:I}:(ZO .u8 ((x:Y)/(k:Y)%256))=encB (YK (x/k)):=by
 rw[encB,sF,yET,yCQ];rfl
def N8{x:I}(hx:x<2^64):(ZO .u8 ((x:Y)/72057594037927936))=encB (YK (x/72057594037927936)):=by
 rw[encB,sF];exact congrArg (ZO .u8) S
def Xz{bs:Bs}{v0 v1 v2 e b c d k:yw}(hs:bs.size=8):
 (((((((bs.setIfInBounds 0 v0).setIfInBounds 1 v1).setIfInBounds 2 v2).setIfInBounds 3 e).setIfInBounds 4 b).setIfInBounds 5 c).setIfInBounds 6 d).setIfInBounds 7 k=#[v0,v1,v2,e,b,c,d,k]:=by
 let⟨l⟩:=bs
 match l,hs with
 | [_,_,_,_,_,_,_,_],_=>simp
def lC(g o n cap x:I)(bs:Bs)(w:Yp)(r:8<=n)(A:n<=cap)(b:cap<=1048576)(hx:x<2^64)(hs:bs.size=8)(k:hZ w g o bs):
 cZ 192 #[qZ g o n cap,U x] w λe w'=>e=.returned (.tuple #[])/\Only g o 8 w w'/\hZ w' g o (be8 x):=by
 obtain⟨c,l⟩:=k 0 S;obtain⟨c1,f1⟩:=k 1 S;obtain⟨c2,f2⟩:=k 2 S;obtain⟨a,f3⟩:=k 3 S;obtain⟨s,u⟩:=k 4 S;obtain⟨q,C⟩:=k 5 S;obtain⟨t,v⟩:=k 6 S;obtain⟨z,y⟩:=k 7 S;rw[ao]at c l;go_enter func192,ntmps192;go_wp2;have v0:(ZO .u8 ((x:Y)/72057594037927936))=encB (YK (x/72057594037927936)):=N8 (x:=x) hx;have v1:(ZO .u8 ((x:Y)/281474976710656%256))=encB (YK (x/281474976710656)):=byte_at (x:=x) (k:=281474976710656);have v2:(ZO .u8 ((x:Y)/1099511627776%256))=encB (YK (x/1099511627776)):=byte_at (x:=x) (k:=1099511627776);have j:(ZO .u8 ((x:Y)/4294967296%256))=encB (YK (x/4294967296)):=byte_at (x:=x) (k:=4294967296);have d:(ZO .u8 ((x:Y)/16777216%256))=encB (YK (x/16777216)):=byte_at (x:=x) (k:=16777216);have m:(ZO .u8 ((x:Y)/65536%256))=encB (YK (x/65536)):=byte_at (x:=x) (k:=65536);have p:(ZO .u8 ((x:Y)/256%256))=encB (YK (x/256)):=byte_at (x:=x) (k:=256);have f:(ZO .u8 ((x:Y)%256))=encB (YK x):=by unfold encB;rw[sF,yET];rfl
 rw[v0,v1,v2,j,d,m,p,f]
 go_end0
 refine⟨Z,?_,?_⟩
 .exact((((((((Only.refl g o 8 w).setCell (o:=o) S S _).setCell (o:=o+1) S S _).setCell (o:=o+2) S S _).setCell (o:=o+3) S S _).setCell (o:=o+4) S S _).setCell (o:=o+5) S S _).setCell (o:=o+6) S S _).setCell (o:=o+7) S S _
 have:=Xz (bs:=bs) hs (v0:=(YK (x/72057594037927936))) (v1:=(YK (x/281474976710656))) (v2:=(YK (x/1099511627776))) (e:=(YK (x/4294967296))) (b:=(YK (x/16777216))) (c:=(YK (x/65536))) (d:=(YK (x/256))) (k:=(YK x));rw[be8,<-this];exact Holds.set (Holds.set (Holds.set (Holds.set (Holds.set (Holds.set (Holds.set (Holds.set (yv k).out (i:=0) S _) (i:=1) (by simp;omega) _) (i:=2) (by simp;omega) _) (i:=3) (by simp;omega) _) (i:=4) (by simp;omega) _) (i:=5) (by simp;omega) _) (i:=6) (by simp;omega) _) (i:=7) (by simp;omega) _
def aX(x:I):(be8 x).size=8:=rfl
def qP{a d:I}:(be32 a b c d).size=32:=by simp only[be32,Zi,aX]
def Holds.part{d e:Bs}(h:hZ w g o d)(c:p+e.size<=d.size)(k:∀j,j<e.size->e[j]! = d[p+j]!):hZ w g (o+p) e:=by
 intro j b;rw[k j b,oz];exact h (p+j) S
def Holds.join{a d:I}(f:hZ w g 0 (be8 d))(h1:hZ w g 8 (be8 c))(l:hZ w g 16 (be8 b))(i:hZ w g 24 (be8 a)):hZ w g 0 (be32 a b c d):=by
 intro j m;rw[qP]at m;have e:be32 a b c d=be8 d++be8 c++be8 b++be8 a:=rfl;have s1:(be8 d++be8 c).size=16:=by simp only[Zi,aX]
 have s2:(be8 d++be8 c++be8 b).size=24:=by simp only[Zi,aX]
 by_cases k:j<8
 .have:=f j (by rw[aX];exact k);rw[e,app_front _ _ j S,<-getElem!_pos (be8 d++be8 c++be8 b) j S,app_front _ _ j S,<-getElem!_pos (be8 d++be8 c) j S,app_front _ _ j (by rw[aX];exact k),<-getElem!_pos (be8 d) j (by rw[aX];exact k)];exact this
 by_cases n:j<16
 .have:=h1 (j-8) (by rw[aX];omega);rw[show 8+(j-8)=0+j by omega]at this;rw[e,app_front _ _ j S,<-getElem!_pos (be8 d++be8 c++be8 b) j S,app_front _ _ j S,<-getElem!_pos (be8 d++be8 c) j S,app_back _ _ j (by rw[aX];omega) (by rw[aX,aX];omega),aX];exact this
 by_cases o:j<24
 .have:=l (j-16) (by rw[aX];omega);rw[show 16+(j-16)=0+j by omega]at this;rw[e,app_front _ _ j S,<-getElem!_pos (be8 d++be8 c++be8 b) j S,app_back _ _ j S (by rw[s1,aX];omega),s1];exact this
 have:=i (j-24) (by rw[aX];omega);rw[show 24+(j-24)=0+j by omega]at this;rw[e,app_back _ _ j S (by rw[s2,aX];omega),s2];exact this
def XP(a b c d:I)(w:Yp):(yDr 47 (.agg #[U a,U b,U c,U d]) (iZ 0)).run prog w=.ok (U a) w:=kR
def XO(a b c d:I)(w:Yp):(yDr 47 (.agg #[U a,U b,U c,U d]) (iZ 1)).run prog w=.ok (U b) w:=kR
def XN(a b c d:I)(w:Yp):(yDr 47 (.agg #[U a,U b,U c,U d]) (iZ 2)).run prog w=.ok (U c) w:=kR
def XM(a b c d:I)(w:Yp):(yDr 47 (.agg #[U a,U b,U c,U d]) (iZ 3)).run prog w=.ok (U d) w:=kR
def qC(p:I)(h:hZ w g 0 (YD 32 0))(b:p+8<=32):hZ w g p (YD 8 (0:yw)):=by
 have:=Holds.part (p:=p) (e:=YD 8 0) h (by simpa using b) (λj k=>by
  rw[YN]at k;rw[rep_at 8 j k,rep_at 32 (p+j) S])
 rwa[Yv]at this
def Cg(x:Yq)(m:I)(w:Yp)(hx:zh x m):
 dZ 117 #[x] w λe w'=>∃g a b c d:I,e=sZ g 32 32/\w.heap.size<=g/\x=.agg #[U a,U b,U c,U d]/\hZ w' g 0 (be32 a b c d):=by
 obtain⟨a,b,c,d,rfl,X,V,hc,hd,Q⟩:=hx;clear Q;have T:∀w:Yp,(Instr.makeSlice 23 (iZ 32) (iZ 32)).run prog w=.ok (sZ w.heap.size 32 32) (w.alloc (.cells (madeCells #[.int .u8 0] 32) 5)):=
  run_make_row' (P:=prog) 23 5 (.int .u8 0) 1 slice22 info5 Z .i64 .i64 32 S S
 go_enter func117,ntmps117;go_wp2;refine rp 5 ?_;have f:hZ ((w.alloc (.cells #[U a,U b,U c,U d] 47)).alloc (.cells (madeCells #[.int .u8 0] 32) 5)) (w.heap.size+1) 0 (YD 32 0):=by
  have:=Holds.made (enc:=encB) (w.alloc (.cells #[U a,U b,U c,U d] 47)) 5 32 0;rw[YE]at this;exact this
 have r:=below2 w (.cells #[U a,U b,U c,U d] 47) (.cells (madeCells #[.int .u8 0] 32) 5);generalize ((w.alloc (.cells #[U a,U b,U c,U d] 47)).alloc (.cells (madeCells #[.int .u8 0] 32) 5))=W at f r⊢;have s:E (kZ w W):=r;generalize N:w.heap.size+1=g at f⊢;have o:=yv (N);have j:=qC 16 f S;have i:=qC 8 f S;have k:=qC 0 f S;have K:=XP a b c d;have M:=XO a b c d;have L:=XN a b c d;have A:=XM a b c d;rw[Y4];go_wp2_with (simp only[K])
 apply(lC g 24 8 8 a _ _ S S S X (by rw[YN]) (qC 24 f S)).mono;rintro e w1 ⟨rfl,t,b1⟩;replace j:=Holds.same j t (by simp);replace i:=Holds.same i t (by simp);replace k:=Holds.same k t (by simp);have l:=yv (s.trans (t.below s.size (oN o)));go_wp2_with fail
 rw[Y4];go_wp2_with (simp only[M])
 apply(lC g 16 16 16 b _ _ S S S V (by rw[YN]) j).mono;rintro e w2 ⟨rfl,u,q⟩;replace i:=Holds.same i u (by simp);replace k:=Holds.same k u (by simp);replace b1:=Holds.same b1 u (by simp);have n:=yv (l.trans (u.below l.size (oN o)));go_wp2_with fail
 rw[Y4];go_wp2_with (simp only[L])
 apply(lC g 8 24 24 c _ _ S S S hc (by rw[YN]) i).mono;rintro e w3 ⟨rfl,v,z⟩;replace k:=Holds.same k v (by simp);replace b1:=Holds.same b1 v (by simp);replace q:=Holds.same q v (by simp);have p:=yv (n.trans (v.below n.size (oN o)));go_wp2_with fail
 rw[Y4];go_wp2_with (simp only[A])
 apply(lC g 0 32 32 d _ _ S S S hd (by rw[YN]) k).mono;rintro e w4 ⟨rfl,y,O⟩;replace b1:=Holds.same b1 y (by simp);replace q:=Holds.same q y (by simp);replace z:=Holds.same z y (by simp);have C:=yv (p.trans (y.below p.size (oN o)));go_wp2_with fail
 rw[Y4];go_wp2
 go_ret;exact⟨_,Z,C,g,a,b,c,d,Z,oN o,Z,(yv (Holds.join O z q b1)).out⟩
def kH{a t:I}(b:I)(c:t<=56)(k:a<2^t)(g:b<256):bits .or .u64 (a:Y) ((b*2^t:I):Y)=((a+b*2^t:I):Y)/\a+b*2^t<2^(t+8):=by
 have h1:2^t<=2^56:=ZU dC c;have f:b*2^t<=255*2^t:=te _ S;have d:2^(t+8)=256*2^t:=by rw[ox,Ze]
 have e:(2:I)^56=72057594037927936:=dC;refine⟨?_,S⟩;rw[wy _ _ S S,yFz,Ze b,<-(yBA k b),I.add_comm]
def rI(b:yw)(t:I)(k:t<=56):Zk.wrap (Zk.wrap (ub b)*((2^t:I):Y))=((b.toNat*2^t:I):Y):=by
 have c:=b.toNat_lt;have h1:2^t<=2^56:=ZU dC k;have e:b.toNat*2^t<=255*2^t:=te _ S;have d:(2:I)^56=72057594037927936:=dC;rw[ub,wrapN S,mulN,wrapN S]
def w8(b0 b1 e d c k b f:yw):I:=
 f.toNat+b.toNat*256+k.toNat*65536+c.toNat*16777216+d.toNat*4294967296+e.toNat*1099511627776+b1.toNat*281474976710656+b0.toNat*72057594037927936
def Ie{b0 b1 e d c k b f:yw}:w8 b0 b1 e d c k b f<2^64:=by
 have:=b0.toNat_lt;have:=b1.toNat_lt;have:=e.toNat_lt;have:=d.toNat_lt
 have:=c.toNat_lt;have:=k.toNat_lt;have:=b.toNat_lt;have:=f.toNat_lt
 unfold w8;omega
def OT(b0 b1 f c e d b k:yw):
 bits .or .u64 (bits .or .u64 (bits .or .u64 (bits .or .u64 (bits .or .u64 (bits .or .u64 (bits .or .u64 (Zk.wrap (ub k)) (Zk.wrap (Zk.wrap (ub b)*256)))
  (Zk.wrap (Zk.wrap (ub d)*65536))) (Zk.wrap (Zk.wrap (ub e)*16777216))) (Zk.wrap (Zk.wrap (ub c)*4294967296)))
  (Zk.wrap (Zk.wrap (ub f)*1099511627776))) (Zk.wrap (Zk.wrap (ub b1)*281474976710656))) (Zk.wrap (Zk.wrap (ub b0)*72057594037927936))=((w8 b0 b1 f c e d b k:I):Y):=by
 have a:=k.toNat_lt;have y:Zk.wrap (ub k)=(k.toNat:Y):=wrapN S;have n:=rI b 8 dC;have j:=rI d 16 dC;have e3:=rI e 24 dC;have q:=rI c 32 dC;have v:=rI f 40 dC;have i:=rI b1 48 dC;have s:=rI b0 56 dC;let⟨g,l1⟩:=kH (a:=k.toNat) b.toNat (t:=8) dC S (oN b.toNat_lt)
 let⟨l,l2⟩:=kH d.toNat dC l1 (oN d.toNat_lt)
 let⟨m,l3⟩:=kH e.toNat dC l2 (oN e.toNat_lt)
 let⟨r,t⟩:=kH c.toNat dC l3 (oN c.toNat_lt)
 let⟨p,x⟩:=kH f.toNat dC t (oN f.toNat_lt)
 let⟨w,o⟩:=kH b1.toNat dC x (oN b1.toNat_lt)
 let⟨u,z⟩:=kH b0.toNat dC o (oN b0.toNat_lt)
 rw[show(256:Y)=((2^8:I):Y) from Z,show(65536:Y)=((2^16:I):Y) from Z,show(16777216:Y)=((2^24:I):Y) from Z,
  show(4294967296:Y)=((2^32:I):Y) from Z,show(1099511627776:Y)=((2^40:I):Y) from Z,show(281474976710656:Y)=((2^48:I):Y) from Z,show(72057594037927936:Y)=((2^56:I):Y) from Z,
  y,n,j,e3,q,v,i,s,g,l,m,r,p,w,u]
 rfl
def word_any(g o n cap:I)(bs:Bs)(w:Yp)(r:8<=n)(a:n<=cap)(b:cap<=1048576)(hs:8<=bs.size)(k:yt encB w g o bs):
 Zl prog 195 #[.slice (F ⟨g,o,G⟩) n cap] w λe w'=>e=.returned (.int .u64 ((w8 bs[0]! bs[1]! bs[2]! bs[3]! bs[4]! bs[5]! bs[6]! bs[7]!:I):Y))/\∃n,w'=w.drewN n:=by
 let⟨f,m⟩:=k 0 S
 let⟨c1,f1⟩:=k 1 S
 let⟨c2,f2⟩:=k 2 S
 let⟨z,f3⟩:=k 3 S
 let⟨s,u⟩:=k 4 S
 let⟨q,A⟩:=k 5 S
 let⟨t,v⟩:=k 6 S
 let⟨y,x⟩:=k 7 S
 rw[ao]at f m;unfold encB at *;generalize bs[0]! = b0 at *;generalize bs[1]! = b1 at *;generalize bs[2]! = l at *;generalize bs[3]! = d at *;generalize bs[4]! = j at *;generalize bs[5]! = i at *;generalize bs[6]! = c at *;generalize bs[7]! = p at *;go_enter func195,ntmps195;go_wp2;go_quiet (fail);go_wp2;go_ret;exact⟨ret_int (yv (OT b0 b1 l d j i c p)).out,_,Z⟩
def beV(l:H yw):I:=l.foldl (λn b=>256*n+b.toNat) 0
def GX(l:H yw):∀n,l.foldl (λn b=>256*n+b.toNat) n=n*256^l.length+beV l:=by
 induction l with
 | nil=>intro n;simp[beV]
 | cons x r ih =>
  intro n;simp only[yDE,H.length_cons,beV]at *;rw[ih (256*n+x.toNat),ih (256*0+x.toNat),Z5,I.add_mul,qo,Yv,Ze 256 n,kI,Ze 256];omega
def fK(l r:H yw):beV (l++r)=beV l*256^r.length+beV r:=by
 rw[beV,H.foldl_append,GX];rfl
def Lh(n:I)(l:H yw):beV (ZB n 0++l)=beV l:=by
 rw[fK];have:beV (ZB n 0)=0:=by
  induction n with
  | zero=>rfl
  | succ k ih=>rw[H.replicate_succ',fK,ih];rfl
 rw[this,I.zero_mul,Yv]
def Od(a u x r w v t y z s e i n k j g x16 x17 d o b x21 m x23 f q x26 x27 l c x30 p:yw):
 beV [a,u,x,r,w,v,t,y,z,s,e,i,n,k,j,g,x16,x17,d,o,b,x21,m,x23,f,q,x26,x27,l,c,x30,p]
  = zm (w8 f q x26 x27 l c x30 p) (w8 x16 x17 d o b x21 m x23) (w8 z s e i n k j g) (w8 a u x r w v t y):=by
 simp only[beV,yDE,H.foldl_nil,w8,zm];omega
def Li{bs:Bs}(h:bs.size=32):beV bs.toList=zm (w8 bs[24]! bs[25]! bs[26]! bs[27]! bs[28]! bs[29]! bs[30]! bs[31]!) (w8 bs[16]! bs[17]! bs[18]! bs[19]! bs[20]! bs[21]! bs[22]! bs[23]!)
 (w8 bs[8]! bs[9]! bs[10]! bs[11]! bs[12]! bs[13]! bs[14]! bs[15]!) (w8 bs[0]! bs[1]! bs[2]! bs[3]! bs[4]! bs[5]! bs[6]! bs[7]!):=by
 let⟨l⟩:=bs
 match l,h with
 | [x0,x1,x2,x3,x4,x5,x6,x7,x8,x9,x10,x11,x12,x13,x14,x15,x16,x17,x18,x19,x20,x21,x22,x23,x24,x25,x26,x27,x28,x29,x30,x31],_=>exact Od x0 x1 x2 x3 x4 x5 x6 x7 x8 x9 x10 x11 x12 x13 x14 x15 x16 x17 x18 x19 x20 x21 x22 x23 x24 x25 x26 x27 x28 x29 x30 x31
def zero32:∀w:Yp,(zeroValue 273).run prog w=.ok (.agg (YD 32 (.int .u8 0))) w:=λ_=>kR
def ints5:gZ 5 1:=gQ
def padded(n:I)(bs:Bs):Bs:=YD (32-n) 0++bs
def wF{bs:Bs}(hs:bs.size=n)(k:n<=32):(padded n bs).size=32:=by
 rw[padded,Zi,YN];omega
def Gs{bs:Bs}:beV (padded n bs).toList=beV bs.toList:=by
 rw[padded,yu.toList_append,yu.toList_replicate,Lh]
def QA{bs:Bs}(e:hZ w b 0 (YD 32 0))(m:n<=32)(p:hZ w g o bs)(hs:bs.size=n):
 (uk #[23,23] 3 #[qZ b (32-n) n n,qZ g o n cap]).run prog w=.ok (goInt n) (w.setCells b (32-n) (bs.toList.map encB))
  /\ hZ (w.setCells b (32-n) (bs.toList.map encB)) b 0 (padded n bs):=by
 have k:(bs.toList.map encB).length=n:=by rw[YO,yu.length_toList,hs]
 refine⟨?_,?_⟩
 .have:=run_copy_cells (P:=prog) w 23 23 3 5 b (32-n) n n ⟨g,o,G⟩ n cap (bs.toList.map encB) slice22 ints5 (by rw[k];exact(I.min_self n).symm)
   (λj u c=>by
    let⟨h1,d⟩:=YF.1 c
    rw[k]at h1;have i:=(p j S).1;rw[getElem!_pos bs j S]at i;rw[qm,wt]at d;have l:(⟨g,o,G⟩:Addr).add j=⟨g,o+j,G⟩:=by
     unfold oB;by_cases f:j=0
     .subst f;rw[zd Z];rfl
     rw[zi f]
    rw[l,i,d])
   (λj c=>by
    have:=(e (32-n+j) (by rw[YN];omega)).1;rw[Yv]at this;rw[this];rfl)
   (λj c=>by
    have:=(e (32-n+j) (by rw[YN];omega)).2;rwa[Yv]at this)
   (λu f=>by obtain⟨x,_,rfl⟩:=H.mem_map.1 f;rfl)
  rw[k]at this;exact this
 have:=Holds.setCells (r:=padded n bs) e (bs.toList.map encB) (32-n) (by rw[wF hs m,YN]) (by rw[k,YN];omega) (λj c=>?_) (λj h1 d=>?_)
 .rw[Yv]at this;exact this
 .rw[k]at c;rw[qm,wt];rw[padded,app_back _ _ _ (by rw[YN];omega) (by rw[YN];omega),YN,show 32-n+j-(32-n)=j by omega,getElem!_pos bs j S]
 rw[YN]at h1;rw[k]at d;rw[padded,app_front _ _ j (by rw[YN];omega),Z3,rep_at 32 j h1]
def IE{T:Bs}(p:I)(h:hZ w g 0 T)(k:p+8<=T.size):hZ w g p #[T[p]!,T[p+1]!,T[p+2]!,T[p+3]!,T[p+4]!,T[p+5]!,T[p+6]!,T[p+7]!]:=by
 have:=Holds.part (p:=p) (e:=#[T[p]!,T[p+1]!,T[p+2]!,T[p+3]!,T[p+4]!,T[p+5]!,T[p+6]!,T[p+7]!]) h (by simpa using k) (λj b=>by
  have:j<8:=by simpa using b
  match j,this with
  | 0,_=>rfl
  | 1,_=>rfl
  | 2,_=>rfl
  | 3,_=>rfl
  | 4,_=>rfl
  | 5,_=>rfl
  | 6,_=>rfl
  | 7,_=>rfl)
 rwa[Yv]at this
def pF{b0 b1 i c f d b j:yw}(l:8<=n)(p:n<=cap)(k:cap<=1048576)(m:hZ w g o #[b0,b1,i,c,f,d,b,j]):
 cZ 195 #[qZ g o n cap] w λe w'=>e=.returned (U ((w8 b0 b1 i c f d b j:I):Y))/\∃n,w'=w.drewN n:=
 word_any g o n cap #[b0,b1,i,c,f,d,b,j] w l p k (Ys 8) m
def Holds.far{bs:Bs}(h:hZ w g o bs)(k:j≠g)(v:Yq):hZ (w.setCell ⟨j,i,G⟩ v) g o bs:=by
 intro l hl;rw[Z8 _ _ _ _ (mO (Y3 k)),ve];exact h l hl
def lI(K:zb Addr)(g o n cap:I)(bs:Bs)(w:Yp)(hn:n<=32)(hc:n<=cap)(hs:bs.size=n)(hB:n=0\/(K=F ⟨g,o,G⟩/\hZ w g o bs)):
 dZ 125 #[.slice K n cap] w λe w'=>zh e (beV bs.toList):=by
 have P:=wF (n:=n) (bs:=bs) hs hn;have y:=yv ((Gs (n:=n) (bs:=bs)).symm.trans (Li P));have zv:=zero32;have h5:(n:Y)<=32:=S;have d0:(0:Y)<=32-(n:Y):=S;have d1:(32:Y)-(n:Y)<=32:=S;have d2:((32:Y)-(n:Y)).toNat=32-n:=S;go_enter func125,ntmps125
 go_upto_region 2 with fail
 have R:=(At4.made w 47 0 0 0 0 rfl).alloc (.cells (YD 32 (.int .u8 0)) 273);have Z:hZ ((w.alloc (.cells #[U 0,U 0,U 0,U 0] 47)).alloc (.cells (YD 32 (.int .u8 0)) 273)) (w.heap.size+1) 0 (YD 32 0):=by
  have:=Holds.new (enc:=encB) (w.alloc (.cells #[U 0,U 0,U 0,U 0] 47)) 273 (YD 32 0);rw[yu.map_replicate,YE]at this;exact this
 have BL:=below2 w (.cells #[U 0,U 0,U 0,U 0] 47) (.cells (YD 32 (.int .u8 0)) 273);simp only[Zt]at R;have h3:n=0\/(K=F ⟨g,o,G⟩/\hZ ((w.alloc (.cells #[U 0,U 0,U 0,U 0] 47)).alloc (.cells (YD 32 (.int .u8 0)) 273)) g o bs):=by
  rcases hB with h|⟨h1,b⟩
  .exact Y3 h
  by_cases x:n=0
  .exact Y3 x
  exact YZ ⟨h1,Holds.below b BL (Holds.lt b S)⟩
 clear hB;generalize Z4 _ _=W0 at R Z BL h3⊢
 go_cut [] (λwx=>hZ wx (w.heap.size+1) 0 (padded n bs)/\At4 wx w.heap.size 0 0 0 0/\kZ w wx)
 case first =>
  by_cases x:n=0
  .subst x;have c:∀w d b dc,(uk #[23,23] 3 #[.slice d b dc,.slice K 0 cap]).run prog w=.ok (goInt 0) w:=λw d b dc=>run_copy_none w 23 23 3 5 d K b dc 0 cap slice22 ints5 (by simp)
   have f:padded 0 bs=YD 32 0:=by
    have:bs=#[]:=yu.eq_empty_of_size_eq_zero hs;rw[this];rfl
   go_wp2
   go_meet
   exact⟨by rw[f];exact Z,R,BL⟩
  obtain⟨rfl,hB⟩:K=F ⟨g,o,G⟩/\hZ W0 g o bs:=h3.resolve_left x;obtain⟨c,f⟩:=QA (cap:=cap) Z hn hB hs;have l:32-(32-n)=n:=S;have j:At4 (W0.setCells (w.heap.size+1) (32-n) (bs.toList.map encB)) w.heap.size 0 0 0 0:=by
   have b:=heap_setCells (w.heap.size+1) (k:=w.heap.size) S (bs.toList.map encB) (32-n) W0;exact⟨by rw[<-R.c0];exact Y1 b,by rw[<-R.c1];exact Y1 b,by rw[<-R.c2];exact Y1 b,by rw[<-R.c3];exact Y1 b,λo=>by rw[<-R.f o];exact World.frozen?_of_block b⟩
  have v:kZ w (W0.setCells (w.heap.size+1) (32-n) (bs.toList.map encB)):=below_setCells (ue _) _ _ _ BL;go_wp2
  go_meet
  exact(mk3 f j v).out
 case rest =>
  obtain⟨z,j,v⟩:=hcut;generalize padded n bs=T at z P y⊢;have p3:=IE 24 z S;have p2:=IE 16 z S;have p1:=IE 8 z S;have p0:=IE 0 z S;have m:=Holds.lt z S;generalize V:w8 T[24]! T[25]! T[26]! T[27]! T[28]! T[29]! T[30]! T[31]! = u at y;generalize X:w8 T[16]! T[17]! T[18]! T[19]! T[20]! T[21]! T[22]! T[23]! = C at y;generalize L:w8 T[8]! T[9]! T[10]! T[11]! T[12]! T[13]! T[14]! T[15]! = O at y;generalize M:w8 T[0]! T[1]! T[2]! T[3]! T[4]! T[5]! T[6]! T[7]! = q at y;go_wp2;have N:=At4.made wc 47 0 0 0 0 rfl;simp only[Zt]at N;replace p3:=Holds.below p3 (aD (w:=wc) (.cells #[U 0,U 0,U 0,U 0] 47)) m;replace p2:=Holds.below p2 (aD (w:=wc) (.cells #[U 0,U 0,U 0,U 0] 47)) m;replace p1:=Holds.below p1 (aD (w:=wc) (.cells #[U 0,U 0,U 0,U 0] 47)) m;replace p0:=Holds.below p0 (aD (w:=wc) (.cells #[U 0,U 0,U 0,U 0] 47)) m;have BL:=yv (v.alloc (ax j.lt) (.cells #[U 0,U 0,U 0,U 0] 47));replace j:=j.alloc (.cells #[U 0,U 0,U 0,U 0] 47);have a:w.heap.size≠wc.heap.size:=S;have t:w.heap.size+1≠wc.heap.size:=S;have Q:E (w.heap.size<=wc.heap.size):=by unfold E;omega
  generalize wc.heap.size=k2 at N a t Q⊢;generalize h1:w.heap.size+1=k1 at p3 p2 p1 p0 t⊢;generalize x:w.heap.size=k0 at j a BL Q⊢;refine rp 5 ?_;obtain⟨b,l,f,c,s⟩:=id N;have r:=N.lt;rw[Y4];go_wp2_with fail
  apply(pF (g:=k1) (o:=24) (n:=8) (cap:=8) dC dC dC p3).mono;rintro e w1 ⟨rfl,A,rfl⟩;rw[V];replace N:=N.drewN A;obtain⟨b,l,f,c,s⟩:=id N;have r:=N.lt;go_wp2_with fail
  replace N:=N.set0 u;replace j:=(j.drewN A).other (o:=0) a.symm (U u);replace BL:E (Below k0 w _):=(kM BL (q:=A)).setCell (p:=⟨k2,0,G⟩) Q (U u);replace p2:=Holds.far (Holds.drewN p2 A) (i:=0) t.symm (U u);replace p1:=Holds.far (Holds.drewN p1 A) (i:=0) t.symm (U u);replace p0:=Holds.far (Holds.drewN p0 A) (i:=0) t.symm (U u);obtain⟨b,l,f,c,s⟩:=id N;have r:=N.lt;rw[Y4];go_wp2_with fail
  apply(pF (g:=k1) (o:=16) (n:=16) (cap:=16) dC dC dC p2).mono;rintro e w1 ⟨rfl,q1,rfl⟩;rw[X];replace N:=N.drewN q1;obtain⟨b,l,f,c,s⟩:=id N;have r:=N.lt;go_wp2_with fail
  replace N:=N.set1 C;replace j:=(j.drewN q1).other (o:=1) a.symm (U C);replace BL:E (Below k0 w _):=(kM BL (q:=q1)).setCell (p:=⟨k2,1,G⟩) Q (U C);replace p1:=Holds.far (Holds.drewN p1 q1) (i:=1) t.symm (U C);replace p0:=Holds.far (Holds.drewN p0 q1) (i:=1) t.symm (U C);obtain⟨b,l,f,c,s⟩:=id N;have r:=N.lt;rw[Y4];go_wp2_with fail
  apply(pF (g:=k1) (o:=8) (n:=24) (cap:=24) dC dC dC p1).mono;rintro e w1 ⟨rfl,q2,rfl⟩;rw[L];replace N:=N.drewN q2;obtain⟨b,l,f,c,s⟩:=id N;have r:=N.lt;go_wp2_with fail
  replace N:=N.set2 O;replace j:=(j.drewN q2).other (o:=2) a.symm (U O);replace BL:E (Below k0 w _):=(kM BL (q:=q2)).setCell (p:=⟨k2,2,G⟩) Q (U O);replace p0:=Holds.far (Holds.drewN p0 q2) (i:=2) t.symm (U O);obtain⟨b,l,f,c,s⟩:=id N;have r:=N.lt;rw[Y4];go_wp2_with fail
  apply(pF (g:=k1) (o:=0) (n:=32) (cap:=32) dC dC dC p0).mono;rintro e w1 ⟨rfl,q3,rfl⟩;rw[M];replace N:=N.drewN q3;obtain⟨b,l,f,c,s⟩:=id N;have r:=N.lt;go_wp2_with fail
  replace N:=N.set3 q;replace j:=(j.drewN q3).other (o:=3) a.symm (U q);replace BL:E (Below k0 w _):=(kM BL (q:=q3)).setCell (p:=⟨k2,3,G⟩) Q (U q);obtain⟨b,l,f,c,s⟩:=id N;have r:=N.lt;obtain⟨h6,h8,h4,h7,rf⟩:=id j;have zr:=j.lt;rw[Y4];go_wp2
  have W:=j.self4 u C O q;unfold set4 at W;refine YB (by simp[results,Tryz.results125,go_sem,W.c0,W.c1,W.c2,W.c3];rfl) rfl ?_;refine⟨_,rfl,?_,Four.mk (V ▸ Ie) (X ▸ Ie) (L ▸ Ie) (M ▸ Ie) y⟩;rw[(yv x).out];exact aE BL (Ys _)
def uF(f m j P:I)(hG:Gap f m j P)(w:Yp):
 dZ 222 #[.agg #[U f,U m,U j,U 0]] w λe w'=>zh e P:=by
 have r:=hG.hg;go_enter func222,ntmps222;go_wp2_with fail
 have R:=At4.made (w.alloc (.cells #[U f,U m,U j,U 0] 120)) 47 0 0 0 0 (YE _ _);have BL:=below2 w (.cells #[U f,U m,U j,U 0] 120) (.cells #[U 0,U 0,U 0,U 0] 47);simp only[Zt]at R;apply(vE _ _ 0 _ (Four.mk (a:=0) (b:=0) (c:=0) (d:=0) dC dC dC dC Z) (Four.mk hG.h0 hG.h1 hG.h2 dC Z) _).mono;rintro e O ⟨v,rfl,g,v2,t,k,rfl,n,K,o⟩;replace o:t+zm f m j 0=0+zl*k:=o;have q:t=P:=by
  have h1:=n.lt;have i:=hG.hP;have:k=0\/k=1:=S;rcases this with h|h<;>rw[h]at o<;>omega
 subst q;replace R:=R.call g;have p:=yv (BL.trans (g.mono BL.size));obtain⟨a,b,c,d,rfl,Q,N,T,hd,M⟩:=id n;have z:=R.lt;go_wp2_with fail
 apply(kJ n).mono;rintro e u ⟨L,rfl,i,rfl⟩;replace p:E (kZ w u):=(p.alloc S _).trans (i.mono (by simp;omega));replace R:=(R.alloc _).call i;let⟨y,A,x,s,C⟩:=id R
 have z:=R.lt;go_wp2;have l:=R.self4 a b c d;unfold set4 at l;refine YB (by simp[results,Tryz.results222,go_sem,l.c0,l.c1,l.c2,l.c3];rfl) Z ?_;exact⟨_,Z,aE p (ue _),n⟩
def RL(w:Yp)(t0 t1 t2:YW)(a b c d e f g h i j k l:I):
 Kept w w.heap.size [⟨w.heap.size,0,a,b,c,d⟩,⟨w.heap.size+1,0,e,f,g,h⟩,⟨w.heap.size+1+1,0,i,j,k,l⟩]
  (((w.alloc (.cells #[U a,U b,U c,U d] t0)).alloc (.cells #[U e,U f,U g,U h] t1)).alloc (.cells #[U i,U j,U k,U l] t2)):=by
 refine(((Kept.mk1 (below3 (w:=w) _ _ _) (below3 _ _ _).size).cons ?_).cons ?_).cons ?_
 .exact(At4.made _ t2 i j k l (by simp)).blk
 .exact((At4.made _ t1 e f g h (by simp)).alloc _).blk
 exact(((At4.made _ t0 a b c d Z).alloc _).alloc _).blk
def wR(f i g P:I)(x:Yq)(m:I)(hG:Gap f i g P)(j:2<=P%18446744073709551616)(hx:zh x m)(w:Yp):
 dZ 185 #[.agg #[U f,U i,U g,U 0],x] w λe w'=>zh e (m^(P-2)%P):=by
 obtain⟨a,b,c,d,rfl,ha,V,hc,hd,em⟩:=id hx;have HX:E (zh _ m):=hx;have C:E (Gap f i g P):=hG;clear em hx ha V hc hd hG;go_enter func185,ntmps185;go_wp2_with fail
 have k:=RL w 120 47 47 f i g 0 a b c d 0 0 0 0;simp only[Zt]at k;generalize Z4 _ _=W0 at k⊢;generalize h2:w.heap.size+1+1=k2 at k⊢;generalize h1:w.heap.size+1=k1 at k⊢;have A:E (w.heap.size<=k2):=by unfold E;omega
 generalize L:w.heap.size=k0 at k A⊢;apply(uF f i g P C _).mono;rintro e w1 ⟨v,rfl,y,o⟩;obtain⟨s,W,pc,T,rfl,X,q,u,r,z⟩:=id o;replace k:=k.call y;have h4:2<=s:=by rw[z]at j;unfold zm at j;omega
 let⟨p,l⟩:∃p,s=p+2:=⟨s-2,S⟩
 have HE:E (zh (.agg #[U p,U W,U pc,U T]) (P-2)):=by
  refine Four.mk S q u r ?_;rw[z,l];unfold zm;omega
 have hw:=wrapN (a:=p) S;let⟨hj,h3,h7,hn,xf⟩:=k.tail.head.at4
 have zx:=k.tail.head.lt;let⟨h9,M,hk,hi,pf⟩:=k.head.at4
 have zp:=k.head.lt;have n1:=oA zx;have n0:=oA zp;go_wp2_with fail
 apply(BH f i g P _ _ _ _ C HX HE _).mono;rintro e w2 ⟨v,rfl,t,o⟩;replace k:=(k.alloc _).call t;obtain⟨Q,qb,O,qd,rfl,K,h6,hm,hg,eQ⟩:=id o;let⟨h5,he,N,h8,rf⟩:=k.tail.tail.head.at4
 have zr:=k.tail.tail.head.lt;go_wp2;have n:=k.tail.tail.head.at4.self4 Q qb O qd;unfold set4 at n;refine YB (by simp[results,Tryz.results185,go_sem,n.c0,n.c1,n.c2,n.c3];rfl) Z ?_;refine⟨_,Z,?_,(yv o).out⟩;rw[(yv L).out];exact aE k.bl A
def Q6:prog.underlying 22=F (.int .u64):=kR
def Vm:∀w,(sizeOf 22).run prog w=.ok 1 w:=λ_=>kR
def Xj:prog.underlying 47=F (.array 4 22):=kR
def I6(D:I)(a b c d p q r s:I)(w:Yp):
 (yDN (D+1+1) 47 (.agg #[U a,U b,U c,U d]) (.agg #[U p,U q,U r,U s])).run prog w=.ok (decide (a=p/\b=q/\c=r/\d=s)) w:=by
 have e:=λ(x y:I)=>run_equalIn_int (P:=prog) w D 22 .u64 .u64 (x:Y) (y:Y) Q6
 rw[yDN];simp only[YU,uh Xj,Zp,Vm];simp only[yCq,yC8,yFs,yES,yE3];by_cases k:a=p
 .by_cases h1:b=q
  .by_cases f:c=r
   .by_cases g:d=s
    .simp[k,h1,f,g,part,e]
    simp[k,h1,f,g,part,e];omega
   simp[k,h1,f,part,e];omega
  simp[k,h1,part,e];omega
 simp[k,part,e];omega
def V0(a b c d p q r s:I)(w:Yp):
 (binOp .neq 47 (.agg #[U a,U b,U c,U d]) (.agg #[U p,U q,U r,U s])).run prog w=.ok (.bool (!decide (a=p/\b=q/\c=r/\d=s))) w:=by
 rw[run_neq_struct,I6 9998];rfl
def Xi:prog.underlying 54=F (.array 4 22):=kR
def RY(D:I)(a b c d p q r s:I)(w:Yp):
 (yDN (D+1+1) 54 (.agg #[U a,U b,U c,U d]) (.agg #[U p,U q,U r,U s])).run prog w=.ok (decide (a=p/\b=q/\c=r/\d=s)) w:=by
 have e:=λ(x y:I)=>run_equalIn_int (P:=prog) w D 22 .u64 .u64 (x:Y) (y:Y) Q6
 rw[yDN];simp only[YU,uh Xi,Zp,Vm];simp only[yCq,yC8,yFs,yES,yE3];by_cases k:a=p
 .by_cases h1:b=q
  .by_cases f:c=r
   .by_cases g:d=s
    .simp[k,h1,f,g,part,e]
    simp[k,h1,f,g,part,e];omega
   simp[k,h1,f,part,e];omega
  simp[k,h1,part,e];omega
 simp[k,part,e];omega
def TX{a d:I}:
 (binOp .neq 54 (.agg #[U a,U b,U c,U d]) (.agg #[U p,U q,U r,U s])).run prog w=.ok (.bool (!decide (a=p/\b=q/\c=r/\d=s))) w:=by
 rw[run_neq_struct,RY 9998];rfl
def Ta(a b c d:I)(w:Yp):(binOp .neq 47 (.agg #[U a,U b,U c,U d]) (.agg #[U a,U b,U c,U d])).run prog w=.ok fZ w:=by
 rw[V0,decide_eq_true ⟨Z,Z,Z,Z⟩];rfl
def P0{a d:I}(h:¬(a=p/\b=q/\c=r/\d=s))(w:Yp):(binOp .neq 47 (.agg #[U a,U b,U c,U d]) (.agg #[U p,U q,U r,U s])).run prog w=.ok tZ w:=by
 rw[V0,decide_eq_false h];rfl
def S9(a b c d:I)(w:Yp):(binOp .neq 54 (.agg #[U a,U b,U c,U d]) (.agg #[U a,U b,U c,U d])).run prog w=.ok fZ w:=by
 rw[TX,decide_eq_true ⟨Z,Z,Z,Z⟩];rfl
def PZ{a d:I}(h:¬(a=p/\b=q/\c=r/\d=s))(w:Yp):(binOp .neq 54 (.agg #[U a,U b,U c,U d]) (.agg #[U p,U q,U r,U s])).run prog w=.ok tZ w:=by
 rw[TX,decide_eq_false h];rfl
def TQ{a:I}(b:I)(c:a<2^64):bits .or .u64 ((a/4:I):Y) ((b*4611686018427387904%18446744073709551616:I):Y)=((a/4+b*4611686018427387904%18446744073709551616:I):Y)/\a/4+b*4611686018427387904%18446744073709551616<2^64:=by
 have h1:b*4611686018427387904%18446744073709551616=2^62*(b%4):=S;have k:=yBA (i:=62) (b:=a/4) S (b%4);rw[wy _ _ S S,h1,yFz,<-k];omega
def Ec(x:Yq)(m:I)(hx:zh x m)(w:Yp):
 dZ 226 #[x] w λe w'=>zh e (m/4):=by
 obtain⟨a,b,c,d,rfl,p,o,q,hd,j⟩:=id hx;let⟨i,l0⟩:=TQ b p
 let⟨f,l1⟩:=TQ c o
 let⟨g,l2⟩:=TQ d q
 have k:=Gj a b c d;rw[<-j]at k;have s0:(a:Y)/4=((a/4:I):Y):=S;have s1:(b:Y)/4=((b/4:I):Y):=S;have s2:(c:Y)/4=((c/4:I):Y):=S;have s3:(d:Y)/4=((d/4:I):Y):=S;have t1:Zk.wrap ((b:Y)*4611686018427387904)=((b*4611686018427387904%18446744073709551616:I):Y):=by rw[rj];omega
 have t2:Zk.wrap ((c:Y)*4611686018427387904)=((c*4611686018427387904%18446744073709551616:I):Y):=by rw[rj];omega
 have l:Zk.wrap ((d:Y)*4611686018427387904)=((d*4611686018427387904%18446744073709551616:I):Y):=by rw[rj];omega
 have l3:d/4<2^64:=S;generalize a/4+b*4611686018427387904%18446744073709551616=u at i l0 k;generalize b/4+c*4611686018427387904%18446744073709551616=z at f l1 k;generalize c/4+d*4611686018427387904%18446744073709551616=r at g l2 k;generalize b*4611686018427387904%18446744073709551616=v1 at i t1;generalize c*4611686018427387904%18446744073709551616=v2 at f t2;generalize d*4611686018427387904%18446744073709551616=y at g l;generalize a/4=s at i s0;generalize b/4=t at f s1;generalize c/4=v at g s2;generalize d/4=A at s3 l3 k;have n:E _:=k;clear k j hx;go_enter func226,ntmps226;go_wp2;refine YB (by simp[results,Tryz.results226,go_sem];rfl) Z ?_;exact⟨_,Z,below2 _ _ _,Four.mk l0 l1 l2 l3 n.symm⟩
def Ju(hx:zh x m):
 eZ 116 #[x] w (.bool (decide (m%2=1))):=by
 obtain⟨a,b,c,d,rfl,g,j,l,hd,f⟩:=id hx;have ho:=and_one g;have k:m%2=a%2:=by rw[f];unfold zm;omega
 rw[k];have i:a%2=0\/a%2=1:=S;rcases i with h|h
 .rw[h]at ho⊢;go_enter func116,ntmps116;go_wp2;go_ret;exact⟨_,Z,aD _,Z⟩
 rw[h]at ho⊢;go_enter func116,ntmps116;go_wp2;go_ret;exact⟨_,Z,aD _,Z⟩
def sU{k f e a d l rd:I}(h:Kept w k [⟨k,0,m,n,i,0⟩,⟨e,0,j,l,g,rd⟩,⟨f,0,a,b,c,d⟩,⟨o,0,0,0,0,0⟩] W):W.cell? ⟨k,0,G⟩=F (U m)/\W.cell? ⟨k,1,G⟩=F (U n)/\W.cell? ⟨k,2,G⟩=F (U i)/\W.cell? ⟨k,3,G⟩=F (U 0)/\W.cell? ⟨e,0,G⟩=F (U j)/\W.cell? ⟨e,1,G⟩=F (U l)/\W.cell? ⟨e,2,G⟩=F (U g)/\W.cell? ⟨e,3,G⟩=F (U rd)/\W.cell? ⟨f,0,G⟩=F (U a)/\W.cell? ⟨f,1,G⟩=F (U b)/\W.cell? ⟨f,2,G⟩=F (U c)/\W.cell? ⟨f,3,G⟩=F (U d)/\Kept w k [⟨k,0,m,n,i,0⟩,⟨e,0,j,l,g,rd⟩,⟨f,0,a,b,c,d⟩,⟨o,0,0,0,0,0⟩] W:=
 ⟨h.head.c0,h.head.c1,h.head.c2,h.head.c3,h.tail.head.c0,h.tail.head.c1,h.tail.head.c2,h.tail.head.c3,h.tail.tail.head.c0,h.tail.tail.head.c1,h.tail.tail.head.c2,h.tail.tail.head.c3,h⟩
def four_ne{a d:I}{v:Yq}(h:zh v n)(e:zh (.agg #[U a,U b,U c,U d]) m)(k:¬n=m):
 ∃p q r s:I,v=.agg #[U p,U q,U r,U s]/\¬(p=a/\q=b/\r=c/\s=d):=by
 obtain⟨p,q,r,s,rfl,h1⟩:=id h;refine⟨p,q,r,s,Z,?_⟩;rintro⟨rfl,rfl,rfl,rfl⟩;exact k (h.num e)
def even(P r:I):I:=if r%2=1 then P-r else r
def RootR(P m R:I)(e:Yq):Prop:=∃(d b c k:I) (ok:zk),e=.tuple #[.agg #[U d,U b,U c,U k],.bool ok] /\
 (ok=J->R*R%P=m/\zh (.agg #[U d,U b,U c,U k]) (even P R))/\(ok=D->¬R*R%P=m)/\(ok=D->d=0/\b=0/\c=0/\k=0)
def RootR.yes{R d k:I}(h:R*R%P=m)(e:zh (.agg #[uZ d,uZ b,uZ c,uZ k]) (even P R)):RootR P m R (.tuple #[.agg #[uZ d,uZ b,uZ c,uZ k],tZ]):=
 ⟨d,b,c,k,J,Z,λ_=>⟨h,e⟩,λh=>ww h,λh=>ww h⟩
def RootR.no{R:I}(h:¬R*R%P=m):RootR P m R (.tuple #[.agg #[uZ 0,uZ 0,uZ 0,uZ 0],fZ]):=
 ⟨0,0,0,0,false,Z,λh=>ww h,λ_=>h,λ_=>⟨Z,Z,Z,Z⟩⟩
def E9(l p o P:I)(x:Yq)(m:I)(hG:Gap l p o P)(X:P/4%18446744073709551616<18446744073709551615)(hx:zh x m)(w:Yp):
 Zl prog 191 #[.agg #[.int .u64 l,.int .u64 p,.int .u64 o,.int .u64 0],x] w (Ret λe w'=>Below w.heap.size w w'/\RootR P m (m^(P/4+1)%P) e):=by
 obtain⟨a,b,c,d,rfl,ha,hb,hc,hd,em⟩:=id hx;have HX:E (zh _ m):=hx;have HG:E (Gap l p o P):=hG;obtain⟨R,hR⟩:=vH (m^(P/4+1)%P);have ht:R<P:=by
  rw[<-hR];refine ZL _ ?_;have:=hG.hP2;omega
 rw[hR];have kc:E (m^(P/4+1)%P=R):=hR;have h4:E (R<P):=ht;clear em hx ha hb hc hd hG hR ht;go_enter func191,ntmps191;go_wp2_with fail
 have k:=RL w 120 47 47 l p o 0 a b c d 0 0 0 0;simp only[Zt]at k;generalize Z4 _ _=W0 at k⊢;generalize h2:w.heap.size+1+1=k2 at k⊢;generalize h1:w.heap.size+1=r at k⊢;have Q2:E (w.heap.size<=k2):=by unfold E;omega
 generalize h0:w.heap.size=i at k Q2⊢;have H0:E (w.heap.size=i):=h0;clear h0 h1 h2;refine(uF l p o P HG.out _).mono ?_;rintro e w1 ⟨v,rfl,f,N⟩;obtain⟨pa,pb,pc,pd,rfl,-⟩:=id N;replace k:=k.call f;clear f;go_wp2_with fail
 refine(Ec _ _ N _).mono ?_;rintro e w2 ⟨v,rfl,hn,hy⟩;obtain⟨qa,qb,qc,qd,rfl,hz,hj,hu,hr,eq⟩:=id hy;replace k:=k.call hn;clear hn N hy;have k3:qa<18446744073709551615:=by rw[eq]at X;unfold zm at X;omega
 obtain⟨qe,O⟩:=vH (qa+1);have HE:E (zh (.agg #[.int .u64 qe,.int .u64 qb,.int .u64 qc,.int .u64 qd]) (P/4+1)):=by
  refine Four.mk S hj hu hr ?_;rw[eq,<-O];unfold zm;omega
 have hi:(qa:Y)+1=(qe:Y):=S;have hw:=wrapN (a:=qe) S;clear k3 eq X hz hj hu hr O;obtain⟨ka,k4,k6,kb,xf⟩:=k.tail.head.at4;have zx:=k.tail.head.lt;obtain⟨h7,Q,he,h9,pf⟩:=k.head.at4;have zp:=k.head.lt;have n1:r≠w2.heap.size:=oA zx;have n0:i≠w2.heap.size:=oA zp;go_wp2_with fail
 refine(BH l p o P _ _ _ _ HG.out HX.out HE.out _).mono ?_;rintro e w3 ⟨v,rfl,hg,N⟩;replace k:=(k.alloc _).call hg;clear hg ka k4 k6 kb xf zx h7 Q he h9 pf zp n0 n1 HE hi hw;obtain⟨C,K,M,rd,rfl,-⟩:=id N;rw[kc.out]at N;have W:E (zh _ R):=N;clear N
 go_upto_region 4 with fail
 have hk:Kept w i [⟨i,0,l,p,o,0⟩,⟨w3.heap.size,0,C,K,M,rd⟩,⟨r,0,a,b,c,d⟩,⟨k2,0,0,0,0,0⟩] _:=((((Kept.mk1 (k.alloc (.cells #[.int .u64 C,.int .u64 K,.int .u64 M,.int .u64 rd] 47)).bl (k.alloc _).le).cons (k.alloc _).tail.tail.head).cons (k.alloc _).tail.head).cons (At4.made w3 47 C K M rd Z).blk).cons (x:=⟨i,0,l,p,o,0⟩) (k.alloc _).head |> λh=>by exact h
 have k5:w3.heap.size≠i:=cW k.head.lt;have hq:w3.heap.size≠k2:=cW k.tail.tail.head.lt;have k9:w3.heap.size≠r:=cW k.tail.head.lt;have Q7:E (i<=w3.heap.size):=k.le;clear k;have k:=hk;clear hk;generalize Z4 _ _=W4 at k⊢;generalize w3.heap.size=t at k k5 k9 hq Q7⊢;by_cases q:R*R%P=m
 .have k8:=Ta a b c d;go_region_held3 (λw'=>w'.cell? ⟨i,0,G⟩=F (.int .u64 l)/\w'.cell? ⟨i,1,G⟩=F (.int .u64 p)/\w'.cell? ⟨i,2,G⟩=F (.int .u64 o)/\w'.cell? ⟨i,3,G⟩=F (.int .u64 0)/\w'.cell? ⟨t,0,G⟩=F (.int .u64 C)/\w'.cell? ⟨t,1,G⟩=F (.int .u64 K)/\w'.cell? ⟨t,2,G⟩=F (.int .u64 M)/\w'.cell? ⟨t,3,G⟩=F (.int .u64 rd)/\w'.cell? ⟨r,0,G⟩=F (.int .u64 a)/\w'.cell? ⟨r,1,G⟩=F (.int .u64 b)/\w'.cell? ⟨r,2,G⟩=F (.int .u64 c)/\w'.cell? ⟨r,3,G⟩=F (.int .u64 d)/\Kept w i [⟨i,0,l,p,o,0⟩,⟨t,0,C,K,M,rd⟩,⟨r,0,a,b,c,d⟩,⟨k2,0,0,0,0,0⟩] w') (first|exact sU k|exact sU k.drew) (first|(go_at_call 154;refine(qQ (b:=l) (c:=p) (k:=o) (P:=P) HG.out W.out W.out).mono ?_;rintro e w5 ⟨v,rfl,f,s⟩;rw[q]at s;obtain rfl:=s.inj HX.out;clear s;(first|have n:=k.drew.call f|have n:=k.call f);clear k f;have k:=n;clear n))
  have y:E (R*R%P=m):=q;clear q
  rename_i hHeld
  clear hHeld;obtain⟨z,L,A,u,tf⟩:=k.tail.head.at4;have zt:=k.tail.head.lt;go_wp2_with fail
  clear z L A u tf zt;refine(Ju W.out).mono ?_;rintro e w6 ⟨v,rfl,hp,rfl⟩;replace k:=k.call hp;clear hp;obtain⟨z,L,A,u,tf⟩:=k.tail.head.at4;have zt:=k.tail.head.lt;obtain⟨h6,h8,h5,h3,uf⟩:=k.tail.tail.tail.head.at4;have zu:=k.tail.tail.tail.head.lt;by_cases g:R%2=1
  .have hd:decide (R%2=1)=J:=decide_eq_true g;rw[hd];have HO:E (R%2=1):=g;clear hd g;obtain⟨h7,Q,he,h9,pf⟩:=k.head.at4;have zp:=k.head.lt;go_wp2_with fail
   refine(vW (b:=l) (c:=p) (k:=o) (P:=P) (m:=0) HG.out (Four.mk (a:=0) (b:=0) (c:=0) (d:=0) dC dC dC dC Z) W.out (oN h4.out) h4.out).mono ?_;rintro e w8 ⟨v,rfl,hm,T⟩;obtain⟨sa,sb,sc,sd,rfl,-⟩:=id T;have V:E (zh (.agg #[.int .u64 sa,.int .u64 sb,.int .u64 sc,.int .u64 sd]) (even P R)):=by
    have h1:(0+P-R)%P=even P R:=by
     rw[even,zd HO.out,Yv];exact YL (by have:=h4.out;have:=HO.out;omega)
    rw[E,<-h1];exact T
   replace k:=k.call hm;clear hm T z L A u tf zt h6 h8 h5 h3 uf zu h7 Q he h9 pf zp;obtain⟨z,L,A,u,tf⟩:=k.tail.head.at4;have zt:=k.tail.head.lt;obtain⟨h6,h8,h5,h3,uf⟩:=k.tail.tail.tail.head.at4;have zu:=k.tail.tail.tail.head.lt;go_wp2;have j:=(k.tail.tail.tail.head.at4.other4 hq (.int .u64 sa) (.int .u64 sb) (.int .u64 sc) (.int .u64 sd)).self4 sa sb sc sd;unfold set4 at j;refine YB (by simp[results,Tryz.results191,go_sem,j.c0,j.c1,j.c2,j.c3];rfl) Z ?_;refine⟨_,Z,?_,RootR.yes y.out V.out⟩;rw[H0.out];exact aE (aE k.bl Q7.out) Q2.out
  have hd:decide (R%2=1)=D:=decide_eq_false g;rw[hd];have V:E (zh (.agg #[.int .u64 C,.int .u64 K,.int .u64 M,.int .u64 rd]) (even P R)):=by
   have h1:even P R=R:=by unfold even;rw[zi g]
   rw[E,h1];exact W.out
  clear hd g;go_wp2;have j:=k.tail.tail.tail.head.at4.self4 C K M rd;unfold set4 at j;refine YB (by simp[results,Tryz.results191,go_sem,j.c0,j.c1,j.c2,j.c3];rfl) Z ?_;refine⟨_,Z,?_,RootR.yes y.out V.out⟩;rw[H0.out];exact aE k.bl Q2.out
 go_region_held3 (λw'=>w'.cell? ⟨i,0,G⟩=F (.int .u64 l)/\w'.cell? ⟨i,1,G⟩=F (.int .u64 p)/\w'.cell? ⟨i,2,G⟩=F (.int .u64 o)/\w'.cell? ⟨i,3,G⟩=F (.int .u64 0)/\w'.cell? ⟨t,0,G⟩=F (.int .u64 C)/\w'.cell? ⟨t,1,G⟩=F (.int .u64 K)/\w'.cell? ⟨t,2,G⟩=F (.int .u64 M)/\w'.cell? ⟨t,3,G⟩=F (.int .u64 rd)/\w'.cell? ⟨r,0,G⟩=F (.int .u64 a)/\w'.cell? ⟨r,1,G⟩=F (.int .u64 b)/\w'.cell? ⟨r,2,G⟩=F (.int .u64 c)/\w'.cell? ⟨r,3,G⟩=F (.int .u64 d)/\Kept w i [⟨i,0,l,p,o,0⟩,⟨t,0,C,K,M,rd⟩,⟨r,0,a,b,c,d⟩,⟨k2,0,0,0,0,0⟩] w') (first|exact sU k|exact sU k.drew) (first|(go_at_call 154;refine(qQ (b:=l) (c:=p) (k:=o) (P:=P) HG.out W.out W.out).mono ?_;rintro e w5 ⟨v,rfl,f,s⟩;obtain⟨T,L,z,A,rfl,g⟩:=four_ne s HX.out q;have u:=P0 g;clear s;(first|have n:=k.drew.call f|have n:=k.call f);clear k f;have k:=n;clear n))
 have y:E (¬R*R%P=m):=q;clear q
 rename_i hHeld
 clear hHeld;obtain⟨h6,h8,h5,h3,uf⟩:=k.tail.tail.tail.head.at4;have zu:=k.tail.tail.tail.head.lt;go_wp2;have j:At4 (set4 w5 k2 (.int .u64 0) (.int .u64 0) (.int .u64 0) (.int .u64 0)) k2 0 0 0 0:=k.tail.tail.tail.head.at4.self4 0 0 0 0;unfold set4 at j;refine YB (by simp[results,Tryz.results191,go_sem,j.c0,j.c1,j.c2,j.c3];rfl) Z ?_;refine⟨_,Z,?_,RootR.no y.out⟩;rw[H0.out];exact aE k.bl Q2.out
abbrev ws(x:B P):H Yq:=wn x.val
abbrev fv(x:B P):Yq:=nv x.val
def pv(x y:B P):Yq:=.agg (ws x++ws y).toArray
def rv(x y z:B P):Yq:=.agg (ws x++(ws y++ws z)).toArray
def Gives(f:ak)(args:yu Yq)(v:Yq):Prop:=∀w,eZ f args w v
structure Fld(P:I)[NeZero P]:Prop where
 gap:Gap 4294968273 0 0 P
 cur:Cur P
 p2:2<=P%18446744073709551616
 p4:P/4%18446744073709551616<18446744073709551615
 p3:P%4=3
 p7:7<P
def Fld.top(h:Fld P)(x:Fin P):x.val<zl:=by have:=h.gap.hP;have:=x.isLt;omega
def Fld.four(h:Fld P)(x:Fin P):zh (fv x) x.val:=fD (h.top x)
def lW:(Y8 #[U 0,U 0,U 0,U 0])=fv (0:B P):=by
 have h:zh (Y8 #[U 0,U 0,U 0,U 0]) (0:B P).val:=by
  rw[val_zero];exact Four.mk (a:=0) (b:=0) (c:=0) (d:=0) dC dC dC dC Z
 exact h.nv
def CE(h:Fld P):(Y8 #[U 1,U 0,U 0,U 0])=fv (1:B P):=by
 have h:zh (Y8 #[U 1,U 0,U 0,U 0]) (1:B P).val:=by
  rw[val_one h.cur.pr];exact Four.mk (a:=1) (b:=0) (c:=0) (d:=0) dC dC dC dC Z
 exact h.nv
def bN:Gives 114 #[] gv0:=λw=>(xA).mono (by rintro e w' ⟨rfl,rfl⟩;exact⟨_,Z,aD _,Z⟩)
def Vp{x y:B P}(h:Fld P):Gives 215 #[gv0,fv x,fv y] (fv (x+y)):=λw =>
 (sum_any 4294968273 0 0 P _ _ x.val y.val h.gap (h.four x) (h.four y) x.isLt y.isLt w).mono (by
  rintro e w' ⟨v,rfl,b,k⟩;exact⟨_,Z,b,k.nv⟩)
omit [NeZero P] in
theorem xC(x y:B P):(x.val+P-y.val)%P=(x-y).val:=by
 rw[B.sub_def];show _=(P-y.val+x.val)%P
 congr 1
 have:=y.isLt;omega
def C5{x y:B P}(h:Fld P):Gives 221 #[gv0,fv x,fv y] (fv (x-y)):=λw =>
 (oO 4294968273 0 0 P _ _ x.val y.val h.gap (h.four x) (h.four y) x.isLt y.isLt w).mono (by
  rintro e w' ⟨v,rfl,b,k⟩;rw[xC]at k;exact⟨_,Z,b,k.nv⟩)
def JV{x y:B P}(h:Fld P):Gives 213 #[gv0,fv x,fv y] (fv (x*y)):=λw =>
 (nW 4294968273 0 0 P _ _ x.val y.val h.gap (h.four x) (h.four y) w).mono (by
  rintro e w' ⟨v,rfl,b,k⟩;exact⟨_,Z,b,k.nv⟩)
def Uy{x:B P}(h:Fld P):Gives 127 #[fv x] (fv x):=λw=>(kL (h.four x)).mono (by rintro e w' ⟨v,rfl,k,rfl⟩;exact⟨_,Z,k,Z⟩)
def MU{x:B P}(h:Fld P):Gives 214 #[fv x] (fv x):=λw=>(kJ (h.four x)).mono (by rintro e w' ⟨v,rfl,k,rfl⟩;exact⟨_,Z,k,Z⟩)
def uE{x y:B P}(h:Fld P):Gives 154 #[gv0,fv x,fv y] (fv (x*y)):=λw =>
 (qQ h.gap (h.four x) (h.four y)).mono (by
  rintro e w' ⟨v,rfl,b,k⟩;exact⟨_,Z,b,k.nv⟩)
def Jt{x y:B P}(h:Fld P):Gives 155 #[gv0,fv x,fv y] (fv (x+y)):=λw =>
 (Ff h.gap (h.four x) (h.four y) x.isLt y.isLt).mono (by
  rintro e w' ⟨v,rfl,b,k⟩;exact⟨_,Z,b,k.nv⟩)
def OE{x y:B P}(h:Fld P):Gives 198 #[gv0,fv x,fv y] (fv (x-y)):=λw =>
 (vW h.gap (h.four x) (h.four y) x.isLt y.isLt).mono (by
  rintro e w' ⟨v,rfl,b,k⟩;rw[xC]at k;exact⟨_,Z,b,k.nv⟩)
def yL(h:Fld P):(Y8 #[U 7,U 0,U 0,U 0])=fv (7:B P):=by
 have h:zh (Y8 #[U 7,U 0,U 0,U 0]) (7:B P).val:=by
  have k:(7:B P).val=7%P:=rfl;rw[k,YL h.p7];exact Four.mk (a:=7) (b:=0) (c:=0) (d:=0) dC dC dC dC Z
 exact h.nv
def xB:([U 0,U 0,U 0,U 0]:H Yq)=ws (0:B P):=by
 have h:=lW (P:=P);unfold nv at h;injection h with h
 exact congrArg yu.toList h
def iU:(Y8 #[U 0,U 0,U 0,U 0,U 0,U 0,U 0,U 0])=pv (0:B P) 0:=by
 rw[pv,<-xB];rfl
def ON:(Y8 #[U 0,U 0,U 0,U 0,U 0,U 0,U 0,U 0,U 0,U 0,U 0,U 0])=rv (0:B P) 0 0:=by
 rw[rv,<-xB];rfl
def Lm{x:B P}(h:Fld P):Gives 185 #[gv0,fv x] (fv (inv x)):=λw =>
 (wR 4294968273 0 0 P _ x.val h.gap h.p2 (h.four x) w).mono (by
  rintro e w' ⟨v,rfl,b,k⟩;exact⟨_,Z,b,k.nv⟩)
omit [NeZero P] in
theorem Gives.e{f:ak}{args:yu Yq}{x c:Fin P}(h:Gives f args (fv x))(e:c=x):Gives f args (fv c):=e ▸ h
omit [NeZero P] in
theorem Gives.e3{x y z a b c:Fin P}(h:Gives f args (rv x y z))(e:a=x)(e':b=y)(k:c=z):Gives f args (rv a b c):=e ▸ e' ▸ k ▸ h
def eqW{a b c d p q r s:Y}:(binOp .eql 183 (.agg #[U a,U b,U c,U d]) (.agg #[U p,U q,U r,U s])).run prog w=.ok (.bool (decide (a=p/\b=q/\c=r/\d=s))) w:=by
 go_simp;by_cases k:a=p<;>by_cases h1:b=q<;>by_cases f:c=r<;>by_cases e:d=s<;>simp[k,h1,f,e]
def uJ(b:m<zl)(k:n<zl):(m%2^64=n%2^64/\m/2^64%2^64=n/2^64%2^64/\m/2^128%2^64=n/2^128%2^64/\m/2^192%2^64=n/2^192%2^64)↔m=n:=by
 constructor
 .rintro⟨c,h1,e,d⟩;unfold zl at b k;omega
 rintro rfl;exact⟨Z,Z,Z,Z⟩
def eqC(h:Fld P)(x y:B P)(w:Yp):(binOp .eql 183 (fv x) (fv y)).run prog w=.ok (.bool (decide (x=y))) w:=by
 refine(eqW).trans ?_;have k:=uJ (h.top x) (h.top y);simp only[Y.ofNat_inj,k,<-yEP]
def I7(h:Fld P){x y:B P}(e:x=y)(w:Yp):(binOp .eql 183 (fv x) (fv y)).run prog w=.ok tZ w:=by rw[eqC h,decide_eq_true e]
def NI(h:Fld P){x y:B P}(e:¬x=y)(w:Yp):(binOp .eql 183 (fv x) (fv y)).run prog w=.ok fZ w:=by rw[eqC h,decide_eq_false e]
def WE{a d f c' l e:I}:(binOp .eql 93 (.agg #[U a,U b,U c,U d,U f,U g,U c',U l]) (.agg #[U p,U q,U r,U s,U j,U e,U m,U i])).run prog w=.ok (.bool (decide (a=p/\b=q/\c=r/\d=s) && decide (f=j/\g=e/\c'=m/\l=i))) w:=by
 go_simp;rw[I6 9997,Zp];by_cases h1:a=p/\b=q/\c=r/\d=s
 .rw[decide_eq_true h1];simp only[zk.true_eq_false,if_false];rw[I6 9997,Zp];by_cases k:f=j/\g=e/\c'=m/\l=i
  .rw[decide_eq_true k];simp[h1.1,h1.2.1,h1.2.2.1,h1.2.2.2,k.1,k.2.1,k.2.2.1,k.2.2.2]
  rw[decide_eq_false k];simp only[if_true,Zp];have n:(decide (f=j) && (decide (g=e) && (decide (c'=m) && decide (l=i))))=D:=by simpa using k
  rw[n,zk.and_false]
 rw[decide_eq_false h1];simp only[if_true,Zp];have n:(decide (a=p) && (decide (b=q) && (decide (c=r) && decide (d=s))))=D:=by simpa using h1
 rw[n,zk.false_and]
def eqPt(h:Fld P)(x y z t:B P)(w:Yp):(binOp .eql 93 (pv x y) (pv z t)).run prog w=.ok (.bool (decide (x=z/\y=t))) w:=by
 refine(WE).trans ?_;simp only[uJ (h.top x) (h.top z),uJ (h.top y) (h.top t),<-yEP,zk.decide_and]
def NH(h:Fld P){x y z t:B P}(e:x=z/\y=t)(w:Yp):(binOp .eql 93 (pv x y) (pv z t)).run prog w=.ok tZ w:=by rw[eqPt h,decide_eq_true e]
def G3(h:Fld P){x y z t:B P}(e:¬(x=z/\y=t))(w:Yp):(binOp .eql 93 (pv x y) (pv z t)).run prog w=.ok fZ w:=by rw[eqPt h,decide_eq_false e]
def aO:yZ 183:=yQ
def aJ:gZ 183 4:=gQ
def u85:yZ 47:=yQ
def i85:gZ 47 4:=gQ
def jL:yZ 185:=yQ
def i117:gZ 185 12:=gQ
def jM:yZ 93:=yQ
def i109:gZ 93 8:=gQ
def u79:yZ 120:=yQ
def i79:gZ 120 4:=gQ
def aU(C:Fld P)(x y:B P):Gives 179 #[(fv x),(fv y)] (fv (x*y)):=by
 intro w;let⟨c1,k⟩:∃c,c=x*y:=⟨_,Z⟩
 go_enter func179,ntmps179;refine RG.M.enter [(0,.v (fv x)),(1,.v (fv y))] 9 kR λa0 b=>?_
 refine Yt <| b.T [.m 0,.m 1,.m 2] [(0,ws x),(1,ws y),(2,RG.z 4)] [] [2,3,4] ⟨mk 0 183,mk 1 183,mk 2 183,yx⟩ λi f j n m e=>?_
 refine Yt <| e.D [.c gv0,.x (fv x),.x (fv y),.c (fv c1),.u 2] [] [(2,4,ws c1)] [4] ⟨cl bN,ld aO aJ,ld aO aJ,cl ((JV C).e k),RG.pt aJ,yx⟩ λg l d=>?_
 exact Zr (d.rr 2 Z aO aJ)
def Jw(C:Fld P)(x y:B P):Gives 181 #[(fv x),(fv y)] (fv (x+y)):=by
 intro w;let⟨c1,k⟩:∃c,c=x+y:=⟨_,Z⟩
 go_enter func181,ntmps181;refine RG.M.enter [(0,.v (fv x)),(1,.v (fv y))] 9 kR λa0 b=>?_
 refine Yt <| b.T [.m 0,.m 1,.m 2] [(0,ws x),(1,ws y),(2,RG.z 4)] [] [2,3,4] ⟨mk 0 183,mk 1 183,mk 2 183,yx⟩ λi f j n m e=>?_
 refine Yt <| e.D [.c gv0,.x (fv x),.x (fv y),.c (fv c1),.u 2] [] [(2,4,ws c1)] [4] ⟨cl bN,ld aO aJ,ld aO aJ,cl ((Vp C).e k),RG.pt aJ,yx⟩ λg l d=>?_
 exact Zr (d.rr 2 Z aO aJ)
def eX(C:Fld P)(x y:B P):Gives 182 #[(fv x),(fv y)] (fv (x-y)):=by
 intro w;let⟨c1,k⟩:∃c,c=x-y:=⟨_,Z⟩
 go_enter func182,ntmps182;refine RG.M.enter [(0,.v (fv x)),(1,.v (fv y))] 9 kR λa0 b=>?_
 refine Yt <| b.T [.m 0,.m 1,.m 2] [(0,ws x),(1,ws y),(2,RG.z 4)] [] [2,3,4] ⟨mk 0 183,mk 1 183,mk 2 183,yx⟩ λi f j n m e=>?_
 refine Yt <| e.D [.c gv0,.x (fv x),.x (fv y),.c (fv c1),.u 2] [] [(2,4,ws c1)] [4] ⟨cl bN,ld aO aJ,ld aO aJ,cl ((C5 C).e k),RG.pt aJ,yx⟩ λg l d=>?_
 exact Zr (d.rr 2 Z aO aJ)
def xR(C:Fld P)(x:B P):Gives 187 #[(fv x)] (fv x):=by
 intro w;go_enter func187,ntmps187;refine RG.M.enter [(0,.v (fv x))] 5 kR λa0 k=>?_
 refine Yt <| k.T [.m 0,.m 1] [(0,ws x),(1,RG.z 4)] [] [1,2] ⟨mk 0 47,mk 1 183,yx⟩ λf d j i c=>?_
 refine Yt <| c.T [.x (fv x),.c (fv x),.u 1] [] [(1,2,ws x)] [2] ⟨ld u85 i85,cl (Uy C (x:=x)),RG.pt aJ,yx⟩ λe g b=>?_
 exact Zr (b.rr 1 Z aO aJ)
def H9(C:Fld P)(x:B P):Gives 186 #[(fv x)] (fv x):=by
 intro w;go_enter func186,ntmps186;refine RG.M.enter [(0,.v (fv x))] 5 kR λa0 k=>?_
 refine Yt <| k.T [.m 0,.m 1] [(0,ws x),(1,RG.z 4)] [] [1,2] ⟨mk 0 183,mk 1 47,yx⟩ λf d j i c=>?_
 refine Yt <| c.T [.x (fv x),.c (fv x),.u 1] [] [(1,2,ws x)] [2] ⟨ld aO aJ,cl (MU C (x:=x)),RG.pt i85,yx⟩ λe g b=>?_
 exact Zr (b.rr 1 Z u85 i85)
def gK(C:Fld P)(x:B P):Gives 180 #[(fv x)] (fv (dbl x)):=by
 intro w;let⟨c1,k⟩:∃c,c=x+x:=⟨_,Z⟩
 go_enter func180,ntmps180;refine RG.M.enter [(0,.v (fv x))] 6 kR λa0 b=>?_
 refine Yt <| b.T [.m 0,.m 1] [(0,ws x),(1,RG.z 4)] [] [1,2] ⟨mk 0 183,mk 1 183,yx⟩ λi f m l e=>?_
 refine Yt <| e.T [.x (fv x),.x (fv x),.c (fv c1),.u 1] [] [(1,3,ws c1)] [2] ⟨ld aO aJ,ld aO aJ,cl ((Jw C x x).e k),RG.pt aJ,yx⟩ λg j d=>?_
 exact Zr (d.rr 1 Z aO aJ)
def Ih(C:Fld P)(x y z:B P):Gives 108 #[(rv x y z)] (rv (twX x y) (twY x y) (twZ y z)):=by
 intro w;let⟨c1,W⟩:∃c,c=x*x:=⟨_,Z⟩
 let⟨c2,N⟩:∃c,c=y*y:=⟨_,Z⟩
 let⟨c3,T⟩:∃c,c=x*c2:=⟨_,Z⟩
 let⟨O,h0⟩:∃c,c=dbl c3:=⟨_,Z⟩
 let⟨e,X⟩:∃c,c=dbl O:=⟨_,Z⟩
 let⟨V,h2⟩:∃c,c=dbl c1:=⟨_,Z⟩
 let⟨d,h3⟩:∃c,c=V+c1:=⟨_,Z⟩
 let⟨L,M⟩:∃c,c=d*d:=⟨_,Z⟩
 let⟨Q,h4⟩:∃c,c=dbl e:=⟨_,Z⟩
 let⟨k,t⟩:∃c,c=L-Q:=⟨_,Z⟩
 let⟨g,s⟩:∃c,c=e-k:=⟨_,Z⟩
 let⟨i,p⟩:∃c,c=d*g:=⟨_,Z⟩
 let⟨m,A⟩:∃c,c=c2*c2:=⟨_,Z⟩
 let⟨j,K⟩:∃c,c=dbl m:=⟨_,Z⟩
 let⟨n,u⟩:∃c,c=dbl j:=⟨_,Z⟩
 let⟨l,r⟩:∃c,c=dbl n:=⟨_,Z⟩
 let⟨b,q⟩:∃c,c=i-l:=⟨_,Z⟩
 let⟨o,v⟩:∃c,c=y*z:=⟨_,Z⟩
 let⟨f,a⟩:∃c,c=dbl o:=⟨_,Z⟩
 go_enter func108,ntmps108;refine RG.M.enter [(0,.v (rv x y z))] 56 kR λa0 M0=>?_
 refine Yt <| M0.T [.m 0,.m 1] [(0,ws x++(ws y++(ws z))),(1,RG.z 12)] [] [1,2] ⟨mk 0 185,mk 1 185,yx⟩ λj1 i1 a1 w1 M1=>?_
 refine Yt <| M1.D [.s (.p 0 0),.x (fv x),.s (.p 0 0),.x (fv x),.c (fv c1),.s (.p 0 4),.x (fv y),.s (.p 0 4),.x (fv y),.c (fv c2),.m 2,.m 3,.u 2,.u 3] [(10,RG.z 4),(11,RG.z 4)] [(2,12,ws c1),(3,13,ws c2)] [1,2,3,4] ⟨st,ld aO aJ,st,ld aO aJ,cl ((aU C x x).e W),st,ld aO aJ,st,ld aO aJ,cl ((aU C y y).e N),mk 2 183,mk 3 183,RG.pt aJ,RG.pt aJ,yx⟩ λj2 i2 a2 w2 M2=>?_
 refine Yt <| M2.T [.s (.p 0 0),.x (fv x),.x (fv c2),.c (fv c3),.c (fv O),.c (fv e),.m 4,.u 4] [(6,RG.z 4)] [(4,7,ws e)] [1,2,3,4,5] ⟨st,ld aO aJ,ld aO aJ,cl ((aU C x c2).e T),cl ((gK C c3).e h0),cl ((gK C O).e X),mk 4 183,RG.pt aJ,yx⟩ λj3 a3 w3 M3=>?_
 refine Yt <| M3.D [.x (fv c1),.c (fv V),.x (fv c1),.c (fv d),.m 5,.u 5] [(4,RG.z 4)] [(5,5,ws d)] [1,2,4,5,6] ⟨ld aO aJ,cl ((gK C c1).e h2),ld aO aJ,cl ((Jw C V c1).e h3),mk 5 183,RG.pt aJ,yx⟩ λj4 a4 w4 M4=>?_
 refine Yt <| M4.D [.x (fv d),.x (fv d),.c (fv L),.x (fv e),.c (fv Q),.c (fv k),.m 6,.u 6] [(6,RG.z 4)] [(6,7,ws k)] [1,2,4,5,6,7] ⟨ld aO aJ,ld aO aJ,cl ((aU C d d).e M),ld aO aJ,cl ((gK C e).e h4),cl ((eX C L Q).e t),mk 6 183,RG.pt aJ,yx⟩ λj5 a5 w5 M5=>?_
 refine Yt <| M5.D [.x (fv d),.x (fv e),.x (fv k),.c (fv g),.c (fv i),.x (fv c2),.x (fv c2),.c (fv m),.c (fv j),.c (fv n),.c (fv l),.c (fv b),.m 7,.u 7] [(12,RG.z 4)] [(7,13,ws b)] [1,2,7,8] ⟨ld aO aJ,ld aO aJ,ld aO aJ,cl ((eX C e k).e s),cl ((aU C d g).e p),ld aO aJ,ld aO aJ,cl ((aU C c2 c2).e A),cl ((gK C m).e K),cl ((gK C j).e u),cl ((gK C n).e r),cl ((eX C i l).e q),mk 7 183,RG.pt aJ,yx⟩ λj6 a6 w6 M6=>?_
 refine Yt <| M6.D [.x (fv k),.x (fv b),.s (.p 0 4),.x (fv y),.s (.p 0 8),.x (fv z),.c (fv o),.c (fv f),.x (rv k b f),.u 1] [] [(1,9,ws k++(ws b++(ws f)))] [2] ⟨ld aO aJ,ld aO aJ,st,ld aO aJ,st,ld aO aJ,cl ((aU C y z).e v),cl ((gK C o).e a),st,RG.pt i117,yx⟩ λa7 w7 M7=>?_
 exact Zr (M7.rr 1 Z jL i117)
def GA(C:Fld P)(x y z:B P):Gives 184 #[(rv x y z)] (rv x (0-y) z):=by
 intro w;let⟨c1,k⟩:∃c,c=(0:B P)-y:=⟨_,Z⟩
 go_enter func184,ntmps184;refine RG.M.enter [(0,.v (rv x y z))] 12 kR λa0 b=>?_
 refine Yt <| b.T [.m 0,.m 1] [(0,ws x++(ws y++(ws z))),(1,RG.z 12)] [] [1,2] ⟨mk 0 185,mk 1 185,yx⟩ λi f m l e=>?_
 refine Yt <| e.D [.s (.p 0 0),.x (fv x),.x (fv (0:B P)),.s (.p 0 4),.x (fv y),.c (fv c1),.s (.p 0 8),.x (fv z),.x (rv x c1 z),.u 1] [] [(1,9,ws x++(ws c1++(ws z)))] [2] ⟨st,ld aO aJ,se (lW (P:=P)),st,ld aO aJ,cl ((eX C (0:B P) y).e k),st,ld aO aJ,st,RG.pt i117,yx⟩ λg j d=>?_
 exact Zr (d.rr 1 Z jL i117)
def PP(C:Fld P)(x y z:B P):Gives 111 #[(rv x y z)] (pv (x*(inv z*inv z)) (y*(inv z*inv z)*inv z)):=by
 intro w;let⟨c1,g⟩:∃c,c=inv z:=⟨_,Z⟩
 let⟨c2,d⟩:∃c,c=c1*c1:=⟨_,Z⟩
 let⟨b,f⟩:∃c,c=x*c2:=⟨_,Z⟩
 let⟨e,j⟩:∃c,c=y*c2:=⟨_,Z⟩
 let⟨k,i⟩:∃c,c=e*c1:=⟨_,Z⟩
 go_enter func111,ntmps111;refine RG.M.enter [(0,.v (rv x y z))] 27 kR λa0 l=>?_
 refine Yt <| l.T [.m 0,.m 1] [(0,ws x++(ws y++(ws z))),(1,RG.z 8)] [] [1,2] ⟨mk 0 185,mk 1 93,yx⟩ λL K s a n=>?_
 refine Yt <| n.D [.c gv0,.s (.p 0 8),.x (fv z),.c (fv z),.c (fv c1),.c (fv c1),.m 2,.u 2] [(6,RG.z 4)] [(2,7,ws c1)] [1,2,3] ⟨cl bN,st,ld aO aJ,cl (H9 C z),cl ((Lm C).e g),cl (xR C c1),mk 2 183,RG.pt aJ,yx⟩ λA t r m=>?_
 refine Yt <| m.T [.x (fv c1),.x (fv c1),.c (fv c2),.m 3,.u 3] [(3,RG.z 4)] [(3,4,ws c2)] [1,2,3,4] ⟨ld aO aJ,ld aO aJ,cl ((aU C c1 c1).e d),mk 3 183,RG.pt aJ,yx⟩ λu M N o=>?_
 refine Yt <| o.D [.s (.p 0 0),.x (fv x),.x (fv c2),.c (fv b),.c (fv b),.s (.p 0 4),.x (fv y),.x (fv c2),.c (fv e),.x (fv c1),.c (fv k),.c (fv k),.x (pv b k),.u 1] [] [(1,13,ws b++(ws k))] [2] ⟨st,ld aO aJ,ld aO aJ,cl ((aU C x c2).e f),cl (H9 C b),st,ld aO aJ,ld aO aJ,cl ((aU C y c2).e j),ld aO aJ,cl ((aU C e c1).e i),cl (H9 C k),st,RG.pt i109,yx⟩ λv q p=>?_
 exact Zr (p.rr 1 Z jM i109)
def wI(C:Fld P)(x y z:B P)(b:z=0):Gives 183 #[(rv x y z)] tZ:=by
 intro w;go_enter func183,ntmps183;refine RG.M.enter [(0,.v (rv x y z))] 7 kR λa0 k=>?_
 refine Yt <| k.T [.m 0,.x fZ] [(0,ws x++(ws y++(ws z)))] [] [1,2] ⟨mk 0 185,st,yx⟩ λf j i d=>?_
 refine Yt <| d.U [.s (.p 0 8),.x (fv z),.x (fv (0:B P)),.x tZ,.x tZ] [2] ⟨st,ld aO aJ,se (lW (P:=P)),aQ Z .eql 183 Z Z sx sx (λw=>kR) (I7 C b),st,yx⟩ λe g c=>?_
 exact Zr c.rt
def wJ(C:Fld P)(x y z:B P)(b:¬z=0):Gives 183 #[(rv x y z)] fZ:=by
 intro w;go_enter func183,ntmps183;refine RG.M.enter [(0,.v (rv x y z))] 7 kR λa0 k=>?_
 refine Yt <| k.T [.m 0,.x fZ] [(0,ws x++(ws y++(ws z)))] [] [1,2] ⟨mk 0 185,st,yx⟩ λf j i d=>?_
 refine Yt <| d.U [.s (.p 0 8),.x (fv z),.x (fv (0:B P)),.x fZ,.x fZ] [2] ⟨st,ld aO aJ,se (lW (P:=P)),aQ Z .eql 183 Z Z sx sx (λw=>kR) (NI C b),st,yx⟩ λe g c=>?_
 exact Zr c.rt
def JO(C:Fld P)(x y:B P)(c:x=0/\y=0):Gives 178 #[(pv x y)] (rv (0:B P) 0 0):=by
 intro w;go_enter func178,ntmps178;refine RG.M.enter [(0,.v (pv x y))] 16 kR λa0 b=>?_
 refine Yt <| b.T [.m 0,.m 1] [(0,ws x++(ws y)),(1,RG.z 12)] [] [1,2] ⟨mk 0 93,mk 1 185,yx⟩ λi f n m e=>?_
 refine Yt <| Yt <| e.U [.x (pv x y),.x (pv (0:B P) (0:B P)),.x tZ] [2,5] ⟨ld jM i109,se (iU (P:=P)),aQ Z .eql 93 Z Z sx sx (λw=>kR) (NH C c),yx⟩ λg l k=>Y5 k.ev<|Yt <| k.T [.x (rv (0:B P) (0:B P) (0:B P)),.u 1] [] [(1,1,ws (0:B P)++(ws (0:B P)++(ws (0:B P))))] [2] ⟨se (ON (P:=P)),RG.pt i117,yx⟩ λj o d=>?_
 exact Zr (d.rr 1 Z jL i117)
def JP(C:Fld P)(x y:B P)(c:¬(x=0/\y=0)):Gives 178 #[(pv x y)] (rv x y 1):=by
 intro w;go_enter func178,ntmps178;refine RG.M.enter [(0,.v (pv x y))] 16 kR λa0 b=>?_
 refine Yt <| b.T [.m 0,.m 1] [(0,ws x++(ws y)),(1,RG.z 12)] [] [1,2] ⟨mk 0 93,mk 1 185,yx⟩ λi f n m e=>?_
 refine Yt <| Yt <| e.U [.x (pv x y),.x (pv (0:B P) (0:B P)),.x fZ] [1,2,5] ⟨ld jM i109,se (iU (P:=P)),aQ Z .eql 93 Z Z sx sx (λw=>kR) (G3 C c),yx⟩ λg l k=>YY k.ev<|ZK<|Yt <| k.D [.s (.p 0 0),.x (fv x),.c (fv x),.s (.p 0 4),.x (fv y),.c (fv y),.x (fv (1:B P)),.c (fv (1:B P)),.x (rv x y (1:B P)),.u 1] [] [(1,9,ws x++(ws y++(ws (1:B P))))] [2] ⟨st,ld u85 i85,cl (xR C x),st,ld u85 i85,cl (xR C y),se (CE C),cl (xR C (1:B P)),st,RG.pt i117,yx⟩ λj o d=>?_
 exact Zr (d.rr 1 Z jL i117)
def JW(C:Fld P)(f e k i j b:B P)(R:Yq)(ha:k=0->R=rv i j b)(hb:¬k=0->b=0->R=rv f e k)(hc:¬k=0->¬b=0->cS f b=cS i k/\eK e b=eK j k->R=rv (twX f e) (twY f e) (twZ e k))(hd:¬k=0->¬b=0->¬(cS f b=cS i k/\eK e b=eK j k)->R=rv (plX (cS f b) (eK e b) (cS i k) (eK j k)) (plY (cS f b) (eK e b) (cS i k) (eK j k)) (plZ k b (cS f b) (cS i k))):Gives 109 #[(rv f e k),(rv i j b)] R:=by
 intro w;obtain⟨c1,hz⟩:∃c,c=k*k:=⟨_,Z⟩
 obtain⟨c2,hi⟩:∃c,c=b*b:=⟨_,Z⟩
 obtain⟨p,hw⟩:∃c,c=f*c2:=⟨_,Z⟩
 obtain⟨t,ht⟩:∃c,c=i*c1:=⟨_,Z⟩
 obtain⟨c5,hr⟩:∃c,c=e*c2:=⟨_,Z⟩
 obtain⟨s,hn⟩:∃c,c=c5*b:=⟨_,Z⟩
 obtain⟨c7,hm⟩:∃c,c=j*c1:=⟨_,Z⟩
 obtain⟨y,hu⟩:∃c,c=c7*k:=⟨_,Z⟩
 go_enter func109,ntmps109;refine RG.M.enter [(0,.v (rv f e k)),(1,.v (rv i j b))] 108 kR λa0 M0=>?_
 refine Yt <| M0.T [.m 0,.m 1,.m 2] [(0,ws f++(ws e++(ws k))),(1,ws i++(ws j++(ws b))),(2,RG.z 12)] [] [2,3,4] ⟨mk 0 185,mk 1 185,mk 2 185,yx⟩ λj1 i1 m1 a1 w1 M1=>?_
 repeat refine Yt ?_
 by_cases q:k=0
 .obtain rfl:=ha q;refine M1.U [.x (rv f e k),.c (.bool J)] [3,4,19] ⟨ld jL i117,cl (wI C f e k q),yx⟩ λa2 w2 W=>?_
  refine Y5 W.ev<|Yt <| W.T [.x (rv i j b),.u 2] [] [(2,1,ws i++(ws j++(ws b)))] [4] ⟨ld jL i117,RG.pt i117,yx⟩ λa3 w3 T=>?_
  exact Zr (T.rr 2 Z jL i117)
 refine M1.U [.x (rv f e k),.c (.bool D)] [2,3,4,19] ⟨ld jL i117,cl (wJ C f e k q),yx⟩ λa2 w2 W=>?_
 refine YY W.ev<|ZK ?_
 repeat refine Yt ?_
 by_cases x:b=0
 .obtain rfl:=hb q x;refine W.U [.x (rv i j b),.c (.bool J)] [2,4,22] ⟨ld jL i117,cl (wI C i j b x),yx⟩ λa3 w3 T=>?_
  refine Y5 T.ev<|Yt <| T.T [.x (rv f e k),.u 2] [] [(2,1,ws f++(ws e++(ws k)))] [4] ⟨ld jL i117,RG.pt i117,yx⟩ λa4 w4 M4=>?_
  exact Zr (M4.rr 2 Z jL i117)
 refine W.U [.x (rv i j b),.c (.bool D)] [2,3,4,22] ⟨ld jL i117,cl (wJ C i j b x),yx⟩ λa3 w3 T=>?_
 refine YY T.ev<|ZK<|Yt <| T.D [.s (.p 0 8),.x (fv k),.s (.p 0 8),.x (fv k),.c (fv c1),.s (.p 1 8),.x (fv b),.s (.p 1 8),.x (fv b),.c (fv c2),.m 3,.m 4,.u 3,.u 4] [(10,RG.z 4),(11,RG.z 4)] [(3,12,ws c1),(4,13,ws c2)] [2,3,4,5,6] ⟨st,ld aO aJ,st,ld aO aJ,cl ((aU C k k).e hz),st,ld aO aJ,st,ld aO aJ,cl ((aU C b b).e hi),mk 3 183,mk 4 183,RG.pt aJ,RG.pt aJ,yx⟩ λj4 i4 a4 w4 M4=>?_
 refine Yt <| M4.D [.s (.p 0 0),.x (fv f),.x (fv c2),.c (fv p),.s (.p 1 0),.x (fv i),.x (fv c1),.c (fv t),.m 5,.m 6,.u 5,.u 6] [(8,RG.z 4),(9,RG.z 4)] [(5,10,ws p),(6,11,ws t)] [2,3,4,5,6,7,8] ⟨st,ld aO aJ,ld aO aJ,cl ((aU C f c2).e hw),st,ld aO aJ,ld aO aJ,cl ((aU C i c1).e ht),mk 5 183,mk 6 183,RG.pt aJ,RG.pt aJ,yx⟩ λj5 i5 a5 w5 M5=>?_
 refine Yt <| M5.D [.s (.p 0 4),.x (fv e),.x (fv c2),.c (fv c5),.s (.p 1 8),.x (fv b),.c (fv s),.s (.p 1 4),.x (fv j),.x (fv c1),.c (fv c7),.s (.p 0 8),.x (fv k),.c (fv y),.m 7,.m 8,.u 7,.u 8] [(14,RG.z 4),(15,RG.z 4)] [(7,16,ws s),(8,17,ws y)] [2,3,4,7,8,9,10] ⟨st,ld aO aJ,ld aO aJ,cl ((aU C e c2).e hr),st,ld aO aJ,cl ((aU C c5 b).e hn),st,ld aO aJ,ld aO aJ,cl ((aU C j c1).e hm),st,ld aO aJ,cl ((aU C c7 k).e hu),mk 7 183,mk 8 183,RG.pt aJ,RG.pt aJ,yx⟩ λj6 i6 a6 w6 M6=>?_
 repeat refine Yt ?_
 by_cases a:cS f b=cS i k/\eK e b=eK j k
 .have hR:=hc q x a;obtain⟨hx,hy⟩:=a;obtain⟨m,Q⟩:∃c,c=twX f e:=⟨_,Z⟩
  obtain⟨d,v⟩:∃c,c=twY f e:=⟨_,Z⟩
  obtain⟨g,u⟩:∃c,c=twZ e k:=⟨_,Z⟩
  obtain rfl:R=rv m d g:=hR.trans (by subst_vars;rfl);refine M6.U [.x (fv p),.x (fv t),.x (.bool J),.x (.bool J),.x (fv s),.x (fv y),.x (.bool J),.x (.bool J)] [2,4,63] ⟨ld aO aJ,ld aO aJ,aQ Z .eql (T:=183) 183 (t1:=56) (t2:=57) (v1:=(fv p)) (v2:=(fv t)) (v:=(.bool J)) Z Z sx sx (λw=>kR) (I7 C (by subst_vars;exact hx)),st,ld aO aJ,ld aO aJ,aQ Z .eql (T:=183) 183 (t1:=60) (t2:=61) (v1:=(fv s)) (v2:=(fv y)) (v:=(.bool J)) Z Z sx sx (λw=>kR) (I7 C (by subst_vars;exact hy)),st,yx⟩ λa7 w7 M7=>?_
  refine Y5 M7.ev<|Yt <| M7.T [.x (rv f e k),.c (rv m d g),.u 2] [] [(2,2,ws m++(ws d++(ws g)))] [4] ⟨ld jL i117,cl ((Ih C f e k).e3 Q v u),RG.pt i117,yx⟩ λa8 w8 M8=>?_
  exact Zr (M8.rr 2 Z jL i117)
 have hR:=hd q x a;obtain⟨m,Q⟩:∃c,c=t-p:=⟨_,Z⟩
 obtain⟨d,v⟩:∃c,c=y-s:=⟨_,Z⟩
 obtain⟨g,u⟩:∃c,c=m*m:=⟨_,Z⟩
 obtain⟨n,h7⟩:∃c,c=g*m:=⟨_,Z⟩
 obtain⟨o,h3⟩:∃c,c=g*p:=⟨_,Z⟩
 obtain⟨L,hg⟩:∃c,c=d*d:=⟨_,Z⟩
 obtain⟨V,h2⟩:∃c,c=L-n:=⟨_,Z⟩
 obtain⟨A,h8⟩:∃c,c=dbl o:=⟨_,Z⟩
 obtain⟨l,X⟩:∃c,c=V-A:=⟨_,Z⟩
 obtain⟨M,he⟩:∃c,c=o-l:=⟨_,Z⟩
 obtain⟨N,h0⟩:∃c,c=d*M:=⟨_,Z⟩
 obtain⟨O,h6⟩:∃c,c=n*s:=⟨_,Z⟩
 obtain⟨r,h5⟩:∃c,c=N-O:=⟨_,Z⟩
 obtain⟨K,h4⟩:∃c,c=k*b:=⟨_,Z⟩
 obtain⟨z,h9⟩:∃c,c=K*m:=⟨_,Z⟩
 obtain rfl:R=rv l r z:=hR.trans (by subst_vars;rfl);by_cases hx:cS f b=cS i k
 case' pos =>
  have hy:¬eK e b=eK j k:=λh=>a ⟨hx,h⟩
  refine M6.U [.x (fv p),.x (fv t),.x (.bool J),.x (.bool J),.x (fv s),.x (fv y),.x (.bool D),.x (.bool D)] [2,3,4,7,8,9,10,63] ⟨ld aO aJ,ld aO aJ,aQ Z .eql (T:=183) 183 (t1:=56) (t2:=57) (v1:=(fv p)) (v2:=(fv t)) (v:=(.bool J)) Z Z sx sx (λw=>kR) (I7 C (by subst_vars;exact hx)),st,ld aO aJ,ld aO aJ,aQ Z .eql (T:=183) 183 (t1:=60) (t2:=61) (v1:=(fv s)) (v2:=(fv y)) (v:=(.bool D)) Z Z sx sx (λw=>kR) (NI C (by subst_vars;exact hy)),st,yx⟩ ?_
 case' neg =>
  refine M6.u [.x 56 [] (fv p),.x 57 [] (fv t),.x 58 [(56,0),(57,1)] (.bool D),.x 59 [(58,2)] (.bool D),⟨F 60,[],.v ae,.pass⟩,⟨F 61,[],.v ae,.pass⟩,⟨F 62,[],.v ae,.pass⟩,.x 63 [(59,3),(62,6)] (.bool D)] [(2,.p 0 0),(3,.p 1 0),(4,.p 2 0),(7,.p 5 0),(8,.p 6 0),(9,.p 7 0),(10,.p 8 0),(63,.v (.bool D))] ⟨ld aO aJ,ld aO aJ,aQ Z .eql (T:=183) 183 (t1:=56) (t2:=57) (v1:=(fv p)) (v2:=(fv t)) (v:=(.bool D)) Z Z sx sx (λw=>kR) (NI C (by subst_vars;exact hx)),st,cD Z Z,cD Z Z,cD Z Z,st,yx⟩ ?_
 all_goals
  intro a7 w7 M7;refine YY M7.ev<|ZK<|Yt <| M7.D [.x (fv t),.x (fv p),.c (fv m),.x (fv y),.x (fv s),.c (fv d),.m 9,.m 10,.u 9,.u 10] [(6,RG.z 4),(7,RG.z 4)] [(9,8,ws m),(10,9,ws d)] [2,3,4,7,9,11,12] ⟨ld aO aJ,ld aO aJ,cl ((eX C t p).e Q),ld aO aJ,ld aO aJ,cl ((eX C y s).e v),mk 9 183,mk 10 183,RG.pt aJ,RG.pt aJ,yx⟩ λj8 i8 a8 w8 M8=>?_
  refine Yt <| M8.T [.x (fv m),.x (fv m),.c (fv g),.m 11,.u 11] [(3,RG.z 4)] [(11,4,ws g)] [2,3,4,7,9,11,12,13] ⟨ld aO aJ,ld aO aJ,cl ((aU C m m).e u),mk 11 183,RG.pt aJ,yx⟩ λj9 a9 w9 M9=>?_
  refine Yt <| M9.D [.x (fv g),.x (fv m),.c (fv n),.x (fv g),.x (fv p),.c (fv o),.m 12,.m 13,.u 12,.u 13] [(6,RG.z 4),(7,RG.z 4)] [(12,8,ws n),(13,9,ws o)] [2,3,4,9,11,12,14,15] ⟨ld aO aJ,ld aO aJ,cl ((aU C g m).e h7),ld aO aJ,ld aO aJ,cl ((aU C g p).e h3),mk 12 183,mk 13 183,RG.pt aJ,RG.pt aJ,yx⟩ λk7 k9 k0 kb hp=>?_
  refine Yt <| hp.D [.x (fv d),.x (fv d),.c (fv L),.x (fv n),.c (fv V),.x (fv o),.c (fv A),.c (fv l),.m 14,.u 14] [(8,RG.z 4)] [(14,9,ws l)] [2,3,4,9,11,12,14,15,16] ⟨ld aO aJ,ld aO aJ,cl ((aU C d d).e hg),ld aO aJ,cl ((eX C L n).e h2),ld aO aJ,cl ((gK C o).e h8),cl ((eX C V A).e X),mk 14 183,RG.pt aJ,yx⟩ λk8 ka k5 hq=>?_
  refine Yt <| hq.D [.x (fv d),.x (fv o),.x (fv l),.c (fv M),.c (fv N),.x (fv n),.x (fv s),.c (fv O),.c (fv r),.m 15,.u 15] [(9,RG.z 4)] [(15,10,ws r)] [2,3,4,11,16,17] ⟨ld aO aJ,ld aO aJ,ld aO aJ,cl ((eX C o l).e he),cl ((aU C d M).e h0),ld aO aJ,ld aO aJ,cl ((aU C n s).e h6),cl ((eX C N O).e h5),mk 15 183,RG.pt aJ,yx⟩ λk3 k1 k4 hk=>?_
  refine Yt <| hk.D [.x (fv l),.x (fv r),.s (.p 0 8),.x (fv k),.s (.p 1 8),.x (fv b),.c (fv K),.x (fv m),.c (fv z),.x (rv l r z),.u 2] [] [(2,10,ws l++(ws r++(ws z)))] [4] ⟨ld aO aJ,ld aO aJ,st,ld aO aJ,st,ld aO aJ,cl ((aU C k b).e h4),ld aO aJ,cl ((aU C K m).e h9),st,RG.pt i117,yx⟩ λk6 k2 hj=>?_
  exact Zr (hj.rr 2 Z jL i117)
abbrev T3(P:I):=B P × B P × B P
abbrev tv(t:T3 P):Yq:=rv t.1 t.2.1 t.2.2
abbrev tw(t:T3 P):H Yq:=ws t.1++(ws t.2.1++ws t.2.2)
def JacT(t:T3 P)(p:EC.Pt P):Prop:=Jac t.1 t.2.1 t.2.2 p/\On p
def twJ(t:T3 P):T3 P:=(twX t.1 t.2.1,twY t.1 t.2.1,twZ t.2.1 t.2.2)
def plJ(a b:T3 P):T3 P:=
 if a.2.2=0 then b else if b.2.2=0 then a else
 if cS a.1 b.2.2=cS b.1 a.2.2/\eK a.2.1 b.2.2=eK b.2.1 a.2.2 then twJ a else
 (plX (cS a.1 b.2.2) (eK a.2.1 b.2.2) (cS b.1 a.2.2) (eK b.2.1 a.2.2),plY (cS a.1 b.2.2) (eK a.2.1 b.2.2) (cS b.1 a.2.2) (eK b.2.1 a.2.2),plZ a.2.2 b.2.2 (cS a.1 b.2.2) (cS b.1 a.2.2))
def opJ(t:T3 P):T3 P:=(t.1,0-t.2.1,t.2.2)
def raJ(x y:B P):T3 P:=if x=0/\y=0 then(0,0,0) else(x,y,1)
def Q9(C:Fld P)(t:T3 P):Gives 108 #[tv t] (tv (twJ t)):=Ih C t.1 t.2.1 t.2.2
def Ru(C:Fld P)(a b:T3 P):Gives 109 #[tv a,tv b] (tv (plJ a b)):=by
 let⟨e,c,f⟩:=a
 let⟨i,d,g⟩:=b
 exact JW C e c f i d g _ (λh=>by unfold plJ;rw[zd h]) (λh1 k=>by unfold plJ;rw[zi h1,zd k]) (λh1 k h=>by unfold plJ;rw[zi h1,zi k,zd h];rfl) (λh1 k h=>by unfold plJ;rw[zi h1,zi k,zi h])
def VW(C:Fld P)(t:T3 P):Gives 184 #[tv t] (tv (opJ t)):=GA C t.1 t.2.1 t.2.2
def VH{x y:B P}(C:Fld P):Gives 178 #[pv x y] (tv (raJ x y)):=by
 unfold raJ;by_cases k:x=0/\y=0
 .rw[zd k];exact JO C x y k
 rw[zi k];exact JP C x y k
def VN(C:Fld P)(t:T3 P):Gives 111 #[tv t] (pv (t.1*(inv t.2.2*inv t.2.2)) (t.2.1*(inv t.2.2*inv t.2.2)*inv t.2.2)):=PP C t.1 t.2.1 t.2.2
def JacT.twice(C:Fld P){t:T3 P}{p:EC.Pt P}(h:JacT t p):JacT (twJ t) (EC.add p p):=⟨h.1.twice C.cur h.2,C.cur.on h.2 h.2⟩
def JacT.plus(C:Fld P){a b:T3 P}{p q:EC.Pt P}(h:JacT a p)(k:JacT b q):JacT (plJ a b) (EC.add p q):=by
 refine⟨?_,C.cur.on h.2 k.2⟩;let⟨l,n,i⟩:=a
 let⟨m,j,g⟩:=b
 unfold plJ;by_cases c:i=0
 .rw[zd c];obtain rfl:=h.1.zero C.cur c;exact k.1
 rw[zi c];by_cases d:g=0
 .rw[zd d];obtain rfl:=k.1.zero C.cur d;rw[bF];exact h.1
 rw[zi d];rcases h.1.plus C.cur h.2 k.1 k.2 c d with⟨f,e,e3⟩|⟨f,e⟩
 .rw[zd ⟨f,e⟩,e3];exact h.1.twice C.cur h.2
 rw[zi f];exact e
def JacT.neg{t:T3 P}{p:EC.Pt P}(h:JacT t p):JacT (opJ t) (neg p):=⟨h.1.neg,cJ h.2⟩
def Rq(C:Fld P){x y:B P}{p:EC.Pt P}(h:Pair x y p)(b:On p):JacT (raJ x y) p:=by
 refine⟨?_,b⟩;unfold raJ;by_cases k:x=0/\y=0
 .obtain rfl:=h.nothing C.cur b k;rw[zd k];rfl
 rw[zi k];exact h.jac C.cur k
def JacT.pair(C:Fld P){t:T3 P}{p:EC.Pt P}(h:JacT t p):Pair (t.1*(inv t.2.2*inv t.2.2)) (t.2.1*(inv t.2.2*inv t.2.2)*inv t.2.2) p:=h.1.pair C.cur
def JacT.none:JacT ((0,0,0):T3 P) .none:=⟨Z,jU⟩
namespace DG
def nE(d:I->Y):I->Y
 | 0=>0
 | k+1=>nE d k+d k*2^k
def upd(d:I->Y)(i:I)(v:Y):I->Y:=λj=>if j=i then v else d j
def Aq{d e:I->Y}:∀k,(∀j,j<k->d j=e j)->nE d k=nE e k
 | 0,_=>rfl
 | k+1,h=>by
  show nE d k+d k*2^k=nE e k+e k*2^k;rw[Aq k λj b=>h j S,h k S]
def Ap{i:I}{d:I->Y}(h:∀j,i<=j->d j=0):∀k,nE d (i+k)=nE d i
 | 0=>rfl
 | k+1=>by
  show nE d (i+k)+d (i+k)*2^(i+k)=_;rw[h (i+k) S,yDk,yDv,Ap h k]
def upd_same(d:I->Y)(i:I)(v:Y):upd d i v i=v:=zd Z
def jY{v:Y}(h:j≠i):upd d i v j=d j:=zi h
def NL{v:Y}(h:∀j,i<=j->d j=0)(k:I):nE (upd d i v) (i+1+k)=nE d i+v*2^i:=by
 rw[Ap (i:=(i+1)) (λj b=>by rw[jY S];exact h j S) k];show nE (upd d i v) i+upd d i v i*2^i=_;rw[upd_same,Aq i λj b=>jY S]
structure DI(n:I)(d:I->Y)(i c:I):Prop where
 hc:c<=1
 hz:∀j,i<=j->d j=0
 hw:∀j,257<=j->d j=0
 ho:∀j,d j=0\/(d j%2=1/\-15<=d j/\d j<=15)
 hs:(n:Y)=nE d i+((n/2^i+c:I):Y)*2^i
 he:257<=i->n/2^i+c=0
def DI.start(n:I):DI n (λ_=>0) 0 0:=by
 refine⟨dC,λ_ _=>rfl,λ_ _=>rfl,λ_=>Y3 Z,?_,λh=>S⟩;rw[gF,wD];show(n:Int)=0+((n+0:I):Int)*1;omega
def high(b:n<2^256)(k:256<=i):n/2^i=0:=
 pj (Yr b (ZU dC k))
def DI.skip(h:DI n d i c)(f:n<2^256)(l:i<257)(g:n/2^i%2=c):DI n d (i+1) c:=by
 have k:n/2^(i+1)=n/2^i/2:=by rw[Z5,yA3]
 refine⟨h.hc,λj m=>h.hz j S,h.hw,h.ho,?_,λe=>?_⟩
 .rw[h.hs];show _=nE d i+d i*2^i+_;rw[h.hz i (Ys _),yDk,yDv,k,show n/2^i+c=(n/2^i/2+c)*2 by have:=h.hc;omega];rw[show(2:Int)^(i+1)=2^i*2 by rw[yFt]];generalize (2:Int)^i=t;rw[py,yDQ,yDl (2:I) t];rfl
 have h1:i=256:=S;have b:n/2^i=0:=high f S;rw[k,b];rw[b]at g;omega
def DI.take(h:DI n d i c)(o:n<2^256)(s:i<257)(q:n/2^i%2≠c):
 DI n (upd d i (((n/2^i%32+c:I):Int)-32*(((n/2^i%32+c)/16:I):Int))) (i+5) ((n/2^i%32+c)/16):=by
 have k:n/2^(i+5)=n/2^i/32:=by rw[ox,yA3]
 have r:=h.hc;have b:(n/2^i%32+c)%2=1:=S;have f:n/2^i%32+c<32:=S;refine⟨S,λj e=>?_,λj e=>?_,λj=>?_,?_,λg=>?_⟩
 .rw[jY S];exact h.hz j S
 .rw[jY S];exact h.hw j e
 .by_cases e:j=i
  .subst e;rw[upd_same];right;omega
  rw[jY e];exact h.ho j
 .rw[show i+5=i+1+4 by omega,NL h.hz 4,show i+1+4=i+5 by omega,h.hs,Int.add_assoc]
  congr 1
  rw[k,Int.pow_add,show(2:Int)^5=32 by decide,<-yDl (32:Int),<-yDQ,<-yFE]
  congr 1
  omega
 have p:n/2^i<16:=by
  rw[I.div_lt_iff_lt_mul (oE dC)];refine Yr o ?_
  calc 2^256=16*2^252:=dK
   _<=16*2^i:=I.mul_le_mul (Ys _) (ZU dC S)
 rw[k];generalize n/2^i=m at p q b f⊢;rw[YL (show m<32 by omega)]at b⊢;have l:m+c<16:=S;rw[pj l,pj (show m<32 by omega)]
def DI.all(h:DI n d i c)(k:257<=i):(n:Int)=nE d 257:=by
 have h1:=h.hs;rw[h.he k,Zt,yDk,yDv]at h1;rw[h1,show i=257+(i-257) by omega,Ap h.hw]
def hor(d:I->Y):I->Y
 | 0=>0
 | k+1=>2*hor d k+d (256-k)
def IW(d:I->Y):∀k,k<=257->hor d k*2^(257-k)+nE d (257-k)=nE d 257
 | 0,_=>by show 0*_+_=_;rw[yDk,Y.zero_add]
 | k+1,hk=>by
  rw[<-IW d k S];show(2*hor d k+d (256-k))*2^(257-(k+1))+nE d (257-(k+1))=_;rw[show 257-(k+1)=256-k by omega,show 257-k=(256-k)+1 by omega];show _=hor d k*2^(256-k+1)+(nE d (256-k)+d (256-k)*2^(256-k));rw[yFt];generalize (2:Y)^(256-k)=t;generalize hor d k=a;rw[yFE,yDl t 2,<-yDQ,yDl a 2];omega
def Ql(h:DI n d i c)(k:257<=i):hor d 257=(n:Y):=by
 have h1:=IW d 257 (Ys _);rw[oF]at h1;rw[h.all k,<-h1];show hor d 257=hor d 257*1+0;omega
end DG
def Oh(k o:I)(c:i<257)(w:Yp):(ZW 188 (oZ k o) (iZ i)).run prog w=.ok (oZ k (o+i)) w:=by
 have h1:¬(i:Y)<0:=S;have b:(i:Y)<257:=S;go_simp
def UZ{k:I}(b:i<257):(ZW 188 (jZ k) (iZ i)).run prog w=.ok (oZ k i) w:=by
 rw[Oh k 0 b,Yv]
def Jn{k:I}(c:i<8):(ZW 186 (oZ k o) (iZ i)).run prog w=.ok (oZ k (o+12*i)) w:=by
 have h1:¬(i:Y)<0:=S;have b:(i:Y)<8:=S;go_simp
def Oi{k:I}(c:i<8):(ZW 186 (oZ k o) (.int .i8 i)).run prog w=.ok (oZ k (o+12*i)) w:=by
 have h1:¬(i:Y)<0:=S;have b:(i:Y)<8:=S;go_simp
def Jo{k:I}(b:i<n):(ZW 182 (sZ k n c) (iZ i)).run prog w=.ok (oZ k (353*i)) w:=by
 go_simp
def Yf{k:I}(b:i<n):(ZW 89 (qZ k o n c) (iZ i)).run prog w=.ok (oZ k (o+4*i)) w:=by
 go_simp
def WW{k:I}(b:i<n):(ZW 100 (qZ k o n c) (iZ i)).run prog w=.ok (oZ k (o+8*i)) w:=by
 go_simp
def RR{d:Y}(hd:-15<=d/\d<=15)(w:Yp):(Op.unary .neg (.int .i8 d)).run prog w=.ok (.int .i8 (-d)) w:=by
 have h:=yDC (-d) S;go_simp
def RQ{k:I}(b:k<8)(w:Yp):(binOp .quo 187 (.int .i8 (2*(k:Y)+1)) (.int .i8 2)).run prog w=.ok (.int .i8 k) w:=by
 have c:(2*(k:Y)+1).tdiv 2=(k:Y):=by rw[sI S];omega
 have h:=yDC (k:Y) S;go_simp
def Xr(k:g<32)(w:Yp):(binOp .shr 3 (iZ g) (U 4)).run prog w=.ok (iZ ((g/16:I):Y)) w:=by
 go_simp
def Xs(b:g<32)(w:Yp):(binOp .shl 3 (iZ g) (U 5)).run prog w=.ok (iZ (32*(g:Y))) w:=by
 have h:=ZG (32*(g:Y)) S;have k:(g:Y)*32=32*(g:Y):=S;go_simp
def FM{a b:Y}(k:-1000<=a/\a<=1000)(c:-1000<=b/\b<=1000)(w:Yp):(binOp .sub 3 (iZ a) (iZ b)).run prog w=.ok (iZ (a-b)) w:=by
 have h:=ZG (a-b) S;go_simp
def AY{a:I}(k:a<=1000000)(c:b<=1000000)(w:Yp):(binOp .add 3 (iZ a) (iZ b)).run prog w=.ok (iZ ((a+b:I):Y)) w:=by
 have h:=ZG ((a:Y)+(b:Y)) S;go_simp
def cv8{v:Y}(hv:-15<=v/\v<=15)(w:Yp):(convert 3 187 (iZ v)).run prog w=.ok (.int .i8 v) w:=by
 have h:=yDC v S;go_simp
def WI(e:b=c)(w:Yp):(binOp .eql 3 (iZ b) (iZ c)).run prog w=.ok tZ w:=by
 subst e;go_simp
def WJ(e:¬b=c)(w:Yp):(binOp .eql 3 (iZ b) (iZ c)).run prog w=.ok fZ w:=by
 have h:¬(b:Y)=(c:Y):=S;go_simp
def oG(e:i<n)(w:Yp):(binOp .lss 3 (iZ i) (iZ n)).run prog w=.ok tZ w:=by
 go_simp
def vF(e:¬i<n)(w:Yp):(binOp .lss 3 (iZ i) (iZ n)).run prog w=.ok fZ w:=by
 go_simp
def OM{f:I}(b:n<zl)(hf:f<=256)(k:c<=32):Gives 220 #[nv n,iZ f,iZ c] (iZ ((n/2^f%2^c:I):Y)):=λw =>
 (Fj _ n f c (fD b) hf k w).mono (by rintro e w' ⟨v,rfl,d,rfl⟩;exact⟨_,Z,d,Z⟩)
def dg(d:I->Y):H Yq:=(ZD 257).map (λj=>ZO .i8 (d j))
def dv(d:I->Y):Yq:=.agg (dg d).toArray
def bO(d:I->Y):(dg d).length=257:=by unfold dg;rw[YO,H.length_range]
def NR(k:j<257):(dg d)[j]? = F (.int .i8 (d j)):=by
 rw[dg,H.getElem?_map,H.getElem?_range k];rfl
def UC{v:Y}:dg (DG.upd d i v)=(dg d).set i (.int .i8 v):=by
 apply vj;intro j;rw[H.getElem?_set];by_cases b:j<257
 .rw[NR b,NR b];by_cases k:i=j
  .subst k;rw[zd Z,zd (by rw[bO];exact b),DG.upd_same]
  rw[zi k,DG.jY (λh=>k h.symm)]
 rw[qz (by rw[bO];omega)];by_cases k:i=j
 .rw[zd k,zi (by rw[bO];omega)]
 rw[zi k,qz (by rw[bO];omega)]
def NQ:(dg d).all (·.oneCell')=J:=by
 rw[dg,H.all_map];exact H.all_eq_true.2 λ_ _=>rfl
def UB:((dg d).drop 0).take (dg d).length=dg d:=by rw[H.drop_zero,H.take_length]
def dgo(n:I):I->(I->Y)->I->I->(I->Y)
 | 0,d,_,_=>d
 | f+1,d,i,c=>if i<257 then(if n/2^i%2=c then dgo n f d (i+1) c else
  dgo n f (DG.upd d i (((n/2^i%32+c:I):Y)-32*(((n/2^i%32+c)/16:I):Y))) (i+5) ((n/2^i%32+c)/16)) else d
def I9(n:I)(f:I)(d:I->Y)(c:I)(h:¬i<257):dgo n f d i c=d:=by
 cases f with
 | zero=>rfl
 | succ f=>rw[dgo,zi h]
def G5{n:I}(k:n<2^256):∀(f:I) (d:I->Y) (i c:I),DG.DI n d i c->257<=i+f->∃g c',257<=g/\DG.DI n (dgo n f d i c) g c'
 | 0,d,i,c,h,hf=>⟨i,c,S,h⟩
 | f+1,d,i,c,h,hf=>by
  by_cases b:i<257
  .rw[dgo,zd b];by_cases e:n/2^i%2=c
   .rw[zd e];exact G5 k f d (i+1) c (h.skip k b e) S
   rw[zi e];exact G5 k f _ (i+5) _ (h.take k b e) S
  rw[I9 n _ d c b];exact⟨i,c,S,h⟩
def fH(n:I):I->Y:=dgo n 257 (λ_=>0) 0 0
def CZ(k:n<2^256):∃i c,257<=i/\DG.DI n (fH n) i c:=G5 k 257 _ 0 0 (DG.DI.start n) S
def u138:yZ 188:=yQ
def i138:gZ 188 257:=gQ
def XQ:gZ 187 1:=gQ
def Vj:wZ 187:=wQ
def Sk(w:Yp):(Instr.alloc 188 J (.tuple #[])).run prog w=.ok (jZ w.heap.size) (w.alloc (.cells (dg (λ_=>0)).toArray 188)):=kR
def NP(T:n<zl):Gives 177 #[nv n] (dv (fH n)):=by
 intro w;go_enter func177,ntmps177;refine RG.M.enter [(0,.v (nv n))] 33 kR λa0 j=>?_
 refine Yt <| j.T [.m 0,.m 1] [(0,wn n),(1,dg (λ_=>0))] [] [1,2] ⟨mk 0 47,rS 1 Z Z Z (T:=188) Z Sk,yx⟩ λX W L N f=>?_
 refine Yt <| f.T [.m 2] [(0,dg (λ_=>0))] [] [1,2,3] ⟨rS 2 Z Z Z (T:=188) Z Sk,yx⟩ λV M K k=>?_
 refine Yt <| k.U [.x (iZ 0)] [1,2,3,4] ⟨st,yx⟩ λa3 w3 z=>?_
 refine Yt <| Yt <| z.U [.x (iZ 0)] [1,2,3,4,5] ⟨st,yx⟩ λa4 w4 O=>?_
 repeat apply Yt
 refine ZR<|wp_loop_ghost (λm a wr=>∃(d:I->Y) (i c:I),c<=1/\i<=261/\257<=i+m/\dgo n m d i c=fH n/\RG.M w w.heap.size [] 33 [wn n,dg (λ_=>0),dg d] [X,W,V] [(1,.p 0 0),(2,.p 1 0),(3,.p 2 0),(4,.v (iZ c)),(5,.v (iZ i))] a wr) 257 ⟨λ_=>0,0,0,S,S,S,Z,O.cv⟩ ?_
 intro m a wr;rintro⟨d,i,c,hc,h0,hm,hd,j⟩;obtain⟨b,q⟩:=vH (n/2^i%2);obtain⟨e,t⟩:=vH (n/2^i%32);obtain⟨g,r⟩:=vH (e+c);obtain⟨v,p⟩:=vH ((g:Y)-32*((g/16:I):Y):Y);generalize X=k1 at j;generalize W=k2 at j;generalize V=k3 at j;by_cases o:i<257
 .have u:Gives 220 #[nv n,iZ i,iZ 1] (iZ b):=by rw[<-q];exact OM (c:=1) T S S
  have C:Gives 220 #[nv n,iZ i,iZ 5] (iZ e):=by rw[<-t];exact OM (c:=5) T S S
  have P:∃l,m=l+1:=by
   cases m with
   | zero=>exact absurd hm S
   | succ l=>exact⟨l,Z⟩
  obtain⟨l,rfl⟩:=P;rw[dgo,zd o,q,t,r,p]at hd;by_cases A:b=c
  .rw[zd A]at hd;refine Yt <| Yt <| j.U [.x (iZ i),.x tZ] [1,2,3,4,5,8] ⟨st,aH Z .lss (T:=3) 3 (t1:=7) (v1:=(iZ i)) (v2:=(iZ 257)) (v:=tZ) Z Z sx (λw=>kR) (oG (n:=257) o),yx⟩ λL N f=>?_
   refine Y5 f.ev<|ZK<|Yt<|ZR<|Yt <| Yt <| f.U [.x (nv n),.x (iZ i),.c (iZ b),.x (iZ c),.x tZ] [1,2,3,4,5,15] ⟨ld u85 i85,st,cl u,st,aQ Z .eql (T:=3) 3 (t1:=13) (t2:=14) (v1:=(iZ b)) (v2:=(iZ c)) (v:=tZ) Z Z sx sx (λw=>kR) (WI A),yx⟩ λM K k=>?_
   refine Y5 k.ev<|fT ?_
   dsimp only[Exit.then,ri];rw[zd Z];refine k.U [.x (iZ i),.x (iZ ((i+1:I):Y)),.x (iZ ((i+1:I):Y))] [1,2,3,4,5] ⟨st,aH Z .add (T:=3) 3 (t1:=9) (v1:=(iZ i)) (v2:=(iZ 1)) (v:=(iZ ((i+1:I):Y))) Z Z sx (λw=>kR) (AY (a:=i) (b:=1) S S),st,yx⟩ λa3 w3 z=>?_
   show ∃n',_;exact⟨l,um l,d,i+1,c,hc,S,S,hd,z.cv⟩
  rw[zi A]at hd;have he:e<32:=S;have Q:g%2=1:=S;have hg:g<32:=S;have hv:-15<=v/\v<=15:=S;have x:∀w,(binOp .add 3 (iZ e) (iZ c)).run prog w=.ok (iZ g) w:=λw=>by rw[AY (a:=e) (b:=c) S S,r]
  have y:∀w,(binOp .sub 3 (iZ g) (iZ (32*((g/16:I):Y)))).run prog w=.ok (iZ v) w:=λw=>by rw[FM S S,p]
  refine Yt <| Yt <| j.U [.x (iZ i),.x tZ] [1,2,3,4,5,8] ⟨st,aH Z .lss (T:=3) 3 (t1:=7) (v1:=(iZ i)) (v2:=(iZ 257)) (v:=tZ) Z Z sx (λw=>kR) (oG (n:=257) o),yx⟩ λL N f=>?_
  refine Y5 f.ev<|ZK<|Yt<|ZR<|Yt <| Yt <| f.U [.x (nv n),.x (iZ i),.c (iZ b),.x (iZ c),.x fZ] [1,2,3,4,5,15] ⟨ld u85 i85,st,cl u,st,aQ Z .eql (T:=3) 3 (t1:=13) (t2:=14) (v1:=(iZ b)) (v2:=(iZ c)) (v:=fZ) Z Z sx sx (λw=>kR) (WJ A),yx⟩ λM K k=>?_
  refine YY k.ev<|ZK<|Yt <| k.U [.x (nv n),.x (iZ i),.c (iZ e),.x (iZ c),.x (iZ g),.x (iZ g)] [1,2,3,4,5,6] ⟨ld u85 i85,st,cl C,st,aQ Z .add (T:=3) 3 (t1:=18) (t2:=19) (v1:=(iZ e)) (v2:=(iZ c)) (v:=(iZ g)) Z Z sx sx (λw=>kR) x,st,yx⟩ λa3 w3 z=>?_
  refine Yt <| z.U [.x (iZ g),.x (iZ ((g/16:I):Y)),.x (iZ ((g/16:I):Y))] [1,2,3,4,5,6] ⟨st,aH Z .shr (T:=3) 169 (t1:=21) (v1:=(iZ g)) (v2:=(U 4)) (v:=(iZ ((g/16:I):Y))) Z Z sx (λw=>kR) (Xr (g:=g) hg),st,yx⟩ λa4 w4 O=>?_
  refine Yt <| O.T [.x (iZ i),.x (iZ g),.x (iZ ((g/16:I):Y)),.x (iZ (32*((g/16:I):Y))),.x (iZ v),.x (.int .i8 v),.s (.p 2 i),.u 2] [] [(2,7,dg (DG.upd d i v))] [1,2,3,4,5] ⟨st,st,st,aH Z .shl (T:=3) 169 (t1:=25) (v1:=(iZ ((g/16:I):Y))) (v2:=(U 5)) (v:=(iZ (32*((g/16:I):Y)))) Z Z sx (λw=>kR) (Xs (g:=(g/16)) S),aQ Z .sub (T:=3) 3 (t1:=24) (t2:=26) (v1:=(iZ g)) (v2:=(iZ (32*((g/16:I):Y)))) (v:=(iZ v)) Z Z sx sx (λw=>kR) y,qM Z 3 187 (t:=27) (v:=(iZ v)) (b:=(.int .i8 v)) Z Z sx (cv8 (v:=v) hv),cH Z 188 (t:=3) (u:=23) Z (.p 2 0) (iv:=(iZ i)) sx sx (λμ w=>UZ (i:=i) o (w:=w)),Lc (b:=2) (off:=i) Z Z (T:=187) (x:=(.tmp 29)) (y:=(.tmp 28)) (v:=(.int .i8 v)) Z Z sx sx (by show i<(dg _).length;rw[bO];exact o) (UC (d:=d) (i:=i) (v:=v)) XQ Z Z,yx⟩ λa5 w5 M5=>?_
  refine M5.U [.x (iZ i),.x (iZ ((i+4:I):Y)),.x (iZ ((i+4:I):Y))] [1,2,3,4,5] ⟨st,aH Z .add (T:=3) 3 (t1:=30) (v1:=(iZ i)) (v2:=(iZ 4)) (v:=(iZ ((i+4:I):Y))) Z Z sx (λw=>kR) (AY (a:=i) (b:=4) S S),st,yx⟩ λa6 w6 M6=>?_
  refine M6.U [.x (iZ ((i+4:I):Y)),.x (iZ ((i+4+1:I):Y)),.x (iZ ((i+4+1:I):Y))] [1,2,3,4,5] ⟨st,aH Z .add (T:=3) 3 (t1:=9) (v1:=(iZ ((i+4:I):Y))) (v2:=(iZ 1)) (v:=(iZ ((i+4+1:I):Y))) Z Z sx (λw=>kR) (AY (a:=(i+4)) (b:=1) S S),st,yx⟩ λa7 w7 M7=>?_
  show ∃n',_;exact⟨l,um l,DG.upd d i v,i+5,g/16,S,S,S,hd,M7.cv⟩
 have l:d=fH n:=by rw[<-hd,I9 n m d (i:=i) c o]
 refine Yt <| Yt <| j.U [.x (iZ i),.x fZ] [2,3,8] ⟨st,aH Z .lss (T:=3) 3 (t1:=7) (v1:=(iZ i)) (v2:=(iZ 257)) (v:=fZ) Z Z sx (λw=>kR) (vF (n:=257) o),yx⟩ λL N f=>?_
 refine YY f.ev<|fT ?_
 dsimp only[Exit.then,ri];rw[zd Z];refine Yt <| f.T [.x (dv d),.u 1] [] [(1,1,dg d)] [2] ⟨qL Z (b:=2) (off:=0) _ Z Z kR (T:=188) (t:=3) Z (cs:=(dg d)) Z sx UB u138 (by rw[bO];exact i138),NZ (b:=1) Z Z 188 (x:=(.tmp 2)) (y:=(.tmp 32)) Z Z (by show(dg _).length=(dg _).length;rw[bO,bO]) sx sx (by show _=F (dg _).length;rw[bO];exact i138) NQ,yx⟩ λM K k=>?_
 refine Zr<|YB (v:=dv d) (fM k.st (t:=2) (T:=188) Z (b:=1) Z (k.at (s:=(.p 1 0))) u138 (by rw[bO];exact i138)) k.sl.defers ?_
 exact⟨_,Z,k.st.bel.below,by rw[l]⟩
omit [NeZero P] in
theorem cM(t:T3 P):(tw t).length=12:=rfl
omit [NeZero P] in
theorem Fw(t:T3 P):(tw t).all (·.oneCell')=J:=rfl
def od(x y:B P):I->T3 P
 | 0=>raJ x y
 | q+1=>plJ (od x y q) (twJ (raJ x y))
def TV(C:Fld P){x y:B P}{p:EC.Pt P}(h:Pair x y p)(k:On p):∀q,JacT (od x y q) (dW ((2*q+1:I):Y) p)
 | 0=>by
  show JacT (raJ x y) (dW 1 p);rw[Dq];exact Rq C h k
 | q+1=>by
  have e:dW ((2*(q+1)+1:I):Y) p=EC.add (dW ((2*q+1:I):Y) p) (EC.add p p):=by
   have:EC.add p p=dW 2 p:=by
    rw[show(2:Y)=1+1 by rfl,xU C.cur k,Dq]
   rw[this,<-xU C.cur k]
   congr 1
  rw[e];exact(TV C h k q).plus C ((Rq C h k).twice C)
structure Fi(x y:B P)(D:I->Y)(C0:H Yq)(off m:I)(C:H Yq):Prop where
 len:C.length=C0.length
 out:∀j,j<off\/off+353<=j->C[j]? = C0[j]?
 dig:∀j,j<257->C[off+96+j]? = F (.int .i8 (D j))
 odd:∀q j,q<m->j<12->C[off+12*q+j]? = (tw (od x y q))[j]?
def Fi.first{x y:Fin P}{D:I->Int}(h:off+353<=C0.length):Fi x y D C0 off 0 (rep C0 (off+96) (dg D)):=by
 have hl:off+96+(dg D).length<=C0.length:=by rw[bO];omega
 refine⟨fE hl,λj k=>?_,λj k=>?_,λq j b _=>S⟩
 .rw[RG.rep_at hl,zi (by rw[bO];omega)]
 rw[RG.rep_at hl,zd (by rw[bO];omega),show off+96+j-(off+96)=j by omega,NR k]
def Fi.next{x y:Fin P}{D:I->Int}(h:off+353<=C0.length)(c:Fi x y D C0 off m C)(f:m<8):Fi x y D C0 off (m+1) (rep C (off+12*m) (tw (od x y m))):=by
 have b:=c.len;have hl:off+12*m+(tw (od x y m)).length<=C.length:=by rw[cM];omega
 refine⟨by rw[fE hl];exact b,λj k=>?_,λj k=>?_,λq j e k=>?_⟩
 .rw[RG.rep_at hl,zi (by rw[cM];omega)];exact c.out j k
 .rw[RG.rep_at hl,zi (by rw[cM];omega)];exact c.dig j k
 rw[RG.rep_at hl];by_cases d:q=m
 .subst d;rw[zd (by rw[cM];omega),show off+12*q+j-(off+12*q)=j by omega]
 rw[zi (by rw[cM];omega)];exact c.odd q j S k
def Fi.sub{x y:Fin P}{D:I->Int}(h:off+353<=C0.length)(k:Fi x y D C0 off m C)(c:q<m)(d:m<=8):(C.drop (off+12*q)).take (tw (od x y q)).length=tw (od x y q):=
 SO (λj b=>k.odd q j c (by rw[cM]at b;exact b)) (by rw[cM];have:=k.len;omega)
def fc(x y:B P)(D:I->Y)(C0:H Yq)(off:I):I->H Yq
 | 0=>rep C0 (off+96) (dg D)
 | m+1=>rep (fc x y D C0 off m) (off+12*m) (tw (od x y m))
def I4{x y:B P}{D:I->Y}{C0:H Yq}{off:I}(h:off+353<=C0.length):∀m,m<=8->Fi x y D C0 off m (fc x y D C0 off m)
 | 0,_=>Fi.first h
 | m+1,hm=>(I4 h m S).next h S
def Fi.uniq{x y:Fin P}{D:I->Int}{b:H Yq}(h:Fi x y D C0 off 8 C)(k:Fi x y D C0 off 8 b):C=b:=by
 apply vj;intro j;by_cases h1:j<off\/off+353<=j
 .rw[h.out j h1,k.out j h1]
 by_cases c:j<off+96
 .have e:j=off+12*((j-off)/12)+(j-off)%12:=S;rw[e,h.odd _ _ S S,k.odd _ _ S S]
 have e:j=off+96+(j-off-96):=S;rw[e,h.dig _ S,k.dig _ S]
end Go.Proofs.YtdoammpgchejcaaGreat
