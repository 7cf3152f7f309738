import Derived.Deep.Draws
import Derived.Deep.RegionHeld3
import Derived.Deep.LoopGhost
import Derived.Laws.BitsLemmas
import Derived.OrdersHeld
import Derived.Deep.RegionHeld
import Derived.Deep.CutRange
import Derived.Deep.DeepCutAuto
import Derived.Laws.Tables
import Derived.LoopN
import Derived.Deep.RegionWith
import Derived.Deep.OwnRows
import Derived.Lib.LazyBuf
import Derived.Lib.ConvBytes
import Derived.Test.YtjnchldodncnbaaGreatpr1
set_option linter.unusedVariables false
set_option linter.constructorNameAsVariable false
set_option linter.unusedSimpArgs false
set_option maxRecDepth 1000000
set_option maxHeartbeats 4000000
namespace Go.Proofs.YtjnchldodncnbaaGreat
open _root_.Array renaming getElem?_replicate->VZ,getElem_replicate->U9,getElem_toList->VY,replicate->TP,size_append->UA,size_replicate->TY
open _root_.Bool renaming noConfusion->XQ
open _root_.Fin renaming ext_iff->yA1
open _root_.Go renaming Calls->TW,FuncId->Xy,Oper->UI,Program->Vd,TypeId->Uw,Value->TC,World->TA,bits_or_u64_nat->XW,bodyPost_ret->TM,getD_set_ne->XB,rounds_succ->Ul,run_underlying->Zn,undef->VU,wp_cond_false->UG,wp_cond_true->UC,wp_loop_rounds->VX,wp_ret->UZ,wp_seq->TI,wp_skip->Vg
open _root_.Go.Act renaming put->Ug
open _root_.Go.Addr renaming add->XI
open _root_.Go.Builtin renaming copy_->ZB
open _root_.Go.Instr renaming index->Zs,indexAt->UP
open _root_.Go.IntKind renaming i64->UR,u64->Uv,wrap_i64->yAi,wrap_u64->Xx
open _root_.Go.IntWalk renaming i64_in->UO,i8_in->ZG
open _root_.Go.Op renaming equalIn->ZT
open _root_.Go.Region renaming binds->U7,free->YO,noSelect->XP,ready->UN
open _root_.Go.Result renaming andThen_ok->UE
open _root_.Go.RowKit.Below renaming heap_setCell->Zc
open _root_.Go.Sem renaming run_bind->Ue
open _root_.Go.Value renaming agg->Um,int->UV
open _root_.Go.World renaming alloc->U2,block_lt_of_cell?->Vt,cell?->WN,cell?_alloc_new->Us,cell?_of_block->Ua,cell?_setCell_other->TE,cell?_setCell_same->Uu,frozen?_alloc_new->Vr,frozen?_setCell->Un,setCell->Wb,size_alloc->TQ
open _root_.Int renaming add_mul->yBQ,add_zero->Zz,mul_assoc->ZU,mul_comm->Zm,natCast_ediv->YN,natCast_emod->yA9,natCast_mul->V0,natCast_pow->WC,natCast_zero->Ux,pow_succ->yBG,tdiv_eq_ediv_of_nonneg->Wt,zero_mul->Zl
open _root_.List renaming foldl_cons->yA8,forIn_cons->yA7,forIn_nil->yBh,getElem?_eq_none->VW,getElem_map->Wp,length_map->Uk,mem_cons->U0,mem_cons_self->Uz,not_mem_nil->Ud,range'->yBE,replicate->UU,setIfInBounds_toArray->TD,set_cons_succ->TK,set_cons_zero->TL
open _root_.Nat renaming add_assoc->VQ,add_mod_right->yAS,add_zero->VK,div_add_mod->YT,div_div_eq_div_mul->V7,div_eq_of_lt->WY,div_le_self->yBf,div_one->yAR,le_of_lt->V6,le_refl->TG,le_succ->Y8,le_trans->TU,lt_of_le_of_lt->Zo,lt_of_lt_of_le->TF,mod_eq_of_lt->Uf,mod_lt->Vm,mod_one->ZM,mul_assoc->VV,mul_comm->Ut,mul_le_mul_right->Xm,mul_mod->VT,mul_zero->XZ,ne_of_gt->U3,ne_of_lt->Vl,or_comm->yBO,pow_add->VS,pow_le_pow_right->Ve,pow_mul->Y7,pow_pos->WR,pow_succ->Vk,pow_zero->Wx,sub_self->Yg,sub_zero->YD,two_pow_add_eq_or_of_lt->WQ,zero_add->TO
open _root_.Or renaming inl->Ub,inr->T8
open _root_.Std.Legacy.Range renaming forIn_eq_forIn_range'->Yd,size->Zd
open _root_.UInt8 renaming ofNat->TV
open Go.Proofs.Tryz
section
open Go.RowKit Go.Sort
structure At8(w:TA)(k a b c d e f g h:Nat):Prop where
 c0:w.cell? ⟨k,0,none⟩=some (uZ a)
 c1:w.cell? ⟨k,1,none⟩=some (uZ b)
 c2:w.cell? ⟨k,2,none⟩=some (uZ c)
 c3:w.cell? ⟨k,3,none⟩=some (uZ d)
 c4:w.cell? ⟨k,4,none⟩=some (uZ e)
 c5:w.cell? ⟨k,5,none⟩=some (uZ f)
 c6:w.cell? ⟨k,6,none⟩=some (uZ g)
 c7:w.cell? ⟨k,7,none⟩=some (uZ h)
 fz:∀o,w.frozen? ⟨k,o,none⟩=false
variable {w w1:TA}{k a b c d e f g h:Nat}
theorem At8.lt(H:At8 w k a b c d e f g h):k<w.heap.size:=Vt _ _ H.c0
theorem At8.below{B:Nat}(H:At8 w k a b c d e f g h)(i:Below B w w1)(j:k<B):At8 w1 k a b c d e f g h:=
 ⟨by rw[i.cell (p:=⟨k,0,none⟩) j];exact H.c0,by rw[i.cell (p:=⟨k,1,none⟩) j];exact H.c1,by rw[i.cell (p:=⟨k,2,none⟩) j];exact H.c2,by rw[i.cell (p:=⟨k,3,none⟩) j];exact H.c3,by rw[i.cell (p:=⟨k,4,none⟩) j];exact H.c4,by rw[i.cell (p:=⟨k,5,none⟩) j];exact H.c5,by rw[i.cell (p:=⟨k,6,none⟩) j];exact H.c6,by rw[i.cell (p:=⟨k,7,none⟩) j];exact H.c7,
  λo=>by rw[i.frozen (p:=⟨k,o,none⟩) j];exact H.fz o⟩
theorem At8.call(H:At8 w k a b c d e f g h)(i:Below w.heap.size w w1):At8 w1 k a b c d e f g h:=H.below i H.lt
theorem At8.alloc(H:At8 w k a b c d e f g h)(o:Obj):At8 (w.alloc o) k a b c d e f g h:=H.call (aD w o)
theorem At8.drewN(H:At8 w k a b c d e f g h)(q:Nat):At8 (w.drewN q) k a b c d e f g h:=⟨H.c0,H.c1,H.c2,H.c3,H.c4,H.c5,H.c6,H.c7,H.fz⟩
theorem At8.made(w:TA)(t:Uw)(a b c d e f g h:Nat){k:Nat}(i:w.heap.size=k):At8 (w.alloc (.cells #[uZ a,uZ b,uZ c,uZ d,uZ e,uZ f,uZ g,uZ h] t)) k a b c d e f g h:=by
 subst i;exact⟨by rw[Us];rfl,by rw[Us];rfl,by rw[Us];rfl,by rw[Us];rfl,by rw[Us];rfl,by rw[Us];rfl,by rw[Us];rfl,by rw[Us];rfl,λo=>Vr _ _ _ _⟩
theorem At8.other{j o:Nat}(H:At8 w k a b c d e f g h)(i:j≠k)(v:TC):At8 (w.setCell ⟨j,o,none⟩ v) k a b c d e f g h:=
 ⟨by rw[TE _ _ _ _ (aB (Ub i))];exact H.c0,by rw[TE _ _ _ _ (aB (Ub i))];exact H.c1,by rw[TE _ _ _ _ (aB (Ub i))];exact H.c2,by rw[TE _ _ _ _ (aB (Ub i))];exact H.c3,by rw[TE _ _ _ _ (aB (Ub i))];exact H.c4,by rw[TE _ _ _ _ (aB (Ub i))];exact H.c5,by rw[TE _ _ _ _ (aB (Ub i))];exact H.c6,by rw[TE _ _ _ _ (aB (Ub i))];exact H.c7,λo=>by rw[Un];exact H.fz o⟩
theorem At8.set0(H:At8 w k a b c d e f g h)(x:Nat):At8 (w.setCell (aZ k) (uZ x)) k x b c d e f g h:=
 ⟨Uu _ _ _ H.c0,by rw[TE _ _ _ _ (aB (T8 dC))];exact H.c1,by rw[TE _ _ _ _ (aB (T8 dC))];exact H.c2,by rw[TE _ _ _ _ (aB (T8 dC))];exact H.c3,by rw[TE _ _ _ _ (aB (T8 dC))];exact H.c4,by rw[TE _ _ _ _ (aB (T8 dC))];exact H.c5,by rw[TE _ _ _ _ (aB (T8 dC))];exact H.c6,by rw[TE _ _ _ _ (aB (T8 dC))];exact H.c7,λo=>by rw[Un];exact H.fz o⟩
theorem At8.set1(H:At8 w k a b c d e f g h)(x:Nat):At8 (w.setCell ⟨k,1,none⟩ (uZ x)) k a x c d e f g h:=
 ⟨by rw[TE _ _ _ _ (aB (T8 dC))];exact H.c0,Uu _ _ _ H.c1,by rw[TE _ _ _ _ (aB (T8 dC))];exact H.c2,by rw[TE _ _ _ _ (aB (T8 dC))];exact H.c3,by rw[TE _ _ _ _ (aB (T8 dC))];exact H.c4,by rw[TE _ _ _ _ (aB (T8 dC))];exact H.c5,by rw[TE _ _ _ _ (aB (T8 dC))];exact H.c6,by rw[TE _ _ _ _ (aB (T8 dC))];exact H.c7,λo=>by rw[Un];exact H.fz o⟩
theorem At8.set2(H:At8 w k a b c d e f g h)(x:Nat):At8 (w.setCell ⟨k,2,none⟩ (uZ x)) k a b x d e f g h:=
 ⟨by rw[TE _ _ _ _ (aB (T8 dC))];exact H.c0,by rw[TE _ _ _ _ (aB (T8 dC))];exact H.c1,Uu _ _ _ H.c2,by rw[TE _ _ _ _ (aB (T8 dC))];exact H.c3,by rw[TE _ _ _ _ (aB (T8 dC))];exact H.c4,by rw[TE _ _ _ _ (aB (T8 dC))];exact H.c5,by rw[TE _ _ _ _ (aB (T8 dC))];exact H.c6,by rw[TE _ _ _ _ (aB (T8 dC))];exact H.c7,λo=>by rw[Un];exact H.fz o⟩
theorem At8.set3(H:At8 w k a b c d e f g h)(x:Nat):At8 (w.setCell ⟨k,3,none⟩ (uZ x)) k a b c x e f g h:=
 ⟨by rw[TE _ _ _ _ (aB (T8 dC))];exact H.c0,by rw[TE _ _ _ _ (aB (T8 dC))];exact H.c1,by rw[TE _ _ _ _ (aB (T8 dC))];exact H.c2,Uu _ _ _ H.c3,by rw[TE _ _ _ _ (aB (T8 dC))];exact H.c4,by rw[TE _ _ _ _ (aB (T8 dC))];exact H.c5,by rw[TE _ _ _ _ (aB (T8 dC))];exact H.c6,by rw[TE _ _ _ _ (aB (T8 dC))];exact H.c7,λo=>by rw[Un];exact H.fz o⟩
theorem At8.set4(H:At8 w k a b c d e f g h)(x:Nat):At8 (w.setCell ⟨k,4,none⟩ (uZ x)) k a b c d x f g h:=
 ⟨by rw[TE _ _ _ _ (aB (T8 dC))];exact H.c0,by rw[TE _ _ _ _ (aB (T8 dC))];exact H.c1,by rw[TE _ _ _ _ (aB (T8 dC))];exact H.c2,by rw[TE _ _ _ _ (aB (T8 dC))];exact H.c3,Uu _ _ _ H.c4,by rw[TE _ _ _ _ (aB (T8 dC))];exact H.c5,by rw[TE _ _ _ _ (aB (T8 dC))];exact H.c6,by rw[TE _ _ _ _ (aB (T8 dC))];exact H.c7,λo=>by rw[Un];exact H.fz o⟩
theorem At8.set5(H:At8 w k a b c d e f g h)(x:Nat):At8 (w.setCell ⟨k,5,none⟩ (uZ x)) k a b c d e x g h:=
 ⟨by rw[TE _ _ _ _ (aB (T8 dC))];exact H.c0,by rw[TE _ _ _ _ (aB (T8 dC))];exact H.c1,by rw[TE _ _ _ _ (aB (T8 dC))];exact H.c2,by rw[TE _ _ _ _ (aB (T8 dC))];exact H.c3,by rw[TE _ _ _ _ (aB (T8 dC))];exact H.c4,Uu _ _ _ H.c5,by rw[TE _ _ _ _ (aB (T8 dC))];exact H.c6,by rw[TE _ _ _ _ (aB (T8 dC))];exact H.c7,λo=>by rw[Un];exact H.fz o⟩
theorem At8.set6(H:At8 w k a b c d e f g h)(x:Nat):At8 (w.setCell ⟨k,6,none⟩ (uZ x)) k a b c d e f x h:=
 ⟨by rw[TE _ _ _ _ (aB (T8 dC))];exact H.c0,by rw[TE _ _ _ _ (aB (T8 dC))];exact H.c1,by rw[TE _ _ _ _ (aB (T8 dC))];exact H.c2,by rw[TE _ _ _ _ (aB (T8 dC))];exact H.c3,by rw[TE _ _ _ _ (aB (T8 dC))];exact H.c4,by rw[TE _ _ _ _ (aB (T8 dC))];exact H.c5,Uu _ _ _ H.c6,by rw[TE _ _ _ _ (aB (T8 dC))];exact H.c7,λo=>by rw[Un];exact H.fz o⟩
theorem At8.set7(H:At8 w k a b c d e f g h)(x:Nat):At8 (w.setCell ⟨k,7,none⟩ (uZ x)) k a b c d e f g x:=
 ⟨by rw[TE _ _ _ _ (aB (T8 dC))];exact H.c0,by rw[TE _ _ _ _ (aB (T8 dC))];exact H.c1,by rw[TE _ _ _ _ (aB (T8 dC))];exact H.c2,by rw[TE _ _ _ _ (aB (T8 dC))];exact H.c3,by rw[TE _ _ _ _ (aB (T8 dC))];exact H.c4,by rw[TE _ _ _ _ (aB (T8 dC))];exact H.c5,by rw[TE _ _ _ _ (aB (T8 dC))];exact H.c6,Uu _ _ _ H.c7,λo=>by rw[Un];exact H.fz o⟩
def Bc(w:TA)(k:Nat)(i f e d b c g j:TC):TA:=
 (((((((w.setCell (aZ k) i).setCell ⟨k,1,none⟩ f).setCell ⟨k,2,none⟩ e).setCell ⟨k,3,none⟩ d).setCell ⟨k,4,none⟩ b).setCell ⟨k,5,none⟩ c).setCell ⟨k,6,none⟩ g).setCell ⟨k,7,none⟩ j
theorem At8.self8(H:At8 w k a b c d e f g h)(p n m l i j o q:Nat):At8 (Bc w k (uZ p) (uZ n) (uZ m) (uZ l) (uZ i) (uZ j) (uZ o) (uZ q)) k p n m l i j o q:=
 (((((((H.set0 p).set1 n).set2 m).set3 l).set4 i).set5 j).set6 o).set7 q
theorem At8.other8{j:Nat}(H:At8 w k a b c d e f g h)(i:j≠k)(r p o n l m q s:TC):At8 (Bc w j r p o n l m q s) k a b c d e f g h:=
 (((((((H.other i r).other i p).other i o).other i n).other i l).other i m).other i q).other i s
theorem At4.other8{j:Nat}{w:TA}{k a b c d:Nat}(H:At4 w k a b c d)(e:j≠k)(o m l i f g n p:TC):At4 (Bc w j o m l i f g n p) k a b c d:=
 (((((((H.other e o).other e m).other e l).other e i).other e f).other e g).other e n).other e p
theorem tQ{B j:Nat}{m:TA}(H:Below B m w)(k:B<=j)(l f e d b c g i:TC):Below B m (Bc w j l f e d b c g i):=
 (((((((H.setCell (p:=⟨j,0,none⟩) k l).setCell (p:=⟨j,1,none⟩) k f).setCell (p:=⟨j,2,none⟩) k e).setCell (p:=⟨j,3,none⟩) k d).setCell (p:=⟨j,4,none⟩) k b).setCell (p:=⟨j,5,none⟩) k c).setCell (p:=⟨j,6,none⟩) k g).setCell (p:=⟨j,7,none⟩) k i
theorem aS{B:Nat}{k:TA}(H:Below B k w)(q:Nat):Below B k (w.drewN q):=⟨H.os,H.tape,H.output,H.size,H.block⟩
end
section
open Go.RowKit Go.Sort
variable {P:Nat}[NeZero P]{N:Nat}
structure Gap(g0 g1 g2 P:Nat):Prop where
 h0:g0<18446744073709551616
 h1:g1<18446744073709551616
 h2:g2<18446744073709551616
 hor:(g1=0/\g2=0)\/∃o:Nat,bits .or .u64 (g1:Int) (g2:Int)=(o:Int)/\o≠0
 hP:P+val g0 g1 g2 0=top
 hP2:top<2*P
 hg:0<val g0 g1 g2 0
theorem xM{k a b c d:Nat}{w W e:TA}(h:Hid (Below k w W))(pr:At4 W k a b c d)(f:Below W.heap.size W e):Hid (Below k w e):=h.trans (f.mono (V6 pr.lt))
end
section
open Go.RowKit Go.Sort
structure Blk where
 k:Nat
 o:Nat
 a:Nat
 b:Nat
 c:Nat
 d:Nat
structure Blk.at(x:Blk)(w:TA):Prop where
 c0:w.cell? ⟨x.k,x.o,none⟩=some (uZ (x.a:Int))
 c1:w.cell? ⟨x.k,x.o+1,none⟩=some (uZ (x.b:Int))
 c2:w.cell? ⟨x.k,x.o+2,none⟩=some (uZ (x.c:Int))
 c3:w.cell? ⟨x.k,x.o+3,none⟩=some (uZ (x.d:Int))
 f:∀o,w.frozen? ⟨x.k,o,none⟩=false
structure Kept(w:TA)(k0:Nat)(l:List Blk)(W:TA):Prop where
 bl:Below k0 w W
 le:k0<=W.heap.size
 at':∀x∈l,x.at W
variable {w W w1:TA}{k0:Nat}{l:List Blk}{x:Blk}
theorem Blk.at.lt(h:x.at W):x.k<W.heap.size:=Vt _ _ h.c0
theorem Blk.at.call(h:x.at W)(k:Below W.heap.size W w1):x.at w1:=
 ⟨by rw[k.cell (p:=⟨x.k,x.o,none⟩) h.lt];exact h.c0,by rw[k.cell (p:=⟨x.k,x.o+1,none⟩) h.lt];exact h.c1,by rw[k.cell (p:=⟨x.k,x.o+2,none⟩) h.lt];exact h.c2,by rw[k.cell (p:=⟨x.k,x.o+3,none⟩) h.lt];exact h.c3,
  λo=>by rw[k.frozen (p:=⟨x.k,o,none⟩) h.lt];exact h.f o⟩
theorem Blk.at.other{j i : Nat}(h : x.at W)(hj : j ≠ x.k)(v : TC): x.at (W.setCell ⟨j, i, none⟩ v) :=
  ⟨by rw [TE _ _ _ _ (aB (Ub hj))]; exact h.c0, by rw [TE _ _ _ _ (aB (Ub hj))]; exact h.c1,
   by rw [TE _ _ _ _ (aB (Ub hj))]; exact h.c2, by rw [TE _ _ _ _ (aB (Ub hj))]; exact h.c3, λo => by rw [Un]; exact h.f o⟩
theorem Kept.call(h:Kept w k0 l W)(k:Below W.heap.size W w1):Kept w k0 l w1:=
 ⟨h.bl.trans (k.mono h.le),TU h.le k.size,λx b=>(h.at' x b).call k⟩
theorem Kept.drew(h:Kept w k0 l W):Kept w k0 l W.drew:=⟨h.bl.drew,h.le,λx k=>⟨(h.at' x k).c0,(h.at' x k).c1,(h.at' x k).c2,(h.at' x k).c3,(h.at' x k).f⟩⟩
theorem Kept.undrew(h:Kept w k0 l W.drew):Kept w k0 l W:=
 ⟨⟨h.bl.os,h.bl.tape,h.bl.output,h.bl.size,h.bl.block⟩,h.le,λx k=>⟨(h.at' x k).c0,(h.at' x k).c1,(h.at' x k).c2,(h.at' x k).c3,(h.at' x k).f⟩⟩
theorem Kept.alloc(h:Kept w k0 l W)(o:Obj):Kept w k0 l (W.alloc o):=h.call (aD W o)
theorem Kept.set{j i:Nat}(h:Kept w k0 l W)(b:k0<=j)(c:∀x∈l,j≠x.k)(v:TC):Kept w k0 l (W.setCell ⟨j,i,none⟩ v):=
 ⟨h.bl.setCell (p:=⟨j,i,none⟩) b v,by simpa using h.le,λx k=>(h.at' x k).other (c x k) v⟩
theorem Kept.set4{j:Nat}(h:Kept w k0 l W)(k:k0<=j)(b:∀x∈l,j≠x.k)(p q r s:TC):Kept w k0 l (Go.Proofs.YtjnchldodncnbaaGreat.set4 W j p q r s):=
 (((h.set k b p).set k b q).set k b r).set k b s
theorem Kept.set4'{j:Nat}(h:Kept w k0 l W)(k:k0<=j)(b:∀x∈l,j≠x.k)(p q r s:TC):
 Kept w k0 l ((((W.setCell (aZ j) p).setCell ⟨j,1,none⟩ q).setCell ⟨j,2,none⟩ r).setCell ⟨j,3,none⟩ s):=h.set4 k b p q r s
theorem Kept.lts(h:Kept w k0 l W):∀x∈l,x.k<W.heap.size:=λx k=>(h.at' x k).lt
theorem Kept.head(h:Kept w k0 (x :: l) W):x.at W:=h.at' x (Uz)
theorem Kept.tail(h:Kept w k0 (x :: l) W):Kept w k0 l W:=⟨h.bl,h.le,λy k=>h.at' y (List.mem_cons_of_mem _ k)⟩
theorem At4.blk{k a b c d:Nat}(h:At4 W k a b c d):(Blk.mk k 0 a b c d).at W:=⟨h.c0,h.c1,h.c2,h.c3,h.f⟩
theorem Blk.at.at4{k a b c d:Nat}(h:(Blk.mk k 0 a b c d).at W):At4 W k a b c d:=⟨h.c0,h.c1,h.c2,h.c3,h.f⟩
theorem Kept.mk1(k:Below k0 w W)(b:k0<=W.heap.size):Kept w k0 [] W:=⟨k,b,λ_ h=>by cases h⟩
theorem Kept.cons(h:Kept w k0 l W)(c:x.at W):Kept w k0 (x :: l) W:=
 ⟨h.bl,h.le,λy b=>by rcases U0.1 b with rfl|k;exact c;exact h.at' y k⟩
theorem Kept.put{j a b c d:Nat}(h:Kept w k0 (⟨j,0,a,b,c,d⟩ :: l) W)(k:k0<=j)(e:∀x∈l,j≠x.k)(x y z t:Nat):
 Kept w k0 (⟨j,0,x,y,z,t⟩ :: l) ((((W.setCell (aZ j) (uZ x)).setCell ⟨j,1,none⟩ (uZ y)).setCell ⟨j,2,none⟩ (uZ z)).setCell ⟨j,3,none⟩ (uZ t)):=
 (h.tail.set4' k e _ _ _ _).cons (h.head.at4.self4 x y z t).blk
end
section
open Go.RowKit Go.Sort
variable {P:Nat}[NeZero P]{N:Nat}
theorem BV(w:TA)(t0 t1 t2 q:Uw)(a b c d e f g h i j k l m n o p:Nat):
 Kept w w.heap.size [⟨w.heap.size,0,a,b,c,d⟩,⟨w.heap.size+1,0,e,f,g,h⟩,⟨w.heap.size+1+1,0,i,j,k,l⟩,⟨w.heap.size+1+1+1,0,m,n,o,p⟩]
  ((((w.alloc (.cells #[uZ a,uZ b,uZ c,uZ d] t0)).alloc (.cells #[uZ e,uZ f,uZ g,uZ h] t1)).alloc (.cells #[uZ i,uZ j,uZ k,uZ l] t2)).alloc (.cells #[uZ m,uZ n,uZ o,uZ p] q)):=by
 refine((((Kept.mk1 (hZ w _ _ _ _) (hZ w _ _ _ _).size).cons ?_).cons ?_).cons ?_).cons ?_
 ·exact(At4.made _ q m n o p (by simp)).blk
 ·exact((At4.made _ t2 i j k l (by simp)).alloc _).blk
 ·exact(((At4.made _ t1 e f g h (by simp)).alloc _).alloc _).blk
 ·exact((((At4.made _ t0 a b c d rfl).alloc _).alloc _).alloc _).blk
theorem LQ{c b k P m n s l:Nat}(d:Gap c b k P)(e:s+top*0=m+n)(f:l+top*0=s+val c b k 0)(g:l<top):(m+n)%P=s:=by
 have:=d.hP;rw[<-e,XZ,VK,Uf oM]
theorem LR{f e i P m n s l k j:Nat}(g:Gap f e i P)(w:m<P)(r:n<P)(q:s+top*k=m+n)(o:l+top*j=s+val f e i 0)(y:k<=1)(u:j<=1)(p:¬(k=0/\j=0))(v:s<top)(_:l<top):(m+n)%P=l:=by
 have x:=g.hP;have t:=g.hP2;have c:k=0\/k=1:=oM;have b:j=0\/j=1:=oM;have:m+n=l+P:=by
  rcases c with h|h<;>rcases b with d|d<;>rw[h]at q<;>rw[d]at o<;>first|omega|(exfalso;exact p ⟨h,d⟩)
 rw[this,yAS,Uf oM]
theorem or2(a b:Nat)(e:a<=1)(d:b<=1):∃o:Nat,bits .or .u64 (a:Int) (b:Int)=(o:Int)/\(o=0↔(a=0/\b=0)):=by
 have c:a=0\/a=1:=oM;have k:b=0\/b=1:=oM;rcases c with rfl|rfl<;>rcases k with rfl|rfl
 ·exact⟨0,dK,dC⟩
 ·exact⟨1,dK,dC⟩
 ·exact⟨1,dK,dC⟩
 ·exact⟨1,dK,dC⟩
theorem I2{P m n s:Nat}(c:m<P)(k:n<P)(b:s+n=m+top*0):(m+P-n)%P=s:=by
 rw[show m+P-n=s+P by omega,yAS,Uf oM]
theorem I3{c b d P m n s l j:Nat}(g:Gap c b d P)(_:m<P)(i:n<P)(r:s+n=m+top*1)(f:l+val c b d 0=s+top*j)(o:j<=1)(t:l<top)(p:s<top):(m+P-n)%P=l:=by
 have q:=g.hP;have k:j=0\/j=1:=oM;have:m+P-n=l:=by
  rcases k with e|e<;>rw[e]at f<;>omega
 rw[this,Uf oM]
theorem sum_any(O N Q P:Nat)(x y:TC)(m n:Nat)(J:Gap O N Q P)(W:Four x m)(V:Four y n)(hm:m<P)(hn:n<P)(w:TA):
 TW prog 143 #[.agg #[uZ O,uZ N,uZ Q,uZ 0],x,y] w (rZ w λe w'=>Four e ((m+n)%P)):=by
 obtain⟨a,b,c,d,rfl,ha,hb,hc,hd,em⟩:=id W;obtain⟨p,q,r,s,rfl,hp,hq,hr,hs,en⟩:=id V;clear em en ha hb hc hd hp hq hr hs;go_enter func143,ntmps143;go_wp2_with fail
 have l:=BV w 89 87 87 87 O N Q 0 a b c d p q r s 0 0 0 0;simp only[Ux]at l;generalize U2 _ _=W0 at l⊢;generalize h3:w.heap.size+1+1+1=k3 at l⊢;generalize h2:w.heap.size+1+1=k2 at l⊢;generalize h1:w.heap.size+1=k1 at l⊢;have Y:Hid (w.heap.size<=k3):=by unfold Hid;omega
 generalize h0:w.heap.size=k0 at l Y⊢;have H0:Hid (w.heap.size=k0):=h0;have X:k0≠k3:=oM;clear h0 h1 h2 h3;refine(qT _ _ _ _ W V _).mono ?_;rintro e w1 ⟨v,rfl,h4,v2,t,k,rfl,⟨H,b1,I,G,rfl,E,i,B,A,M⟩,hk,R⟩;have HE:Hid (val H b1 I G+top*k=m+n):=by unfold Hid;rw[<-M];exact R
 clear M R;replace l:=l.call h4;have f:=(l.alloc (.cells #[uZ H,uZ b1,uZ I,uZ G] 87)).cons (At4.made w1 87 H b1 I G rfl).blk;have m0:=Vl l.head.lt;have m3:=Vl l.tail.tail.tail.head.lt;obtain⟨hh,hl,h6,hu,pf⟩:=f.tail.head.at4;have z0:=f.tail.head.lt;go_wp2_with fail
 refine(qT _ _ _ _ (Four.mk E i B A rfl) (Four.mk J.h0 J.h1 J.h2 dC rfl) _).mono ?_;rintro e w2 ⟨v,rfl,Z,v3,t2,j,rfl,⟨T,S,U,L,rfl,F,u,z,C,M⟩,hj,R⟩;have K:Hid (val T S U L+top*j=val H b1 I G+val O N Q 0):=by unfold Hid;rw[<-M];exact R
 replace f:=f.call Z;have HG:=mk1 (J);have HM:=mk2 hm hn;clear J hm hn W V m0 X;generalize w1.heap.size=k4 at f m3⊢;obtain⟨hw,ht,h7,h9,sf⟩:=f.head.at4;obtain⟨hi,hg,k5,h5,rf⟩:=f.tail.tail.tail.tail.head.at4;have z4:=f.head.lt;have z3:=f.tail.tail.tail.tail.head.lt;obtain⟨o,ho,D⟩:=or2 k j hk hj;by_cases hz:k=0/\j=0
 ·obtain⟨rfl,rfl⟩:=hz;obtain rfl:o=0:=D.2 ⟨rfl,rfl⟩;clear D;replace ho:bits .or .u64 0 0=0:=ho;go_wp2;have g:=(f.tail.tail.tail.tail.head.at4.self4 H b1 I G).alloc (.cells #[uZ T,uZ S,uZ U,uZ L] 87);unfold set4 at g;refine TM (v:=?v0) ?hr0 rfl ?hR0
  case hr0=>simp[results,Tryz.results143,go_sem,g.c0,g.c1,g.c2,g.c3];rfl
  refine⟨_,rfl,?_,Four.mk E i B A (LQ HG.out HE.out K.out (iU F u z C))⟩;rw[H0.out];exact(aF f.bl Y.out _ _ _ _).alloc (by simpa[set4]using f.le) _
 ·have h8:¬o=0:=λh=>hz (D.1 h)
  go_wp2;have g:=(f.tail.tail.tail.tail.head.at4.self4 T S U L).alloc (.cells #[uZ T,uZ S,uZ U,uZ L] 87);unfold set4 at g;refine TM (v:=?v1) ?hr1 rfl ?hR1
  case hr1=>simp[results,Tryz.results143,go_sem,g.c0,g.c1,g.c2,g.c3];rfl
  refine⟨_,rfl,?_,Four.mk F u z C (LR HG.out HM.1 HM.2 HE.out K.out hk hj hz (iU E i B A) (iU F u z C))⟩;rw[H0.out];exact(aF f.bl Y.out _ _ _ _).alloc (by simpa[set4]using f.le) _
theorem nG(N M O P:Nat)(x y:TC)(m n:Nat)(hG:Gap N M O P)(hx:Four x m)(hy:Four y n)(hm:m<P)(hn:n<P)(w:TA):
 TW prog 167 #[.agg #[uZ N,uZ M,uZ O,uZ 0],x,y] w (rZ w λe w'=>Four e ((m+P-n)%P)):=by
 obtain⟨a,b,c,d,rfl,ha,hb,hc,hd,em⟩:=id hx;obtain⟨p,q,r,s,rfl,hp,hq,hr,hs,en⟩:=id hy;clear em en ha hb hc hd hp hq hr hs;go_enter func167,ntmps167;go_wp2_with fail
 have g:=BV w 89 87 87 87 N M O 0 a b c d p q r s 0 0 0 0;simp only[Ux]at g;generalize U2 _ _=W0 at g⊢;generalize h3:w.heap.size+1+1+1=k3 at g⊢;generalize h2:w.heap.size+1+1=k2 at g⊢;generalize h1:w.heap.size+1=k1 at g⊢;have U:Hid (w.heap.size<=k3):=by unfold Hid;omega
 generalize h0:w.heap.size=k0 at g U⊢;have H0:=mk1 (h0);refine(sH _ _ _ _ hx hy _).mono ?_;rintro e w1 ⟨v,rfl,h4,v2,t,k,rfl,⟨C,b1,D,B,rfl,A,l,z,u,S⟩,hk,T⟩;have HE:Hid (val C b1 D B+n=m+top*k):=by unfold Hid;rw[<-S];exact T
 replace g:=g.call h4;have f:=(g.alloc (.cells #[uZ C,uZ b1,uZ D,uZ B] 87)).cons (At4.made w1 87 C b1 D B rfl).blk;have m0:=Vl g.head.lt;have m3:=Vl g.tail.tail.tail.head.lt;have L:=mk1 (hG);have Q:=mk2 hm hn;have Q4:=mk1 (g.le);have Z:k=0\/k=1:=oM;obtain⟨H,G,J,E,rf⟩:=g.tail.tail.tail.head.at4;have z3:=g.tail.tail.tail.head.lt;rcases Z with rfl|rfl
 ·clear f;go_wp2;have i:=(g.tail.tail.tail.head.at4.self4 C b1 D B).alloc (.cells #[uZ C,uZ b1,uZ D,uZ B] 87);unfold set4 at i;refine TM (v:=?v0) ?hr0 rfl ?hR0
  case hr0=>simp[results,Tryz.results167,go_sem,i.c0,i.c1,i.c2,i.c3];rfl
  refine⟨_,rfl,?_,Four.mk A l z u (I2 Q.1 Q.2 HE.out)⟩;rw[H0.out];exact(aF g.bl U.out _ _ _ _).alloc (by simpa[set4]using g.le) _
 ·clear g H G J E rf z3;obtain⟨h8,h9,h5,hh,pf⟩:=f.tail.head.at4;have z0:=f.tail.head.lt;go_wp2_with fail
  refine(sH _ _ _ _ (Four.mk A l z u rfl) (Four.mk L.h0 L.h1 L.h2 dC rfl) _).mono ?_;rintro e w2 ⟨v,rfl,X,v3,t2,j,rfl,⟨Y,W,c2,R,rfl,K,o,F,I,S⟩,hj,T⟩;have V:Hid (val Y W c2 R+val N M O 0=val C b1 D B+top*j):=by unfold Hid;rw[<-S];exact T
  replace f:=f.call X;obtain⟨hi,hg,h6,h7,sf⟩:=f.head.at4;obtain⟨H,G,J,E,rf⟩:=f.tail.tail.tail.tail.head.at4;have z4:=f.head.lt;have z3:=f.tail.tail.tail.tail.head.lt;go_wp2;have i:=(f.tail.tail.tail.tail.head.at4.other4 m3.symm (uZ Y) (uZ W) (uZ c2) (uZ R)).self4 Y W c2 R;unfold set4 at i;refine TM (v:=?v1) ?hr1 rfl ?hR1
  case hr1=>simp[results,Tryz.results167,go_sem,i.c0,i.c1,i.c2,i.c3];rfl
  refine⟨_,rfl,?_,Four.mk K o F I (I3 L.out Q.1 Q.2 HE.out V.out hj (iU K o F I) (iU A l z u))⟩;rw[H0.out];exact aF (aF f.bl Q4.out _ _ _ _) U.out _ _ _ _
theorem Ik{a b c d n m i s0 t0 u0 k g e f:Nat}(l:m=val a b c d)
 (o:i+18446744073709551616*k=a*n+val 0 0 0 0)
 (j:s0+18446744073709551616*g=b*n+k)
 (p:t0+18446744073709551616*e=c*n+g)
 (e3:u0+18446744073709551616*f=d*n+e) :
 val i s0 t0 u0+top*f=m*n:=by
 have j:val a b c d*n=val (a*n) (b*n) (c*n) (d*n):=by
  rw[Ut,Ah,Ut n a,Ut n b,Ut n c,Ut n d]
 rw[l,j];unfold val at *;unfold top;omega
theorem dX(g0 g1 g2 P:Nat)(x y:TC)(m n:Nat)(H:Gap g0 g1 g2 P)(hx:Four x m)(K:Four y n)(w:TA):
 TW prog 141 #[.agg #[uZ g0,uZ g1,uZ g2,uZ 0],x,y] w (rZ w λe w'=>Four e (m*n%P)):=by
 obtain⟨a,b,c,d,rfl,ha,hb,hc,hd,em⟩:=hx;obtain⟨p,q,r,s,rfl,hp,hq,hr,hs,en⟩:=id K;have HM:Hid (m=val a b c d):=em;clear em en;go_enter func141,ntmps141;go_wp2_with fail
 have C:=BV w 89 87 87 87 g0 g1 g2 0 a b c d p q r s 0 0 0 0;simp only[Ux]at C;have PR:=C.head.at4;have X:=C.tail.head.at4;have Y:=C.tail.tail.head.at4;have f:=C.tail.tail.tail.head.at4;have BL:Hid (Below w.heap.size w _):=C.bl;clear C;generalize U2 _ _=w1 at X Y PR f BL⊢;generalize h3:w.heap.size+1+1+1=k3 at f⊢;generalize h2:w.heap.size+1+1=k4 at Y⊢;generalize h1:w.heap.size+1=k1 at X⊢;have Q3:Hid (w.heap.size<=k3):=by unfold Hid;omega
 generalize h0:w.heap.size=B at PR BL Q3⊢;have ke:B≠k3:=oM;have k9:k1≠k3:=oM;have H0:Hid (w.heap.size=B):=h0;clear h0 h1 h2 h3;refine(kA a _ _ _ _ ha K (Four.mk (a:=0) (b:=0) (c:=0) (d:=0) dC dC dC dC rfl) _).mono ?_;rintro e w2 ⟨v,rfl,i,l0,v2,t0,rfl,ht,⟨a0,b0,c0,d0,rfl,k8,h8,hw,h7,u⟩,z⟩;have hk:Hid (l0+18446744073709551616*val a0 b0 c0 d0=a*n+val 0 0 0 0):=by unfold Hid;rw[<-u];exact z
 clear z u;replace BL:Hid (Below B w w2):=xM BL PR i;replace X:=X.call i;replace Y:=Y.call i;replace f:=f.call i;replace PR:=PR.call i;obtain⟨S,Z,N,Q,xf⟩:=id X;have z1:=X.lt;obtain⟨O,V,I,U,yf⟩:=id Y;have z4:=Y.lt;obtain⟨o,l,t,j,rf⟩:=id f;have z3:=f.lt;obtain⟨D,E,A,F,pf⟩:=id PR;have z0:=PR.lt;go_wp2_with fail
 refine(kA b _ _ _ _ hb K (Four.mk k8 h8 hw h7 rfl) _).mono ?_;rintro e w3 ⟨v,rfl,g,l1,v3,t1,rfl,h5,⟨a1,b1,c1,d1,rfl,hn,hz,hi,h9,u⟩,z⟩;have k6:Hid (l1+18446744073709551616*val a1 b1 c1 d1=b*n+val a0 b0 c0 d0):=by unfold Hid;rw[<-u];exact z
 have G:=Vl PR.lt;have j1:=Vl X.lt;have j3:=Vl f.lt;have j4:=Vl Y.lt;have J0:=mk1 (V6 PR.lt);have T:=(At4.made w2 87 a0 b0 c0 d0 rfl).call g;replace BL:Hid (Below B w w3):=xM (W:=w2.alloc (.cells #[uZ a0,uZ b0,uZ c0,uZ d0] 87)) (BL.alloc (V6 PR.lt) _) (PR.alloc _) g;replace X:=(X.alloc _).call g;replace Y:=(Y.alloc _).call g;replace f:=(f.alloc _).call g;replace PR:=(PR.alloc _).call g;obtain⟨S,Z,N,Q,xf⟩:=id X;have z1:=X.lt;obtain⟨O,V,I,U,yf⟩:=id Y;have z4:=Y.lt;obtain⟨o,l,t,j,rf⟩:=id f;have z3:=f.lt;obtain⟨D,E,A,F,pf⟩:=id PR;have z0:=PR.lt;obtain⟨L,M,R,h4,tf⟩:=id T;have z5:=T.lt;go_wp2_with fail
 refine(kA c _ _ _ _ hc K (Four.mk hn hz hi h9 rfl) _).mono ?_;rintro e w4 ⟨v,rfl,k,l2,v4,t4,rfl,hh,⟨a2,b2,c2,d2,rfl,k2,i,h6,hl,u⟩,z⟩;have hu:Hid (l2+18446744073709551616*val a2 b2 c2 d2=c*n+val a1 b1 c1 d1):=by unfold Hid;rw[<-u];exact z
 replace BL:Hid (Below B w w4):=xM (aF BL.out J0.out _ _ _ _) (PR.other4 G.symm _ _ _ _) k;replace X:=(X.other4 j1.symm _ _ _ _).call k;replace Y:=(Y.other4 j4.symm _ _ _ _).call k;replace f:=(f.other4 j3.symm _ _ _ _).call k;replace PR:=(PR.other4 G.symm _ _ _ _).call k;replace T:=(T.self4 a1 b1 c1 d1).call k;obtain⟨S,Z,N,Q,xf⟩:=id X;have z1:=X.lt;obtain⟨O,V,I,U,yf⟩:=id Y;have z4:=Y.lt;obtain⟨o,l,t,j,rf⟩:=id f;have z3:=f.lt;obtain⟨D,E,A,F,pf⟩:=id PR;have z0:=PR.lt;obtain⟨L,M,R,h4,tf⟩:=id T;have z5:=T.lt;go_wp2_with fail
 refine(kA d _ _ _ _ hd K (Four.mk k2 i h6 hl rfl) _).mono ?_;rintro e w5 ⟨v,rfl,k,l3,v4,t4,rfl,hg,⟨a3,b3,c3,d3,rfl,k7,g,hm,hj,u⟩,z⟩;have k5:Hid (l3+18446744073709551616*val a3 b3 c3 d3=d*n+val a2 b2 c2 d2):=by unfold Hid;rw[<-u];exact z
 replace BL:Hid (Below B w w5):=xM (aF BL.out J0.out _ _ _ _) (PR.other4 G.symm _ _ _ _) k;replace X:=(X.other4 j1.symm _ _ _ _).call k;replace Y:=(Y.other4 j4.symm _ _ _ _).call k;replace f:=(f.other4 j3.symm _ _ _ _).call k;replace PR:=(PR.other4 G.symm _ _ _ _).call k;replace T:=(T.self4 a2 b2 c2 d2).call k;obtain⟨o,l,t,j,rf⟩:=id f;have z3:=f.lt;obtain⟨D,E,A,F,pf⟩:=id PR;have z0:=PR.lt;obtain⟨L,M,R,h4,tf⟩:=id T;have z5:=T.lt;go_wp2_with fail
 refine(wQ g0 g1 g2 _ _ _ _ P H.h0 H.h1 H.h2 H.hor H.hP H.hP2 (Four.mk ht h5 hh hg rfl) (Four.mk k7 g hm hj rfl) _).mono ?_;rintro e w6 ⟨v,rfl,k,hv⟩;rw[Ik HM.out hk.out k6.out hu.out k5.out]at hv;replace BL:Hid (Below B w w6):=xM (aF BL.out J0.out _ _ _ _) (PR.other4 G.symm _ _ _ _) k;replace f:=(f.other4 j3.symm _ _ _ _).call k;replace PR:=(PR.other4 G.symm _ _ _ _).call k;obtain⟨a7,b7,c7,d7,rfl,ka,kf,kb,kd,kc⟩:=id hv;have HV:=mk1 (hv);obtain⟨o,l,t,j,rf⟩:=id f;have z3:=f.lt;go_wp2;have J:=f.self4 a7 b7 c7 d7;unfold set4 at J;refine TM (v:=?v) ?hr rfl ?hR
 case hr=>simp[results,Tryz.results141,go_sem,J.c0,J.c1,J.c2,J.c3];rfl
 refine⟨_,rfl,?_,HV.out⟩;rw[H0.out];exact aF BL.out Q3.out _ _ _ _
theorem zQ{w W:TA}{k e f a b c d p q r s j g i:Nat}(h:Kept w k [⟨k,0,j,g,i,0⟩,⟨e,0,a,b,c,d⟩,⟨f,0,p,q,r,s⟩] W):W.cell? ⟨k,0,none⟩=some (uZ j)/\W.cell? ⟨k,1,none⟩=some (uZ g)/\W.cell? ⟨k,2,none⟩=some (uZ i)/\W.cell? ⟨k,3,none⟩=some (uZ 0)/\W.cell? ⟨e,0,none⟩=some (uZ a)/\W.cell? ⟨e,1,none⟩=some (uZ b)/\W.cell? ⟨e,2,none⟩=some (uZ c)/\W.cell? ⟨e,3,none⟩=some (uZ d)/\W.cell? ⟨f,0,none⟩=some (uZ p)/\W.cell? ⟨f,1,none⟩=some (uZ q)/\W.cell? ⟨f,2,none⟩=some (uZ r)/\W.cell? ⟨f,3,none⟩=some (uZ s)/\Kept w k [⟨k,0,j,g,i,0⟩,⟨e,0,a,b,c,d⟩,⟨f,0,p,q,r,s⟩] W:=
 ⟨h.head.c0,h.head.c1,h.head.c2,h.head.c3,h.tail.head.c0,h.tail.head.c1,h.tail.head.c2,h.tail.head.c3,h.tail.tail.head.c0,h.tail.tail.head.c1,h.tail.tail.head.c2,h.tail.tail.head.c3,h⟩
theorem rR(o l t:Nat)(x y:TC)(m n R:Nat)(P:Four x m)(Q:Four y n)(w:TA):((∀w,TW prog 143 #[.agg #[.int .u64 o,.int .u64 l,.int .u64 t,.int .u64 0],x,y] w (Ret λe w'=>Below w.heap.size w w'/\Four e R))->TW prog 114 #[.agg #[.int .u64 o,.int .u64 l,.int .u64 t,.int .u64 0],x,y] w (Ret λe w'=>Below w.heap.size w w'/\Four e R))/\((∀w,TW prog 167 #[.agg #[.int .u64 o,.int .u64 l,.int .u64 t,.int .u64 0],x,y] w (Ret λe w'=>Below w.heap.size w w'/\Four e R))->TW prog 166 #[.agg #[.int .u64 o,.int .u64 l,.int .u64 t,.int .u64 0],x,y] w (Ret λe w'=>Below w.heap.size w w'/\Four e R))/\((∀w,TW prog 141 #[.agg #[.int .u64 o,.int .u64 l,.int .u64 t,.int .u64 0],x,y] w (Ret λe w'=>Below w.heap.size w w'/\Four e R))->TW prog 113 #[.agg #[.int .u64 o,.int .u64 l,.int .u64 t,.int .u64 0],x,y] w (Ret λe w'=>Below w.heap.size w w'/\Four e R)):=by
 obtain⟨a,b,c,d,rfl,ha,hb,X,hd,em⟩:=id P;obtain⟨p,q,r,s,rfl,hp,hq,hr,hs,en⟩:=id Q;have Z:=mk1 (P);have HY:=mk1 (Q);refine⟨λH=>?_,λH=>?_,λH=>?_⟩;all_goals replace H:Hid _:=H
 all_goals clear em en P Q ha hb X hd hp hq hr hs
 case' refine_1=>go_enter func114,ntmps114
 case' refine_2=>go_enter func166,ntmps166
 case' refine_3=>go_enter func113,ntmps113
 all_goals
  go_wp2_with fail
  have g:=BV w 89 44 44 44 o l t 0 a b c d p q r s 0 0 0 0;simp only[Ux]at g;generalize h3:w.heap.size+1+1+1=U at g⊢;generalize h2:w.heap.size+1+1=F at g⊢;generalize h1:w.heap.size+1=E at g⊢;have L:Hid (w.heap.size<=U):=by unfold Hid;omega
  generalize h0:w.heap.size=C at g L⊢;have H0:Hid (w.heap.size=C):=h0;have G:∀x∈([⟨C,0,o,l,t,0⟩,⟨E,0,a,b,c,d⟩,⟨F,0,p,q,r,s⟩]:List Blk),U≠x.k:=by simp only[U0,Ud,or_false];rintro x (rfl|rfl|rfl)<;>simp only<;>omega
  have i:=(((Kept.mk1 g.bl g.le).cons g.tail.tail.head).cons g.tail.head).cons g.head;have T3:=g.tail.tail.tail.head.at4;obtain⟨B,z,u,A,K⟩:=id T3;have M:=T3.lt;go_region_held3 (λw'=>w'.cell? ⟨C,0,none⟩=some (.int .u64 o)/\w'.cell? ⟨C,1,none⟩=some (.int .u64 l)/\w'.cell? ⟨C,2,none⟩=some (.int .u64 t)/\w'.cell? ⟨C,3,none⟩=some (.int .u64 0)/\w'.cell? ⟨E,0,none⟩=some (.int .u64 a)/\w'.cell? ⟨E,1,none⟩=some (.int .u64 b)/\w'.cell? ⟨E,2,none⟩=some (.int .u64 c)/\w'.cell? ⟨E,3,none⟩=some (.int .u64 d)/\w'.cell? ⟨F,0,none⟩=some (.int .u64 p)/\w'.cell? ⟨F,1,none⟩=some (.int .u64 q)/\w'.cell? ⟨F,2,none⟩=some (.int .u64 r)/\w'.cell? ⟨F,3,none⟩=some (.int .u64 s)/\Kept w C [⟨C,0,o,l,t,0⟩,⟨E,0,a,b,c,d⟩,⟨F,0,p,q,r,s⟩] w') (first|(with_reducible exact zQ i)|(with_reducible exact zQ i.drew)|(with_reducible exact zQ (i.set4' L.out G _ _ _ _))|(with_reducible exact zQ (i.set4' L.out G _ _ _ _).drew)|fail) (first|(go_at_call_of 71 (Um #[UV .u64 a,UV .u64 b,UV .u64 c,UV .u64 d]);refine(jP _ _ Z.out _).mono ?_;rintro e N ⟨v,rfl,k,rfl⟩;(first|(with_reducible (have f:=i.drew.call k))|(with_reducible (have f:=i.call k))|fail);(first|(with_reducible (have j:=T3.drew.call k))|(with_reducible (have j:=T3.call k))|fail);clear i T3 k;have i:=f;have T3:=j;clear f j;obtain⟨B,z,u,A,K⟩:=id T3;have M:=T3.lt)|(go_at_call_of 71 (Um #[UV .u64 p,UV .u64 q,UV .u64 r,UV .u64 s]);refine(jP _ _ HY.out _).mono ?_;rintro e N ⟨v,rfl,k,rfl⟩;(first|(with_reducible (have f:=i.drew.call k))|(with_reducible (have f:=i.call k))|fail);(first|(with_reducible (have j:=T3.drew.call k))|(with_reducible (have j:=T3.call k))|fail);clear i T3 k;have i:=f;have T3:=j;clear f j;obtain⟨B,z,u,A,K⟩:=id T3;have M:=T3.lt)|((first|go_at_call 143|go_at_call 167|go_at_call 141);refine(H _).mono ?_;rintro e N ⟨v,rfl,k,D⟩;obtain⟨V,S,W,T,rfl,Y,h4,h5,h6,O⟩:=id D;clear O;have J:Hid (Four _ _):=D;clear D;(first|(with_reducible (have f:=i.drew.call k))|(with_reducible (have f:=i.call k))|fail);(first|(with_reducible (have j:=T3.drew.call k))|(with_reducible (have j:=T3.call k))|fail);clear i T3 k;have i:=f;have T3:=j;clear f j;obtain⟨B,z,u,A,K⟩:=id T3;have M:=T3.lt)|(go_at_call 142;refine(jM _ _ J.out _).mono ?_;rintro e N ⟨v,rfl,k,rfl⟩;(first|(with_reducible (have f:=i.drew.call k))|(with_reducible (have f:=i.call k))|fail);(first|(with_reducible (have j:=T3.drew.call k))|(with_reducible (have j:=T3.call k))|fail);clear i T3 k;have i:=f;have T3:=j;clear f j;obtain⟨B,z,u,A,K⟩:=id T3;have M:=T3.lt))
  all_goals (try go_wp2)
  all_goals (have I:=T3.self4 V S W T)
  all_goals unfold set4 at I
  all_goals (refine TM (v:=(.agg #[.int .u64 V,.int .u64 S,.int .u64 W,.int .u64 T])) ?_ rfl ?_)
  all_goals first|(refine⟨_,rfl,?_,J.out⟩;rw[H0.out];exact aF i.bl L.out _ _ _ _)|(simp[results,Tryz.results114,Tryz.results166,Tryz.results113,go_sem,I.c0,I.c1,I.c2,I.c3];done)|fail
theorem Cs(c b k P:Nat)(x y:TC)(m n:Nat)(i:Gap c b k P)(f:Four x m)(d:Four y n)(j:m<P)(g:n<P)(w:TA):
 TW prog 114 #[.agg #[uZ c,uZ b,uZ k,uZ 0],x,y] w (rZ w λe w'=>Four e ((m+n)%P)):=
 (rR c b k x y m n _ f d w).1 (λw=>sum_any c b k P _ _ m n i f d j g w)
theorem zK(c b k P:Nat)(x y:TC)(m n:Nat)(i:Gap c b k P)(f:Four x m)(d:Four y n)(j:m<P)(g:n<P)(w:TA):
 TW prog 166 #[.agg #[uZ c,uZ b,uZ k,uZ 0],x,y] w (rZ w λe w'=>Four e ((m+P-n)%P)):=
 (rR c b k x y m n _ f d w).2.1 (λw=>nG c b k P _ _ m n i f d j g w)
theorem oN(c b k P:Nat)(x y:TC)(m n:Nat)(g:Gap c b k P)(f:Four x m)(d:Four y n)(w:TA):
 TW prog 113 #[.agg #[uZ c,uZ b,uZ k,uZ 0],x,y] w (rZ w λe w'=>Four e (m*n%P)):=
 (rR c b k x y m n _ f d w).2.2 (λw=>dX c b k P _ _ m n g f d w)
end
section
variable {P:Nat}[NeZero P]{N:Nat}
theorem JS(m i s:Nat):m/2^i%2^(s+1)=2*(m/2^(i+1)%2^s)+m/2^i%2:=by
 have e:m/2^(i+1)=m/2^i/2:=by rw[Vk,V7]
 rw[e,Vk,Ut (2^s),Nat.mod_mul];omega
theorem low_bit(y z r:Nat)(f:r<64)(c:z=y%18446744073709551616):z/2^r%2=y/2^r%2:=by
 have e:(18446744073709551616:Nat)=2^r*(2*2^(63-r)):=by
  rw[<-VV,<-Vk,<-VS,show r+1+(63-r)=64 by omega]
 have b:0<2^r:=WR dC;have d:y/2^r=2*(2^(63-r)*(y/18446744073709551616))+z/2^r:=by
  have k:y=2^r*(2*(2^(63-r)*(y/18446744073709551616)))+z:=by
   have:=YT y 18446744073709551616;rw[c];rw[e]at this⊢;rw[VV,VV]at this;exact this.symm
  conv=>lhs;rw[k]
  rw[Nat.mul_add_div b]
 omega
def wd(a b c d q:Nat):Nat:=if q=0 then a else if q=1 then b else if q=2 then c else d
theorem Hd{a b c d:Nat}(q:Nat)(f:a<18446744073709551616)(e:b<18446744073709551616)(k:c<18446744073709551616)(hd:d<18446744073709551616):wd a b c d q<18446744073709551616:=by
 unfold wd;split;exact f;split;exact e;split;exact k;exact hd
theorem He{a b c d:Nat}(q:Nat)(f:q<4)(g:a<18446744073709551616)(e:b<18446744073709551616)(k:c<18446744073709551616)(hd:d<18446744073709551616):
 wd a b c d q=val a b c d/2^(64*q)%18446744073709551616:=by
 have h:q=0\/q=1\/q=2\/q=3:=oM;rcases h with rfl|rfl|rfl|rfl
 ·show a=val a b c d/1%_;unfold val;omega
 ·show b=val a b c d/18446744073709551616%_;unfold val;omega
 ·show c=val a b c d/340282366920938463463374607431768211456%_;unfold val;omega
 ·show d=val a b c d/6277101735386680763835789423207666416102355444464034512896%_;unfold val;omega
theorem Cx{a b c d:Nat}(i:Nat)(g:i<256)(f:a<18446744073709551616)(e:b<18446744073709551616)(k:c<18446744073709551616)(hd:d<18446744073709551616):
 wd a b c d (i/64)/2^(i%64)%2=val a b c d/2^i%2:=by
 rw[low_bit _ _ (i%64) oM (He (i/64) oM f e k hd),V7,<-VS,show 64*(i/64)+i%64=i by omega]
theorem Et(a b c d q x:Nat)(k:q<4):val (if q=0 then x else a) (if q=1 then x else b) (if q=2 then x else c) (if q=3 then x else d)+2^(64*q)*wd a b c d q=val a b c d+2^(64*q)*x:=by
 have h:q=0\/q=1\/q=2\/q=3:=oM;rcases h with rfl|rfl|rfl|rfl<;>simp[wd,val]<;>omega
theorem iP(a P k:Nat):a^k%P*(a^k%P)%P=a^(2*k)%P:=by
 rw[<-VT,<-VS,Nat.two_mul]
theorem BA(a P k l:Nat):a^k%P*(a^l%P)%P=a^(k+l)%P:=by
 rw[<-VT,<-VS]
theorem qR(a P k:Nat):a^k%P*a%P=a^(k+1)%P:=by
 rw[Vk,VT,Nat.mod_mod,<-VT]
theorem MD(e i:Nat):e/2^i=16*(e/2^(i+4))+e/2^i%2^4:=by
 rw[VS,<-V7];have:=YT (e/2^i) (2^4);omega
theorem Au(e i:Nat):e/2^i=2*(e/2^(i+1))+e/2^i%2:=by
 rw[Vk,<-V7];omega
theorem OW{M k q r:Nat}(e:q=k/8)(d:r=k%8):M*256^(k+1)/2^(64*q)%18446744073709551616=256^(r+1)*(M%256^(7-r)):=by
 have b:256^(k+1)=2^(64*q)*256^(r+1):=by
  rw[show(2:Nat)^(64*q)=256^(8*q) by rw[show 64*q=8*(8*q) by omega,Y7],<-VS,show 8*q+(r+1)=k+1 by omega]
 have c:(18446744073709551616:Nat)=256^(r+1)*256^(7-r):=by
  rw[<-VS,show r+1+(7-r)=8 by omega]
 rw[b,Nat.mul_left_comm,Nat.mul_div_cancel_left _ (WR dC),c,Ut M,Nat.mul_mod_mul_left]
theorem QO{y x r:Nat}(f:r<8)(g:x<256)(c:y<256^(7-r)):(256^(r+1)*y) ||| (x*2^(8*r))=256^(r+1)*y+x*2^(8*r)/\256^(r+1)*y+x*2^(8*r)<18446744073709551616:=by
 have e:(256:Nat)^(r+1)=2^(8*(r+1)):=by rw[Y7]
 have k:x*2^(8*r)<2^(8*(r+1)):=by
  rw[show 8*(r+1)=8+8*r by omega,VS];exact Nat.mul_lt_mul_of_pos_right oM (WR dC)
 have d:(18446744073709551616:Nat)=256^(r+1)*256^(7-r):=by
  rw[<-VS,show r+1+(7-r)=8 by omega]
 refine⟨?_,?_⟩
 ·rw[e];exact(WQ k y).symm
 ·have b:256^(r+1)*(y+1)<=256^(r+1)*256^(7-r):=Nat.mul_le_mul_left _ c;rw[<-d,Nat.mul_add,Nat.mul_one]at b;rw[<-e]at k;omega
theorem Dc(a b c d:Nat):
 val (a/4+b*4611686018427387904%18446744073709551616) (b/4+c*4611686018427387904%18446744073709551616) (c/4+d*4611686018427387904%18446744073709551616) (d/4)=val a b c d/4:=by
 unfold val;omega
end
section
open Go.RowKit Go.Sort
variable {P:Nat}[NeZero P]{N:Nat}
theorem At4.wd{w:TA}{k a b c d:Nat}(h:At4 w k a b c d)(q:Nat)(f:q<4):w.cell? ⟨k,q,none⟩=some (uZ (wd a b c d q:Int)):=by
 have e:q=0\/q=1\/q=2\/q=3:=oM;rcases e with rfl|rfl|rfl|rfl
 ·exact h.c0
 ·exact h.c1
 ·exact h.c2
 ·exact h.c3
theorem rP(n:Nat)(h:n<9223372036854775808):UR.wrap (n:Int)=(n:Int):=by rw[yAi];omega
theorem or_bit(b t:Nat)(d:b<4294967296)(c:t<2):bits .or .i64 ((2*b:Nat):Int) (t:Int)=((2*b+t:Nat):Int):=by
 rw[(bits_nat .i64 40 dC (λn k e=>by rw[yAi];omega) (2*b) t oM oM).2];have:=WQ (i:=1) (b:=t) oM b;rw[show 2^1*b=2*b from rfl]at this;rw[<-this]
theorem and_one(v:Nat)(hv:v<18446744073709551616):bits .and .u64 (v:Int) 1=((v%2:Nat):Int):=by
 have:=bits_and_u64_nat v 1 hv oM;rw[show v &&& 1=v%2 from Nat.and_one_is_mod v]at this;exact this
theorem xN{m f c g:Nat}(k:m<top)(h:g=c\/f+g=256):m/2^(f+g)%2^(c-g)=0:=by
 rcases h with rfl|h
 ·rw[Yg,Wx,ZM]
 ·rw[h,WY (by exact k),Nat.zero_mod]
theorem zE{m f g c:Nat}(b:0<g)(k:g<=c):m/2^(f+(g-1))%2^(c-(g-1))=2*(m/2^(f+g)%2^(c-g))+m/2^(f+(g-1))%2:=by
 rw[show c-(g-1)=c-g+1 by omega,JS,show f+(g-1)+1=f+g by omega]
theorem Cu(x:TC)(m f c:Nat)(Q:Four x m)(hf:f<=256)(hc:c<=32)(w:TA):
 TW prog 157 #[x,iZ f,iZ c] w (rZ w λe w'=>e=iZ ((m/2^f%2^c:Nat):Int)):=by
 obtain⟨n,p,o,q,rfl,K,L,H,M,Z⟩:=id Q;have V:=mk1 (Q);have k:=mk5 K L H M Z;have P:=mk1 (V.lt);obtain⟨R,U⟩:∃R,m/2^f%2^c=R:=⟨_,rfl⟩
 have S:=mk1 (U);rw[U];by_cases W:(f:Int)+(c:Int)<=256
 ·have T:¬(256:Int)<(f:Int)+(c:Int):=oM;go_enter func157,ntmps157;go_wp2;have X:=At4.made w 44 n p o q rfl;have BL:=mk1 (aD w (.cells #[uZ n,uZ p,uZ o,uZ q] 44));generalize U2 _ _=I at X BL⊢;go_loopg [7,8] c (λgk s7 s8 wr=>gk<=c/\f+gk<=256/\s7=iZ ((m/2^(f+gk)%2^(c-gk):Nat):Int)/\s8=iZ ((f:Int)+(gk:Int)-1)/\I=wr)
  case atStart=>exact⟨oM,oM,by rw[xN P.out (Ub rfl)];rfl,by congr 1<;>omega,rfl⟩
  case round =>
   obtain⟨r,D,rfl,rfl,rfl⟩:=hrel;by_cases J:gk=0
   ·subst J;have N:¬(f:Int)<=(f:Int)+((0:Nat):Int)-1:=oM;rw[VK,YD,S.out];go_wp2;go_ret;exact⟨_,rfl,BL.out,rfl⟩
   ·obtain⟨i,a⟩:∃i,f+(gk-1)=i:=⟨_,rfl⟩
    have E:(f:Int)+(gk:Int)-1=(i:Int):=oM;have N:(f:Int)<=(i:Int):=oM;have s:i<256:=oM;have F:=X.wd (i/64) oM;have d:wd n p o q (i/64)<18446744073709551616:=Hd _ k.1 k.2.1 k.2.2.1 k.2.2.2.1;have b:wd n p o q (i/64)/2^(i%64)%2=m/2^i%2:=by rw[k.2.2.2.2];exact Cx i s k.1 k.2.1 k.2.2.1 k.2.2.2.1
    have i2:(i:Int).tdiv 64=((i/64:Nat):Int):=by rw[Wt oM];omega
    have i3:(i:Int).tmod 64=((i%64:Nat):Int):=by rw[Int.tmod_eq_emod_of_nonneg oM];omega
    have i4:(i/64:Nat)<4:=oM;generalize wd n p o q (i/64)=v at F d b;have z:v/2^(i%64)<18446744073709551616:=Zo (yBf _ _) d;have l:bits .and .u64 ((v:Int)/2^(i%64)) 1=((m/2^i%2:Nat):Int):=by
     have:=and_one (v/2^(i%64)) z;rw[b]at this;rw[<-this,YN,WC];rfl
    obtain⟨t,C⟩:∃t,m/2^i%2=t:=⟨_,rfl⟩
    have u:t<2:=oM;have y:=zE (m:=m) (f:=f) (g:=gk) (c:=c) oM r;rw[a,C]at y;have j:m/2^(f+gk)%2^(c-gk)<4294967296:=TF (Vm _ (WR dC)) (show 2^(c-gk)<=2^32 from Ve dC oM);rw[C]at l;generalize m/2^(f+gk)%2^(c-gk)=B at y j⊢;have hor:=or_bit B t j u;have G:UR.wrap ((B:Int)*2)=((2*B:Nat):Int):=by rw[show(B:Int)*2=((2*B:Nat):Int) by omega];exact rP _ oM
    have Y:UR.wrap (t:Int)=(t:Int):=rP _ oM;have O:=mk1 (y);have A:=mk1 (a);have zx:=X.lt;rw[E];go_wp2;go_roundg (gk-1)
    case measure=>omega
    case rel =>
     refine⟨oM,oM,?_,?_,rfl⟩
     ·rw[A.out,O.out,<-hor,V0];rfl
     ·congr 1;have:=A.out;omega
 ·have T:(256:Int)<(f:Int)+(c:Int):=oM;go_enter func157,ntmps157;go_wp2;have X:=At4.made w 44 n p o q rfl;have BL:=mk1 (aD w (.cells #[uZ n,uZ p,uZ o,uZ q] 44));generalize U2 _ _=I at X BL⊢;go_loopg [7,8] (256-f) (λgk s7 s8 wr=>gk<=c/\f+gk<=256/\s7=iZ ((m/2^(f+gk)%2^(c-gk):Nat):Int)/\s8=iZ ((f:Int)+(gk:Int)-1)/\I=wr)
  case atStart=>exact⟨oM,oM,by rw[xN P.out (T8 oM)];rfl,by congr 1<;>omega,rfl⟩
  case round =>
   obtain⟨r,D,rfl,rfl,rfl⟩:=hrel;by_cases J:gk=0
   ·subst J;have N:¬(f:Int)<=(f:Int)+((0:Nat):Int)-1:=oM;rw[VK,YD,S.out];go_wp2;go_ret;exact⟨_,rfl,BL.out,rfl⟩
   ·obtain⟨i,a⟩:∃i,f+(gk-1)=i:=⟨_,rfl⟩
    have E:(f:Int)+(gk:Int)-1=(i:Int):=oM;have N:(f:Int)<=(i:Int):=oM;have s:i<256:=oM;have F:=X.wd (i/64) oM;have d:wd n p o q (i/64)<18446744073709551616:=Hd _ k.1 k.2.1 k.2.2.1 k.2.2.2.1;have b:wd n p o q (i/64)/2^(i%64)%2=m/2^i%2:=by rw[k.2.2.2.2];exact Cx i s k.1 k.2.1 k.2.2.1 k.2.2.2.1
    generalize wd n p o q (i/64)=v at F d b;have z:v/2^(i%64)<18446744073709551616:=Zo (yBf _ _) d;have l:bits .and .u64 ((v:Int)/2^(i%64)) 1=((m/2^i%2:Nat):Int):=by
     have:=and_one (v/2^(i%64)) z;rw[b]at this;rw[<-this,YN,WC];rfl
    obtain⟨t,C⟩:∃t,m/2^i%2=t:=⟨_,rfl⟩
    have u:t<2:=oM;have y:=zE (m:=m) (f:=f) (g:=gk) (c:=c) oM r;rw[a,C]at y;have j:m/2^(f+gk)%2^(c-gk)<4294967296:=TF (Vm _ (WR dC)) (show 2^(c-gk)<=2^32 from Ve dC oM);rw[C]at l;generalize m/2^(f+gk)%2^(c-gk)=B at y j⊢;have hor:=or_bit B t j u;have G:UR.wrap ((B:Int)*2)=((2*B:Nat):Int):=by rw[show(B:Int)*2=((2*B:Nat):Int) by omega];exact rP _ oM
    have O:=mk1 (y);have A:=mk1 (a);have zx:=X.lt;rw[E];go_wp2;go_roundg (gk-1)
    case measure=>omega
    case rel =>
     refine⟨oM,oM,?_,?_,rfl⟩
     ·rw[A.out,O.out,<-hor,V0];rfl
     ·congr 1;have:=A.out;omega
end
section
open Go
section
variable {P:Vd}{ops:Array UI}{Q:Exit->Act->TA->Prop}{S:TA->Prop}{p:Nat}
def anyTill(P:Vd)(k:Array UI)(Q:Exit->Act->TA->Prop)(S:TA->Prop)(p:Nat):Nat->Array Bool->Act->TA->Prop
 | 0,listed,a,w=>UN .any k listed=[]/\Q .normal a w
 | fuel+1,listed,a,w=>(UN .any k listed=[]->Q .normal a w) /\
  ∀i∈UN .any k listed,wpOp P k Q i (λb w'=>((listed.setIfInBounds i true).getD p false=false->S w')/\anyTill P k Q S p fuel (listed.setIfInBounds i true) b w') a w
theorem anyTill.any:∀(b:Nat) (k:Array Bool) (a:Act) (w:TA),anyTill P ops Q S p b k a w->wpAny P .any ops Q b k a w
 | 0,_,_,_,h=>h
 | b+1,_,_,_,h=>⟨h.1,λi d=>wpOp_mono (λc w' e=>anyTill.any b _ c w' e.2) (h.2 i d)⟩
theorem anyTill.first{i:Nat}{t op:UI}{v:TC}(K:ops[i]? = some t)(V:ops[p]? = some op)(G:∃e∈op.after,U7 .any e=true/\e.on=i)(F:p≠i)
 (n:∀(j:Nat) (o:UI) cs b,ops[j]? = some o->o.op≠.select cs b) (Y:∀c a w,Q (.panic c) (a.put t.dst v) w->Q (.panic c) a w) :
 ∀(f:Nat) (d:Array Bool) (a:Act) (w:TA),d.getD p false=false ->
  (∀j s,ops[j]? = some s->j≠i->d.getD j true=false->(∀e∈s.after,U7 .any e=true->e.on≠i)->t.apart ops s=true) ->
  i∈UN .any ops d->YieldsIf P ops S t v a->S w ->
  anyTill P ops Q S p f (d.setIfInBounds i true) (a.put t.dst v) w->anyTill P ops Q S p (f+1) d a w:=by
 intro f;induction f with
 | zero =>
  intro d a w _ _ A E x H;refine⟨λh=>absurd A (by rw[h];exact Ud),λj D=>?_⟩;by_cases g:j=i
  ·subst g;exact E.wpOp K x ⟨λ_=>x,H⟩
  ·exact absurd (ready_mono D g) (by rw[H.1];exact Ud)
 | succ f ih =>
  intro d a w T m A E x H;refine⟨λh=>absurd A (by rw[h];exact Ud),λj D=>?_⟩;by_cases g:j=i
  ·subst g;exact E.wpOp K x ⟨λ_=>x,H⟩
  ·obtain⟨q,s,l,u⟩:=mem_ready.1 D;have r:∀e∈s.after,U7 .any e=true->e.on≠i:=λe O J L=>by
    have y:=u e O J;have B:=(mem_ready.1 A).1;rw[L]at y;rcases Nat.lt_or_ge i d.size with z|z
    ·simp[z]at B y;rw[B]at y;cases y
    ·simp[Array.getElem?_eq_none z]at y
   have z:j≠p:=by
    intro h;subst h;rw[V]at l;obtain⟨e,O,J,y⟩:=G;injection l with l
    subst l;exact r e O J y
   have U:=wpOp_putIf l (m j s l g q r) (λcs b=>n i t cs b K) (λcs b=>n j s cs b l) Y E (H.2 j (ready_mono D g));have N:(d.setIfInBounds j true).getD p false=false:=by rw[XB false z];exact T
   refine wpOp_mono (λW w' M=>?_) U;have B:=M.2.1 (by rw[XB false z,XB false (Ne.symm F)];exact T);refine⟨λ_=>B,ih (d.setIfInBounds j true) W w' N (λk ok X R y I=>?_) (ready_mono A (Ne.symm g)) M.1 B ?_⟩
   ·refine m k ok X R ?_ I;by_cases C:j=k
    ·subst C;exact q
    ·rw[XB true C]at y;exact y
   ·rw[Array.setIfInBounds_comm _ _ g];exact M.2.2
def waits(k:Array UI)(p i:Nat):Bool:=match k[p]? with
 | some o=>o.after.any (λe=>U7 .any e && e.on == i)
 | none=>false
theorem anyTill.take{i:Nat}{f:UI}{v:TC}{b:Nat}{k:Array Bool}{a:Act}{w:TA}(l:ops[i]? = some f)(d:waits ops p i=true)(n:XP ops=true)
 (j:(k.getD p false || p == i)=false) (hf:YO .any ops k i=true) (q:(UN .any ops k).contains i=true)
 (s:∀c a w,Q (.panic c) (a.put f.dst v) w->Q (.panic c) a w) (r:YieldsIf P ops S f v a) (m:S w)
 (h:anyTill P ops Q S p b (k.setIfInBounds i true) (a.put f.dst v) w):anyTill P ops Q S p (b+1) k a w:=by
 rw[Bool.or_eq_false_iff]at j;unfold waits at d;cases ho:ops[p]? with
 | none=>rw[ho]at d;cases d
 | some op =>
  rw[ho]at d;obtain⟨e,o,g⟩:=Array.any_eq_true'.1 d;simp only[Bool.and_eq_true,beq_iff_eq]at g;exact anyTill.first l ho ⟨e,o,g.1,g.2⟩ (by simpa using j.2) (Region.noSelect_spec n) s b k a w j.1 (Region.free_spec l hf) (by simpa using q) r m h
theorem anyTill.tk{i:Nat}{d:UI}{v:TC}{b:Nat}{k:Array Bool}{a:Act}{w:TA}(f:ops[i]? = some d)(m:YieldsIf P ops S d v a)(e:S w)
 (h:anyTill P ops Q S p b (k.setIfInBounds i true) (a.put d.dst v) w) (j:waits ops p i=true:=by kernel_rfl) (g:XP ops=true:=by kernel_rfl)
 (n:(k.getD p false || p == i)=false:=by kernel_rfl) (hf:YO .any ops k i=true:=by kernel_rfl) (l:(UN .any ops k).contains i=true:=by kernel_rfl)
 (o:∀c a w,Q (.panic c) (a.put d.dst v) w->Q (.panic c) a w:=by exact λ_ _ _ h=>h):anyTill P ops Q S p (b+1) k a w:=anyTill.take f j g n hf l o m e h
theorem anyTill.step{i:Nat}{o:UI}{b:Nat}{k:Array Bool}{a:Act}{w:TA}(ho:ops[i]? = some o)(e:UN .any ops k=[i])
 (h:∀c:Act->TA->Prop,Shut (∀a w,((k.setIfInBounds i true).getD p false=false->S w)->anyTill P ops Q S p b (k.setIfInBounds i true) a w->c a w) ->
  if Region.wanted o (yielded ops a.tmps)=true then Oper.wp P o a w c Q else c (a.put o.dst VU) w):anyTill P ops Q S p (b+1) k a w:=by
 refine⟨λd=>(by rw[e]at d;cases d),λj f=>?_⟩;rw[e,List.mem_singleton]at f;subst f;exact wpOp_step ho (λc g=>h c (λa w l m=>g a w ⟨l,m⟩))
theorem anyTill.done{k:Array Bool}{a:Act}{w:TA}(c:UN .any ops k=[])(h:Q .normal a w):∀b,anyTill P ops Q S p b k a w
 | 0=>⟨c,h⟩
 | _+1=>⟨λ_=>h,by rw[c];intro i d;cases d⟩
theorem anyTill.begin{id:Nat}{a:Act}{w:TA}(S:TA->Prop)(p:Nat)(b:P.follows .mixedOrders=true)(k:S w.drew)
 (h:S w.drew->anyTill P ops Q S p ops.size (TP ops.size false) a w.drew):(Code.region id ops true).wp P Q a w:=
 wp_region_any b ((h k).any)
end
end
section
open Go.RowKit Go.Sort
variable {P:Nat}[NeZero P]{N:Nat}
def pw0:Array TC:=#[uZ 1]++TP 63 (uZ 0)
def pwz:Array TC:=TP 64 (uZ 0)
theorem Ql:∀w:TA,(zeroValue 217).run prog w=.ok (.agg pwz) w:=λ_=>kR
theorem sizeT:(prog.info? 217).map (·.size)=some pw0.size:=kR
theorem SU:pw0.all (·.oneCell')=true:=kR
def Tab(W:TA)(k m P i:Nat):Prop:=∀j,j<16->∃a b c d:Nat,(Blk.mk k (j*4) a b c d).at W/\(j<i->Four (.agg #[uZ a,uZ b,uZ c,uZ d]) (m^j%P))
theorem Tab.call{W e:TA}{k m P i:Nat}(h:Tab W k m P i)(l:Below W.heap.size W e):Tab e k m P i:=λj f=>by
 obtain⟨a,b,c,d,n,g⟩:=h j f;exact⟨a,b,c,d,n.call l,g⟩
theorem Tab.drew{W:TA}{k m P i:Nat}(h:Tab W k m P i):Tab W.drew k m P i:=λj f=>by
 obtain⟨a,b,c,d,e,g⟩:=h j f;exact⟨a,b,c,d,⟨e.c0,e.c1,e.c2,e.c3,e.f⟩,g⟩
theorem Tab.other{W:TA}{k m P i g o:Nat}(h:Tab W k m P i)(l:g≠k)(v:TC):Tab (W.setCell ⟨g,o,none⟩ v) k m P i:=λj e=>by
 obtain⟨a,b,c,d,n,f⟩:=h j e;exact⟨a,b,c,d,n.other l v,f⟩
theorem Blk.at.off{W : TA}{x : Blk}{i : Nat}(h : x.at W)(hi : i < x.o \/ x.o + 3 < i)(v : TC): x.at (W.setCell ⟨x.k, i, none⟩ v) :=
  ⟨by rw [TE _ _ _ _ (aB (T8 oM))]; exact h.c0, by rw [TE _ _ _ _ (aB (T8 oM))]; exact h.c1,
   by rw [TE _ _ _ _ (aB (T8 oM))]; exact h.c2, by rw [TE _ _ _ _ (aB (T8 oM))]; exact h.c3, λo => by rw [Un]; exact h.f o⟩
theorem Blk.at.put{W:TA}{k o a b c d:Nat}(h:(Blk.mk k o a b c d).at W)(x y z t:Nat):
 (Blk.mk k o x y z t).at ((((W.setCell ⟨k,o,none⟩ (uZ x)).setCell ⟨k,o+1,none⟩ (uZ y)).setCell ⟨k,o+2,none⟩ (uZ z)).setCell ⟨k,o+3,none⟩ (uZ t)):=by
 have s0:=Uu W ⟨k,o,none⟩ (uZ x) h.c0;have e:∀(W:TA) (i j:Nat) (v:TC),i≠j->(W.setCell ⟨k,i,none⟩ v).cell? ⟨k,j,none⟩=W.cell? ⟨k,j,none⟩:=λW i j v f=>TE _ _ _ _ (aB (T8 f))
 refine⟨?_,?_,?_,?_,λi=>?_⟩
 ·show WN _ ⟨k,o,none⟩=_;rw[e _ _ _ _ oM,e _ _ _ _ oM,e _ _ _ _ oM];exact s0
 ·show WN _ ⟨k,o+1,none⟩=_;rw[e _ _ _ _ oM,e _ _ _ _ oM];exact Uu _ _ _ (by rw[e _ _ _ _ oM];exact h.c1)
 ·show WN _ ⟨k,o+2,none⟩=_;rw[e _ _ _ _ oM];exact Uu _ _ _ (by rw[e _ _ _ _ oM,e _ _ _ _ oM];exact h.c2)
 ·show WN _ ⟨k,o+3,none⟩=_;exact Uu _ _ _ (by rw[e _ _ _ _ oM,e _ _ _ _ oM,e _ _ _ _ oM];exact h.c3)
 ·rw[Un,Un,Un,Un];exact h.f i
theorem Tab.put{W:TA}{k m P i x y z t:Nat}(h:Tab W k m P i)(o:i<16)(g:Four (.agg #[uZ x,uZ y,uZ z,uZ t]) (m^i%P)):
 Tab ((((W.setCell ⟨k,i*4,none⟩ (uZ x)).setCell ⟨k,i*4+1,none⟩ (uZ y)).setCell ⟨k,i*4+2,none⟩ (uZ z)).setCell ⟨k,i*4+3,none⟩ (uZ t)) k m P (i+1):=λj n=>by
 obtain⟨a,b,c,d,f,l⟩:=h j n;by_cases e:j=i
 ·subst e;exact⟨x,y,z,t,f.put x y z t,λ_=>g⟩
 ·refine⟨a,b,c,d,?_,λp=>l oM⟩;exact(((f.off (by simp only;omega) _).off (by simp only;omega) _).off (by simp only;omega) _).off (by simp only;omega) _
theorem newest(w:TA)(o:Obj):(w.alloc o).heap[w.heap.size]? = some o:=by
 show(w.heap.push o)[w.heap.size]? = some o;simp
theorem mV(j:Nat):pw0[j]? = if j=0 then some (uZ 1) else if j<64 then some (uZ 0) else none:=by
 match j with
 | 0=>rfl
 | j+1 =>
  rw[yB4 oM];unfold pw0;rw[Array.getElem?_append_right (by simp)];by_cases h:j+1<64
  ·rw[yB3 h];simp[VZ];omega
  ·rw[yB4 h];simp[VZ];omega
theorem Tab.new(w:TA)(m P:Nat)(c:1<P):Tab ((w.alloc (.cells pwz 217)).setRow w.heap.size pw0) w.heap.size m P 1:=λj e=>by
 have b:(w.alloc (.cells pwz 217)).heap[w.heap.size]? = some (.cells pwz 217 (0,0)):=newest w _;have k:=λi=>cell_setRow_same (w.alloc (.cells pwz 217)) w.heap.size i pwz pw0 217 (0,0) b
 have hf:∀o,((w.alloc (.cells pwz 217)).setRow w.heap.size pw0).frozen? ⟨w.heap.size,o,none⟩=false:=λo=>by
  have d:=setRow_heap _ _ _ pw0 _ _ b;unfold World.frozen?;dsimp only;rw[d];simp
 by_cases d:j=0
 ·subst d;refine⟨1,0,0,0,⟨?_,?_,?_,?_,hf⟩,λ_=>?_⟩
  ·rw[k,mV];rfl
  ·rw[k,mV];rfl
  ·rw[k,mV];rfl
  ·rw[k,mV];rfl
  ·rw[Wx,Uf c];exact Four.mk dC dC dC dC rfl
 ·refine⟨0,0,0,0,⟨?_,?_,?_,?_,hf⟩,λh=>oM⟩
  ·rw[k,mV,yB4 (by simp only;omega),yB3 (by simp only;omega)];rfl
  ·rw[k,mV,yB4 (by simp only;omega),yB3 (by simp only;omega)];rfl
  ·rw[k,mV,yB4 (by simp only;omega),yB3 (by simp only;omega)];rfl
  ·rw[k,mV,yB4 (by simp only;omega),yB3 (by simp only;omega)];rfl
theorem below_setRow{B:Nat}{w W:TA}(h:Below B w W){g:Nat}(c:B<=g)(cs:Array TC):Below B w (W.setRow g cs):=
 ⟨h.os,h.tape,h.output,by rw[setRow_size];exact h.size,λk b=>by rw[setRow_other W g k cs oM];exact h.block k b⟩
theorem G3(W:TA):Below W.heap.size W ((W.alloc (.cells pwz 217)).setRow W.heap.size pw0):=below_setRow (aD W _) (TG _) _
theorem uE{w W:TA}{k e u v f j a b c d p q r s g t n l m i o:Nat}(h:Kept w k [⟨k,0,m,i,o,0⟩,⟨f,j*4,g,t,n,l⟩,⟨e,0,a,b,c,d⟩,⟨u,0,p,q,r,s⟩,⟨v,0,0,0,0,0⟩] W):W.cell? ⟨k,0,none⟩=some (uZ m)/\W.cell? ⟨k,1,none⟩=some (uZ i)/\W.cell? ⟨k,2,none⟩=some (uZ o)/\W.cell? ⟨k,3,none⟩=some (uZ 0)/\W.cell? ⟨f,j*4,none⟩=some (uZ g)/\W.cell? ⟨f,j*4+1,none⟩=some (uZ t)/\W.cell? ⟨f,j*4+2,none⟩=some (uZ n)/\W.cell? ⟨f,j*4+3,none⟩=some (uZ l)/\W.cell? ⟨e,0,none⟩=some (uZ a)/\W.cell? ⟨e,1,none⟩=some (uZ b)/\W.cell? ⟨e,2,none⟩=some (uZ c)/\W.cell? ⟨e,3,none⟩=some (uZ d)/\Kept w k [⟨k,0,m,i,o,0⟩,⟨f,j*4,g,t,n,l⟩,⟨e,0,a,b,c,d⟩,⟨u,0,p,q,r,s⟩,⟨v,0,0,0,0,0⟩] W:=
 ⟨h.head.c0,h.head.c1,h.head.c2,h.head.c3,h.tail.head.c0,h.tail.head.c1,h.tail.head.c2,h.tail.head.c3,h.tail.tail.head.c0,h.tail.tail.head.c1,h.tail.tail.head.c2,h.tail.tail.head.c3,h⟩
theorem qS{w W:TA}{k u e x v f m P a b c d p q r s i n o nd j g l:Nat}(h:Kept w k (⟨f,0,i,n,o,nd⟩ :: [⟨k,0,j,g,l,0⟩,⟨u,0,a,b,c,d⟩,⟨e,0,p,q,r,s⟩,⟨x,0,0,0,0,0⟩]) W)(t:Tab W v m P 16):W.cell? ⟨k,0,none⟩=some (uZ j)/\W.cell? ⟨k,1,none⟩=some (uZ g)/\W.cell? ⟨k,2,none⟩=some (uZ l)/\W.cell? ⟨k,3,none⟩=some (uZ 0)/\W.cell? ⟨f,0,none⟩=some (uZ i)/\W.cell? ⟨f,1,none⟩=some (uZ n)/\W.cell? ⟨f,2,none⟩=some (uZ o)/\W.cell? ⟨f,3,none⟩=some (uZ nd)/\W.cell? ⟨e,0,none⟩=some (uZ p)/\W.cell? ⟨e,1,none⟩=some (uZ q)/\W.cell? ⟨e,2,none⟩=some (uZ r)/\W.cell? ⟨e,3,none⟩=some (uZ s)/\Kept w k (⟨f,0,i,n,o,nd⟩ :: [⟨k,0,j,g,l,0⟩,⟨u,0,a,b,c,d⟩,⟨e,0,p,q,r,s⟩,⟨x,0,0,0,0,0⟩]) W/\Tab W v m P 16:=
 ⟨h.tail.head.c0,h.tail.head.c1,h.tail.head.c2,h.tail.head.c3,h.head.c0,h.head.c1,h.head.c2,h.head.c3,h.tail.tail.tail.head.c0,h.tail.tail.tail.head.c1,h.tail.tail.tail.head.c2,h.tail.tail.tail.head.c3,h,t⟩
theorem uD{w W:TA}{e f g l k j i a b c d p q r s m y u o t n x:Nat}(h:Kept w e [⟨e,0,t,n,x,0⟩,⟨k,j*4,m,y,u,o⟩,⟨f,0,a,b,c,d⟩,⟨g,0,p,q,r,s⟩,⟨l,0,0,0,0,0⟩] W)(F:e<=k)(D:k≠e)(E:k≠f)(z:k≠g)(C:k≠l)(B:i<j*4\/j*4+3<i)(v:TC):Kept w e [⟨e,0,t,n,x,0⟩,⟨k,j*4,m,y,u,o⟩,⟨f,0,a,b,c,d⟩,⟨g,0,p,q,r,s⟩,⟨l,0,0,0,0,0⟩] (W.setCell ⟨k,i,none⟩ v):=by
 refine((((((Kept.mk1 (h.bl.setCell (p:=⟨k,i,none⟩) F v) (by simpa using h.le)).cons ?_).cons ?_).cons ?_).cons ?_).cons ?_)
 ·exact h.tail.tail.tail.tail.head.other C v
 ·exact h.tail.tail.tail.head.other z v
 ·exact h.tail.tail.head.other E v
 ·exact h.tail.head.off B v
 ·exact h.head.other D v
theorem vT{w W:TA}{e o u v k j i a b c d p q r s A G E C D B F:Nat}(h:Kept w e [⟨e,0,D,B,F,0⟩,⟨k,j*4,A,G,E,C⟩,⟨o,0,a,b,c,d⟩,⟨u,0,p,q,r,s⟩,⟨v,0,0,0,0,0⟩] W)(n:e<=k)(l:k≠e)(m:k≠o)(f:k≠u)(g:k≠v)
 (I:i*4<j*4\/j*4+3<i*4) (H:i*4+1<j*4\/j*4+3<i*4+1) (K:i*4+2<j*4\/j*4+3<i*4+2) (J:i*4+3<j*4\/j*4+3<i*4+3) (x y z t:TC) :
 Kept w e [⟨e,0,D,B,F,0⟩,⟨k,j*4,A,G,E,C⟩,⟨o,0,a,b,c,d⟩,⟨u,0,p,q,r,s⟩,⟨v,0,0,0,0,0⟩] ((((W.setCell ⟨k,i*4,none⟩ x).setCell ⟨k,i*4+1,none⟩ y).setCell ⟨k,i*4+2,none⟩ z).setCell ⟨k,i*4+3,none⟩ t):=
 uD (uD (uD (uD h n l m f g I x) n l m f g H y) n l m f g K z) n l m f g J t
theorem yQ(g0 g1 g2 P : Nat)(x y : TC)(m n : Nat)(hG : Gap g0 g1 g2 P)(hx : Four x m)(hy : Four y n)(w : TA):
    TW prog 127 #[.agg #[.int .u64 (g0 : Int), .int .u64 (g1 : Int), .int .u64 (g2 : Int), .int .u64 0], x, y] w (Ret λe w' => Below w.heap.size w w' /\ Four e (m ^ n % P)) := by
  obtain⟨a, b, c, d, rfl, ha, hb, hc, hd, em⟩ := id hx;obtain⟨p, q, r, s, rfl, hp, hq, hr, hs, en⟩ := id hy;have HX : Hid (Four _ m) := hx;have HY : Hid (Four _ n) := hy;have HG : Hid (Gap g0 g1 g2 P) := hG;clear em en hx hy ha hb hc hd hp hq hr hs hG;go_enter func127, ntmps127
  go_upto_region 1 with fail
  have KP := BV w 89 44 44 44 g0 g1 g2 0 a b c d p q r s 0 0 0 0;simp only [Ux]at KP;generalize U2 _ _ = W0 at KP⊢;have zv := Ql;have hpz : ¬pwz.size < 4 := dC;have hgr : (W0.alloc (.cells pwz 217)).heap[W0.heap.size]? = some (.cells pwz 217 (0, 0)) := newest W0 _;go_wp2_with (first | refine wpList_store_row rfl 217 _ _ rfl W0.heap.size pw0 rfl rfl 217 pwz hgr sizeT rfl SU ?_)
  have TB := Tab.new W0 m P (by have := HG.hP2; have : 3 < top := dC
                                omega)
  have hlt := KP.lts;have Q4 : Hid (w.heap.size <= W0.heap.size) := KP.le;replace KP := KP.call (G3 W0);clear zv hgr hpz;generalize World.setRow _ _ _ = W1 at KP TB⊢;generalize W0.heap.size = k4 at TB hlt Q4⊢;generalize h3 : w.heap.size + 1 + 1 + 1 = k3 at KP hlt⊢;generalize h2 : w.heap.size + 1 + 1 = k2 at KP hlt⊢;generalize h1 : w.heap.size + 1 = k1 at KP hlt⊢;have Q3 : Hid (w.heap.size <= k3) := by unfold Hid; omega
  generalize h0 : w.heap.size = k0 at KP hlt Q3 Q4⊢;have H0 : Hid (w.heap.size = k0) := h0;have n40 : k4 ≠ k0 := U3 (hlt _ Uz);have n41 : k4 ≠ k1 := U3 (hlt ⟨k1, 0, a, b, c, d⟩ (by simp));have n42 : k4 ≠ k2 := U3 (hlt ⟨k2, 0, p, q, r, s⟩ (by simp));have n43 : k4 ≠ k3 := U3 (hlt ⟨k3, 0, 0, 0, 0, 0⟩ (by simp));clear h0 h1 h2 h3 hlt;generalize pwz.setIfInBounds 0 (UV Uv 1) = zz;go_loopg [8] 15 (λgk s8 wr => ∃i : Nat, i + gk = 16 /\ 1 <= i /\ s8 = .int .i64 (i : Int) /\ Kept w k0 [⟨k0, 0, g0, g1, g2, 0⟩, ⟨k1, 0, a, b, c, d⟩, ⟨k2, 0, p, q, r, s⟩, ⟨k3, 0, 0, 0, 0, 0⟩] wr /\ Tab wr k4 m P i)
  case atStart => exact⟨1, rfl, TG _, rfl, KP, TB⟩
  case round =>
    clear KP TB;obtain⟨i, hi, hi1, rfl, KP0, TB⟩ := hrel;by_cases hlt : i < 16
    · obtain⟨j, hji⟩ : ∃j, i = j + 1 := ⟨i - 1, oM⟩
      obtain⟨pa, pb, pc, pd, BJ, hFJ⟩ := TB j oM;have HFJ : Hid (Four _ (m ^ j % P)) := hFJ oM;have KP : Kept w k0 [⟨k0, 0, g0, g1, g2, 0⟩, ⟨k4, j * 4, pa, pb, pc, pd⟩, ⟨k1, 0, a, b, c, d⟩, ⟨k2, 0, p, q, r, s⟩, ⟨k3, 0, 0, 0, 0, 0⟩] wr := by
        refine((((((Kept.mk1 KP0.bl KP0.le).cons ?_).cons ?_).cons ?_).cons ?_).cons ?_)
        · exact KP0.tail.tail.tail.head
        · exact KP0.tail.tail.head
        · exact KP0.tail.head
        · exact BJ
        · exact KP0.head
      clear KP0 BJ hFJ;have hlt' : (i : Int) < 16 := oM;have e1 : (i : Int) - 1 = (j : Int) := oM;have hj16 : j < 16 := oM;have hj16i : (j : Int) < 16 := oM;have hw1 : UR.wrap (j : Int) = (j : Int) := rP _ oM;have HJ : Hid (i = j + 1) := hji;have o0 : Hid (i * 4 < j * 4 \/ j * 4 + 3 < i * 4) := by unfold Hid; omega
      have o1 : Hid (i * 4 + 1 < j * 4 \/ j * 4 + 3 < i * 4 + 1) := by unfold Hid; omega
      have o2 : Hid (i * 4 + 2 < j * 4 \/ j * 4 + 3 < i * 4 + 2) := by unfold Hid; omega
      have o3 : Hid (i * 4 + 3 < j * 4 \/ j * 4 + 3 < i * 4 + 3) := by unfold Hid; omega
      clear hji
      go_upto_region 5 with fail
      go_region_held3 (λw' => w'.cell? ⟨k0, 0, none⟩ = some (.int .u64 (g0 : Int)) /\ w'.cell? ⟨k0, 1, none⟩ = some (.int .u64 (g1 : Int)) /\ w'.cell? ⟨k0, 2, none⟩ = some (.int .u64 (g2 : Int)) /\ w'.cell? ⟨k0, 3, none⟩ = some (.int .u64 0) /\ w'.cell? ⟨k4, j * 4, none⟩ = some (.int .u64 (pa : Int)) /\ w'.cell? ⟨k4, j * 4 + 1, none⟩ = some (.int .u64 (pb : Int)) /\ w'.cell? ⟨k4, j * 4 + 2, none⟩ = some (.int .u64 (pc : Int)) /\ w'.cell? ⟨k4, j * 4 + 3, none⟩ = some (.int .u64 (pd : Int)) /\ w'.cell? ⟨k1, 0, none⟩ = some (.int .u64 (a : Int)) /\ w'.cell? ⟨k1, 1, none⟩ = some (.int .u64 (b : Int)) /\ w'.cell? ⟨k1, 2, none⟩ = some (.int .u64 (c : Int)) /\ w'.cell? ⟨k1, 3, none⟩ = some (.int .u64 (d : Int)) /\ Kept w k0 [⟨k0, 0, g0, g1, g2, 0⟩, ⟨k4, j * 4, pa, pb, pc, pd⟩, ⟨k1, 0, a, b, c, d⟩, ⟨k2, 0, p, q, r, s⟩, ⟨k3, 0, 0, 0, 0, 0⟩] w') (first | (with_reducible exact uE KP) | (with_reducible exact uE KP.drew) | (with_reducible exact uE (vT KP Q4.out n40 n41 n42 n43 o0.out o1.out o2.out o3.out _ _ _ _)) | (with_reducible exact uE (vT KP Q4.out n40 n41 n42 n43 o0.out o1.out o2.out o3.out _ _ _ _).drew) | fail) (first | (go_at_call 71; refine(jP _ _ HX.out _).mono ?_; rintro e w1 ⟨v, rfl, hb1, rfl⟩; (first | (with_reducible (have KP1 := KP.drew.call hb1)) | (with_reducible (have KP1 := KP.call hb1)) | fail); (first | (with_reducible (have T1 := TB.drew.call hb1)) | (with_reducible (have T1 := TB.call hb1)) | fail); clear KP TB hb1; have KP := KP1; have TB := T1; clear KP1 T1) | (go_at_call 141; refine(dX g0 g1 g2 P _ _ _ _ HG.out HFJ.out HX.out _).mono ?_; rintro e w1 ⟨v, rfl, hb1, hF3⟩; obtain⟨a', b', c', d', rfl, ha', hb', hc', hd', es3⟩ := id hF3; clear es3; have HF3 : Hid (Four _ _) := hF3; clear hF3; (first | (with_reducible (have KP1 := KP.drew.call hb1)) | (with_reducible (have KP1 := KP.call hb1)) | fail); (first | (with_reducible (have T1 := TB.drew.call hb1)) | (with_reducible (have T1 := TB.call hb1)) | fail); clear KP TB hb1; have KP := KP1; have TB := T1; clear KP1 T1; obtain⟨ya, yb, yc, yd, BI, hFI⟩ := TB i hlt; clear hFI; obtain⟨tc0, tc1, tc2, tc3, tf⟩ := id BI; have zt := BI.lt; clear BI))
      go_wp2;go_roundg (gk - 1)
      case measure => omega
      case rel =>
        have K3 := vT KP Q4.out n40 n41 n42 n43 o0.out o1.out o2.out o3.out (.int .u64 (a' : Int)) (.int .u64 (b' : Int)) (.int .u64 (c' : Int)) (.int .u64 (d' : Int));refine⟨i + 1, oM, oM, rfl, ?_, ?_⟩
        · exact((((Kept.mk1 K3.bl K3.le).cons K3.tail.tail.tail.tail.head).cons K3.tail.tail.tail.head).cons K3.tail.tail.head).cons K3.head
        · refine TB.put hlt ?_
          have h1 := HF3.out;rw [qR, <-HJ.out]at h1;exact h1
    · have hi16 : i = 16 := oM
      subst hi16;obtain⟨pa, pb, pc, pd, BJ, hFJ⟩ := TB 0 dC;have HFJ := mk1 (hFJ dC);replace BJ : (Blk.mk k4 0 pa pb pc pd).at wr := BJ;obtain⟨tc0, tc1, tc2, tc3, tf⟩ := id BJ;replace tc0 : wr.cell? ⟨k4, 0, none⟩ = some (.int .u64 (pa : Int)) := tc0;replace tc1 : wr.cell? ⟨k4, 1, none⟩ = some (.int .u64 (pb : Int)) := tc1;replace tc2 : wr.cell? ⟨k4, 2, none⟩ = some (.int .u64 (pc : Int)) := tc2;replace tc3 : wr.cell? ⟨k4, 3, none⟩ = some (.int .u64 (pd : Int)) := tc3;have zt := BJ.lt;go_wp2;have KN := (KP0.alloc (.cells #[.int .u64 (pa : Int), .int .u64 (pb : Int), .int .u64 (pc : Int), .int .u64 (pd : Int)] 87)).cons (At4.made wr 87 pa pb pc pd rfl).blk;have TN := TB.call (aD wr (.cells #[.int .u64 (pa : Int), .int .u64 (pb : Int), .int .u64 (pc : Int), .int .u64 (pd : Int)] 87));have hlt5 := KP0.lts;have n54 := U3 BJ.lt;have Q5 := mk1 (KP0.le);generalize U2 _ _ = Wv5 at KN TN⊢;generalize wr.heap.size = k5 at KN hlt5 n54 Q5⊢;have hl5 : ∀x ∈ ([⟨k0, 0, g0, g1, g2, 0⟩, ⟨k1, 0, a, b, c, d⟩, ⟨k2, 0, p, q, r, s⟩, ⟨k3, 0, 0, 0, 0, 0⟩] : List Blk), k5 ≠ x.k := λx hx => U3 (hlt5 x hx)
      go_loopg [10] 64 (λgk s10 wr => gk <= 64 /\ s10 = .int .i64 (4 * (gk : Int) - 4) /\ (∃na nb nc nd : Nat, Kept w k0 (⟨k5, 0, na, nb, nc, nd⟩ :: [⟨k0, 0, g0, g1, g2, 0⟩, ⟨k1, 0, a, b, c, d⟩, ⟨k2, 0, p, q, r, s⟩, ⟨k3, 0, 0, 0, 0, 0⟩]) wr /\ Hid (Four (.agg #[.int .u64 (na : Int), .int .u64 (nb : Int), .int .u64 (nc : Int), .int .u64 (nd : Int)]) (m ^ (n / 2 ^ (4 * gk)) % P))) /\ Tab wr k4 m P 16)
      case atStart =>
        refine⟨TG _, rfl, ⟨pa, pb, pc, pd, KN, ?_⟩, TN⟩;have h1 := HFJ.out;rw [show n / 2 ^ (4 * 64) = 0 from WY HY.lt];exact h1
      case round =>
        obtain⟨hg64, rfl, ⟨na, nb, nc, nd, KP, HF⟩, TB⟩ := hrel;by_cases hz : gk = 0
        · subst hz
          have HF0 := HF.out;rw [XZ, Wx, yAR]at HF0;obtain⟨tc0, tc1, tc2, tc3, tf⟩ := KP.head.at4;have zt := KP.head.lt;go_wp2_with fail
          refine(jM _ _ HF0 _).mono ?_;rintro e w1 ⟨v, rfl, hb1, rfl⟩;have HFE := mk1 (HF0);have KP1 := KP.call hb1;obtain⟨rc0, rc1, rc2, rc3, rf⟩ := KP1.tail.tail.tail.tail.head.at4;have zr := KP1.tail.tail.tail.tail.head.lt;go_wp2;have RF := KP1.tail.tail.tail.tail.head.at4.self4 na nb nc nd;unfold set4 at RF;refine TM (v := ?v) ?hr rfl ?hR
          case hr => simp [results, Tryz.results127, go_sem, RF.c0, RF.c1, RF.c2, RF.c3]; rfl
          refine⟨_, rfl, ?_, HFE.out⟩;rw [H0.out];exact aF KP1.bl Q3.out _ _ _ _
        · obtain⟨I, hI⟩ : ∃I, 4 * (gk - 1) = I := ⟨_, rfl⟩
          have e1 : 4 * (gk : Int) - 4 = (I : Int) := oM;rw [e1];have HI := mk1 (hI);obtain⟨E, hE⟩ : ∃E, n / 2 ^ (4 * gk) = E := ⟨_, rfl⟩;have HE := mk1 (hE);rw [hE]at HF;go_wp2;refine VX 5 ?_;obtain⟨tc0, tc1, tc2, tc3, tf⟩ := KP.head.at4;have zt := KP.head.lt;obtain⟨pc0, pc1, pc2, pc3, pf⟩ := KP.tail.head.at4;have zp := KP.tail.head.lt;rw [Ul];go_wp2_with fail
          refine(dX g0 g1 g2 P _ _ _ _ HG.out HF.out HF.out _).mono ?_;rintro e w1 ⟨v, rfl, hb1, hF3⟩;rw [iP]at hF3;obtain⟨n1a, n1b, n1c, n1d, rfl, ha', hb', hc', hd', es3⟩ := id hF3;have HF := mk1 (hF3);replace KP := KP.call hb1;replace TB := TB.call hb1;obtain⟨tc0, tc1, tc2, tc3, tf⟩ := KP.head.at4;have zt := KP.head.lt;go_wp2_with fail
          have KP2 := KP.put Q5.out hl5 n1a n1b n1c n1d;have TB2 := (((TB.other (o := 0) n54 (.int .u64 (n1a : Int))).other (o := 1) n54 (.int .u64 (n1b : Int))).other (o := 2) n54 (.int .u64 (n1c : Int))).other (o := 3) n54 (.int .u64 (n1d : Int));have KP := KP2;have TB := TB2;obtain⟨tc0, tc1, tc2, tc3, tf⟩ := KP.head.at4;have zt := KP.head.lt;obtain⟨pc0, pc1, pc2, pc3, pf⟩ := KP.tail.head.at4;have zp := KP.tail.head.lt;rw [Ul];go_wp2_with fail
          clear tc0 tc1 tc2 tc3 tf zt pc0 pc1 pc2 pc3 pf zp;refine(dX g0 g1 g2 P _ _ _ _ HG.out HF.out HF.out _).mono ?_;rintro e w2 ⟨v, rfl, hb1, hF3⟩;rw [iP]at hF3;obtain⟨n2a, n2b, n2c, n2d, rfl, ha', hb', hc', hd', es3⟩ := id hF3;clear HF;have HF : Hid (Four _ _) := hF3;clear hF3 es3 ha' hb' hc' hd';replace KP := KP.call hb1;replace TB := TB.call hb1;clear hb1;obtain⟨tc0, tc1, tc2, tc3, tf⟩ := KP.head.at4;have zt := KP.head.lt;go_wp2_with fail
          clear tc0 tc1 tc2 tc3 tf zt;have KP2 := KP.put Q5.out hl5 n2a n2b n2c n2d;have TB2 := (((TB.other (o := 0) n54 (.int .u64 (n2a : Int))).other (o := 1) n54 (.int .u64 (n2b : Int))).other (o := 2) n54 (.int .u64 (n2c : Int))).other (o := 3) n54 (.int .u64 (n2d : Int));clear KP TB;generalize Wb _ _ _ = WX2 at KP2 TB2⊢;have KP := KP2;have TB := TB2;clear KP2 TB2;obtain⟨tc0, tc1, tc2, tc3, tf⟩ := KP.head.at4;have zt := KP.head.lt;obtain⟨pc0, pc1, pc2, pc3, pf⟩ := KP.tail.head.at4;have zp := KP.tail.head.lt;rw [Ul];go_wp2_with fail
          clear tc0 tc1 tc2 tc3 tf zt pc0 pc1 pc2 pc3 pf zp;refine(dX g0 g1 g2 P _ _ _ _ HG.out HF.out HF.out _).mono ?_;rintro e w3 ⟨v, rfl, hb1, hF3⟩;rw [iP]at hF3;obtain⟨n3a, n3b, n3c, n3d, rfl, ha', hb', hc', hd', es3⟩ := id hF3;clear HF;have HF : Hid (Four _ _) := hF3;clear hF3 es3 ha' hb' hc' hd';replace KP := KP.call hb1;replace TB := TB.call hb1;clear hb1;obtain⟨tc0, tc1, tc2, tc3, tf⟩ := KP.head.at4;have zt := KP.head.lt;go_wp2_with fail
          clear tc0 tc1 tc2 tc3 tf zt;have KP2 := KP.put Q5.out hl5 n3a n3b n3c n3d;have TB2 := (((TB.other (o := 0) n54 (.int .u64 (n3a : Int))).other (o := 1) n54 (.int .u64 (n3b : Int))).other (o := 2) n54 (.int .u64 (n3c : Int))).other (o := 3) n54 (.int .u64 (n3d : Int));clear KP TB;generalize Wb _ _ _ = WX3 at KP2 TB2⊢;have KP := KP2;have TB := TB2;clear KP2 TB2;obtain⟨tc0, tc1, tc2, tc3, tf⟩ := KP.head.at4;have zt := KP.head.lt;obtain⟨pc0, pc1, pc2, pc3, pf⟩ := KP.tail.head.at4;have zp := KP.tail.head.lt;rw [Ul];go_wp2_with fail
          clear tc0 tc1 tc2 tc3 tf zt pc0 pc1 pc2 pc3 pf zp;refine(dX g0 g1 g2 P _ _ _ _ HG.out HF.out HF.out _).mono ?_;rintro e w4 ⟨v, rfl, hb1, hF3⟩;rw [iP]at hF3;obtain⟨n4a, n4b, n4c, n4d, rfl, ha', hb', hc', hd', es3⟩ := id hF3;clear HF;have HF : Hid (Four _ _) := hF3;clear hF3 es3 ha' hb' hc' hd';replace KP := KP.call hb1;replace TB := TB.call hb1;clear hb1;obtain⟨tc0, tc1, tc2, tc3, tf⟩ := KP.head.at4;have zt := KP.head.lt;go_wp2_with fail
          clear tc0 tc1 tc2 tc3 tf zt;have KP2 := KP.put Q5.out hl5 n4a n4b n4c n4d;have TB2 := (((TB.other (o := 0) n54 (.int .u64 (n4a : Int))).other (o := 1) n54 (.int .u64 (n4b : Int))).other (o := 2) n54 (.int .u64 (n4c : Int))).other (o := 3) n54 (.int .u64 (n4d : Int));clear KP TB;generalize Wb _ _ _ = WX4 at KP2 TB2⊢;have KP := KP2;have TB := TB2;clear KP2 TB2;rw [Ul];go_wp2_with fail
          refine anyTill.begin (λw' => w'.cell? ⟨k0, 0, none⟩ = some (.int .u64 (g0 : Int)) /\ w'.cell? ⟨k0, 1, none⟩ = some (.int .u64 (g1 : Int)) /\ w'.cell? ⟨k0, 2, none⟩ = some (.int .u64 (g2 : Int)) /\ w'.cell? ⟨k0, 3, none⟩ = some (.int .u64 0) /\ w'.cell? ⟨k5, 0, none⟩ = some (.int .u64 (n4a : Int)) /\ w'.cell? ⟨k5, 1, none⟩ = some (.int .u64 (n4b : Int)) /\ w'.cell? ⟨k5, 2, none⟩ = some (.int .u64 (n4c : Int)) /\ w'.cell? ⟨k5, 3, none⟩ = some (.int .u64 (n4d : Int)) /\ w'.cell? ⟨k2, 0, none⟩ = some (.int .u64 (p : Int)) /\ w'.cell? ⟨k2, 1, none⟩ = some (.int .u64 (q : Int)) /\ w'.cell? ⟨k2, 2, none⟩ = some (.int .u64 (r : Int)) /\ w'.cell? ⟨k2, 3, none⟩ = some (.int .u64 (s : Int)) /\ Kept w k0 (⟨k5, 0, n4a, n4b, n4c, n4d⟩ :: [⟨k0, 0, g0, g1, g2, 0⟩, ⟨k1, 0, a, b, c, d⟩, ⟨k2, 0, p, q, r, s⟩, ⟨k3, 0, 0, 0, 0, 0⟩]) w' /\ Tab w' k4 m P 16) 8 mixed (qS KP.drew TB.drew) (λhS => ?_);refine anyTill.tk (i := 0) (v := ?_) rfl (Ub ⟨by rfl, ?_⟩) hS ?_
          rotate_left
          · intro w hSw
            (try dsimp only at hSw)
            go_simp;try(with_reducible rfl)
          simp only [Ug, TD];refine anyTill.tk (i := 1) (v := ?_) rfl (Ub ⟨by rfl, ?_⟩) hS ?_
          rotate_left
          · intro w hSw
            (try dsimp only at hSw)
            go_simp;try(with_reducible rfl)
          simp only [Ug];refine anyTill.tk (i := 2) (v := ?_) rfl (Ub ⟨by rfl, ?_⟩) hS ?_
          rotate_left
          · intro w hSw
            (try dsimp only at hSw)
            go_simp;try(with_reducible rfl)
          simp only [Ug];refine anyTill.tk (i := 3) (v := ?_) rfl (Ub ⟨by rfl, ?_⟩) hS ?_
          rotate_left
          · intro w hSw
            (try dsimp only at hSw)
            go_simp;try(with_reducible rfl)
          simp only [Ug];try simp only [TL, TK]
          obtain⟨tt, htt⟩ : ∃tt, n / 2 ^ I % 2 ^ 4 = tt := ⟨_, rfl⟩;have HT : Hid (n / 2 ^ I % 2 ^ 4 = tt) := htt;have hB := λw => Cu _ n I 4 HY.out oM dC w
          rw [htt]at hB
          have htl : tt < 16 := by have : (2 : Nat) ^ 4 = 16 := rfl
                                   rw [<-htt]; omega
          have htl' : (tt : Int) < 16 := oM;have HB : Hid _ := hB;clear hB htt;refine anyTill.step (i := 4) rfl kR (λK hK => ?_);go_simp;refine(HB _).mono ?_;rintro e w6 ⟨v, rfl, hb1, rfl⟩;clear hS HB;have KP6 := KP.drew.call hb1;have TB6 := TB.drew.call hb1;clear hb1 KP TB;refine hK.out _ _ (λ_ => qS KP6 TB6) ?_;clear hK K;try simp only [Ug, TD, TL, TK]
          obtain⟨ta, tb, tc, td, BT, hFT⟩ := TB6 tt htl;have HFT : Hid (Four _ (m ^ tt % P)) := hFT htl;clear hFT;obtain⟨tc0, tc1, tc2, tc3, tf⟩ := id BT;have zt := BT.lt;refine anyTill.step (i := 5) rfl kR (λK hK => ?_);go_simp;refine hK.out _ _ (λ_ => qS KP6 TB6) ?_;clear hK K;try simp only [Ug, TD, TL, TK]
          refine anyTill.step (i := 6) rfl kR (λK hK => ?_);go_simp;refine hK.out _ _ (λ_ => qS KP6 TB6) ?_;clear hK K;try simp only [Ug, TD, TL, TK]
          clear tc0 tc1 tc2 tc3 tf zt BT;refine anyTill.step (i := 7) rfl kR (λK hK => ?_);go_simp;refine(dX g0 g1 g2 P _ _ _ _ HG.out HF.out HFT.out _).mono ?_;rintro e w7 ⟨v, rfl, hb1, hF3⟩;rw [BA]at hF3;obtain⟨ua, ub, uc, ud, rfl, ha', hb', hc', hd', es3⟩ := id hF3;have HFU : Hid (Four _ _) := hF3;clear hF3 es3 ha' hb' hc' hd' HF HFT;have KP7 := KP6.call hb1;have TB7 := TB6.call hb1;clear hb1 KP6 TB6;refine hK.out _ _ (λ_ => qS KP7 TB7) ?_;clear hK K;try simp only [Ug, TD, TL, TK]
          obtain⟨tc0, tc1, tc2, tc3, tf⟩ := KP7.head.at4;have zt := KP7.head.lt;refine anyTill.step (i := 8) rfl kR (λK hK => ?_);go_simp;refine hK.out _ _ (λh => XQ h) ?_;clear hK K;try simp only [Ug, TD, TL, TK]
          refine anyTill.done kR ?_ _;clear tc0 tc1 tc2 tc3 tf zt;go_wp2;go_roundg (gk - 1)
          case measure => omega
          case rel =>
            refine⟨oM, ?_, ⟨ua, ub, uc, ud, KP7.put Q5.out hl5 ua ub uc ud, ?_⟩, (((TB7.other (o := 0) n54 _).other (o := 1) n54 _).other (o := 2) n54 _).other (o := 3) n54 _⟩
            · have := HI.out
              congr 1
              omega
            · have h1 := HFU.out
              unfold Hid;rw [HI.out, MD n I, show I + 4 = 4 * gk by have := HI.out; omega, HE.out, HT.out];rw [show 2 * (2 * (2 * (2 * E))) + tt = 16 * E + tt by omega]at h1;exact h1
def p0:Nat:=115792089237316195423570985008687907853269984665640564039457584007908834671663
def p1:Nat:=115792089237316195423570985008687907852837564279074904382605163141518161494337
theorem Ow(w:TA):
 TW prog 94 #[iZ 0] w (rZ w λe w'=>e=.agg #[uZ 18446744069414583343,uZ 18446744073709551615,uZ 18446744073709551615,uZ 18446744073709551615,uZ 4294968273,uZ 0,uZ 0,uZ 0]):=by
 obtain⟨s0,n,a0,f,c,r⟩:=zW 0 4294968273 dC dC;obtain⟨s1,m,i,d,k,q⟩:=kT 0 0 n dC dC c;obtain⟨s2,o,s,j,b,u⟩:=kT 0 0 m dC dC k;obtain⟨s3,p,t,g,l,e3⟩:=kT 0 0 o dC dC b;have c:n=1:=oM;have k:m=1:=oM;have b:o=1:=oM;have l:p=1:=oM;have f:s0=18446744069414583343:=oM;have d:s1=18446744073709551615:=oM;have j:s2=18446744073709551615:=oM;have g:s3=18446744073709551615:=oM;subst c k b l f d j g;replace i:∀w,(callFunc 130 #[uZ 0,uZ 0,uZ 1]).run prog w=.ok (.value (.tuple #[uZ 18446744073709551615,uZ 1])) w:=i;replace a0:∀w,(callFunc 130 #[uZ 0,uZ 4294968273,uZ 0]).run prog w=.ok (.value (.tuple #[uZ 18446744069414583343,uZ 1])) w:=a0;go_enter func94,ntmps94;go_wp2;refine VX 5 ?_;rw[Ul];go_wp2_with (simp only[a0])
 rw[Ul];go_wp2_with (simp only[i])
 rw[Ul];go_wp2_with (simp only[i])
 rw[Ul];go_wp2_with (simp only[i])
 rw[Ul];go_wp2
 refine TM (v:=?v) ?hr rfl ?hR
 case hr=>simp[results,Tryz.results94,go_sem];rfl
 exact⟨_,rfl,below3 _ _ _ _,rfl⟩
theorem Ov(w:TA):
 TW prog 94 #[iZ 1] w (rZ w λe w'=>e=.agg #[uZ 13822214165235122497,uZ 13451932020343611451,uZ 18446744073709551614,uZ 18446744073709551615,uZ 4624529908474429119,uZ 4994812053365940164,uZ 1,uZ 0]):=by
 obtain⟨s0,p,a0,f,c,t⟩:=zW 0 4624529908474429119 dC dC;obtain⟨s1,o,m,d,k,s⟩:=kT 0 4994812053365940164 p dC dC c;obtain⟨s2,q,l,i,b,u⟩:=kT 0 1 o dC dC k;obtain⟨s3,r,n,g,j,e3⟩:=kT 0 0 q dC dC b;have c:p=1:=oM;have k:o=1:=oM;have b:q=1:=oM;have j:r=1:=oM;have f:s0=13822214165235122497:=oM;have d:s1=13451932020343611451:=oM;have i:s2=18446744073709551614:=oM;have g:s3=18446744073709551615:=oM;subst c k b j f d i g;replace a0:∀w,(callFunc 130 #[uZ 0,uZ 4624529908474429119,uZ 0]).run prog w=.ok (.value (.tuple #[uZ 13822214165235122497,uZ 1])) w:=a0;replace m:∀w,(callFunc 130 #[uZ 0,uZ 4994812053365940164,uZ 1]).run prog w=.ok (.value (.tuple #[uZ 13451932020343611451,uZ 1])) w:=m;replace l:∀w,(callFunc 130 #[uZ 0,uZ 1,uZ 1]).run prog w=.ok (.value (.tuple #[uZ 18446744073709551614,uZ 1])) w:=l;replace n:∀w,(callFunc 130 #[uZ 0,uZ 0,uZ 1]).run prog w=.ok (.value (.tuple #[uZ 18446744073709551615,uZ 1])) w:=n;go_enter func94,ntmps94;go_wp2;refine VX 5 ?_;rw[Ul];go_wp2_with (simp only[a0])
 rw[Ul];go_wp2_with (simp only[m])
 rw[Ul];go_wp2_with (simp only[l])
 rw[Ul];go_wp2_with (simp only[n])
 rw[Ul];go_wp2
 refine TM (v:=?v) ?hr rfl ?hR
 case hr=>simp[results,Tryz.results94,go_sem];rfl
 exact⟨_,rfl,below3 _ _ _ _,rfl⟩
def gv0:TC:=.agg #[uZ 4294968273,uZ 0,uZ 0,uZ 0]
def gv1:TC:=.agg #[uZ 4624529908474429119,uZ 4994812053365940164,uZ 1,uZ 0]
theorem Td:Gap 4294968273 0 0 p0:=⟨dC,dC,dC,Ub ⟨rfl,rfl⟩,dK,dK,dK⟩
theorem Tc:Gap 4624529908474429119 4994812053365940164 1 p1:=⟨dC,dC,dC,T8 ⟨4994812053365940165,dK,dC⟩,dK,dK,dK⟩
theorem t8(w:TA):
 TW prog 139 #[] w λe w'=>e=.returned (.agg #[uZ 4294968273,uZ 0,uZ 0,uZ 0])/\w'=w.alloc (.cells #[uZ 4294968273,uZ 0,uZ 0,uZ 0] 89):=by
 go_enter func139,ntmps139;go_wp2;refine TM (v:=?v) ?hr rfl ?hR
 case hr=>simp[results,Tryz.results139,go_sem];rfl
 exact⟨rfl,rfl⟩
theorem Cq(w:TA):
 TW prog 30 #[] w λe w'=>e=.returned (.agg #[uZ 4624529908474429119,uZ 4994812053365940164,uZ 1,uZ 0])/\w'=w.alloc (.cells #[uZ 4624529908474429119,uZ 4994812053365940164,uZ 1,uZ 0] 89):=by
 go_enter func30,ntmps30;go_wp2;refine TM (v:=?v) ?hr rfl ?hR
 case hr=>simp[results,Tryz.results30,go_sem];rfl
 exact⟨rfl,rfl⟩
end
section
open Go.RowKit Go.Sort Go.Deep
abbrev Bs:=Array UInt8
def ub(x:UInt8):Int:=(x.toNat:Int)
def encB(x:UInt8):TC:=.int .u8 (ub x)
structure Only(b off n:Nat)(w w':TA):Prop where
 os:w'.os=w.os
 tape:w'.tape=w.tape
 output:w'.output=w.output
 size:w.heap.size<=w'.heap.size
 block:∀k,k<w.heap.size->k≠b->w'.heap[k]? = w.heap[k]?
 cell:∀o,(o<off\/off+n<=o)->w'.cell? ⟨b,o,none⟩=w.cell? ⟨b,o,none⟩
 froz:∀o,w'.frozen? ⟨b,o,none⟩=w.frozen? ⟨b,o,none⟩
variable {b off n:Nat}{w w1 w2:TA}
theorem Only.refl(b off n:Nat)(w:TA):Only b off n w w:=⟨rfl,rfl,rfl,TG _,λ_ _ _=>rfl,λ_ _=>rfl,λ_=>rfl⟩
theorem Only.trans(h:Only b off n w w1)(k:Only b off n w1 w2):Only b off n w w2:=
 ⟨k.os.trans h.os,k.tape.trans h.tape,k.output.trans h.output,TU h.size k.size,
  λi d c=>(k.block i (TF d h.size) c).trans (h.block i d c),
  λo ho=>(k.cell o ho).trans (h.cell o ho),λo=>(k.froz o).trans (h.froz o)⟩
theorem Only.setCell(h:Only b off n w w1){o:Nat}(g:off<=o)(f:o<off+n)(v:TC):Only b off n w (w1.setCell ⟨b,o,none⟩ v):=by
 refine h.trans ⟨rfl,rfl,rfl,by simp,λk _ c=>Zc _ _ _ _ c,λd ho=>?_,λd=>by simp⟩;exact TE _ _ _ _ (by intro e;simp only[Addr.mk.injEq,and_true,true_and]at e;omega)
theorem Only.below(h:Only b off n w w1){B:Nat}(c:B<=w.heap.size)(d:B<=b):Below B w w1:=
 ⟨h.os,h.tape,h.output,h.size,λk e=>h.block k oM oM⟩
section
variable {α:Type}[Inhabited α]{enc:α->TC}{d:Array α}
theorem Holds.lt(h:Holds enc w b off d)(hd:0<d.size):b<w.heap.size:=Vt _ _ (h 0 hd).1
theorem Holds.same{o:Nat}(h:Holds enc w b o d)(k:Only b off n w w1)(hd:o+d.size<=off\/off+n<=o):Holds enc w1 b o d:=by
 intro j c;rw[k.cell _ oM,k.froz];exact h j c
theorem Holds.below{B:Nat}(h:Holds enc w b off d)(k:Below B w w1)(c:b<B):Holds enc w1 b off d:=by
 intro j e;rw[k.cell (p:=⟨b,off+j,none⟩) c,k.frozen (p:=⟨b,off+j,none⟩) c];exact h j e
theorem Holds.drewN(h:Holds enc w b off d)(q:Nat):Holds enc (w.drewN q) b off d:=h
theorem Holds.set(h:Holds enc w b off d){i:Nat}(c:i<d.size)(x:α):Holds enc (w.setCell ⟨b,off+i,none⟩ (enc x)) b off (d.setIfInBounds i x):=by
 intro j k;rw[Array.size_setIfInBounds]at k;rw[Un];by_cases e:j=i
 ·subst e;rw[getElem!_set_same d j x c];exact⟨Uu _ _ _ (h j k).1,(h j k).2⟩
 ·rw[getElem!_set_other d i j x e,TE _ _ _ _ (by intro e';simp only[Addr.mk.injEq,and_true,true_and]at e';omega)];exact h j k
theorem Holds.new(w:TA)(t:Uw)(d:Array α):Holds enc (w.alloc (.cells (d.map enc) t)) w.heap.size 0 d:=by
 intro j k;rw[Us,Vr];refine⟨?_,rfl⟩;simp only[TO,Array.getElem?_map,Array.getElem?_eq_getElem k,Option.map_some,getElem!_pos d j k]
theorem Holds.made(w:TA)(t:Uw)(n:Nat)(x:α):Holds enc (w.alloc (.cells (madeCells #[enc x] n) t)) w.heap.size 0 (TP n x):=by
 intro j k;rw[TY]at k;rw[Us,Vr];refine⟨?_,rfl⟩;rw[getElem!_pos _ j (by simpa using k),U9];simp[madeCells,k,ZM]
end
section
def fill(i:Nat):UInt8:=TV (i%251) ^^^ 165
def lentTo(s:ByteArray):Nat->Bs
 | 0=>s.data++TP 160 0
 | k+1=>(lentTo s k).setIfInBounds (s.size+k) (fill (s.size+k))
def lent(s:ByteArray):Bs:=lentTo s 160
variable {w w1:TA}{b o n:Nat}
theorem heap_setCells(b:Nat){k:Nat}(c:k≠b):∀(vs:List TC) (p:Nat) (w:TA),(w.setCells b p vs).heap[k]? = w.heap[k]?
 | [],_,_=>rfl
 | v :: r,p,w=>by rw[World.setCells,heap_setCells b c r (p+1) _,Zc _ _ _ _ c]
theorem Holds.setCells{k r:Bs}(h:Holds encB w b o k)(vs:List TC)(p:Nat)(f:r.size=k.size)(m:p+vs.length<=k.size)
 (g:∀j (c:j<vs.length),vs[j]=encB r[p+j]!) (d:∀j,j<k.size->j<p\/p+vs.length<=j->r[j]! = k[j]!):Holds encB (w.setCells b (o+p) vs) b o r:=by
 intro j c;rw[f]at c;rw[World.frozen?_setCells];refine⟨?_,(h j c).2⟩;by_cases e:j<p\/p+vs.length<=j
 ·rw[World.cell?_setCells_out b vs (o+p) w ⟨b,o+j,none⟩ (λ_ _=>by simp only;omega),d j c e];exact(h j c).1
 ·have d:j-p<vs.length:=oM;have:=World.cell?_setCells_in b vs (o+p) w (λi l=>by
   have:=(h (p+i) oM).1;rw[<-VQ]at this;rw[this];rfl) (j-p) d
  rw[show o+p+(j-p)=o+j by omega]at this;rw[this,g (j-p) d,show p+(j-p)=j by omega]
theorem app_front(a r:Bs)(j:Nat)(k:j<a.size):(a++r)[j]! = a[j]:=by
 have h:j<(a++r).size:=by rw[UA];omega
 rw[getElem!_pos (a++r) j h,Array.getElem_append_left k]
theorem app_back(a r:Bs)(j:Nat)(b:a.size<=j)(c:j<a.size+r.size):(a++r)[j]! = r[j-a.size]!:=by
 have h:j<(a++r).size:=by rw[UA];omega
 have k:j-a.size<r.size:=oM;rw[getElem!_pos (a++r) j h,Array.getElem_append_right b,getElem!_pos r (j-a.size) k]
theorem rep_at(n j:Nat)(h:j<n):(TP n (0:UInt8))[j]! = 0:=by
 have k:j<(TP n (0:UInt8)).size:=by rw[TY];exact h
 rw[getElem!_pos (TP n (0:UInt8)) j k,U9]
theorem conv_str(P:Vd)(src k e:Uw)(q:P.underlying src=some (.slice e))(r:P.underlying e=some (.int .u8))(hd:P.underlying k=some .string)
 (w:TA) (b o n cap:Nat) (c:Bs) (p:Holds encB w b o c) (l:c.size=n):(convert src k (.slice (some ⟨b,o,none⟩) n cap)).run P w=.ok (.string ⟨c⟩) w:=by
 have h:=run_convert_bytes_back (P:=P) w src k e ⟨b,o,none⟩ cap c.toList q r hd (λj m=>by
  have d:j<c.size:=by simpa using m
  have f:=(p j d).1;rw[getElem!_pos c j d]at f;have i:(⟨b,o,none⟩:Addr).add j=⟨b,o+j,none⟩:=by
   unfold XI;by_cases g:j=0
   ·subst g;rfl
   ·rw[yB4 g]
  rw[i,f];simp[encB,ub])
 simpa[l]using h
end
section
theorem slice22:prog.underlying 23=some (.slice 5):=kR
theorem info5:(prog.info? 5).map (λi=>(i.zero,i.size,i.bytes))=some (some (.int .u8 0),1,1):=kR
theorem int5:prog.underlying 5=some (.int .u8):=kR
theorem str9:prog.underlying 9=some .string:=kR
end
end
section
open Go.RowKit Go.Sort Go.Deep
variable {P:Nat}[NeZero P]{N:Nat}
def be8(x:Nat):Bs:=#[TV (x/72057594037927936),TV (x/281474976710656),TV (x/1099511627776),TV (x/4294967296),TV (x/16777216),TV (x/65536),TV (x/256),TV x]
def be32(a b c d:Nat):Bs:=be8 d++be8 c++be8 b++be8 a
theorem qC(x:Nat):ub (TV x)=((x%256:Nat):Int):=by
 unfold ub;rw[UInt8.toNat_ofNat']
theorem byte_at(x k:Nat):(UV .u8 ((x:Int)/(k:Int)%256))=encB (TV (x/k)):=by
 unfold encB;rw[qC,yA9,YN];rfl
theorem JP(x:Nat)(k:x<18446744073709551616):(UV .u8 ((x:Int)/72057594037927936))=encB (TV (x/72057594037927936)):=by
 unfold encB;rw[qC];exact congrArg (UV .u8) oM
theorem SJ(k:Bs)(g:k.size=8)(v0 v1 v2 f b d c e:UInt8):
 (((((((k.setIfInBounds 0 v0).setIfInBounds 1 v1).setIfInBounds 2 v2).setIfInBounds 3 f).setIfInBounds 4 b).setIfInBounds 5 d).setIfInBounds 6 c).setIfInBounds 7 e=#[v0,v1,v2,f,b,d,c,e]:=by
 obtain⟨l⟩:=k;match l,g with
 | [_,_,_,_,_,_,_,_],_=>simp
theorem kF(g o n cap x:Nat)(b:Bs)(w:TA)(B:8<=n)(u:n<=cap)(c:cap<=1048576)(s:x<18446744073709551616)(q:b.size=8)(k:Holds encB w g o b):
 TW prog 116 #[.slice (some ⟨g,o,none⟩) n cap,uZ x] w λe w'=>e=.returned (.tuple #[])/\Only g o 8 w w'/\Holds encB w' g o (be8 x):=by
 obtain⟨j,d⟩:=k 0 oM;obtain⟨J,F⟩:=k 1 oM;obtain⟨D,v⟩:=k 2 oM;obtain⟨K,H⟩:=k 3 oM;obtain⟨C,I⟩:=k 4 oM;obtain⟨G,z⟩:=k 5 oM;obtain⟨E,y⟩:=k 6 oM;obtain⟨a,A⟩:=k 7 oM;rw[VK]at j d;have m:=mk1 (k);go_enter func116,ntmps116;go_wp2;have v0:(UV .u8 ((x:Int)/72057594037927936))=encB (TV (x/72057594037927936)):=JP x s;have v1:(UV .u8 ((x:Int)/281474976710656%256))=encB (TV (x/281474976710656)):=byte_at x 281474976710656;have v2:(UV .u8 ((x:Int)/1099511627776%256))=encB (TV (x/1099511627776)):=byte_at x 1099511627776;have r:(UV .u8 ((x:Int)/4294967296%256))=encB (TV (x/4294967296)):=byte_at x 4294967296;have l:(UV .u8 ((x:Int)/16777216%256))=encB (TV (x/16777216)):=byte_at x 16777216;have t:(UV .u8 ((x:Int)/65536%256))=encB (TV (x/65536)):=byte_at x 65536;have p:(UV .u8 ((x:Int)/256%256))=encB (TV (x/256)):=byte_at x 256;have f:(UV .u8 ((x:Int)%256))=encB (TV x):=by unfold encB;rw[qC,yA9];rfl
 rw[v0,v1,v2,r,l,t,p,f]
 go_end0
 refine⟨rfl,?_,?_⟩
 ·exact((((((((Only.refl g o 8 w).setCell (o:=o) oM oM _).setCell (o:=o+1) oM oM _).setCell (o:=o+2) oM oM _).setCell (o:=o+3) oM oM _).setCell (o:=o+4) oM oM _).setCell (o:=o+5) oM oM _).setCell (o:=o+6) oM oM _).setCell (o:=o+7) oM oM _
 ·have:=SJ b q (TV (x/72057594037927936)) (TV (x/281474976710656)) (TV (x/1099511627776)) (TV (x/4294967296)) (TV (x/16777216)) (TV (x/65536)) (TV (x/256)) (TV x);unfold be8;rw[<-this];exact Holds.set (Holds.set (Holds.set (Holds.set (Holds.set (Holds.set (Holds.set (Holds.set m.out (i:=0) oM _) (i:=1) (by simp;omega) _) (i:=2) (by simp;omega) _) (i:=3) (by simp;omega) _) (i:=4) (by simp;omega) _) (i:=5) (by simp;omega) _) (i:=6) (by simp;omega) _) (i:=7) (by simp;omega) _
theorem aW(x:Nat):(be8 x).size=8:=rfl
theorem oL(a b c d:Nat):(be32 a b c d).size=32:=by simp only[be32,UA,aW]
theorem Holds.part{w:TA}{g o p:Nat}{d e:Bs}(h:Holds encB w g o d)(c:p+e.size<=d.size)(b:∀j,j<e.size->e[j]! = d[p+j]!):Holds encB w g (o+p) e:=by
 intro j k;rw[b j k,VQ];exact h (p+j) oM
theorem Holds.join{w:TA}{g:Nat}{a b c d:Nat}(i:Holds encB w g 0 (be8 d))(n:Holds encB w g 8 (be8 c))(f:Holds encB w g 16 (be8 b))(l:Holds encB w g 24 (be8 a)):Holds encB w g 0 (be32 a b c d):=by
 intro j m;rw[oL]at m;have e:be32 a b c d=be8 d++be8 c++be8 b++be8 a:=rfl;have s1:(be8 d++be8 c).size=16:=by simp only[UA,aW]
 have s2:(be8 d++be8 c++be8 b).size=24:=by simp only[UA,aW]
 by_cases k:j<8
 ·have:=i j (by rw[aW];exact k);rw[e,app_front _ _ j oM,<-getElem!_pos (be8 d++be8 c++be8 b) j oM,app_front _ _ j oM,<-getElem!_pos (be8 d++be8 c) j oM,app_front _ _ j (by rw[aW];exact k),<-getElem!_pos (be8 d) j (by rw[aW];exact k)];exact this
 ·by_cases p:j<16
  ·have:=n (j-8) (by rw[aW];omega);rw[show 8+(j-8)=0+j by omega]at this;rw[e,app_front _ _ j oM,<-getElem!_pos (be8 d++be8 c++be8 b) j oM,app_front _ _ j oM,<-getElem!_pos (be8 d++be8 c) j oM,app_back _ _ j (by rw[aW];omega) (by rw[aW,aW];omega),aW];exact this
  ·by_cases o:j<24
   ·have:=f (j-16) (by rw[aW];omega);rw[show 16+(j-16)=0+j by omega]at this;rw[e,app_front _ _ j oM,<-getElem!_pos (be8 d++be8 c++be8 b) j oM,app_back _ _ j oM (by rw[s1,aW];omega),s1];exact this
   ·have:=l (j-24) (by rw[aW];omega);rw[show 24+(j-24)=0+j by omega]at this;rw[e,app_back _ _ j oM (by rw[s2,aW];omega),s2];exact this
theorem Ta(a b c d:Nat)(w:TA):(Zs 44 (.agg #[uZ a,uZ b,uZ c,uZ d]) (iZ 0)).run prog w=.ok (uZ a) w:=kR
theorem S8(a b c d:Nat)(w:TA):(Zs 44 (.agg #[uZ a,uZ b,uZ c,uZ d]) (iZ 1)).run prog w=.ok (uZ b) w:=kR
theorem S7(a b c d:Nat)(w:TA):(Zs 44 (.agg #[uZ a,uZ b,uZ c,uZ d]) (iZ 2)).run prog w=.ok (uZ c) w:=kR
theorem S6(a b c d:Nat)(w:TA):(Zs 44 (.agg #[uZ a,uZ b,uZ c,uZ d]) (iZ 3)).run prog w=.ok (uZ d) w:=kR
theorem oD{w:TA}{g:Nat}(p:Nat)(h:Holds encB w g 0 (TP 32 0))(b:p+8<=32):Holds encB w g p (TP 8 (0:UInt8)):=by
 have:=Holds.part (p:=p) (e:=TP 8 0) h (by simpa using b) (λj k=>by
  rw[TY]at k;rw[rep_at 8 j k,rep_at 32 (p+j) oM])
 rwa[TO]at this
theorem zN(x:TC)(m:Nat)(w:TA)(J:Four x m):
 TW prog 84 #[x] w (rZ w λe w'=>∃g a b c d:Nat,e=.slice (some (aZ g)) 32 32/\w.heap.size<=g/\x=.agg #[uZ a,uZ b,uZ c,uZ d]/\Holds encB w' g 0 (be32 a b c d)):=by
 obtain⟨a,b,c,d,rfl,L,I,G,hd,O⟩:=J;clear O;have K:∀w:TA,(Instr.makeSlice 23 (iZ 32) (iZ 32)).run prog w=.ok (.slice (some ⟨w.heap.size,0,none⟩) 32 32) (w.alloc (.cells (madeCells #[.int .u8 0] 32) 5)):=
  run_make_row' (P:=prog) 23 5 (.int .u8 0) 1 slice22 info5 rfl .i64 .i64 32 oM oM
 go_enter func84,ntmps84;go_wp2;refine VX 5 ?_;have f:Holds encB ((w.alloc (.cells #[uZ a,uZ b,uZ c,uZ d] 44)).alloc (.cells (madeCells #[.int .u8 0] 32) 5)) (w.heap.size+1) 0 (TP 32 0):=by
  have:=Holds.made (enc:=encB) (w.alloc (.cells #[uZ a,uZ b,uZ c,uZ d] 44)) 5 32 0;rw[TQ]at this;exact this
 have s:=below2 w (.cells #[uZ a,uZ b,uZ c,uZ d] 44) (.cells (madeCells #[.int .u8 0] 32) 5);generalize ((w.alloc (.cells #[uZ a,uZ b,uZ c,uZ d] 44)).alloc (.cells (madeCells #[.int .u8 0] 32) 5))=W at f s⊢;have o:Hid (Below w.heap.size w W):=s;generalize M:w.heap.size+1=g at f⊢;have r:=mk1 (M);have C:=oD 24 f oM;have j:=oD 16 f oM;have i:=oD 8 f oM;have k:=oD 0 f oM;have z:=Ta a b c d;have B:=S8 a b c d;have A:=S7 a b c d;have D:=S6 a b c d;rw[Ul];go_wp2_with (simp only[z])
 refine(kF g 24 8 8 a _ _ oM oM oM L (by rw[TY]) C).mono ?_;rintro e Q ⟨rfl,t,b1⟩;replace j:=Holds.same j t (by simp);replace i:=Holds.same i t (by simp);replace k:=Holds.same k t (by simp);have n:=mk1 (o.trans (t.below o.size (by have:=r.out;omega)));go_wp2_with fail
 rw[Ul];go_wp2_with (simp only[B])
 refine(kF g 16 16 16 b _ _ oM oM oM I (by rw[TY]) j).mono ?_;rintro e T ⟨rfl,v,p⟩;replace i:=Holds.same i v (by simp);replace k:=Holds.same k v (by simp);replace b1:=Holds.same b1 v (by simp);have l:=mk1 (n.trans (v.below n.size (by have:=r.out;omega)));go_wp2_with fail
 rw[Ul];go_wp2_with (simp only[A])
 refine(kF g 8 24 24 c _ _ oM oM oM G (by rw[TY]) i).mono ?_;rintro e R ⟨rfl,u,E⟩;replace k:=Holds.same k u (by simp);replace b1:=Holds.same b1 u (by simp);replace p:=Holds.same p u (by simp);have q:=mk1 (l.trans (u.below l.size (by have:=r.out;omega)));go_wp2_with fail
 rw[Ul];go_wp2_with (simp only[D])
 refine(kF g 0 32 32 d _ _ oM oM oM hd (by rw[TY]) k).mono ?_;rintro e S ⟨rfl,y,N⟩;replace b1:=Holds.same b1 y (by simp);replace p:=Holds.same p y (by simp);replace E:=Holds.same E y (by simp);have F:=mk1 (q.trans (y.below q.size (by have:=r.out;omega)));have H:=mk1 (Holds.join N E p b1);go_wp2_with fail
 rw[Ul];go_wp2
 go_ret;exact⟨_,rfl,F.out,g,a,b,c,d,rfl,by have:=r.out;omega,rfl,H.out⟩
theorem jL(a b t:Nat)(k:t<=56)(c:a<2^t)(i:b<256):bits .or .u64 (a:Int) ((b*2^t:Nat):Int)=((a+b*2^t:Nat):Int)/\a+b*2^t<2^(t+8):=by
 have j:2^t<=2^56:=Ve dC k;have f:b*2^t<=255*2^t:=Xm _ oM;have g:2^(t+8)=256*2^t:=by rw[VS,Ut]
 have d:(2:Nat)^56=72057594037927936:=dC;have e:=WQ c b;refine⟨?_,oM⟩;rw[XW _ _ oM oM,yBO,Ut b,<-e,Nat.add_comm]
theorem o7(b:UInt8)(t:Nat)(k:t<=56):Uv.wrap (Uv.wrap (ub b)*((2^t:Nat):Int))=((b.toNat*2^t:Nat):Int):=by
 have e:=b.toNat_lt;have f:2^t<=2^56:=Ve dC k;have d:b.toNat*2^t<=255*2^t:=Xm _ oM;have c:(2:Nat)^56=72057594037927936:=dC;unfold ub;rw[wrapN _ oM,mulN,wrapN _ oM]
def w8(b0 b1 k c d b f e:UInt8):Nat:=
 e.toNat+f.toNat*256+b.toNat*65536+d.toNat*16777216+c.toNat*4294967296+k.toNat*1099511627776+b1.toNat*281474976710656+b0.toNat*72057594037927936
theorem Es(b0 b1 k c d b f e:UInt8):w8 b0 b1 k c d b f e<18446744073709551616:=by
 have:=b0.toNat_lt;have:=b1.toNat_lt;have:=k.toNat_lt;have:=c.toNat_lt
 have:=d.toNat_lt;have:=b.toNat_lt;have:=f.toNat_lt;have:=e.toNat_lt
 unfold w8;omega
theorem Kv(b0 b1 b e f d c k:UInt8):
 bits .or .u64 (bits .or .u64 (bits .or .u64 (bits .or .u64 (bits .or .u64 (bits .or .u64 (bits .or .u64 (Uv.wrap (ub k)) (Uv.wrap (Uv.wrap (ub c)*256)))
  (Uv.wrap (Uv.wrap (ub d)*65536))) (Uv.wrap (Uv.wrap (ub f)*16777216))) (Uv.wrap (Uv.wrap (ub e)*4294967296)))
  (Uv.wrap (Uv.wrap (ub b)*1099511627776))) (Uv.wrap (Uv.wrap (ub b1)*281474976710656))) (Uv.wrap (Uv.wrap (ub b0)*72057594037927936))=((w8 b0 b1 b e f d c k:Nat):Int):=by
 have z:=k.toNat_lt;have n:Uv.wrap (ub k)=(k.toNat:Int):=wrapN _ oM;have g:=o7 c 8 dC;have x:=o7 d 16 dC;have e3:=o7 f 24 dC;have p:=o7 e 32 dC;have s:=o7 b 40 dC;have j:=o7 b1 48 dC;have i:=o7 b0 56 dC;obtain⟨m,l1⟩:=jL k.toNat c.toNat 8 dC oM (by have:=c.toNat_lt;omega);obtain⟨q,l2⟩:=jL _ d.toNat 16 dC l1 (by have:=d.toNat_lt;omega);obtain⟨o,l3⟩:=jL _ f.toNat 24 dC l2 (by have:=f.toNat_lt;omega);obtain⟨t,y⟩:=jL _ e.toNat 32 dC l3 (by have:=e.toNat_lt;omega);obtain⟨w,l⟩:=jL _ b.toNat 40 dC y (by have:=b.toNat_lt;omega);obtain⟨v,r⟩:=jL _ b1.toNat 48 dC l (by have:=b1.toNat_lt;omega);obtain⟨u,a⟩:=jL _ b0.toNat 56 dC r (by have:=b0.toNat_lt;omega);rw[show(256:Int)=((2^8:Nat):Int) from rfl,show(65536:Int)=((2^16:Nat):Int) from rfl,show(16777216:Int)=((2^24:Nat):Int) from rfl,
  show(4294967296:Int)=((2^32:Nat):Int) from rfl,show(1099511627776:Int)=((2^40:Nat):Int) from rfl,show(281474976710656:Int)=((2^48:Nat):Int) from rfl,show(72057594037927936:Int)=((2^56:Nat):Int) from rfl,
  n,g,x,e3,p,s,j,i,m,q,o,t,w,v,u]
 rfl
theorem word_any(g o n cap:Nat)(k:Bs)(w:TA)(z:8<=n)(s:n<=cap)(c:cap<=1048576)(A:8<=k.size)(b:Holds encB w g o k):
 TW prog 108 #[.slice (some ⟨g,o,none⟩) n cap] w λe w'=>e=.returned (.int .u64 ((w8 k[0]! k[1]! k[2]! k[3]! k[4]! k[5]! k[6]! k[7]!:Nat):Int))/\∃n,w'=w.drewN n:=by
 obtain⟨i,d⟩:=b 0 oM;obtain⟨H,D⟩:=b 1 oM;obtain⟨B,t⟩:=b 2 oM;obtain⟨I,F⟩:=b 3 oM;obtain⟨a,G⟩:=b 4 oM;obtain⟨E,v⟩:=b 5 oM;obtain⟨C,u⟩:=b 6 oM;obtain⟨x,y⟩:=b 7 oM;rw[VK]at i d;unfold encB at *;generalize k[0]! = b0 at *;generalize k[1]! = b1 at *;generalize k[2]! = j at *;generalize k[3]! = q at *;generalize k[4]! = r at *;generalize k[5]! = p at *;generalize k[6]! = l at *;generalize k[7]! = f at *;have m:=mk1 (Kv b0 b1 j q r p l f);go_enter func108,ntmps108;go_wp2;go_quiet (fail);go_wp2;go_ret;exact⟨ret_int m.out,_,rfl⟩
def beV(l:List UInt8):Nat:=l.foldl (λn b=>256*n+b.toNat) 0
theorem DT(l:List UInt8):∀n,l.foldl (λn b=>256*n+b.toNat) n=n*256^l.length+beV l:=by
 induction l with
 | nil=>intro n;simp[beV]
 | cons x r ih =>
  intro n;have c:=ih (256*n+x.toNat);have k:=ih (256*0+x.toNat);simp only[yA8,List.length_cons,beV]at *;rw[c,k,Vk,Nat.add_mul,XZ,TO,Ut 256 n,VV,Ut 256];omega
theorem jR(l r:List UInt8):beV (l++r)=beV l*256^r.length+beV r:=by
 rw[beV,List.foldl_append,DT];rfl
theorem G4(n:Nat)(l:List UInt8):beV (UU n 0++l)=beV l:=by
 rw[jR];have:beV (UU n 0)=0:=by
  induction n with
  | zero=>rfl
  | succ k ih=>rw[List.replicate_succ',jR,ih];rfl
 rw[this,Nat.zero_mul,TO]
theorem JW(s z x a u v r t y w e b o n f q x16 x17 c j d x21 g x23 p m x26 x27 l k x30 i:UInt8):
 beV [s,z,x,a,u,v,r,t,y,w,e,b,o,n,f,q,x16,x17,c,j,d,x21,g,x23,p,m,x26,x27,l,k,x30,i]
  = val (w8 p m x26 x27 l k x30 i) (w8 x16 x17 c j d x21 g x23) (w8 y w e b o n f q) (w8 s z x a u v r t):=by
 simp only[beV,yA8,List.foldl_nil,w8,val];omega
theorem G5(k:Bs)(h:k.size=32):beV k.toList=val (w8 k[24]! k[25]! k[26]! k[27]! k[28]! k[29]! k[30]! k[31]!) (w8 k[16]! k[17]! k[18]! k[19]! k[20]! k[21]! k[22]! k[23]!)
 (w8 k[8]! k[9]! k[10]! k[11]! k[12]! k[13]! k[14]! k[15]!) (w8 k[0]! k[1]! k[2]! k[3]! k[4]! k[5]! k[6]! k[7]!):=by
 obtain⟨l⟩:=k;match l,h with
 | [x0,x1,x2,x3,x4,x5,x6,x7,x8,x9,x10,x11,x12,x13,x14,x15,x16,x17,x18,x19,x20,x21,x22,x23,x24,x25,x26,x27,x28,x29,x30,x31],_=>exact JW x0 x1 x2 x3 x4 x5 x6 x7 x8 x9 x10 x11 x12 x13 x14 x15 x16 x17 x18 x19 x20 x21 x22 x23 x24 x25 x26 x27 x28 x29 x30 x31
theorem zero32:∀w:TA,(zeroValue 154).run prog w=.ok (.agg (TP 32 (.int .u8 0))) w:=λ_=>kR
theorem ints5:(prog.info? 5).map (·.size)=some 1:=kR
def padded(n:Nat)(k:Bs):Bs:=TP (32-n) 0++k
theorem tG(n:Nat)(k:Bs)(c:k.size=n)(b:n<=32):(padded n k).size=32:=by
 unfold padded;rw[UA,TY];omega
theorem Dl(n:Nat)(k:Bs):beV (padded n k).toList=beV k.toList:=by
 unfold padded;rw[Array.toList_append,Array.toList_replicate,G4]
theorem ME{w:TA}{b g o n cap:Nat}{c:Bs}(i:Holds encB w b 0 (TP 32 0))(s:n<=32)(t:Holds encB w g o c)(m:c.size=n):
 (ZB #[23,23] 3 #[.slice (some ⟨b,32-n,none⟩) n n,.slice (some ⟨g,o,none⟩) n cap]).run prog w=.ok (goInt n) (w.setCells b (32-n) (c.toList.map encB))
  /\ Holds encB (w.setCells b (32-n) (c.toList.map encB)) b 0 (padded n c):=by
 have k:(c.toList.map encB).length=n:=by rw[Uk,Array.length_toList,m]
 refine⟨?_,?_⟩
 ·have:=run_copy_cells (P:=prog) w 23 23 3 5 b (32-n) n n ⟨g,o,none⟩ n cap (c.toList.map encB) slice22 ints5 (by rw[k];exact(Nat.min_self n).symm)
   (λj u d=>by
    obtain⟨f,e⟩:=List.getElem?_eq_some_iff.1 d;rw[k]at f;have l:=(t j oM).1;rw[getElem!_pos c j oM]at l;rw[Wp,VY]at e;have q:(⟨g,o,none⟩:Addr).add j=⟨g,o+j,none⟩:=by
     unfold XI;by_cases p:j=0
     ·subst p;rw[yB3 rfl];rfl
     ·rw[yB4 p]
    rw[q,l,e])
   (λj d=>by
    have:=(i (32-n+j) (by rw[TY];omega)).1;rw[TO]at this;rw[this];rfl)
   (λj d=>by
    have:=(i (32-n+j) (by rw[TY];omega)).2;rwa[TO]at this)
   (λu l=>by obtain⟨x,_,rfl⟩:=List.mem_map.1 l;rfl)
  rw[k]at this;exact this
 ·have:=Holds.setCells (r:=padded n c) i (c.toList.map encB) (32-n) (by rw[tG n c m s,TY]) (by rw[k,TY];omega) (λj d=>?_) (λj f e=>?_)
  ·rw[TO]at this;exact this
  ·rw[k]at d;rw[Wp,VY];unfold padded;rw[app_back _ _ _ (by rw[TY];omega) (by rw[TY];omega),TY,show 32-n+j-(32-n)=j by omega,getElem!_pos c j oM]
  ·rw[TY]at f;rw[k]at e;unfold padded;rw[app_front _ _ j (by rw[TY];omega),U9,rep_at 32 j f]
theorem ER{w:TA}{g:Nat}{T:Bs}(p:Nat)(h:Holds encB w g 0 T)(b:p+8<=T.size):Holds encB w g p #[T[p]!,T[p+1]!,T[p+2]!,T[p+3]!,T[p+4]!,T[p+5]!,T[p+6]!,T[p+7]!]:=by
 have:=Holds.part (p:=p) (e:=#[T[p]!,T[p+1]!,T[p+2]!,T[p+3]!,T[p+4]!,T[p+5]!,T[p+6]!,T[p+7]!]) h (by simpa using b) (λj k=>by
  have:j<8:=by simpa using k
  match j,this with
  | 0,_=>rfl
  | 1,_=>rfl
  | 2,_=>rfl
  | 3,_=>rfl
  | 4,_=>rfl
  | 5,_=>rfl
  | 6,_=>rfl
  | 7,_=>rfl)
 rwa[TO]at this
theorem nS(g o n cap:Nat)(b0 b1 c i j f d b:UInt8)(w:TA)(m:8<=n)(l:n<=cap)(k:cap<=1048576)(p:Holds encB w g o #[b0,b1,c,i,j,f,d,b]):
 TW prog 108 #[.slice (some ⟨g,o,none⟩) n cap] w λe w'=>e=.returned (uZ ((w8 b0 b1 c i j f d b:Nat):Int))/\∃n,w'=w.drewN n:=
 word_any g o n cap #[b0,b1,c,i,j,f,d,b] w m l k (TG 8) p
theorem Holds.far{w:TA}{g o j i:Nat}{k:Bs}(h:Holds encB w g o k)(b:j≠g)(v:TC):Holds encB (w.setCell ⟨j,i,none⟩ v) g o k:=by
 intro l c;rw[TE _ _ _ _ (aB (Ub b)),Un];exact h l c
theorem kO(D:Option Addr)(g o n cap:Nat)(m:Bs)(w:TA)(hn:n<=32)(hc:n<=cap)(hs:m.size=n)(W:n=0\/(D=some ⟨g,o,none⟩/\Holds encB w g o m)):
 TW prog 69 #[.slice D n cap] w (rZ w λe w'=>Four e (beV m.toList)):=by
 have K:=tG n m hs hn;have A:=mk1 ((Dl n m).symm.trans (G5 _ K));have zv:=zero32;have h6:(n:Int)<=32:=oM;have d0:(0:Int)<=32-(n:Int):=oM;have d1:(32:Int)-(n:Int)<=32:=oM;have d2:((32:Int)-(n:Int)).toNat=32-n:=oM;go_enter func69,ntmps69
 go_upto_region 2 with fail
 have R:=(At4.made w 44 0 0 0 0 rfl).alloc (.cells (TP 32 (.int .u8 0)) 154);have Z:Holds encB ((w.alloc (.cells #[uZ 0,uZ 0,uZ 0,uZ 0] 44)).alloc (.cells (TP 32 (.int .u8 0)) 154)) (w.heap.size+1) 0 (TP 32 0):=by
  have:=Holds.new (enc:=encB) (w.alloc (.cells #[uZ 0,uZ 0,uZ 0,uZ 0] 44)) 154 (TP 32 0);rw[Array.map_replicate,TQ]at this;exact this
 have BL:=below2 w (.cells #[uZ 0,uZ 0,uZ 0,uZ 0] 44) (.cells (TP 32 (.int .u8 0)) 154);simp only[Ux]at R;have M:n=0\/(D=some ⟨g,o,none⟩/\Holds encB ((w.alloc (.cells #[uZ 0,uZ 0,uZ 0,uZ 0] 44)).alloc (.cells (TP 32 (.int .u8 0)) 154)) g o m):=by
  rcases W with h|⟨h1,b⟩
  ·exact Ub h
  ·by_cases C:n=0
   ·exact Ub C
   ·exact T8 ⟨h1,Holds.below b BL (Holds.lt b oM)⟩
 clear W;generalize U2 _ _=X at R Z BL M⊢
 go_cut [] (λwx=>Holds encB wx (w.heap.size+1) 0 (padded n m)/\At4 wx w.heap.size 0 0 0 0/\Below w.heap.size w wx)
 case first =>
  by_cases C:n=0
  ·subst C;have c:∀w d f b,(ZB #[23,23] 3 #[.slice d f b,.slice D 0 cap]).run prog w=.ok (goInt 0) w:=λw d f b=>run_copy_none w 23 23 3 5 d D f b 0 cap slice22 ints5 (by simp)
   have j:padded 0 m=TP 32 0:=by
    have:m=#[]:=Array.eq_empty_of_size_eq_zero hs;rw[this];rfl
   go_wp2
   go_meet
   exact⟨by rw[j];exact Z,R,BL⟩
  ·obtain⟨rfl,W⟩:D=some ⟨g,o,none⟩/\Holds encB X g o m:=M.resolve_left C;obtain⟨c,j⟩:=ME (cap:=cap) Z hn W hs;have l:32-(32-n)=n:=oM;have f:At4 (X.setCells (w.heap.size+1) (32-n) (m.toList.map encB)) w.heap.size 0 0 0 0:=by
    have b:=heap_setCells (w.heap.size+1) (k:=w.heap.size) oM (m.toList.map encB) (32-n) X;exact⟨by rw[<-R.c0];exact Ua b,by rw[<-R.c1];exact Ua b,by rw[<-R.c2];exact Ua b,by rw[<-R.c3];exact Ua b,λo=>by rw[<-R.f o];exact World.frozen?_of_block b⟩
   have x:Below w.heap.size w (X.setCells (w.heap.size+1) (32-n) (m.toList.map encB)):=below_setCells (Y8 _) _ _ _ BL;have b:=mk3 j f x;go_wp2
   go_meet
   exact b.out
 case rest =>
  obtain⟨z,f,x⟩:=hcut;generalize padded n m=T at z K A⊢;have Y:=ER 24 z oM;have a:=ER 16 z oM;have p1:=ER 8 z oM;have p0:=ER 0 z oM;have zk:=f.lt;have r:=Holds.lt z oM;generalize H:w8 T[24]! T[25]! T[26]! T[27]! T[28]! T[29]! T[30]! T[31]! = y at A;generalize P:w8 T[16]! T[17]! T[18]! T[19]! T[20]! T[21]! T[22]! T[23]! = F at A;generalize I:w8 T[8]! T[9]! T[10]! T[11]! T[12]! T[13]! T[14]! T[15]! = O at A;generalize G:w8 T[0]! T[1]! T[2]! T[3]! T[4]! T[5]! T[6]! T[7]! = q at A;have l3:=H ▸ Es _ _ _ _ _ _ _ _;have l2:=P ▸ Es _ _ _ _ _ _ _ _;have l1:=I ▸ Es _ _ _ _ _ _ _ _;have l0:=G ▸ Es _ _ _ _ _ _ _ _;go_wp2;have N:=At4.made wc 44 0 0 0 0 rfl;simp only[Ux]at N;replace Y:=Holds.below Y (aD wc (.cells #[uZ 0,uZ 0,uZ 0,uZ 0] 44)) r;replace a:=Holds.below a (aD wc (.cells #[uZ 0,uZ 0,uZ 0,uZ 0] 44)) r;replace p1:=Holds.below p1 (aD wc (.cells #[uZ 0,uZ 0,uZ 0,uZ 0] 44)) r;replace p0:=Holds.below p0 (aD wc (.cells #[uZ 0,uZ 0,uZ 0,uZ 0] 44)) r;have BL:=mk1 (x.alloc (V6 zk) (.cells #[uZ 0,uZ 0,uZ 0,uZ 0] 44));replace f:=f.alloc (.cells #[uZ 0,uZ 0,uZ 0,uZ 0] 44);have E:w.heap.size≠wc.heap.size:=oM;have u:w.heap.size+1≠wc.heap.size:=oM;have Q:Hid (w.heap.size<=wc.heap.size):=by unfold Hid;omega
  generalize wc.heap.size=U at N E u Q⊢;generalize h1:w.heap.size+1=k1 at Y a p1 p0 u⊢;generalize C:w.heap.size=V at f E BL Q⊢;have H0:=mk1 (C);refine VX 5 ?_;obtain⟨c,b,j,l,t⟩:=id N;have s:=N.lt;rw[Ul];go_wp2_with fail
  refine(nS k1 24 8 8 _ _ _ _ _ _ _ _ _ dC dC dC Y).mono ?_;rintro e w1 ⟨rfl,B,rfl⟩;rw[H];replace N:=N.drewN B;obtain⟨c,b,j,l,t⟩:=id N;have s:=N.lt;go_wp2_with fail
  replace N:=N.set0 y;replace f:=(f.drewN B).other (o:=0) E.symm (uZ y);replace BL:Hid (Below V w _):=(aS BL.out B).setCell (p:=⟨U,0,none⟩) Q.out (uZ y);replace a:=Holds.far (Holds.drewN a B) (i:=0) u.symm (uZ y);replace p1:=Holds.far (Holds.drewN p1 B) (i:=0) u.symm (uZ y);replace p0:=Holds.far (Holds.drewN p0 B) (i:=0) u.symm (uZ y);obtain⟨c,b,j,l,t⟩:=id N;have s:=N.lt;rw[Ul];go_wp2_with fail
  refine(nS k1 16 16 16 _ _ _ _ _ _ _ _ _ dC dC dC a).mono ?_;rintro e w1 ⟨rfl,L,rfl⟩;rw[P];replace N:=N.drewN L;obtain⟨c,b,j,l,t⟩:=id N;have s:=N.lt;go_wp2_with fail
  replace N:=N.set1 F;replace f:=(f.drewN L).other (o:=1) E.symm (uZ F);replace BL:Hid (Below V w _):=(aS BL.out L).setCell (p:=⟨U,1,none⟩) Q.out (uZ F);replace p1:=Holds.far (Holds.drewN p1 L) (i:=1) u.symm (uZ F);replace p0:=Holds.far (Holds.drewN p0 L) (i:=1) u.symm (uZ F);obtain⟨c,b,j,l,t⟩:=id N;have s:=N.lt;rw[Ul];go_wp2_with fail
  refine(nS k1 8 24 24 _ _ _ _ _ _ _ _ _ dC dC dC p1).mono ?_;rintro e w1 ⟨rfl,S,rfl⟩;rw[I];replace N:=N.drewN S;obtain⟨c,b,j,l,t⟩:=id N;have s:=N.lt;go_wp2_with fail
  replace N:=N.set2 O;replace f:=(f.drewN S).other (o:=2) E.symm (uZ O);replace BL:Hid (Below V w _):=(aS BL.out S).setCell (p:=⟨U,2,none⟩) Q.out (uZ O);replace p0:=Holds.far (Holds.drewN p0 S) (i:=2) u.symm (uZ O);obtain⟨c,b,j,l,t⟩:=id N;have s:=N.lt;rw[Ul];go_wp2_with fail
  refine(nS k1 0 32 32 _ _ _ _ _ _ _ _ _ dC dC dC p0).mono ?_;rintro e w1 ⟨rfl,q3,rfl⟩;rw[G];replace N:=N.drewN q3;obtain⟨c,b,j,l,t⟩:=id N;have s:=N.lt;go_wp2_with fail
  replace N:=N.set3 q;replace f:=(f.drewN q3).other (o:=3) E.symm (uZ q);replace BL:Hid (Below V w _):=(aS BL.out q3).setCell (p:=⟨U,3,none⟩) Q.out (uZ q);obtain⟨c,b,j,l,t⟩:=id N;have s:=N.lt;obtain⟨h5,h4,h7,h3,rf⟩:=id f;have zr:=f.lt;rw[Ul];go_wp2
  have J:=f.self4 y F O q;unfold set4 at J;refine TM (v:=?v) ?hr rfl ?hR
  case hr=>simp[results,Tryz.results69,go_sem,J.c0,J.c1,J.c2,J.c3];rfl
  refine⟨_,rfl,?_,Four.mk l3 l2 l1 l0 A.out⟩;rw[H0.out];exact aF BL.out (TG _) _ _ _ _
theorem rN(g f j P:Nat)(i:Gap g f j P)(w:TA):
 TW prog 126 #[.agg #[uZ g,uZ f,uZ j,uZ 0]] w (rZ w λe w'=>Four e P):=by
 have s:=i.hg;go_enter func126,ntmps126;go_wp2_with fail
 have R:=At4.made (w.alloc (.cells #[uZ g,uZ f,uZ j,uZ 0] 89)) 44 0 0 0 0 (TQ _ _);have BL:=below2 w (.cells #[uZ g,uZ f,uZ j,uZ 0] 89) (.cells #[uZ 0,uZ 0,uZ 0,uZ 0] 44);simp only[Ux]at R;refine(sH _ _ 0 _ (Four.mk (a:=0) (b:=0) (c:=0) (d:=0) dC dC dC dC rfl) (Four.mk i.h0 i.h1 i.h2 dC rfl) _).mono ?_;rintro e D ⟨v,rfl,n,v2,t,k,rfl,o,J,q⟩;replace q:t+val g f j 0=0+top*k:=q;have r:t=P:=by
  have m:=o.lt;have l:=i.hP;have:k=0\/k=1:=oM;rcases this with h|h<;>rw[h]at q<;>omega
 subst r;replace R:=R.call n;have p:=mk1 (BL.trans (n.mono BL.size));obtain⟨a,b,c,d,rfl,I,E,C,hd,G⟩:=id o;have z:=R.lt;go_wp2_with fail
 refine(jM _ _ o _).mono ?_;rintro e A ⟨H,rfl,l,rfl⟩;replace p:Hid (Below w.heap.size w A):=(p.alloc oM _).trans (l.mono (by simp;omega));replace R:=(R.alloc _).call l;obtain⟨B,x,y,u,F⟩:=id R;have z:=R.lt;go_wp2;have m:=R.self4 a b c d;unfold set4 at m;refine TM (v:=?v) ?hr rfl ?hR
 case hr=>simp[results,Tryz.results126,go_sem,m.c0,m.c1,m.c2,m.c3];rfl
 exact⟨_,rfl,aF p.out (Y8 _) _ _ _ _,o⟩
end
section
open Go.RowKit Go.Sort
variable {P:Nat}[NeZero P]{N:Nat}
theorem Nt(w:TA)(t0 t1 t2:Uw)(a b c d e f g h i j k l:Nat):
 Kept w w.heap.size [⟨w.heap.size,0,a,b,c,d⟩,⟨w.heap.size+1,0,e,f,g,h⟩,⟨w.heap.size+1+1,0,i,j,k,l⟩]
  (((w.alloc (.cells #[uZ a,uZ b,uZ c,uZ d] t0)).alloc (.cells #[uZ e,uZ f,uZ g,uZ h] t1)).alloc (.cells #[uZ i,uZ j,uZ k,uZ l] t2)):=by
 refine(((Kept.mk1 (below3 w _ _ _) (below3 w _ _ _).size).cons ?_).cons ?_).cons ?_
 ·exact(At4.made _ t2 i j k l (by simp)).blk
 ·exact((At4.made _ t1 e f g h (by simp)).alloc _).blk
 ·exact(((At4.made _ t0 a b c d rfl).alloc _).alloc _).blk
theorem tV(g f i P:Nat)(x:TC)(m:Nat)(D:Gap g f i P)(l:2<=P%18446744073709551616)(s:Four x m)(w:TA):
 TW prog 90 #[.agg #[uZ g,uZ f,uZ i,uZ 0],x] w (rZ w λe w'=>Four e (m^(P-2)%P)):=by
 obtain⟨a,b,c,d,rfl,I,F,O,hd,M⟩:=id s;have HX:Hid (Four _ m):=s;have C:Hid (Gap g f i P):=D;clear M s I F O hd D;go_enter func90,ntmps90;go_wp2_with fail
 have k:=Nt w 89 44 44 g f i 0 a b c d 0 0 0 0;simp only[Ux]at k;generalize U2 _ _=W0 at k⊢;generalize h2:w.heap.size+1+1=K at k⊢;generalize h1:w.heap.size+1=k1 at k⊢;have A:Hid (w.heap.size<=K):=by unfold Hid;omega
 generalize h0:w.heap.size=k0 at k A⊢;have W:=mk1 (h0);refine(rN g f i P C.out _).mono ?_;rintro e w1 ⟨v,rfl,z,p⟩;obtain⟨u,pb,pc,Z,rfl,L,t,r,q,B⟩:=id p;replace k:=k.call z;have Q:2<=u:=by rw[B]at l;unfold val at l;omega
 obtain⟨o,n⟩:∃o,u=o+2:=⟨u-2,oM⟩
 have HE:Hid (Four (.agg #[uZ o,uZ pb,uZ pc,uZ Z]) (P-2)):=by
  refine Four.mk oM t r q ?_;rw[B,n];unfold val;omega
 have hw:=wrapN o oM;obtain⟨h3,h5,S,Y,xf⟩:=k.tail.head.at4;have zx:=k.tail.head.lt;obtain⟨U,X,N,h4,pf⟩:=k.head.at4;have zp:=k.head.lt;have n1:=Vl zx;have n0:=Vl zp;go_wp2_with fail
 refine(yQ g f i P _ _ _ _ C.out HX.out HE.out _).mono ?_;rintro e w2 ⟨v,rfl,y,p⟩;replace k:=(k.alloc _).call y;obtain⟨qa,qb,qc,qd,rfl,H,J,T,G,eQ⟩:=id p;have HF:=mk1 (p);obtain⟨V,R,h6,E,rf⟩:=k.tail.tail.head.at4;have zr:=k.tail.tail.head.lt;go_wp2;have j:=k.tail.tail.head.at4.self4 qa qb qc qd;unfold set4 at j;refine TM (v:=?v) ?hr rfl ?hR
 case hr=>simp[results,Tryz.results90,go_sem,j.c0,j.c1,j.c2,j.c3];rfl
 refine⟨_,rfl,?_,HF.out⟩;rw[W.out];exact aF k.bl A.out _ _ _ _
theorem Ng:prog.underlying 42=some (.int .u64):=kR
theorem Qu:∀w,(sizeOf 42).run prog w=.ok 1 w:=λ_=>kR
theorem Sq:prog.underlying 44=some (.array 4 42):=kR
theorem E9(D:Nat)(a b c d p q r s:Nat)(w:TA):
 (ZT (D+1+1) 44 (.agg #[uZ a,uZ b,uZ c,uZ d]) (.agg #[uZ p,uZ q,uZ r,uZ s])).run prog w=.ok (decide (a=p/\b=q/\c=r/\d=s)) w:=by
 have e:=λ(x y:Nat)=>run_equalIn_int (P:=prog) w D 42 .u64 .u64 (x:Int) (y:Int) Ng
 rw[ZT];simp only[Ue,Zn Sq,UE,Qu];simp only[Yd,Zd,yBE,yA7,yBh];by_cases k:a=p
 ·by_cases f:b=q
  ·by_cases g:c=r
   ·by_cases i:d=s
    ·simp[k,f,g,i,part,e]
    ·simp[k,f,g,i,part,e];omega
   ·simp[k,f,g,part,e];omega
  ·simp[k,f,part,e];omega
 ·simp[k,part,e];omega
theorem QQ(a b c d p q r s:Nat)(w:TA):
 (binOp .neq 44 (.agg #[uZ a,uZ b,uZ c,uZ d]) (.agg #[uZ p,uZ q,uZ r,uZ s])).run prog w=.ok (.bool (!decide (a=p/\b=q/\c=r/\d=s))) w:=by
 rw[run_neq_struct,E9 9998];rfl
theorem So:prog.underlying 68=some (.array 4 42):=kR
theorem Ny(D:Nat)(a b c d p q r s:Nat)(w:TA):
 (ZT (D+1+1) 68 (.agg #[uZ a,uZ b,uZ c,uZ d]) (.agg #[uZ p,uZ q,uZ r,uZ s])).run prog w=.ok (decide (a=p/\b=q/\c=r/\d=s)) w:=by
 have e:=λ(x y:Nat)=>run_equalIn_int (P:=prog) w D 42 .u64 .u64 (x:Int) (y:Int) Ng
 rw[ZT];simp only[Ue,Zn So,UE,Qu];simp only[Yd,Zd,yBE,yA7,yBh];by_cases k:a=p
 ·by_cases f:b=q
  ·by_cases g:c=r
   ·by_cases i:d=s
    ·simp[k,f,g,i,part,e]
    ·simp[k,f,g,i,part,e];omega
   ·simp[k,f,g,part,e];omega
  ·simp[k,f,part,e];omega
 ·simp[k,part,e];omega
theorem OZ(a b c d p q r s:Nat)(w:TA):
 (binOp .neq 68 (.agg #[uZ a,uZ b,uZ c,uZ d]) (.agg #[uZ p,uZ q,uZ r,uZ s])).run prog w=.ok (.bool (!decide (a=p/\b=q/\c=r/\d=s))) w:=by
 rw[run_neq_struct,Ny 9998];rfl
theorem Og(a b c d:Nat)(w:TA):(binOp .neq 44 (.agg #[uZ a,uZ b,uZ c,uZ d]) (.agg #[uZ a,uZ b,uZ c,uZ d])).run prog w=.ok (.bool false) w:=by
 rw[QQ,decide_eq_true ⟨rfl,rfl,rfl,rfl⟩];rfl
theorem LX{a b c d p q r s:Nat}(h:¬(a=p/\b=q/\c=r/\d=s))(w:TA):(binOp .neq 44 (.agg #[uZ a,uZ b,uZ c,uZ d]) (.agg #[uZ p,uZ q,uZ r,uZ s])).run prog w=.ok (.bool true) w:=by
 rw[QQ,decide_eq_false h];rfl
theorem Oe(a b c d:Nat)(w:TA):(binOp .neq 68 (.agg #[uZ a,uZ b,uZ c,uZ d]) (.agg #[uZ a,uZ b,uZ c,uZ d])).run prog w=.ok (.bool false) w:=by
 rw[OZ,decide_eq_true ⟨rfl,rfl,rfl,rfl⟩];rfl
theorem LW{a b c d p q r s:Nat}(h:¬(a=p/\b=q/\c=r/\d=s))(w:TA):(binOp .neq 68 (.agg #[uZ a,uZ b,uZ c,uZ d]) (.agg #[uZ p,uZ q,uZ r,uZ s])).run prog w=.ok (.bool true) w:=by
 rw[OZ,decide_eq_false h];rfl
theorem OT(a b:Nat)(d:a<18446744073709551616):bits .or .u64 ((a/4:Nat):Int) ((b*4611686018427387904%18446744073709551616:Nat):Int)=((a/4+b*4611686018427387904%18446744073709551616:Nat):Int)/\a/4+b*4611686018427387904%18446744073709551616<18446744073709551616:=by
 have c:b*4611686018427387904%18446744073709551616=2^62*(b%4):=oM;have k:=WQ (i:=62) (b:=a/4) oM (b%4);rw[XW _ _ oM oM,c,yBO,<-k];omega
theorem Bw(x:TC)(m:Nat)(j:Four x m)(w:TA):
 TW prog 173 #[x] w (rZ w λe w'=>Four e (m/4)):=by
 obtain⟨a,b,c,d,rfl,r,o,n,hd,l⟩:=id j;obtain⟨g,l0⟩:=OT a b r;obtain⟨f,l1⟩:=OT b c o;obtain⟨i,l2⟩:=OT c d n;have k:=Dc a b c d;rw[<-l]at k;have s0:(a:Int)/4=((a/4:Nat):Int):=oM;have s1:(b:Int)/4=((b/4:Nat):Int):=oM;have s2:(c:Int)/4=((c/4:Nat):Int):=oM;have s3:(d:Int)/4=((d/4:Nat):Int):=oM;have t1:Uv.wrap ((b:Int)*4611686018427387904)=((b*4611686018427387904%18446744073709551616:Nat):Int):=by rw[Xx];omega
 have t2:Uv.wrap ((c:Int)*4611686018427387904)=((c*4611686018427387904%18446744073709551616:Nat):Int):=by rw[Xx];omega
 have p:Uv.wrap ((d:Int)*4611686018427387904)=((d*4611686018427387904%18446744073709551616:Nat):Int):=by rw[Xx];omega
 have l3:d/4<18446744073709551616:=oM;generalize a/4+b*4611686018427387904%18446744073709551616=t at g l0 k;generalize b/4+c*4611686018427387904%18446744073709551616=A at f l1 k;generalize c/4+d*4611686018427387904%18446744073709551616=u at i l2 k;generalize b*4611686018427387904%18446744073709551616=v1 at g t1;generalize c*4611686018427387904%18446744073709551616=v2 at f t2;generalize d*4611686018427387904%18446744073709551616=C at i p;generalize a/4=z at g s0;generalize b/4=s at f s1;generalize c/4=y at i s2;generalize d/4=B at s3 l3 k;have q:Hid _:=k;clear k l j;go_enter func173,ntmps173;go_wp2;refine TM (v:=?v) ?hr rfl ?hR
 case hr=>simp[results,Tryz.results173,go_sem];rfl
 exact⟨_,rfl,below2 _ _ _,Four.mk l0 l1 l2 l3 q.symm⟩
theorem FS(x:TC)(m:Nat)(f:Four x m)(w:TA):
 TW prog 123 #[x] w (rZ w λe w'=>e=.bool (decide (m%2=1))):=by
 obtain⟨a,b,c,d,rfl,i,n,l,hd,j⟩:=id f;have ho:=and_one a i;have g:m%2=a%2:=by rw[j];unfold val;omega
 rw[g];have k:a%2=0\/a%2=1:=oM;rcases k with h|h
 ·rw[h]at ho⊢;go_enter func123,ntmps123;go_wp2;go_ret;exact⟨_,rfl,aD _ _,rfl⟩
 ·rw[h]at ho⊢;go_enter func123,ntmps123;go_wp2;go_ret;exact⟨_,rfl,aD _ _,rfl⟩
theorem qL{w W:TA}{k e o f a b c d m n i rd g j l:Nat}(h:Kept w k [⟨k,0,g,j,l,0⟩,⟨f,0,m,n,i,rd⟩,⟨e,0,a,b,c,d⟩,⟨o,0,0,0,0,0⟩] W):W.cell? ⟨k,0,none⟩=some (uZ g)/\W.cell? ⟨k,1,none⟩=some (uZ j)/\W.cell? ⟨k,2,none⟩=some (uZ l)/\W.cell? ⟨k,3,none⟩=some (uZ 0)/\W.cell? ⟨f,0,none⟩=some (uZ m)/\W.cell? ⟨f,1,none⟩=some (uZ n)/\W.cell? ⟨f,2,none⟩=some (uZ i)/\W.cell? ⟨f,3,none⟩=some (uZ rd)/\W.cell? ⟨e,0,none⟩=some (uZ a)/\W.cell? ⟨e,1,none⟩=some (uZ b)/\W.cell? ⟨e,2,none⟩=some (uZ c)/\W.cell? ⟨e,3,none⟩=some (uZ d)/\Kept w k [⟨k,0,g,j,l,0⟩,⟨f,0,m,n,i,rd⟩,⟨e,0,a,b,c,d⟩,⟨o,0,0,0,0,0⟩] W:=
 ⟨h.head.c0,h.head.c1,h.head.c2,h.head.c3,h.tail.head.c0,h.tail.head.c1,h.tail.head.c2,h.tail.head.c3,h.tail.tail.head.c0,h.tail.tail.head.c1,h.tail.tail.head.c2,h.tail.tail.head.c3,h⟩
theorem four_ne{a b c d m n:Nat}{v:TC}(h:Four v n)(e:Four (.agg #[uZ a,uZ b,uZ c,uZ d]) m)(k:¬n=m):
 ∃p q r s:Nat,v=.agg #[uZ p,uZ q,uZ r,uZ s]/\¬(p=a/\q=b/\r=c/\s=d):=by
 obtain⟨p,q,r,s,rfl,f⟩:=id h;refine⟨p,q,r,s,rfl,?_⟩;rintro⟨rfl,rfl,rfl,rfl⟩;exact k (h.num e)
def even(P r:Nat):Nat:=if r%2=1 then P-r else r
def RootR(P m R:Nat)(e:TC):Prop:=∃(b d k c:Nat) (ok:Bool),e=.tuple #[.agg #[uZ b,uZ d,uZ k,uZ c],.bool ok] /\
 (ok=true->R*R%P=m/\Four (.agg #[uZ b,uZ d,uZ k,uZ c]) (even P R))/\(ok=false->¬R*R%P=m)/\(ok=false->b=0/\d=0/\k=0/\c=0)
theorem RootR.yes{P m R b d k c:Nat}(h:R*R%P=m)(e:Four (.agg #[uZ b,uZ d,uZ k,uZ c]) (even P R)):RootR P m R (.tuple #[.agg #[uZ b,uZ d,uZ k,uZ c],.bool true]):=
 ⟨b,d,k,c,true,rfl,λ_=>⟨h,e⟩,λh=>XQ h,λh=>XQ h⟩
theorem RootR.no{P m R:Nat}(h:¬R*R%P=m):RootR P m R (.tuple #[.agg #[uZ 0,uZ 0,uZ 0,uZ 0],.bool false]):=
 ⟨0,0,0,0,false,rfl,λh=>XQ h,λ_=>h,λ_=>⟨rfl,rfl,rfl,rfl⟩⟩
theorem Cr(n l o P:Nat)(x:TC)(m:Nat)(hG:Gap n l o P)(X:P/4%18446744073709551616<18446744073709551615)(hx:Four x m)(w:TA):
 TW prog 163 #[.agg #[.int .u64 n,.int .u64 l,.int .u64 o,.int .u64 0],x] w (Ret λe w'=>Below w.heap.size w w'/\RootR P m (m^(P/4+1)%P) e):=by
 obtain⟨a,b,c,d,rfl,ha,hb,hc,hd,em⟩:=id hx;have HX:Hid (Four _ m):=hx;have HG:Hid (Gap n l o P):=hG;obtain⟨R,hR⟩:∃R,m^(P/4+1)%P=R:=⟨_,rfl⟩
 have h7:R<P:=by
  rw[<-hR];refine Vm _ ?_;have:=hG.hP2;omega
 rw[hR];have hl:Hid (m^(P/4+1)%P=R):=hR;have J:Hid (R<P):=h7;clear em hx ha hb hc hd hG hR h7;go_enter func163,ntmps163;go_wp2_with fail
 have k:=Nt w 89 44 44 n l o 0 a b c d 0 0 0 0;simp only[Ux]at k;generalize U2 _ _=W0 at k⊢;generalize h2:w.heap.size+1+1=I at k⊢;generalize h1:w.heap.size+1=s at k⊢;have Q2:Hid (w.heap.size<=I):=by unfold Hid;omega
 generalize h0:w.heap.size=i at k Q2⊢;have H0:Hid (w.heap.size=i):=h0;clear h0 h1 h2;refine(rN n l o P HG.out _).mono ?_;rintro e w1 ⟨v,rfl,f,G⟩;obtain⟨pa,pb,pc,pd,rfl,-⟩:=id G;replace k:=k.call f;clear f;go_wp2_with fail
 refine(Bw _ _ G _).mono ?_;rintro e w2 ⟨v,rfl,h9,he⟩;obtain⟨qa,qb,qc,qd,rfl,hj,Z,h5,Y,eq⟩:=id he;replace k:=k.call h9;clear h9 G he;have hm:qa<18446744073709551615:=by rw[eq]at X;unfold val at X;omega
 obtain⟨qe,F⟩:∃qe,qa+1=qe:=⟨_,rfl⟩
 have HE:Hid (Four (.agg #[.int .u64 qe,.int .u64 qb,.int .u64 qc,.int .u64 qd]) (P/4+1)):=by
  refine Four.mk oM Z h5 Y ?_;rw[eq,<-F];unfold val;omega
 have hg:(qa:Int)+1=(qe:Int):=oM;have hw:=wrapN qe oM;clear hm eq X hj Z h5 Y F;obtain⟨hq,ht,hk,hp,xf⟩:=k.tail.head.at4;have zx:=k.tail.head.lt;obtain⟨O,Q,K,U,pf⟩:=k.head.at4;have zp:=k.head.lt;have n1:s≠w2.heap.size:=Vl zx;have n0:i≠w2.heap.size:=Vl zp;go_wp2_with fail
 refine(yQ n l o P _ _ _ _ HG.out HX.out HE.out _).mono ?_;rintro e S ⟨v,rfl,h3,G⟩;replace k:=(k.alloc _).call h3;clear h3 hq ht hk hp xf zx O Q K U pf zp n0 n1 HE hg hw;obtain⟨y,C,D,rd,rfl,-⟩:=id G;rw[hl.out]at G;have W:Hid (Four _ R):=G;clear G
 go_upto_region 4 with fail
 have h6:Kept w i [⟨i,0,n,l,o,0⟩,⟨S.heap.size,0,y,C,D,rd⟩,⟨s,0,a,b,c,d⟩,⟨I,0,0,0,0,0⟩] _:=((((Kept.mk1 (k.alloc (.cells #[.int .u64 y,.int .u64 C,.int .u64 D,.int .u64 rd] 44)).bl (k.alloc _).le).cons (k.alloc _).tail.tail.head).cons (k.alloc _).tail.head).cons (At4.made S 44 y C D rd rfl).blk).cons (x:=⟨i,0,n,l,o,0⟩) (k.alloc _).head |> λh=>by exact h
 have hs:S.heap.size≠i:=U3 k.head.lt;have h8:S.heap.size≠I:=U3 k.tail.tail.head.lt;have hn:S.heap.size≠s:=U3 k.tail.head.lt;have Q7:Hid (i<=S.heap.size):=k.le;clear k;have k:=h6;clear h6;generalize U2 _ _=W4 at k⊢;generalize S.heap.size=t at k hs hn h8 Q7⊢;by_cases q:R*R%P=m
 ·have hi:=Og a b c d;go_region_held3 (λw'=>w'.cell? ⟨i,0,none⟩=some (.int .u64 n)/\w'.cell? ⟨i,1,none⟩=some (.int .u64 l)/\w'.cell? ⟨i,2,none⟩=some (.int .u64 o)/\w'.cell? ⟨i,3,none⟩=some (.int .u64 0)/\w'.cell? ⟨t,0,none⟩=some (.int .u64 y)/\w'.cell? ⟨t,1,none⟩=some (.int .u64 C)/\w'.cell? ⟨t,2,none⟩=some (.int .u64 D)/\w'.cell? ⟨t,3,none⟩=some (.int .u64 rd)/\w'.cell? ⟨s,0,none⟩=some (.int .u64 a)/\w'.cell? ⟨s,1,none⟩=some (.int .u64 b)/\w'.cell? ⟨s,2,none⟩=some (.int .u64 c)/\w'.cell? ⟨s,3,none⟩=some (.int .u64 d)/\Kept w i [⟨i,0,n,l,o,0⟩,⟨t,0,y,C,D,rd⟩,⟨s,0,a,b,c,d⟩,⟨I,0,0,0,0,0⟩] w') (first|(with_reducible exact qL k)|(with_reducible exact qL k.drew)|fail) (first|(go_at_call 113;refine(oN n l o P _ _ _ _ HG.out W.out W.out _).mono ?_;rintro e w5 ⟨v,rfl,f,r⟩;rw[q]at r;obtain rfl:=r.inj HX.out;clear r;(first|(with_reducible (have p:=k.drew.call f))|(with_reducible (have p:=k.call f))|fail);clear k f;have k:=p;clear p))
  have u:Hid (R*R%P=m):=q;clear q
  rename_i hHeld
  clear hHeld;obtain⟨z,A,B,E,tf⟩:=k.tail.head.at4;have zt:=k.tail.head.lt;go_wp2_with fail
  clear z A B E tf zt;refine(FS _ _ W.out _).mono ?_;rintro e w6 ⟨v,rfl,hh,rfl⟩;replace k:=k.call hh;clear hh;obtain⟨z,A,B,E,tf⟩:=k.tail.head.at4;have zt:=k.tail.head.lt;obtain⟨H,N,L,T,uf⟩:=k.tail.tail.tail.head.at4;have zu:=k.tail.tail.tail.head.lt;by_cases g:R%2=1
  ·have hd:decide (R%2=1)=true:=decide_eq_true g;rw[hd];have HO:Hid (R%2=1):=g;clear hd g;obtain⟨O,Q,K,U,pf⟩:=k.head.at4;have zp:=k.head.lt;go_wp2_with fail
   refine(zK n l o P _ _ 0 _ HG.out (Four.mk (a:=0) (b:=0) (c:=0) (d:=0) dC dC dC dC rfl) W.out (by have:=J.out;omega) J.out _).mono ?_;rintro e w8 ⟨v,rfl,h4,M⟩;obtain⟨sa,sb,sc,sd,rfl,-⟩:=id M;have V:Hid (Four (.agg #[.int .u64 sa,.int .u64 sb,.int .u64 sc,.int .u64 sd]) (even P R)):=by
    have h1:(0+P-R)%P=even P R:=by
     unfold even;rw[yB3 HO.out,TO];exact Uf (by have:=J.out;have:=HO.out;omega)
    unfold Hid;rw[<-h1];exact M
   replace k:=k.call h4;clear h4 M z A B E tf zt H N L T uf zu O Q K U pf zp;obtain⟨z,A,B,E,tf⟩:=k.tail.head.at4;have zt:=k.tail.head.lt;obtain⟨H,N,L,T,uf⟩:=k.tail.tail.tail.head.at4;have zu:=k.tail.tail.tail.head.lt;go_wp2;have j:=(k.tail.tail.tail.head.at4.other4 h8 (.int .u64 sa) (.int .u64 sb) (.int .u64 sc) (.int .u64 sd)).self4 sa sb sc sd;unfold set4 at j;refine TM (v:=?v) ?hr rfl ?hR
   case hr=>simp[results,Tryz.results163,go_sem,j.c0,j.c1,j.c2,j.c3];rfl
   refine⟨_,rfl,?_,RootR.yes u.out V.out⟩;rw[H0.out];exact aF (aF k.bl Q7.out _ _ _ _) Q2.out _ _ _ _
  ·have hd:decide (R%2=1)=false:=decide_eq_false g;rw[hd];have V:Hid (Four (.agg #[.int .u64 y,.int .u64 C,.int .u64 D,.int .u64 rd]) (even P R)):=by
    have h1:even P R=R:=by unfold even;rw[yB4 g]
    unfold Hid;rw[h1];exact W.out
   clear hd g;go_wp2;have j:=k.tail.tail.tail.head.at4.self4 y C D rd;unfold set4 at j;refine TM (v:=?v2) ?hr2 rfl ?hR2
   case hr2=>simp[results,Tryz.results163,go_sem,j.c0,j.c1,j.c2,j.c3];rfl
   refine⟨_,rfl,?_,RootR.yes u.out V.out⟩;rw[H0.out];exact aF k.bl Q2.out _ _ _ _
 ·go_region_held3 (λw'=>w'.cell? ⟨i,0,none⟩=some (.int .u64 n)/\w'.cell? ⟨i,1,none⟩=some (.int .u64 l)/\w'.cell? ⟨i,2,none⟩=some (.int .u64 o)/\w'.cell? ⟨i,3,none⟩=some (.int .u64 0)/\w'.cell? ⟨t,0,none⟩=some (.int .u64 y)/\w'.cell? ⟨t,1,none⟩=some (.int .u64 C)/\w'.cell? ⟨t,2,none⟩=some (.int .u64 D)/\w'.cell? ⟨t,3,none⟩=some (.int .u64 rd)/\w'.cell? ⟨s,0,none⟩=some (.int .u64 a)/\w'.cell? ⟨s,1,none⟩=some (.int .u64 b)/\w'.cell? ⟨s,2,none⟩=some (.int .u64 c)/\w'.cell? ⟨s,3,none⟩=some (.int .u64 d)/\Kept w i [⟨i,0,n,l,o,0⟩,⟨t,0,y,C,D,rd⟩,⟨s,0,a,b,c,d⟩,⟨I,0,0,0,0,0⟩] w') (first|(with_reducible exact qL k)|(with_reducible exact qL k.drew)|fail) (first|(go_at_call 113;refine(oN n l o P _ _ _ _ HG.out W.out W.out _).mono ?_;rintro e w5 ⟨v,rfl,f,r⟩;obtain⟨E,A,M,B,rfl,g⟩:=four_ne r HX.out q;have z:=LX g;clear r;(first|(with_reducible (have p:=k.drew.call f))|(with_reducible (have p:=k.call f))|fail);clear k f;have k:=p;clear p))
  have u:Hid (¬R*R%P=m):=q;clear q
  rename_i hHeld
  clear hHeld;obtain⟨H,N,L,T,uf⟩:=k.tail.tail.tail.head.at4;have zu:=k.tail.tail.tail.head.lt;go_wp2;have j:At4 (set4 w5 I (.int .u64 0) (.int .u64 0) (.int .u64 0) (.int .u64 0)) I 0 0 0 0:=k.tail.tail.tail.head.at4.self4 0 0 0 0;unfold set4 at j;refine TM (v:=?v3) ?hr3 rfl ?hR3
  case hr3=>simp[results,Tryz.results163,go_sem,j.c0,j.c1,j.c2,j.c3];rfl
  refine⟨_,rfl,?_,RootR.no u.out⟩;rw[H0.out];exact aF k.bl Q2.out _ _ _ _
end
section
open Go.RowKit Go.Sort
def wn(n:Nat):List TC:=[uZ ((n%18446744073709551616:Nat):Int),uZ ((n/18446744073709551616%18446744073709551616:Nat):Int),uZ ((n/340282366920938463463374607431768211456%18446744073709551616:Nat):Int),uZ ((n/6277101735386680763835789423207666416102355444464034512896%18446744073709551616:Nat):Int)]
def nv(n:Nat):TC:=.agg (wn n).toArray
theorem oH{n:Nat}(h:n<top):Four (nv n) n:=by
 refine⟨n%18446744073709551616,n/18446744073709551616%18446744073709551616,n/340282366920938463463374607431768211456%18446744073709551616,n/6277101735386680763835789423207666416102355444464034512896%18446744073709551616,rfl,?_,?_,?_,?_,?_⟩
 ·omega
 ·omega
 ·omega
 ·omega
 ·unfold val;unfold top at h;omega
theorem Four.nv{v:TC}{n:Nat}(h:Four v n):v=Go.Proofs.YtjnchldodncnbaaGreat.nv n:=h.inj (oH h.lt)
variable {P:Nat}[NeZero P]
abbrev ws(x:Fin P):List TC:=wn x.val
abbrev fv(x:Fin P):TC:=nv x.val
def pv(x y:Fin P):TC:=.agg (ws x++ws y).toArray
def rv(x y z:Fin P):TC:=.agg (ws x++(ws y++ws z)).toArray
def Gives(f:Xy)(args:Array TC)(v:TC):Prop:=∀w,TW prog f args w (rZ w λe w'=>e=v)
structure Fld(P:Nat)[NeZero P]:Prop where
 gap:Gap 4294968273 0 0 P
 cur:EC.Cur P
 p2:2<=P%18446744073709551616
 p4:P/4%18446744073709551616<18446744073709551615
 p3:P%4=3
 p7:7<P
theorem Fld.top(h:Fld P)(x:Fin P):x.val<top:=by have:=h.gap.hP;have:=x.isLt;omega
theorem Fld.four(h:Fld P)(x:Fin P):Four (fv x) x.val:=oH (h.top x)
theorem lJ:(Um #[uZ 0,uZ 0,uZ 0,uZ 0])=fv (0:Fin P):=by
 have h:Four (Um #[uZ 0,uZ 0,uZ 0,uZ 0]) (0:Fin P).val:=by
  rw[EC.val_zero];exact Four.mk (a:=0) (b:=0) (c:=0) (d:=0) dC dC dC dC rfl
 exact h.nv
theorem Ag(h:Fld P):(Um #[uZ 1,uZ 0,uZ 0,uZ 0])=fv (1:Fin P):=by
 have h:Four (Um #[uZ 1,uZ 0,uZ 0,uZ 0]) (1:Fin P).val:=by
  rw[EC.val_one h.cur.pr];exact Four.mk (a:=1) (b:=0) (c:=0) (d:=0) dC dC dC dC rfl
 exact h.nv
theorem bL:Gives 139 #[] gv0:=λw=>(t8 w).mono (by rintro e w' ⟨rfl,rfl⟩;exact⟨_,rfl,aD _ _,rfl⟩)
theorem Qx(h:Fld P)(x y:Fin P):Gives 143 #[gv0,fv x,fv y] (fv (x+y)):=λw =>
 (sum_any 4294968273 0 0 P _ _ x.val y.val h.gap (h.four x) (h.four y) x.isLt y.isLt w).mono (by
  rintro e w' ⟨v,rfl,k,b⟩;exact⟨_,rfl,k,b.nv⟩)
omit [NeZero P] in
theorem uA(x y:Fin P):(x.val+P-y.val)%P=(x-y).val:=by
 rw[Fin.sub_def];show _=(P-y.val+x.val)%P
 congr 1
 have:=y.isLt;omega
theorem Aw(h:Fld P)(x y:Fin P):Gives 167 #[gv0,fv x,fv y] (fv (x-y)):=λw =>
 (nG 4294968273 0 0 P _ _ x.val y.val h.gap (h.four x) (h.four y) x.isLt y.isLt w).mono (by
  rintro e w' ⟨v,rfl,b,k⟩;rw[uA]at k;exact⟨_,rfl,b,k.nv⟩)
theorem Gy(h:Fld P)(x y:Fin P):Gives 141 #[gv0,fv x,fv y] (fv (x*y)):=λw =>
 (dX 4294968273 0 0 P _ _ x.val y.val h.gap (h.four x) (h.four y) w).mono (by
  rintro e w' ⟨v,rfl,k,b⟩;exact⟨_,rfl,k,b.nv⟩)
theorem PL(h:Fld P)(x:Fin P):Gives 71 #[fv x] (fv x):=λw=>(jP _ _ (h.four x) w).mono (by rintro e w' ⟨v,rfl,k,rfl⟩;exact⟨_,rfl,k,rfl⟩)
theorem IW(h:Fld P)(x:Fin P):Gives 142 #[fv x] (fv x):=λw=>(jM _ _ (h.four x) w).mono (by rintro e w' ⟨v,rfl,k,rfl⟩;exact⟨_,rfl,k,rfl⟩)
theorem rM(h:Fld P)(x y:Fin P):Gives 113 #[gv0,fv x,fv y] (fv (x*y)):=λw =>
 (oN 4294968273 0 0 P _ _ x.val y.val h.gap (h.four x) (h.four y) w).mono (by
  rintro e w' ⟨v,rfl,k,b⟩;exact⟨_,rfl,k,b.nv⟩)
theorem FR(h:Fld P)(x y:Fin P):Gives 114 #[gv0,fv x,fv y] (fv (x+y)):=λw =>
 (Cs 4294968273 0 0 P _ _ x.val y.val h.gap (h.four x) (h.four y) x.isLt y.isLt w).mono (by
  rintro e w' ⟨v,rfl,k,b⟩;exact⟨_,rfl,k,b.nv⟩)
theorem Kg(h:Fld P)(x y:Fin P):Gives 166 #[gv0,fv x,fv y] (fv (x-y)):=λw =>
 (zK 4294968273 0 0 P _ _ x.val y.val h.gap (h.four x) (h.four y) x.isLt y.isLt w).mono (by
  rintro e w' ⟨v,rfl,b,k⟩;rw[uA]at k;exact⟨_,rfl,b,k.nv⟩)
theorem vD(h:Fld P):(Um #[uZ 7,uZ 0,uZ 0,uZ 0])=fv (7:Fin P):=by
 have h:Four (Um #[uZ 7,uZ 0,uZ 0,uZ 0]) (7:Fin P).val:=by
  have k:(7:Fin P).val=7%P:=rfl;rw[k,Uf h.p7];exact Four.mk (a:=7) (b:=0) (c:=0) (d:=0) dC dC dC dC rfl
 exact h.nv
theorem t9:([uZ 0,uZ 0,uZ 0,uZ 0]:List TC)=ws (0:Fin P):=by
 have h:=lJ (P:=P);unfold nv at h;injection h with h
 exact congrArg Array.toList h
theorem iE:(Um #[uZ 0,uZ 0,uZ 0,uZ 0,uZ 0,uZ 0,uZ 0,uZ 0])=pv (0:Fin P) 0:=by
 unfold pv;rw[<-t9];rfl
theorem Kp:(Um #[uZ 0,uZ 0,uZ 0,uZ 0,uZ 0,uZ 0,uZ 0,uZ 0,uZ 0,uZ 0,uZ 0,uZ 0])=rv (0:Fin P) 0 0:=by
 unfold rv;rw[<-t9];rfl
theorem G8(h:Fld P)(x:Fin P):Gives 90 #[gv0,fv x] (fv (EC.inv x)):=λw =>
 (tV 4294968273 0 0 P _ x.val h.gap h.p2 (h.four x) w).mono (by
  rintro e w' ⟨v,rfl,k,b⟩;exact⟨_,rfl,k,b.nv⟩)
end
section
open Go.RowKit Go.Sort
variable {P:Nat}[NeZero P]{N:Nat}
omit [NeZero P] in
theorem Gives.e{f:Xy}{args:Array TC}{x c:Fin P}(h:Gives f args (fv x))(e:c=x):Gives f args (fv c):=e ▸ h
omit [NeZero P] in
theorem Gives.e3{f:Xy}{args:Array TC}{x y z a b c:Fin P}(h:Gives f args (rv x y z))(e:a=x)(e':b=y)(k:c=z):Gives f args (rv a b c):=e ▸ e' ▸ k ▸ h
theorem eqW(a b c d p q r s:Int)(w:TA):(binOp .eql 189 (.agg #[uZ a,uZ b,uZ c,uZ d]) (.agg #[uZ p,uZ q,uZ r,uZ s])).run prog w=.ok (.bool (decide (a=p/\b=q/\c=r/\d=s))) w:=by
 go_simp;by_cases e:a=p<;>by_cases g:b=q<;>by_cases k:c=r<;>by_cases f:d=s<;>simp[e,g,k,f]
theorem rQ{m n:Nat}(b:m<top)(k:n<top):(m%18446744073709551616=n%18446744073709551616/\m/18446744073709551616%18446744073709551616=n/18446744073709551616%18446744073709551616/\m/340282366920938463463374607431768211456%18446744073709551616=n/340282366920938463463374607431768211456%18446744073709551616/\m/6277101735386680763835789423207666416102355444464034512896%18446744073709551616=n/6277101735386680763835789423207666416102355444464034512896%18446744073709551616)↔m=n:=by
 constructor
 ·rintro⟨e,f,c,d⟩;unfold top at b k;omega
 ·rintro rfl;exact⟨rfl,rfl,rfl,rfl⟩
theorem eqC(h:Fld P)(x y:Fin P)(w:TA):(binOp .eql 189 (fv x) (fv y)).run prog w=.ok (.bool (decide (x=y))) w:=by
 have b:=eqW ((x.val%18446744073709551616:Nat):Int) ((x.val/18446744073709551616%18446744073709551616:Nat):Int) ((x.val/340282366920938463463374607431768211456%18446744073709551616:Nat):Int) ((x.val/6277101735386680763835789423207666416102355444464034512896%18446744073709551616:Nat):Int) ((y.val%18446744073709551616:Nat):Int) ((y.val/18446744073709551616%18446744073709551616:Nat):Int) ((y.val/340282366920938463463374607431768211456%18446744073709551616:Nat):Int) ((y.val/6277101735386680763835789423207666416102355444464034512896%18446744073709551616:Nat):Int) w;refine b.trans ?_;have k:=rQ (h.top x) (h.top y);simp only[Int.ofNat_inj,k,<-yA1]
theorem Fb(h:Fld P){x y:Fin P}(e:x=y)(w:TA):(binOp .eql 189 (fv x) (fv y)).run prog w=.ok (.bool true) w:=by rw[eqC h,decide_eq_true e]
theorem Jr(h:Fld P){x y:Fin P}(e:¬x=y)(w:TA):(binOp .eql 189 (fv x) (fv y)).run prog w=.ok (.bool false) w:=by rw[eqC h,decide_eq_false e]
theorem Rz(a b c d p q r s n i o l j g f m:Nat)(w:TA):(binOp .eql 148 (.agg #[uZ a,uZ b,uZ c,uZ d,uZ n,uZ i,uZ o,uZ l]) (.agg #[uZ p,uZ q,uZ r,uZ s,uZ j,uZ g,uZ f,uZ m])).run prog w=.ok (.bool (decide (a=p/\b=q/\c=r/\d=s) && decide (n=j/\i=g/\o=f/\l=m))) w:=by
 go_simp;rw[E9 9997,UE];by_cases e:a=p/\b=q/\c=r/\d=s
 ·rw[decide_eq_true e];simp only[Bool.true_eq_false,if_false];rw[E9 9997,UE];by_cases k:n=j/\i=g/\o=f/\l=m
  ·rw[decide_eq_true k];simp[e.1,e.2.1,e.2.2.1,e.2.2.2,k.1,k.2.1,k.2.2.1,k.2.2.2]
  ·rw[decide_eq_false k];simp only[if_true,UE];have t:(decide (n=j) && (decide (i=g) && (decide (o=f) && decide (l=m))))=false:=by simpa using k
   rw[t,Bool.and_false]
 ·rw[decide_eq_false e];simp only[if_true,UE];have t:(decide (a=p) && (decide (b=q) && (decide (c=r) && decide (d=s))))=false:=by simpa using e
  rw[t,Bool.false_and]
theorem eqPt(h:Fld P)(x y z t:Fin P)(w:TA):(binOp .eql 148 (pv x y) (pv z t)).run prog w=.ok (.bool (decide (x=z/\y=t))) w:=by
 refine(Rz (x.val%18446744073709551616) (x.val/18446744073709551616%18446744073709551616) (x.val/340282366920938463463374607431768211456%18446744073709551616) (x.val/6277101735386680763835789423207666416102355444464034512896%18446744073709551616) (z.val%18446744073709551616) (z.val/18446744073709551616%18446744073709551616) (z.val/340282366920938463463374607431768211456%18446744073709551616) (z.val/6277101735386680763835789423207666416102355444464034512896%18446744073709551616) (y.val%18446744073709551616) (y.val/18446744073709551616%18446744073709551616) (y.val/340282366920938463463374607431768211456%18446744073709551616) (y.val/6277101735386680763835789423207666416102355444464034512896%18446744073709551616) (t.val%18446744073709551616) (t.val/18446744073709551616%18446744073709551616) (t.val/340282366920938463463374607431768211456%18446744073709551616) (t.val/6277101735386680763835789423207666416102355444464034512896%18446744073709551616) w).trans ?_;simp only[rQ (h.top x) (h.top z),rQ (h.top y) (h.top t),<-yA1,Bool.decide_and]
theorem Jq(h:Fld P){x y z t:Fin P}(e:x=z/\y=t)(w:TA):(binOp .eql 148 (pv x y) (pv z t)).run prog w=.ok (.bool true) w:=by rw[eqPt h,decide_eq_true e]
theorem DW(h:Fld P){x y z t:Fin P}(e:¬(x=z/\y=t))(w:TA):(binOp .eql 148 (pv x y) (pv z t)).run prog w=.ok (.bool false) w:=by rw[eqPt h,decide_eq_false e]
theorem aP:(prog.underlying 189).map (·.isRow)=some true:=kR
theorem aI:(prog.info? 189).map (·.size)=some 4:=kR
theorem u85:(prog.underlying 44).map (·.isRow)=some true:=kR
theorem i85:(prog.info? 44).map (·.size)=some 4:=kR
theorem iV:(prog.underlying 191).map (·.isRow)=some true:=kR
theorem i117:(prog.info? 191).map (·.size)=some 12:=kR
theorem iM:(prog.underlying 148).map (·.isRow)=some true:=kR
theorem i109:(prog.info? 148).map (·.size)=some 8:=kR
theorem u79:(prog.underlying 89).map (·.isRow)=some true:=kR
theorem i79:(prog.info? 89).map (·.size)=some 4:=kR
theorem aT(C:Fld P)(x y:Fin P):Gives 147 #[(fv x),(fv y)] (fv (x*y)):=by
 intro w;obtain⟨b,e⟩:∃c,c=x*y:=⟨_,rfl⟩
 have k:((fv b):TC)=(fv (x*y)):=by
  subst_vars;rfl
 rw[<-k];go_enter func147,ntmps147;refine RG.M.enter [(0,.v (fv x)),(1,.v (fv y))] 9 kR ?_;intro a0 f;repeat refine TI ?_
 refine f.T [.m 0,.m 1,.m 2] [(0,ws x),(1,ws y),(2,RG.z 4)] [] [ws x,ws y,RG.z 4] [2,3,4] ⟨RG.mk 0 189,RG.mk 1 189,RG.mk 2 189,yB5⟩ ?_;intro j l m o i g;repeat refine TI ?_
 refine g.D [.c gv0,.x (fv x),.x (fv y),.c (fv b),.u 2] [] [(2,4,ws b)] [ws x,ws y,ws b] [4] ⟨RG.cl bL,RG.ld aP aI,RG.ld aP aI,RG.cl ((Gy C x y).e e),RG.pt aI,yB5⟩ ?_;intro n p d;refine UZ ?_;refine TM (v:=(fv b)) (RG.aC d.st 4 189 rfl 2 _ rfl (d.at (s:=(.p 2 0))) aP aI) d.sl.defers ?_;exact⟨_,rfl,d.st.bel.below,rfl⟩
theorem FV(C:Fld P)(x y:Fin P):Gives 149 #[(fv x),(fv y)] (fv (x+y)):=by
 intro w;obtain⟨b,e⟩:∃c,c=x+y:=⟨_,rfl⟩
 have k:((fv b):TC)=(fv (x+y)):=by
  subst_vars;rfl
 rw[<-k];go_enter func149,ntmps149;refine RG.M.enter [(0,.v (fv x)),(1,.v (fv y))] 9 kR ?_;intro a0 f;repeat refine TI ?_
 refine f.T [.m 0,.m 1,.m 2] [(0,ws x),(1,ws y),(2,RG.z 4)] [] [ws x,ws y,RG.z 4] [2,3,4] ⟨RG.mk 0 189,RG.mk 1 189,RG.mk 2 189,yB5⟩ ?_;intro j l m o i g;repeat refine TI ?_
 refine g.D [.c gv0,.x (fv x),.x (fv y),.c (fv b),.u 2] [] [(2,4,ws b)] [ws x,ws y,ws b] [4] ⟨RG.cl bL,RG.ld aP aI,RG.ld aP aI,RG.cl ((Qx C x y).e e),RG.pt aI,yB5⟩ ?_;intro n p d;refine UZ ?_;refine TM (v:=(fv b)) (RG.aC d.st 4 189 rfl 2 _ rfl (d.at (s:=(.p 2 0))) aP aI) d.sl.defers ?_;exact⟨_,rfl,d.st.bel.below,rfl⟩
theorem fC(C:Fld P)(x y:Fin P):Gives 150 #[(fv x),(fv y)] (fv (x-y)):=by
 intro w;obtain⟨b,e⟩:∃c,c=x-y:=⟨_,rfl⟩
 have k:((fv b):TC)=(fv (x-y)):=by
  subst_vars;rfl
 rw[<-k];go_enter func150,ntmps150;refine RG.M.enter [(0,.v (fv x)),(1,.v (fv y))] 9 kR ?_;intro a0 f;repeat refine TI ?_
 refine f.T [.m 0,.m 1,.m 2] [(0,ws x),(1,ws y),(2,RG.z 4)] [] [ws x,ws y,RG.z 4] [2,3,4] ⟨RG.mk 0 189,RG.mk 1 189,RG.mk 2 189,yB5⟩ ?_;intro j l m o i g;repeat refine TI ?_
 refine g.D [.c gv0,.x (fv x),.x (fv y),.c (fv b),.u 2] [] [(2,4,ws b)] [ws x,ws y,ws b] [4] ⟨RG.cl bL,RG.ld aP aI,RG.ld aP aI,RG.cl ((Aw C x y).e e),RG.pt aI,yB5⟩ ?_;intro n p d;refine UZ ?_;refine TM (v:=(fv b)) (RG.aC d.st 4 189 rfl 2 _ rfl (d.at (s:=(.p 2 0))) aP aI) d.sl.defers ?_;exact⟨_,rfl,d.st.bel.below,rfl⟩
theorem uM(C:Fld P)(x:Fin P):Gives 154 #[(fv x)] (fv x):=by
 intro w;go_enter func154,ntmps154;refine RG.M.enter [(0,.v (fv x))] 5 kR ?_;intro a0 c;repeat refine TI ?_
 refine c.T [.m 0,.m 1] [(0,ws x),(1,RG.z 4)] [] [ws x,RG.z 4] [1,2] ⟨RG.mk 0 44,RG.mk 1 189,yB5⟩ ?_;intro g j f e b;repeat refine TI ?_
 refine b.T [.x (fv x),.c (fv x),.u 1] [] [(1,2,ws x)] [ws x,ws x] [2] ⟨RG.ld u85 i85,RG.cl (PL C x),RG.pt aI,yB5⟩ ?_;intro d i k;refine UZ ?_;refine TM (v:=(fv x)) (RG.aC k.st 2 189 rfl 1 _ rfl (k.at (s:=(.p 1 0))) aP aI) k.sl.defers ?_;exact⟨_,rfl,k.st.bel.below,rfl⟩
theorem En(C:Fld P)(x:Fin P):Gives 153 #[(fv x)] (fv x):=by
 intro w;go_enter func153,ntmps153;refine RG.M.enter [(0,.v (fv x))] 5 kR ?_;intro a0 c;repeat refine TI ?_
 refine c.T [.m 0,.m 1] [(0,ws x),(1,RG.z 4)] [] [ws x,RG.z 4] [1,2] ⟨RG.mk 0 189,RG.mk 1 44,yB5⟩ ?_;intro g j f e b;repeat refine TI ?_
 refine b.T [.x (fv x),.c (fv x),.u 1] [] [(1,2,ws x)] [ws x,ws x] [2] ⟨RG.ld aP aI,RG.cl (IW C x),RG.pt i85,yB5⟩ ?_;intro d i k;refine UZ ?_;refine TM (v:=(fv x)) (RG.aC k.st 2 44 rfl 1 _ rfl (k.at (s:=(.p 1 0))) u85 i85) k.sl.defers ?_;exact⟨_,rfl,k.st.bel.below,rfl⟩
theorem gC(C:Fld P)(x:Fin P):Gives 148 #[(fv x)] (fv (EC.dbl x)):=by
 intro w;obtain⟨b,e⟩:∃c,c=x+x:=⟨_,rfl⟩
 have k:((fv b):TC)=(fv (EC.dbl x)):=by
  subst_vars;rfl
 rw[<-k];go_enter func148,ntmps148;refine RG.M.enter [(0,.v (fv x))] 6 kR ?_;intro a0 g;repeat refine TI ?_
 refine g.T [.m 0,.m 1] [(0,ws x),(1,RG.z 4)] [] [ws x,RG.z 4] [1,2] ⟨RG.mk 0 189,RG.mk 1 189,yB5⟩ ?_;intro m o l j f;repeat refine TI ?_
 refine f.T [.x (fv x),.x (fv x),.c (fv b),.u 1] [] [(1,3,ws b)] [ws x,ws b] [2] ⟨RG.ld aP aI,RG.ld aP aI,RG.cl ((FV C x x).e e),RG.pt aI,yB5⟩ ?_;intro i n d;refine UZ ?_;refine TM (v:=(fv b)) (RG.aC d.st 2 189 rfl 1 _ rfl (d.at (s:=(.p 1 0))) aP aI) d.sl.defers ?_;exact⟨_,rfl,d.st.bel.below,rfl⟩
theorem Eu(C:Fld P)(x y z:Fin P):Gives 119 #[(rv x y z)] (rv (EC.twX x y) (EC.twY x y) (EC.twZ y z)):=by
 intro w;obtain⟨f,U⟩:∃c,c=x*x:=⟨_,rfl⟩
 obtain⟨d,O⟩:∃c,c=y*y:=⟨_,rfl⟩
 obtain⟨K,V⟩:∃c,c=x*d:=⟨_,rfl⟩
 obtain⟨R,Q⟩:∃c,c=EC.dbl K:=⟨_,rfl⟩
 obtain⟨i,N⟩:∃c,c=EC.dbl R:=⟨_,rfl⟩
 obtain⟨T,X⟩:∃c,c=EC.dbl f:=⟨_,rfl⟩
 obtain⟨e,J⟩:∃c,c=T+f:=⟨_,rfl⟩
 obtain⟨S,M⟩:∃c,c=e*e:=⟨_,rfl⟩
 obtain⟨L,W⟩:∃c,c=EC.dbl i:=⟨_,rfl⟩
 obtain⟨k,D⟩:∃c,c=S-L:=⟨_,rfl⟩
 obtain⟨n,A⟩:∃c,c=i-k:=⟨_,rfl⟩
 obtain⟨p,t⟩:∃c,c=e*n:=⟨_,rfl⟩
 obtain⟨o,u⟩:∃c,c=d*d:=⟨_,rfl⟩
 obtain⟨q,H⟩:∃c,c=EC.dbl o:=⟨_,rfl⟩
 obtain⟨j,E⟩:∃c,c=EC.dbl q:=⟨_,rfl⟩
 obtain⟨l,B⟩:∃c,c=EC.dbl j:=⟨_,rfl⟩
 obtain⟨b,a⟩:∃c,c=p-l:=⟨_,rfl⟩
 obtain⟨m,F⟩:∃c,c=y*z:=⟨_,rfl⟩
 obtain⟨g,G⟩:∃c,c=EC.dbl m:=⟨_,rfl⟩
 have r:((rv k b g):TC)=(rv (EC.twX x y) (EC.twY x y) (EC.twZ y z)):=by
  subst_vars;rfl
 rw[<-r];go_enter func119,ntmps119;refine RG.M.enter [(0,.v (rv x y z))] 56 kR ?_;intro a0 M0;repeat refine TI ?_
 refine M0.T [.m 0,.m 1] [(0,ws x++(ws y++(ws z))),(1,RG.z 12)] [] [ws x++(ws y++(ws z)),RG.z 12] [1,2] ⟨RG.mk 0 191,RG.mk 1 191,yB5⟩ ?_;intro j1 i1 a1 w1 M1;repeat refine TI ?_
 refine M1.D [.s (.p 0 0),.x (fv x),.s (.p 0 0),.x (fv x),.c (fv f),.s (.p 0 4),.x (fv y),.s (.p 0 4),.x (fv y),.c (fv d),.m 2,.m 3,.u 2,.u 3] [(10,RG.z 4),(11,RG.z 4)] [(2,12,ws f),(3,13,ws d)] [ws x++(ws y++(ws z)),RG.z 12,ws f,ws d] [1,2,3,4] ⟨RG.st,RG.ld aP aI,RG.st,RG.ld aP aI,RG.cl ((aT C x x).e U),RG.st,RG.ld aP aI,RG.st,RG.ld aP aI,RG.cl ((aT C y y).e O),RG.mk 2 189,RG.mk 3 189,RG.pt aI,RG.pt aI,yB5⟩ ?_;intro j2 i2 a2 w2 Y;repeat refine TI ?_
 refine Y.T [.s (.p 0 0),.x (fv x),.x (fv d),.c (fv K),.c (fv R),.c (fv i),.m 4,.u 4] [(6,RG.z 4)] [(4,7,ws i)] [ws x++(ws y++(ws z)),RG.z 12,ws f,ws d,ws i] [1,2,3,4,5] ⟨RG.st,RG.ld aP aI,RG.ld aP aI,RG.cl ((aT C x d).e V),RG.cl ((gC C K).e Q),RG.cl ((gC C R).e N),RG.mk 4 189,RG.pt aI,yB5⟩ ?_;intro j3 a3 w3 M3;repeat refine TI ?_
 refine M3.D [.x (fv f),.c (fv T),.x (fv f),.c (fv e),.m 5,.u 5] [(4,RG.z 4)] [(5,5,ws e)] [ws x++(ws y++(ws z)),RG.z 12,ws f,ws d,ws i,ws e] [1,2,4,5,6] ⟨RG.ld aP aI,RG.cl ((gC C f).e X),RG.ld aP aI,RG.cl ((FV C T f).e J),RG.mk 5 189,RG.pt aI,yB5⟩ ?_;intro j4 a4 w4 M4;repeat refine TI ?_
 refine M4.D [.x (fv e),.x (fv e),.c (fv S),.x (fv i),.c (fv L),.c (fv k),.m 6,.u 6] [(6,RG.z 4)] [(6,7,ws k)] [ws x++(ws y++(ws z)),RG.z 12,ws f,ws d,ws i,ws e,ws k] [1,2,4,5,6,7] ⟨RG.ld aP aI,RG.ld aP aI,RG.cl ((aT C e e).e M),RG.ld aP aI,RG.cl ((gC C i).e W),RG.cl ((fC C S L).e D),RG.mk 6 189,RG.pt aI,yB5⟩ ?_;intro j5 a5 w5 M5;repeat refine TI ?_
 refine M5.D [.x (fv e),.x (fv i),.x (fv k),.c (fv n),.c (fv p),.x (fv d),.x (fv d),.c (fv o),.c (fv q),.c (fv j),.c (fv l),.c (fv b),.m 7,.u 7] [(12,RG.z 4)] [(7,13,ws b)] [ws x++(ws y++(ws z)),RG.z 12,ws f,ws d,ws i,ws e,ws k,ws b] [1,2,7,8] ⟨RG.ld aP aI,RG.ld aP aI,RG.ld aP aI,RG.cl ((fC C i k).e A),RG.cl ((aT C e n).e t),RG.ld aP aI,RG.ld aP aI,RG.cl ((aT C d d).e u),RG.cl ((gC C o).e H),RG.cl ((gC C q).e E),RG.cl ((gC C j).e B),RG.cl ((fC C p l).e a),RG.mk 7 189,RG.pt aI,yB5⟩ ?_;intro j6 a6 w6 Z;repeat refine TI ?_
 refine Z.D [.x (fv k),.x (fv b),.s (.p 0 4),.x (fv y),.s (.p 0 8),.x (fv z),.c (fv m),.c (fv g),.x (rv k b g),.u 1] [] [(1,9,ws k++(ws b++(ws g)))] [ws x++(ws y++(ws z)),ws k++(ws b++(ws g)),ws f,ws d,ws i,ws e,ws k,ws b] [2] ⟨RG.ld aP aI,RG.ld aP aI,RG.st,RG.ld aP aI,RG.st,RG.ld aP aI,RG.cl ((aT C y z).e F),RG.cl ((gC C m).e G),RG.st,RG.pt i117,yB5⟩ ?_;intro a7 w7 I;refine UZ ?_;refine TM (v:=(rv k b g)) (RG.aC I.st 2 191 rfl 1 _ rfl (I.at (s:=(.p 1 0))) iV i117) I.sl.defers ?_;exact⟨_,rfl,I.st.bel.below,rfl⟩
theorem Dq(C:Fld P)(x y z:Fin P):Gives 152 #[(rv x y z)] (rv x (0-y) z):=by
 intro w;obtain⟨k,e⟩:∃c,c=(0:Fin P)-y:=⟨_,rfl⟩
 have b:((rv x k z):TC)=(rv x (0-y) z):=by
  subst_vars;rfl
 rw[<-b];go_enter func152,ntmps152;refine RG.M.enter [(0,.v (rv x y z))] 12 kR ?_;intro a0 f;repeat refine TI ?_
 refine f.T [.m 0,.m 1] [(0,ws x++(ws y++(ws z))),(1,RG.z 12)] [] [ws x++(ws y++(ws z)),RG.z 12] [1,2] ⟨RG.mk 0 191,RG.mk 1 191,yB5⟩ ?_;intro j l n i g;repeat refine TI ?_
 refine g.D [.s (.p 0 0),.x (fv x),.x (fv (0:Fin P)),.s (.p 0 4),.x (fv y),.c (fv k),.s (.p 0 8),.x (fv z),.x (rv x k z),.u 1] [] [(1,9,ws x++(ws k++(ws z)))] [ws x++(ws y++(ws z)),ws x++(ws k++(ws z))] [2] ⟨RG.st,RG.ld aP aI,RG.se (lJ (P:=P)),RG.st,RG.ld aP aI,RG.cl ((fC C (0:Fin P) y).e e),RG.st,RG.ld aP aI,RG.st,RG.pt i117,yB5⟩ ?_;intro m o d;refine UZ ?_;refine TM (v:=(rv x k z)) (RG.aC d.st 2 191 rfl 1 _ rfl (d.at (s:=(.p 1 0))) iV i117) d.sl.defers ?_;exact⟨_,rfl,d.st.bel.below,rfl⟩
theorem LP(C:Fld P)(x y z:Fin P):Gives 122 #[(rv x y z)] (pv (x*(EC.inv z*EC.inv z)) (y*(EC.inv z*EC.inv z)*EC.inv z)):=by
 intro w;obtain⟨k,n⟩:∃c,c=EC.inv z:=⟨_,rfl⟩
 obtain⟨b,j⟩:∃c,c=k*k:=⟨_,rfl⟩
 obtain⟨e,o⟩:∃c,c=x*b:=⟨_,rfl⟩
 obtain⟨m,l⟩:∃c,c=y*b:=⟨_,rfl⟩
 obtain⟨d,i⟩:∃c,c=m*k:=⟨_,rfl⟩
 have f:((pv e d):TC)=(pv (x*(EC.inv z*EC.inv z)) (y*(EC.inv z*EC.inv z)*EC.inv z)):=by
  subst_vars;rfl
 rw[<-f];go_enter func122,ntmps122;refine RG.M.enter [(0,.v (rv x y z))] 27 kR ?_;intro a0 q;repeat refine TI ?_
 refine q.T [.m 0,.m 1] [(0,ws x++(ws y++(ws z))),(1,RG.z 8)] [] [ws x++(ws y++(ws z)),RG.z 8] [1,2] ⟨RG.mk 0 191,RG.mk 1 148,yB5⟩ ?_;intro B D H u t;repeat refine TI ?_
 refine t.D [.c gv0,.s (.p 0 8),.x (fv z),.c (fv z),.c (fv k),.c (fv k),.m 2,.u 2] [(6,RG.z 4)] [(2,7,ws k)] [ws x++(ws y++(ws z)),RG.z 8,ws k] [1,2,3] ⟨RG.cl bL,RG.st,RG.ld aP aI,RG.cl (En C z),RG.cl ((G8 C z).e n),RG.cl (uM C k),RG.mk 2 189,RG.pt aI,yB5⟩ ?_;intro A G I p;repeat refine TI ?_
 refine p.T [.x (fv k),.x (fv k),.c (fv b),.m 3,.u 3] [(3,RG.z 4)] [(3,4,ws b)] [ws x++(ws y++(ws z)),RG.z 8,ws k,ws b] [1,2,3,4] ⟨RG.ld aP aI,RG.ld aP aI,RG.cl ((aT C k k).e j),RG.mk 3 189,RG.pt aI,yB5⟩ ?_;intro E J a r;repeat refine TI ?_
 refine r.D [.s (.p 0 0),.x (fv x),.x (fv b),.c (fv e),.c (fv e),.s (.p 0 4),.x (fv y),.x (fv b),.c (fv m),.x (fv k),.c (fv d),.c (fv d),.x (pv e d),.u 1] [] [(1,13,ws e++(ws d))] [ws x++(ws y++(ws z)),ws e++(ws d),ws k,ws b] [2] ⟨RG.st,RG.ld aP aI,RG.ld aP aI,RG.cl ((aT C x b).e o),RG.cl (En C e),RG.st,RG.ld aP aI,RG.ld aP aI,RG.cl ((aT C y b).e l),RG.ld aP aI,RG.cl ((aT C m k).e i),RG.cl (En C d),RG.st,RG.pt i109,yB5⟩ ?_;intro K F g;refine UZ ?_;refine TM (v:=(pv e d)) (RG.aC g.st 2 148 rfl 1 _ rfl (g.at (s:=(.p 1 0))) iM i109) g.sl.defers ?_;exact⟨_,rfl,g.st.bel.below,rfl⟩
theorem tI(C:Fld P)(x y z:Fin P)(d:z=0):Gives 151 #[(rv x y z)] (.bool true):=by
 intro w;go_enter func151,ntmps151;refine RG.M.enter [(0,.v (rv x y z))] 7 kR ?_;intro a0 c;repeat refine TI ?_
 refine c.T [.m 0,.x (.bool false)] [(0,ws x++(ws y++(ws z)))] [] [ws x++(ws y++(ws z))] [1,2] ⟨RG.mk 0 191,RG.st,yB5⟩ ?_;intro i g f b;repeat refine TI ?_
 refine b.U [.s (.p 0 8),.x (fv z),.x (fv (0:Fin P)),.x (.bool true),.x (.bool true)] [2] ⟨RG.st,RG.ld aP aI,RG.se (lJ (P:=P)),RG.aJ rfl .eql 189 189 4 5 (fv z) (fv (0:Fin P)) (.bool true) rfl rfl RG.sx RG.sx (λw=>kR) (Fb C d),RG.st,yB5⟩ ?_;intro e j k;refine UZ ?_;refine TM (v:=(.bool true)) (RG.eD 2 rfl _ (k.at (s:=(.v (.bool true))))) k.sl.defers ?_;exact⟨_,rfl,k.st.bel.below,rfl⟩
theorem tJ(C:Fld P)(x y z:Fin P)(d:¬z=0):Gives 151 #[(rv x y z)] (.bool false):=by
 intro w;go_enter func151,ntmps151;refine RG.M.enter [(0,.v (rv x y z))] 7 kR ?_;intro a0 c;repeat refine TI ?_
 refine c.T [.m 0,.x (.bool false)] [(0,ws x++(ws y++(ws z)))] [] [ws x++(ws y++(ws z))] [1,2] ⟨RG.mk 0 191,RG.st,yB5⟩ ?_;intro i g f b;repeat refine TI ?_
 refine b.U [.s (.p 0 8),.x (fv z),.x (fv (0:Fin P)),.x (.bool false),.x (.bool false)] [2] ⟨RG.st,RG.ld aP aI,RG.se (lJ (P:=P)),RG.aJ rfl .eql 189 189 4 5 (fv z) (fv (0:Fin P)) (.bool false) rfl rfl RG.sx RG.sx (λw=>kR) (Jr C d),RG.st,yB5⟩ ?_;intro e j k;refine UZ ?_;refine TM (v:=(.bool false)) (RG.eD 2 rfl _ (k.at (s:=(.v (.bool false))))) k.sl.defers ?_;exact⟨_,rfl,k.st.bel.below,rfl⟩
theorem Gp(C:Fld P)(x y:Fin P)(e:x=0/\y=0):Gives 146 #[(pv x y)] (rv (0:Fin P) 0 0):=by
 intro w;have k:((rv (0:Fin P) (0:Fin P) (0:Fin P)):TC)=(rv (0:Fin P) 0 0):=by
  subst_vars;rfl
 rw[<-k];go_enter func146,ntmps146;refine RG.M.enter [(0,.v (pv x y))] 16 kR ?_;intro a0 d;repeat refine TI ?_
 refine d.T [.m 0,.m 1] [(0,ws x++(ws y)),(1,RG.z 12)] [] [ws x++(ws y),RG.z 12] [1,2] ⟨RG.mk 0 148,RG.mk 1 191,yB5⟩ ?_;intro j l n g f;repeat refine TI ?_
 refine f.U [.x (pv x y),.x (pv (0:Fin P) (0:Fin P)),.x (.bool true)] [2,5] ⟨RG.ld iM i109,RG.se (iE (P:=P)),RG.aJ rfl .eql 148 148 3 4 (pv x y) (pv (0:Fin P) (0:Fin P)) (.bool true) rfl rfl RG.sx RG.sx (λw=>kR) (Jq C e),yB5⟩ ?_;intro m o c;repeat refine TI ?_
 refine UC c.ev ?_;repeat refine TI ?_
 refine c.T [.x (rv (0:Fin P) (0:Fin P) (0:Fin P)),.u 1] [] [(1,1,ws (0:Fin P)++(ws (0:Fin P)++(ws (0:Fin P))))] [ws x++(ws y),ws (0:Fin P)++(ws (0:Fin P)++(ws (0:Fin P)))] [2] ⟨RG.se (Kp (P:=P)),RG.pt i117,yB5⟩ ?_;intro p i b;refine UZ ?_;refine TM (v:=(rv (0:Fin P) (0:Fin P) (0:Fin P))) (RG.aC b.st 2 191 rfl 1 _ rfl (b.at (s:=(.p 1 0))) iV i117) b.sl.defers ?_;exact⟨_,rfl,b.st.bel.below,rfl⟩
theorem Gq(C:Fld P)(x y:Fin P)(e:¬(x=0/\y=0)):Gives 146 #[(pv x y)] (rv x y 1):=by
 intro w;have k:((rv x y (1:Fin P)):TC)=(rv x y 1):=by
  subst_vars;rfl
 rw[<-k];go_enter func146,ntmps146;refine RG.M.enter [(0,.v (pv x y))] 16 kR ?_;intro a0 d;repeat refine TI ?_
 refine d.T [.m 0,.m 1] [(0,ws x++(ws y)),(1,RG.z 12)] [] [ws x++(ws y),RG.z 12] [1,2] ⟨RG.mk 0 148,RG.mk 1 191,yB5⟩ ?_;intro j l n g f;repeat refine TI ?_
 refine f.U [.x (pv x y),.x (pv (0:Fin P) (0:Fin P)),.x (.bool false)] [1,2,5] ⟨RG.ld iM i109,RG.se (iE (P:=P)),RG.aJ rfl .eql 148 148 3 4 (pv x y) (pv (0:Fin P) (0:Fin P)) (.bool false) rfl rfl RG.sx RG.sx (λw=>kR) (DW C e),yB5⟩ ?_;intro m o c;repeat refine TI ?_
 refine UG c.ev ?_;refine Vg ?_;repeat refine TI ?_
 refine c.D [.s (.p 0 0),.x (fv x),.c (fv x),.s (.p 0 4),.x (fv y),.c (fv y),.x (fv (1:Fin P)),.c (fv (1:Fin P)),.x (rv x y (1:Fin P)),.u 1] [] [(1,9,ws x++(ws y++(ws (1:Fin P))))] [ws x++(ws y),ws x++(ws y++(ws (1:Fin P)))] [2] ⟨RG.st,RG.ld u85 i85,RG.cl (uM C x),RG.st,RG.ld u85 i85,RG.cl (uM C y),RG.se (Ag C),RG.cl (uM C (1:Fin P)),RG.st,RG.pt i117,yB5⟩ ?_;intro p i b;refine UZ ?_;refine TM (v:=(rv x y (1:Fin P))) (RG.aC b.st 2 191 rfl 1 _ rfl (b.at (s:=(.p 1 0))) iV i117) b.sl.defers ?_;exact⟨_,rfl,b.st.bel.below,rfl⟩
theorem Gz(C:Fld P)(f e k i j b:Fin P)(R:TC)(ha:k=0->R=rv i j b)(hb:¬k=0->b=0->R=rv f e k)(hc:¬k=0->¬b=0->EC.dA f b=EC.dA i k/\EC.eU e b=EC.eU j k->R=rv (EC.twX f e) (EC.twY f e) (EC.twZ e k))(hd:¬k=0->¬b=0->¬(EC.dA f b=EC.dA i k/\EC.eU e b=EC.eU j k)->R=rv (EC.plX (EC.dA f b) (EC.eU e b) (EC.dA i k) (EC.eU j k)) (EC.plY (EC.dA f b) (EC.eU e b) (EC.dA i k) (EC.eU j k)) (EC.plZ k b (EC.dA f b) (EC.dA i k))):Gives 120 #[(rv f e k),(rv i j b)] R:=by
 intro w;obtain⟨u,hg⟩:∃c,c=k*k:=⟨_,rfl⟩
 obtain⟨x,h8⟩:∃c,c=b*b:=⟨_,rfl⟩
 obtain⟨p,hk⟩:∃c,c=f*x:=⟨_,rfl⟩
 obtain⟨r,he⟩:∃c,c=i*u:=⟨_,rfl⟩
 obtain⟨c5,hi⟩:∃c,c=e*x:=⟨_,rfl⟩
 obtain⟨t,hl⟩:∃c,c=c5*b:=⟨_,rfl⟩
 obtain⟨c7,h9⟩:∃c,c=j*u:=⟨_,rfl⟩
 obtain⟨y,h7⟩:∃c,c=c7*k:=⟨_,rfl⟩
 go_enter func120,ntmps120;refine RG.M.enter [(0,.v (rv f e k)),(1,.v (rv i j b))] 108 kR ?_;intro a0 M0;repeat refine TI ?_
 refine M0.T [.m 0,.m 1,.m 2] [(0,ws f++(ws e++(ws k))),(1,ws i++(ws j++(ws b))),(2,RG.z 12)] [] [ws f++(ws e++(ws k)),ws i++(ws j++(ws b)),RG.z 12] [2,3,4] ⟨RG.mk 0 191,RG.mk 1 191,RG.mk 2 191,yB5⟩ ?_;intro j1 i1 m1 a1 w1 M1;repeat refine TI ?_
 by_cases a:k=0
 ·obtain rfl:=ha a;refine M1.U [.x (rv f e k),.c (.bool true)] [3,4,19] ⟨RG.ld iV i117,RG.cl (tI C f e k a),yB5⟩ ?_;intro a2 w2 T;repeat refine TI ?_
  refine UC T.ev ?_;repeat refine TI ?_
  refine T.T [.x (rv i j b),.u 2] [] [(2,1,ws i++(ws j++(ws b)))] [ws f++(ws e++(ws k)),ws i++(ws j++(ws b)),ws i++(ws j++(ws b))] [4] ⟨RG.ld iV i117,RG.pt i117,yB5⟩ ?_;intro a3 w3 E;refine UZ ?_;refine TM (v:=(rv i j b)) (RG.aC E.st 4 191 rfl 2 _ rfl (E.at (s:=(.p 2 0))) iV i117) E.sl.defers ?_;exact⟨_,rfl,E.st.bel.below,rfl⟩
 refine M1.U [.x (rv f e k),.c (.bool false)] [2,3,4,19] ⟨RG.ld iV i117,RG.cl (tJ C f e k a),yB5⟩ ?_;intro a2 w2 T;repeat refine TI ?_
 refine UG T.ev ?_;refine Vg ?_;repeat refine TI ?_
 by_cases B:b=0
 ·obtain rfl:=hb a B;refine T.U [.x (rv i j b),.c (.bool true)] [2,4,22] ⟨RG.ld iV i117,RG.cl (tI C i j b B),yB5⟩ ?_;intro a3 w3 E;repeat refine TI ?_
  refine UC E.ev ?_;repeat refine TI ?_
  refine E.T [.x (rv f e k),.u 2] [] [(2,1,ws f++(ws e++(ws k)))] [ws f++(ws e++(ws k)),ws i++(ws j++(ws b)),ws f++(ws e++(ws k))] [4] ⟨RG.ld iV i117,RG.pt i117,yB5⟩ ?_;intro a4 w4 Q;refine UZ ?_;refine TM (v:=(rv f e k)) (RG.aC Q.st 4 191 rfl 2 _ rfl (Q.at (s:=(.p 2 0))) iV i117) Q.sl.defers ?_;exact⟨_,rfl,Q.st.bel.below,rfl⟩
 refine T.U [.x (rv i j b),.c (.bool false)] [2,3,4,22] ⟨RG.ld iV i117,RG.cl (tJ C i j b B),yB5⟩ ?_;intro a3 w3 E;repeat refine TI ?_
 refine UG E.ev ?_;refine Vg ?_;repeat refine TI ?_
 refine E.D [.s (.p 0 8),.x (fv k),.s (.p 0 8),.x (fv k),.c (fv u),.s (.p 1 8),.x (fv b),.s (.p 1 8),.x (fv b),.c (fv x),.m 3,.m 4,.u 3,.u 4] [(10,RG.z 4),(11,RG.z 4)] [(3,12,ws u),(4,13,ws x)] [ws f++(ws e++(ws k)),ws i++(ws j++(ws b)),RG.z 12,ws u,ws x] [2,3,4,5,6] ⟨RG.st,RG.ld aP aI,RG.st,RG.ld aP aI,RG.cl ((aT C k k).e hg),RG.st,RG.ld aP aI,RG.st,RG.ld aP aI,RG.cl ((aT C b b).e h8),RG.mk 3 189,RG.mk 4 189,RG.pt aI,RG.pt aI,yB5⟩ ?_;intro j4 i4 a4 w4 Q;repeat refine TI ?_
 refine Q.D [.s (.p 0 0),.x (fv f),.x (fv x),.c (fv p),.s (.p 1 0),.x (fv i),.x (fv u),.c (fv r),.m 5,.m 6,.u 5,.u 6] [(8,RG.z 4),(9,RG.z 4)] [(5,10,ws p),(6,11,ws r)] [ws f++(ws e++(ws k)),ws i++(ws j++(ws b)),RG.z 12,ws u,ws x,ws p,ws r] [2,3,4,5,6,7,8] ⟨RG.st,RG.ld aP aI,RG.ld aP aI,RG.cl ((aT C f x).e hk),RG.st,RG.ld aP aI,RG.ld aP aI,RG.cl ((aT C i u).e he),RG.mk 5 189,RG.mk 6 189,RG.pt aI,RG.pt aI,yB5⟩ ?_;intro j5 i5 a5 w5 M5;repeat refine TI ?_
 refine M5.D [.s (.p 0 4),.x (fv e),.x (fv x),.c (fv c5),.s (.p 1 8),.x (fv b),.c (fv t),.s (.p 1 4),.x (fv j),.x (fv u),.c (fv c7),.s (.p 0 8),.x (fv k),.c (fv y),.m 7,.m 8,.u 7,.u 8] [(14,RG.z 4),(15,RG.z 4)] [(7,16,ws t),(8,17,ws y)] [ws f++(ws e++(ws k)),ws i++(ws j++(ws b)),RG.z 12,ws u,ws x,ws p,ws r,ws t,ws y] [2,3,4,7,8,9,10] ⟨RG.st,RG.ld aP aI,RG.ld aP aI,RG.cl ((aT C e x).e hi),RG.st,RG.ld aP aI,RG.cl ((aT C c5 b).e hl),RG.st,RG.ld aP aI,RG.ld aP aI,RG.cl ((aT C j u).e h9),RG.st,RG.ld aP aI,RG.cl ((aT C c7 k).e h7),RG.mk 7 189,RG.mk 8 189,RG.pt aI,RG.pt aI,yB5⟩ ?_;intro j6 i6 a6 w6 M6;repeat refine TI ?_
 by_cases F:EC.dA f b=EC.dA i k/\EC.eU e b=EC.eU j k
 ·have hR:=hc a B F;obtain⟨hx,G⟩:=F;obtain⟨m,I⟩:∃c,c=EC.twX f e:=⟨_,rfl⟩
  obtain⟨d,A⟩:∃c,c=EC.twY f e:=⟨_,rfl⟩
  obtain⟨g,D⟩:∃c,c=EC.twZ e k:=⟨_,rfl⟩
  obtain rfl:R=rv m d g:=hR.trans (by subst_vars;rfl);refine M6.U [.x (fv p),.x (fv r),.x (.bool true),.x (.bool true),.x (fv t),.x (fv y),.x (.bool true),.x (.bool true)] [2,4,63] ⟨RG.ld aP aI,RG.ld aP aI,RG.aJ rfl .eql 189 189 56 57 (fv p) (fv r) (.bool true) rfl rfl RG.sx RG.sx (λw=>kR) (Fb C (by subst_vars;exact hx)),RG.st,RG.ld aP aI,RG.ld aP aI,RG.aJ rfl .eql 189 189 60 61 (fv t) (fv y) (.bool true) rfl rfl RG.sx RG.sx (λw=>kR) (Fb C (by subst_vars;exact G)),RG.st,yB5⟩ ?_;intro a7 w7 X;repeat refine TI ?_
  refine UC X.ev ?_;repeat refine TI ?_
  refine X.T [.x (rv f e k),.c (rv m d g),.u 2] [] [(2,2,ws m++(ws d++(ws g)))] [ws f++(ws e++(ws k)),ws i++(ws j++(ws b)),ws m++(ws d++(ws g)),ws u,ws x,ws p,ws r,ws t,ws y] [4] ⟨RG.ld iV i117,RG.cl ((Eu C f e k).e3 I A D),RG.pt i117,yB5⟩ ?_;intro a8 w8 S;refine UZ ?_;refine TM (v:=(rv m d g)) (RG.aC S.st 4 191 rfl 2 _ rfl (S.at (s:=(.p 2 0))) iV i117) S.sl.defers ?_;exact⟨_,rfl,S.st.bel.below,rfl⟩
 have hR:=hd a B F;obtain⟨m,I⟩:∃c,c=r-p:=⟨_,rfl⟩
 obtain⟨d,A⟩:∃c,c=y-t:=⟨_,rfl⟩
 obtain⟨g,D⟩:∃c,c=m*m:=⟨_,rfl⟩
 obtain⟨n,U⟩:∃c,c=g*m:=⟨_,rfl⟩
 obtain⟨o,V⟩:∃c,c=g*p:=⟨_,rfl⟩
 obtain⟨N,h6⟩:∃c,c=d*d:=⟨_,rfl⟩
 obtain⟨L,h2⟩:∃c,c=N-n:=⟨_,rfl⟩
 obtain⟨O,h4⟩:∃c,c=EC.dbl o:=⟨_,rfl⟩
 obtain⟨l,W⟩:∃c,c=L-O:=⟨_,rfl⟩
 obtain⟨J,h3⟩:∃c,c=o-l:=⟨_,rfl⟩
 obtain⟨M,Z⟩:∃c,c=d*J:=⟨_,rfl⟩
 obtain⟨K,h1⟩:∃c,c=n*t:=⟨_,rfl⟩
 obtain⟨q,h5⟩:∃c,c=M-K:=⟨_,rfl⟩
 obtain⟨H,h0⟩:∃c,c=k*b:=⟨_,rfl⟩
 obtain⟨z,Y⟩:∃c,c=H*m:=⟨_,rfl⟩
 obtain rfl:R=rv l q z:=hR.trans (by subst_vars;rfl);by_cases hx:EC.dA f b=EC.dA i k
 case' pos =>
  have G:¬EC.eU e b=EC.eU j k:=λh=>F ⟨hx,h⟩
  refine M6.U [.x (fv p),.x (fv r),.x (.bool true),.x (.bool true),.x (fv t),.x (fv y),.x (.bool false),.x (.bool false)] [2,3,4,7,8,9,10,63] ⟨RG.ld aP aI,RG.ld aP aI,RG.aJ rfl .eql 189 189 56 57 (fv p) (fv r) (.bool true) rfl rfl RG.sx RG.sx (λw=>kR) (Fb C (by subst_vars;exact hx)),RG.st,RG.ld aP aI,RG.ld aP aI,RG.aJ rfl .eql 189 189 60 61 (fv t) (fv y) (.bool false) rfl rfl RG.sx RG.sx (λw=>kR) (Jr C (by subst_vars;exact G)),RG.st,yB5⟩ ?_
 case' neg =>
  refine M6.u [.x 56 [] (fv p),.x 57 [] (fv r),.x 58 [(56,0),(57,1)] (.bool false),.x 59 [(58,2)] (.bool false),⟨some 60,[],.v VU,.pass⟩,⟨some 61,[],.v VU,.pass⟩,⟨some 62,[],.v VU,.pass⟩,.x 63 [(59,3),(62,6)] (.bool false)] [(2,.p 0 0),(3,.p 1 0),(4,.p 2 0),(7,.p 5 0),(8,.p 6 0),(9,.p 7 0),(10,.p 8 0),(63,.v (.bool false))] ⟨RG.ld aP aI,RG.ld aP aI,RG.aJ rfl .eql 189 189 56 57 (fv p) (fv r) (.bool false) rfl rfl RG.sx RG.sx (λw=>kR) (Jr C (by subst_vars;exact hx)),RG.st,RG.cJ rfl rfl,RG.cJ rfl rfl,RG.cJ rfl rfl,RG.st,yB5⟩ ?_
 all_goals
  intro a7 w7 X;repeat refine TI ?_
  refine UG X.ev ?_;refine Vg ?_;repeat refine TI ?_
  refine X.D [.x (fv r),.x (fv p),.c (fv m),.x (fv y),.x (fv t),.c (fv d),.m 9,.m 10,.u 9,.u 10] [(6,RG.z 4),(7,RG.z 4)] [(9,8,ws m),(10,9,ws d)] [ws f++(ws e++(ws k)),ws i++(ws j++(ws b)),RG.z 12,ws u,ws x,ws p,ws r,ws t,ws y,ws m,ws d] [2,3,4,7,9,11,12] ⟨RG.ld aP aI,RG.ld aP aI,RG.cl ((fC C r p).e I),RG.ld aP aI,RG.ld aP aI,RG.cl ((fC C y t).e A),RG.mk 9 189,RG.mk 10 189,RG.pt aI,RG.pt aI,yB5⟩ ?_;intro j8 i8 a8 w8 S;repeat refine TI ?_
  refine S.T [.x (fv m),.x (fv m),.c (fv g),.m 11,.u 11] [(3,RG.z 4)] [(11,4,ws g)] [ws f++(ws e++(ws k)),ws i++(ws j++(ws b)),RG.z 12,ws u,ws x,ws p,ws r,ws t,ws y,ws m,ws d,ws g] [2,3,4,7,9,11,12,13] ⟨RG.ld aP aI,RG.ld aP aI,RG.cl ((aT C m m).e D),RG.mk 11 189,RG.pt aI,yB5⟩ ?_;intro j9 a9 w9 M9;repeat refine TI ?_
  refine M9.D [.x (fv g),.x (fv m),.c (fv n),.x (fv g),.x (fv p),.c (fv o),.m 12,.m 13,.u 12,.u 13] [(6,RG.z 4),(7,RG.z 4)] [(12,8,ws n),(13,9,ws o)] [ws f++(ws e++(ws k)),ws i++(ws j++(ws b)),RG.z 12,ws u,ws x,ws p,ws r,ws t,ws y,ws m,ws d,ws g,ws n,ws o] [2,3,4,9,11,12,14,15] ⟨RG.ld aP aI,RG.ld aP aI,RG.cl ((aT C g m).e U),RG.ld aP aI,RG.ld aP aI,RG.cl ((aT C g p).e V),RG.mk 12 189,RG.mk 13 189,RG.pt aI,RG.pt aI,yB5⟩ ?_;intro ht hn hp hq hm;repeat refine TI ?_
  refine hm.D [.x (fv d),.x (fv d),.c (fv N),.x (fv n),.c (fv L),.x (fv o),.c (fv O),.c (fv l),.m 14,.u 14] [(8,RG.z 4)] [(14,9,ws l)] [ws f++(ws e++(ws k)),ws i++(ws j++(ws b)),RG.z 12,ws u,ws x,ws p,ws r,ws t,ws y,ws m,ws d,ws g,ws n,ws o,ws l] [2,3,4,9,11,12,14,15,16] ⟨RG.ld aP aI,RG.ld aP aI,RG.cl ((aT C d d).e h6),RG.ld aP aI,RG.cl ((fC C N n).e h2),RG.ld aP aI,RG.cl ((gC C o).e h4),RG.cl ((fC C L O).e W),RG.mk 14 189,RG.pt aI,yB5⟩ ?_;intro hu k2 k1 hj;repeat refine TI ?_
  refine hj.D [.x (fv d),.x (fv o),.x (fv l),.c (fv J),.c (fv M),.x (fv n),.x (fv t),.c (fv K),.c (fv q),.m 15,.u 15] [(9,RG.z 4)] [(15,10,ws q)] [ws f++(ws e++(ws k)),ws i++(ws j++(ws b)),RG.z 12,ws u,ws x,ws p,ws r,ws t,ws y,ws m,ws d,ws g,ws n,ws o,ws l,ws q] [2,3,4,11,16,17] ⟨RG.ld aP aI,RG.ld aP aI,RG.ld aP aI,RG.cl ((fC C o l).e h3),RG.cl ((aT C d J).e Z),RG.ld aP aI,RG.ld aP aI,RG.cl ((aT C n t).e h1),RG.cl ((fC C M K).e h5),RG.mk 15 189,RG.pt aI,yB5⟩ ?_;intro hw hr hs hh;repeat refine TI ?_
  refine hh.D [.x (fv l),.x (fv q),.s (.p 0 8),.x (fv k),.s (.p 1 8),.x (fv b),.c (fv H),.x (fv m),.c (fv z),.x (rv l q z),.u 2] [] [(2,10,ws l++(ws q++(ws z)))] [ws f++(ws e++(ws k)),ws i++(ws j++(ws b)),ws l++(ws q++(ws z)),ws u,ws x,ws p,ws r,ws t,ws y,ws m,ws d,ws g,ws n,ws o,ws l,ws q] [4] ⟨RG.ld aP aI,RG.ld aP aI,RG.st,RG.ld aP aI,RG.st,RG.ld aP aI,RG.cl ((aT C k b).e h0),RG.ld aP aI,RG.cl ((aT C H m).e Y),RG.st,RG.pt i117,yB5⟩ ?_;intro k0 hz G;refine UZ ?_;refine TM (v:=(rv l q z)) (RG.aC G.st 4 191 rfl 2 _ rfl (G.at (s:=(.p 2 0))) iV i117) G.sl.defers ?_;exact⟨_,rfl,G.st.bel.below,rfl⟩
abbrev T3(P:Nat):=Fin P × Fin P × Fin P
abbrev tv(t:T3 P):TC:=rv t.1 t.2.1 t.2.2
abbrev tw(t:T3 P):List TC:=ws t.1++(ws t.2.1++ws t.2.2)
def JacT(t:T3 P)(p:EC.Pt P):Prop:=EC.Jac t.1 t.2.1 t.2.2 p/\EC.On p
def twJ(t:T3 P):T3 P:=(EC.twX t.1 t.2.1,EC.twY t.1 t.2.1,EC.twZ t.2.1 t.2.2)
def plJ(a b:T3 P):T3 P:=
 if a.2.2=0 then b else if b.2.2=0 then a else
 if EC.dA a.1 b.2.2=EC.dA b.1 a.2.2/\EC.eU a.2.1 b.2.2=EC.eU b.2.1 a.2.2 then twJ a else
 (EC.plX (EC.dA a.1 b.2.2) (EC.eU a.2.1 b.2.2) (EC.dA b.1 a.2.2) (EC.eU b.2.1 a.2.2),EC.plY (EC.dA a.1 b.2.2) (EC.eU a.2.1 b.2.2) (EC.dA b.1 a.2.2) (EC.eU b.2.1 a.2.2),EC.plZ a.2.2 b.2.2 (EC.dA a.1 b.2.2) (EC.dA b.1 a.2.2))
def opJ(t:T3 P):T3 P:=(t.1,0-t.2.1,t.2.2)
def raJ(x y:Fin P):T3 P:=if x=0/\y=0 then(0,0,0) else(x,y,1)
theorem Nh(C:Fld P)(t:T3 P):Gives 119 #[tv t] (tv (twJ t)):=Eu C t.1 t.2.1 t.2.2
theorem Np(C:Fld P)(a b:T3 P):Gives 120 #[tv a,tv b] (tv (plJ a b)):=by
 obtain⟨g,d,i⟩:=a;obtain⟨f,j,e⟩:=b;exact Gz C g d i f j e _ (λh=>by unfold plJ;rw[yB3 h]) (λc k=>by unfold plJ;rw[yB4 c,yB3 k]) (λc k h=>by unfold plJ;rw[yB4 c,yB4 k,yB3 h];rfl) (λc k h=>by unfold plJ;rw[yB4 c,yB4 k,yB4 h])
theorem QM(C:Fld P)(t:T3 P):Gives 152 #[tv t] (tv (opJ t)):=Dq C t.1 t.2.1 t.2.2
theorem QI(C:Fld P)(x y:Fin P):Gives 146 #[pv x y] (tv (raJ x y)):=by
 unfold raJ;by_cases k:x=0/\y=0
 ·rw[yB3 k];exact Gp C x y k
 ·rw[yB4 k];exact Gq C x y k
theorem QK(C:Fld P)(t:T3 P):Gives 122 #[tv t] (pv (t.1*(EC.inv t.2.2*EC.inv t.2.2)) (t.2.1*(EC.inv t.2.2*EC.inv t.2.2)*EC.inv t.2.2)):=LP C t.1 t.2.1 t.2.2
theorem JacT.twice(C:Fld P){t:T3 P}{p:EC.Pt P}(h:JacT t p):JacT (twJ t) (EC.add p p):=⟨h.1.twice C.cur h.2,C.cur.on h.2 h.2⟩
theorem JacT.plus(C:Fld P){a b:T3 P}{p q:EC.Pt P}(h:JacT a p)(k:JacT b q):JacT (plJ a b) (EC.add p q):=by
 refine⟨?_,C.cur.on h.2 k.2⟩;obtain⟨m,n,g⟩:=a;obtain⟨l,j,i⟩:=b;unfold plJ;by_cases d:g=0
 ·rw[yB3 d];obtain rfl:=h.1.zero C.cur d;exact k.1
 ·rw[yB4 d];by_cases c:i=0
  ·rw[yB3 c];obtain rfl:=k.1.zero C.cur c;rw[EC.bF];exact h.1
  ·rw[yB4 c];rcases h.1.plus C.cur h.2 k.1 k.2 d c with⟨e,f,e3⟩|⟨e,f⟩
   ·rw[yB3 ⟨e,f⟩,e3];exact h.1.twice C.cur h.2
   ·rw[yB4 e];exact f
theorem JacT.neg{t:T3 P}{p:EC.Pt P}(h:JacT t p):JacT (opJ t) (EC.neg p):=⟨h.1.neg,EC.cO h.2⟩
theorem Nm(C:Fld P){x y:Fin P}{p:EC.Pt P}(h:EC.Pair x y p)(b:EC.On p):JacT (raJ x y) p:=by
 refine⟨?_,b⟩;unfold raJ;by_cases k:x=0/\y=0
 ·obtain rfl:=h.nothing C.cur b k;rw[yB3 k];rfl
 ·rw[yB4 k];exact h.jac C.cur k
theorem JacT.pair(C:Fld P){t:T3 P}{p:EC.Pt P}(h:JacT t p):EC.Pair (t.1*(EC.inv t.2.2*EC.inv t.2.2)) (t.2.1*(EC.inv t.2.2*EC.inv t.2.2)*EC.inv t.2.2) p:=h.1.pair C.cur
theorem JacT.none:JacT ((0,0,0):T3 P) .none:=⟨rfl,EC.iY⟩
end
namespace DG
def mH(d:Nat->Int):Nat->Int
 | 0=>0
 | k+1=>mH d k+d k*2^k
def upd(d:Nat->Int)(i:Nat)(v:Int):Nat->Int:=λj=>if j=i then v else d j
theorem wU{d e:Nat->Int}:∀k,(∀j,j<k->d j=e j)->mH d k=mH e k
 | 0,_=>rfl
 | k+1,h=>by
  show mH d k+d k*2^k=mH e k+e k*2^k;rw[wU k λj b=>h j oM,h k oM]
theorem wT{d:Nat->Int}(i:Nat)(h:∀j,i<=j->d j=0):∀k,mH d (i+k)=mH d i
 | 0=>rfl
 | k+1=>by
  show mH d (i+k)+d (i+k)*2^(i+k)=_;rw[h (i+k) oM,Zl,Zz,wT i h k]
theorem upd_same(d:Nat->Int)(i:Nat)(v:Int):upd d i v i=v:=yB3 rfl
theorem jE{d:Nat->Int}{i j:Nat}{v:Int}(h:j≠i):upd d i v j=d j:=yB4 h
theorem Jy{d:Nat->Int}(i:Nat)(v:Int)(h:∀j,i<=j->d j=0)(k:Nat):mH (upd d i v) (i+1+k)=mH d i+v*2^i:=by
 rw[wT (i+1) (λj b=>by rw[jE oM];exact h j oM) k];show mH (upd d i v) i+upd d i v i*2^i=_;rw[upd_same,wU i λj b=>jE oM]
structure DI(n:Nat)(d:Nat->Int)(i c:Nat):Prop where
 hc:c<=1
 hz:∀j,i<=j->d j=0
 hw:∀j,257<=j->d j=0
 ho:∀j,d j=0\/(d j%2=1/\-15<=d j/\d j<=15)
 hs:(n:Int)=mH d i+((n/2^i+c:Nat):Int)*2^i
 he:257<=i->n/2^i+c=0
theorem DI.start(n:Nat):DI n (λ_=>0) 0 0:=by
 refine⟨dC,λ_ _=>rfl,λ_ _=>rfl,λ_=>Ub rfl,?_,λh=>oM⟩;rw[Wx,yAR];show(n:Int)=0+((n+0:Nat):Int)*1;omega
theorem high{n i:Nat}(k:n<2^256)(b:256<=i):n/2^i=0:=
 WY (TF k (Ve dC b))
theorem DI.skip{n i c:Nat}{d:Nat->Int}(h:DI n d i c)(f:n<2^256)(m:i<257)(g:n/2^i%2=c):DI n d (i+1) c:=by
 have k:n/2^(i+1)=n/2^i/2:=by rw[Vk,V7]
 refine⟨h.hc,λj l=>h.hz j oM,h.hw,h.ho,?_,λe=>?_⟩
 ·rw[h.hs];show _=mH d i+d i*2^i+_;rw[h.hz i (TG _),Zl,Zz,k,show n/2^i+c=(n/2^i/2+c)*2 by have:=h.hc;omega];rw[show(2:Int)^(i+1)=2^i*2 by rw[yBG]];generalize (2:Int)^i=t;rw[V0,ZU,Zm (2:Nat) t];rfl
 ·have o:i=256:=oM;have b:n/2^i=0:=high f oM;rw[k,b];rw[b]at g;omega
theorem DI.take{n i c:Nat}{d:Nat->Int}(h:DI n d i c)(l:n<2^256)(s:i<257)(q:n/2^i%2≠c):
 DI n (upd d i (((n/2^i%32+c:Nat):Int)-32*(((n/2^i%32+c)/16:Nat):Int))) (i+5) ((n/2^i%32+c)/16):=by
 have k:n/2^(i+5)=n/2^i/32:=by rw[VS,V7]
 have r:=h.hc;have b:(n/2^i%32+c)%2=1:=oM;have f:n/2^i%32+c<32:=oM;refine⟨oM,λj e=>?_,λj e=>?_,λj=>?_,?_,λg=>?_⟩
 ·rw[jE oM];exact h.hz j oM
 ·rw[jE oM];exact h.hw j e
 ·by_cases e:j=i
  ·subst e;rw[upd_same];right;omega
  ·rw[jE e];exact h.ho j
 ·rw[show i+5=i+1+4 by omega,Jy i _ h.hz 4,show i+1+4=i+5 by omega,h.hs,Int.add_assoc]
  congr 1
  rw[k,Int.pow_add,show(2:Int)^5=32 by decide,<-Zm (32:Int),<-ZU,<-yBQ]
  congr 1
  omega
 ·have o:n/2^i<16:=by
   rw[Nat.div_lt_iff_lt_mul (WR dC)];refine TF l ?_
   calc 2^256=16*2^252:=dK
    _<=16*2^i:=Nat.mul_le_mul (TG _) (Ve dC oM)
  rw[k];generalize n/2^i=m at o q b f⊢;rw[Uf (show m<32 by omega)]at b⊢;have p:m+c<16:=oM;rw[WY p,WY (show m<32 by omega)]
theorem DI.all{n i c:Nat}{d:Nat->Int}(h:DI n d i c)(b:257<=i):(n:Int)=mH d 257:=by
 have k:=h.hs;rw[h.he b,Ux,Zl,Zz]at k;rw[k,show i=257+(i-257) by omega,wT 257 h.hw]
def hor(d:Nat->Int):Nat->Int
 | 0=>0
 | k+1=>2*hor d k+d (256-k)
theorem E3(d:Nat->Int):∀k,k<=257->hor d k*2^(257-k)+mH d (257-k)=mH d 257
 | 0,_=>by show 0*_+_=_;rw[Zl,Int.zero_add]
 | k+1,hk=>by
  rw[<-E3 d k oM];show(2*hor d k+d (256-k))*2^(257-(k+1))+mH d (257-(k+1))=_;rw[show 257-(k+1)=256-k by omega,show 257-k=(256-k)+1 by omega];show _=hor d k*2^(256-k+1)+(mH d (256-k)+d (256-k)*2^(256-k));rw[yBG];generalize (2:Int)^(256-k)=t;generalize hor d k=a;rw[yBQ,Zm t 2,<-ZU,Zm a 2];omega
theorem Mm{n i c:Nat}{d:Nat->Int}(h:DI n d i c)(b:257<=i):hor d 257=(n:Int):=by
 have k:=E3 d 257 (TG _);rw[Yg]at k;rw[h.all b,<-k];show hor d 257=hor d 257*1+0;omega
end DG
section
open Go.RowKit Go.Sort
variable {P:Nat}[NeZero P]{N:Nat}
theorem JY(k o i:Nat)(c:i<257)(w:TA):(UP 194 (.pointer (some ⟨k,o,none⟩)) (iZ i)).run prog w=.ok (.pointer (some ⟨k,o+i,none⟩)) w:=by
 have d:¬(i:Int)<0:=oM;have b:(i:Int)<257:=oM;go_simp
theorem Qa(k i:Nat)(b:i<257)(w:TA):(UP 194 (pZ k) (iZ i)).run prog w=.ok (.pointer (some ⟨k,i,none⟩)) w:=by
 rw[JY k 0 i b,TO]
theorem FG(k o i:Nat)(c:i<8)(w:TA):(UP 192 (.pointer (some ⟨k,o,none⟩)) (iZ i)).run prog w=.ok (.pointer (some ⟨k,o+12*i,none⟩)) w:=by
 have d:¬(i:Int)<0:=oM;have b:(i:Int)<8:=oM;go_simp
theorem JZ(k o i:Nat)(c:i<8)(w:TA):(UP 192 (.pointer (some ⟨k,o,none⟩)) (.int .i8 i)).run prog w=.ok (.pointer (some ⟨k,o+12*i,none⟩)) w:=by
 have d:¬(i:Int)<0:=oM;have b:(i:Int)<8:=oM;go_simp
theorem FH(k n c i:Nat)(b:i<n)(w:TA):(UP 188 (.slice (some (aZ k)) n c) (iZ i)).run prog w=.ok (.pointer (some ⟨k,353*i,none⟩)) w:=by
 go_simp
theorem RQ(k o n c i:Nat)(b:i<n)(w:TA):(UP 141 (.slice (some ⟨k,o,none⟩) n c) (iZ i)).run prog w=.ok (.pointer (some ⟨k,o+4*i,none⟩)) w:=by
 go_simp
theorem NC(k o n c i:Nat)(b:i<n)(w:TA):(UP 144 (.slice (some ⟨k,o,none⟩) n c) (iZ i)).run prog w=.ok (.pointer (some ⟨k,o+8*i,none⟩)) w:=by
 go_simp
theorem Nx(d:Int)(hd:-15<=d/\d<=15)(w:TA):(Op.unary .neg (.int .i8 d)).run prog w=.ok (.int .i8 (-d)) w:=by
 have h:=ZG (-d) oM;go_simp
theorem Nv(k:Nat)(c:k<8)(w:TA):(binOp .quo 193 (.int .i8 (2*(k:Int)+1)) (.int .i8 2)).run prog w=.ok (.int .i8 k) w:=by
 have b:(2*(k:Int)+1).tdiv 2=(k:Int):=by rw[Wt oM];omega
 have h:=ZG (k:Int) oM;go_simp
theorem SH(g:Nat)(k:g<32)(w:TA):(binOp .shr 3 (iZ g) (uZ 4)).run prog w=.ok (iZ ((g/16:Nat):Int)) w:=by
 go_simp
theorem SI(g:Nat)(b:g<32)(w:TA):(binOp .shl 3 (iZ g) (uZ 5)).run prog w=.ok (iZ (32*(g:Int))) w:=by
 have h:=UO (32*(g:Int)) oM;have k:(g:Int)*32=32*(g:Int):=oM;go_simp
theorem CO(a b:Int)(c:-1000<=a/\a<=1000)(k:-1000<=b/\b<=1000)(w:TA):(binOp .sub 3 (iZ a) (iZ b)).run prog w=.ok (iZ (a-b)) w:=by
 have h:=UO (a-b) oM;go_simp
theorem rK(a b:Nat)(c:a<=1000000)(k:b<=1000000)(w:TA):(binOp .add 3 (iZ a) (iZ b)).run prog w=.ok (iZ ((a+b:Nat):Int)) w:=by
 have h:=UO ((a:Int)+(b:Int)) oM;go_simp
theorem cv8(v:Int)(hv:-15<=v/\v<=15)(w:TA):(convert 3 193 (iZ v)).run prog w=.ok (.int .i8 v) w:=by
 have h:=ZG v oM;go_simp
theorem RH{b c:Nat}(e:b=c)(w:TA):(binOp .eql 3 (iZ b) (iZ c)).run prog w=.ok (.bool true) w:=by
 subst e;go_simp
theorem RI{b c:Nat}(e:¬b=c)(w:TA):(binOp .eql 3 (iZ b) (iZ c)).run prog w=.ok (.bool false) w:=by
 have h:¬(b:Int)=(c:Int):=oM;go_simp
theorem eY{i n:Nat}(e:i<n)(w:TA):(binOp .lss 3 (iZ i) (iZ n)).run prog w=.ok (.bool true) w:=by
 go_simp
theorem l6{i n:Nat}(e:¬i<n)(w:TA):(binOp .lss 3 (iZ i) (iZ n)).run prog w=.ok (.bool false) w:=by
 go_simp
theorem Ko{n f c:Nat}(b:n<top)(hf:f<=256)(k:c<=32):Gives 157 #[nv n,iZ f,iZ c] (iZ ((n/2^f%2^c:Nat):Int)):=λw =>
 (Cu _ n f c (oH b) hf k w).mono (by rintro e w' ⟨v,rfl,d,rfl⟩;exact⟨_,rfl,d,rfl⟩)
def dg(d:Nat->Int):List TC:=(List.range 257).map (λj=>UV .i8 (d j))
def dv(d:Nat->Int):TC:=.agg (dg d).toArray
theorem bM(d:Nat->Int):(dg d).length=257:=by unfold dg;rw[Uk,List.length_range]
theorem JC(d:Nat->Int)(j:Nat)(k:j<257):(dg d)[j]? = some (.int .i8 (d j)):=by
 unfold dg;rw[List.getElem?_map,List.getElem?_range k];rfl
theorem PP(d:Nat->Int)(i:Nat)(v:Int):dg (DG.upd d i v)=(dg d).set i (.int .i8 v):=by
 apply List.ext_getElem?;intro j;rw[List.getElem?_set];by_cases b:j<257
 ·rw[JC _ j b,JC _ j b];by_cases k:i=j
  ·subst k;rw[yB3 rfl,yB3 (by rw[bM];exact b),DG.upd_same]
  ·rw[yB4 k,DG.jE (λh=>k h.symm)]
 ·rw[VW (by rw[bM];omega)];by_cases k:i=j
  ·rw[yB3 k,yB4 (by rw[bM];omega)]
  ·rw[yB4 k,VW (by rw[bM];omega)]
theorem JB(d:Nat->Int):(dg d).all (·.oneCell')=true:=by
 unfold dg;rw[List.all_map];exact List.all_eq_true.2 λ_ _=>rfl
theorem PO(d:Nat->Int):((dg d).drop 0).take (dg d).length=dg d:=by rw[List.drop_zero,List.take_length]
def dgo(n:Nat):Nat->(Nat->Int)->Nat->Nat->(Nat->Int)
 | 0,d,_,_=>d
 | f+1,d,i,c=>if i<257 then(if n/2^i%2=c then dgo n f d (i+1) c else
  dgo n f (DG.upd d i (((n/2^i%32+c:Nat):Int)-32*(((n/2^i%32+c)/16:Nat):Int))) (i+5) ((n/2^i%32+c)/16)) else d
theorem Fe(n:Nat)(f:Nat)(d:Nat->Int)(i c:Nat)(h:¬i<257):dgo n f d i c=d:=by
 cases f with
 | zero=>rfl
 | succ f=>rw[dgo,yB4 h]
theorem D2{n:Nat}(k:n<2^256):∀(f:Nat) (d:Nat->Int) (i c:Nat),DG.DI n d i c->257<=i+f->∃g j,257<=g/\DG.DI n (dgo n f d i c) g j
 | 0,d,i,c,h,hf=>⟨i,c,oM,h⟩
 | f+1,d,i,c,h,hf=>by
  by_cases e:i<257
  ·rw[dgo,yB3 e];by_cases b:n/2^i%2=c
   ·rw[yB3 b];exact D2 k f d (i+1) c (h.skip k e b) oM
   ·rw[yB4 b];exact D2 k f _ (i+5) _ (h.take k e b) oM
  ·rw[Fe n _ d i c e];exact⟨i,c,oM,h⟩
def fE(n:Nat):Nat->Int:=dgo n 257 (λ_=>0) 0 0
theorem Av{n:Nat}(k:n<2^256):∃i c,257<=i/\DG.DI n (fE n) i c:=D2 k 257 _ 0 0 (DG.DI.start n) oM
end
end Go.Proofs.YtjnchldodncnbaaGreat
