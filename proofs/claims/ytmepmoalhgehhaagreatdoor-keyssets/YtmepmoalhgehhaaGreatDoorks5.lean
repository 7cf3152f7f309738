import Derived.Deep.LoopGhost
import Derived.Deep.RegionHeld3
import Derived.Deep.CutRange
import Derived.BigQuiet
import Derived.Lib.LazyBuf
import Derived.RangeFuncNested
import Derived.RangeFuncBound
import Derived.RangeFuncCalls
import Derived.RangeFuncLeaves
import Derived.Shelf.Abstract
import Derived.Shelf.RegionOpen
import Derived.WalkKit
import Derived.OwnWalkIn
import Derived.TacticsInMore
import Derived.LoopNIn
import Derived.LoopIn
import Derived.Deep.RegionWith
import Derived.Deep.DeepCutAuto
import Derived.Test.YtmepmoalhgehhaaGreatDoorks4
set_option linter.unusedVariables false
set_option linter.constructorNameAsVariable false
set_option linter.unusedSimpArgs false
set_option maxRecDepth 1000000
set_option maxHeartbeats 4000000
namespace Go.Proofs.YtmepmoalhgehhaaGreatDoor
section
open Go.RowKit Go.Sort
structure LessI (w wr:World) (p0 p1 p2 p3 c0 c1 c2 c3 a b c d e f g h:Nat):Prop where
 bl:Below w.heap.size w wr
 fr:At8 wr w.heap.size p0 p1 p2 p3 c0 c1 c2 c3
 wi:At8 wr (w.heap.size+1) a b c d e f g h
 re:At4 wr (w.heap.size+1+1) 0 0 0 0
 ha:a<18446744073709551616
 hb:b<18446744073709551616
 hc:c<18446744073709551616
 hd:d<18446744073709551616
 he:e<18446744073709551616
 hf:f<18446744073709551616
 hg:g<18446744073709551616
 hh:h<18446744073709551616
theorem mul_lt_top {x y:Nat} (hx:x<top) (hy:y<top):x*y+top≤top*top:=by
 have h1:x*y≤(top-1)*(top-1):=Nat.mul_le_mul (by omega) (by omega)
 have h2:(top-1)*(top-1)+top≤top*top:=by unfold top;decide
 omega
section
variable {w w0:World} {k a b c d e f g h j B:Nat}
theorem below_set8x (H:Below B w0 w) (hj:B≤j) (x0 x1 x2 x3 x4 x5 x6 x7:Value):Below B w0 ((((((((w.setCell ⟨j,0,none⟩ x0).setCell ⟨j,1,none⟩ x1).setCell ⟨j,2,none⟩ x2).setCell ⟨j,3,none⟩ x3).setCell ⟨j,4,none⟩ x4).setCell ⟨j,5,none⟩ x5).setCell ⟨j,6,none⟩ x6).setCell ⟨j,7,none⟩ x7):=below_set8c H hj x0 x1 x2 x3 x4 x5 x6 x7
theorem At8.other8x (H:At8 w k a b c d e f g h) (hj:j≠k) (x0 x1 x2 x3 x4 x5 x6 x7:Value):At8 ((((((((w.setCell ⟨j,0,none⟩ x0).setCell ⟨j,1,none⟩ x1).setCell ⟨j,2,none⟩ x2).setCell ⟨j,3,none⟩ x3).setCell ⟨j,4,none⟩ x4).setCell ⟨j,5,none⟩ x5).setCell ⟨j,6,none⟩ x6).setCell ⟨j,7,none⟩ x7) k a b c d e f g h:=H.other8 hj x0 x1 x2 x3 x4 x5 x6 x7
theorem At4.other8x (H:At4 w k a b c d) (hj:j≠k) (x0 x1 x2 x3 x4 x5 x6 x7:Value):At4 ((((((((w.setCell ⟨j,0,none⟩ x0).setCell ⟨j,1,none⟩ x1).setCell ⟨j,2,none⟩ x2).setCell ⟨j,3,none⟩ x3).setCell ⟨j,4,none⟩ x4).setCell ⟨j,5,none⟩ x5).setCell ⟨j,6,none⟩ x6).setCell ⟨j,7,none⟩ x7) k a b c d:=H.other8 hj x0 x1 x2 x3 x4 x5 x6 x7
theorem At8.self8x (H:At8 w k a b c d e f g h) (x0 x1 x2 x3 x4 x5 x6 x7:Nat):At8 ((((((((w.setCell ⟨k,0,none⟩ (.int .u64 x0)).setCell ⟨k,1,none⟩ (.int .u64 x1)).setCell ⟨k,2,none⟩ (.int .u64 x2)).setCell ⟨k,3,none⟩ (.int .u64 x3)).setCell ⟨k,4,none⟩ (.int .u64 x4)).setCell ⟨k,5,none⟩ (.int .u64 x5)).setCell ⟨k,6,none⟩ (.int .u64 x6)).setCell ⟨k,7,none⟩ (.int .u64 x7)) k x0 x1 x2 x3 x4 x5 x6 x7:=H.self8 x0 x1 x2 x3 x4 x5 x6 x7
end
theorem lessS_of {w W:World} {k0 k1 k2 p0 p1 p2 p3 c0 c1 c2 c3 a b c d e f g h:Nat} (H:Kept w k0 [⟨k0,0,p0,p1,p2,p3⟩,⟨k0,4,c0,c1,c2,c3⟩,⟨k1,0,a,b,c,d⟩,⟨k1,4,e,f,g,h⟩,⟨k2,0,0,0,0,0⟩] W):W.cell? ⟨k0,4,none⟩=some (.int .u64 c0)∧W.cell? ⟨k0,5,none⟩=some (.int .u64 c1)∧W.cell? ⟨k0,6,none⟩=some (.int .u64 c2)∧W.cell? ⟨k0,7,none⟩=some (.int .u64 c3)∧W.cell? ⟨k1,0,none⟩=some (.int .u64 a)∧W.cell? ⟨k1,1,none⟩=some (.int .u64 b)∧W.cell? ⟨k1,2,none⟩=some (.int .u64 c)∧W.cell? ⟨k1,3,none⟩=some (.int .u64 d)∧W.cell? ⟨k1,4,none⟩=some (.int .u64 e)∧W.cell? ⟨k1,5,none⟩=some (.int .u64 f)∧W.cell? ⟨k1,6,none⟩=some (.int .u64 g)∧W.cell? ⟨k1,7,none⟩=some (.int .u64 h)∧Kept w k0 [⟨k0,0,p0,p1,p2,p3⟩,⟨k0,4,c0,c1,c2,c3⟩,⟨k1,0,a,b,c,d⟩,⟨k1,4,e,f,g,h⟩,⟨k2,0,0,0,0,0⟩] W:=
 ⟨H.tail.head.c0,H.tail.head.c1,H.tail.head.c2,H.tail.head.c3,H.tail.tail.head.c0,H.tail.tail.head.c1,H.tail.tail.head.c2,H.tail.tail.head.c3,H.tail.tail.tail.head.c0,H.tail.tail.tail.head.c1,H.tail.tail.tail.head.c2,H.tail.tail.tail.head.c3,H⟩
theorem or4 (a b c d:Nat) (ha:a<18446744073709551616) (hb:b<18446744073709551616) (hc:c<18446744073709551616) (hd:d<18446744073709551616) :
 ∃ o:Nat,bits .or .u64 (bits .or .u64 (bits .or .u64 (a:Int) (b:Int)) (c:Int)) (d:Int)=(o:Int)∧(o=0↔(a=0∧b=0∧c=0∧d=0)):=by
 have lt:∀ x y:Nat,x<18446744073709551616→y<18446744073709551616→x ||| y<18446744073709551616:=fun x y hx hy=>Nat.or_lt_two_pow (n:=64) hx hy
 refine ⟨a ||| b ||| c ||| d,?_,?_⟩
 ·rw[bits_or_u64_nat a b ha hb,bits_or_u64_nat _ c (lt _ _ ha hb) hc,bits_or_u64_nat _ d (lt _ _ (lt _ _ ha hb) hc) hd]
 ·constructor
  ·intro h
   have h1:=Nat.left_le_or (n:=a ||| b ||| c) (m:=d)
   have h2:=Nat.right_le_or (n:=a ||| b ||| c) (m:=d)
   have h3:=Nat.left_le_or (n:=a ||| b) (m:=c)
   have h4:=Nat.right_le_or (n:=a ||| b) (m:=c)
   have h5:=Nat.left_le_or (n:=a) (m:=b)
   have h6:=Nat.right_le_or (n:=a) (m:=b)
   omega
  ·rintro ⟨rfl,rfl,rfl,rfl⟩
   rfl
theorem less_step {lo hi cc P gk:Nat} (hP:P+cc=top) (hP2:top<2*P) (hpos:0<hi) (hg:gk=lo+top*hi):hi*cc+lo<gk∧(hi*cc+lo)%P=gk%P:=by
 have e:gk=hi*cc+lo+P*hi:=by rw[hg,← hP,Nat.add_mul,Nat.mul_comm cc];omega
 rw[e,Nat.add_mul_mod_self_left]
 have:0<P*hi:=Nat.mul_pos (by omega) hpos
 exact ⟨by omega,rfl⟩
theorem rLess_any (p0 p1 p2 p3 c0 c1 c2 c3 P:Nat) (x:Value) (m:Nat) (hp0:p0<18446744073709551616) (hp1:p1<18446744073709551616) (hp2:p2<18446744073709551616) (hp3:p3<18446744073709551616)
 (hc0:c0<18446744073709551616) (hc1:c1<18446744073709551616) (hc2:c2<18446744073709551616) (hc3:c3<18446744073709551616) (eP:P=val p0 p1 p2 p3) (hP:P+val c0 c1 c2 c3=top) (hP2:top<2*P) (hx:Eight x m) (w:World) :
 Calls Tryz.prog 57 #[.agg #[.int .u64 p0,.int .u64 p1,.int .u64 p2,.int .u64 p3,.int .u64 c0,.int .u64 c1,.int .u64 c2,.int .u64 c3],x] w (Ret fun e w'=>Below w.heap.size w w'∧Four e (m%P)):=by
 obtain ⟨a,b,c,d,e,f,g,h,rfl,ha,hb,hc,hd,he,hf,hg,hh,em⟩:=hx
 go_enter Tryz.func57,Tryz.ntmps57
 go_wp2
 have HEP:Hid (P=val p0 p1 p2 p3):=eP
 clear eP
 go_loopg [] (val a b c d+top*val e f g h) (fun gk wr=>∃ (a b c d e f g h:Nat),LessI w wr p0 p1 p2 p3 c0 c1 c2 c3 a b c d e f g h∧gk=val a b c d+top*val e f g h∧Hid (gk%P=m%P))
 case atStart =>
  refine ⟨a,b,c,d,e,f,g,h,⟨below3 _ _ _ _,?_,?_,?_,ha,hb,hc,hd,he,hf,hg,hh⟩,rfl,?_⟩
  ·exact (((At8.made w 70 p0 p1 p2 p3 c0 c1 c2 c3 rfl).alloc _).alloc _)
  ·exact (At8.made (w.alloc _) 101 a b c d e f g h (World.size_alloc _ _)).alloc _
  ·exact At4.made ((w.alloc _).alloc _) 58 0 0 0 0 (by simp)
  ·rw[em];rfl
 case round =>
  obtain ⟨a,b,c,d,e,f,g,h,hI,hgk,HE⟩:=hrel
  clear em ha hb hc hd he hf hg hh
  obtain ⟨bl,fr,wi,re,ha,hb,hc,hd,he,hf,hg,hh⟩:=hI
  have HB:Hid (Below w.heap.size w wr):=bl
  clear bl
  generalize q2:w.heap.size+1+1=k2 at re ⊢
  generalize q1:w.heap.size+1=k1 at wi ⊢
  have H:Hid (w.heap.size+1=k1∧w.heap.size+1+1=k2):=⟨q1,q2⟩
  have Q1:Hid (w.heap.size≤k1):=by unfold Hid;omega
  have Q2:Hid (w.heap.size≤k2):=by unfold Hid;omega
  generalize q0:w.heap.size=k0 at fr HB Q1 Q2 ⊢
  have H0:Hid (w.heap.size=k0):=q0
  have n01:k0≠k1:=by omega
  have n02:k0≠k2:=by omega
  have n12:k1≠k2:=by omega
  have z0:=fr.lt
  have z1:=wi.lt
  have z2:=re.lt
  clear q0 q1 q2
  obtain ⟨o,ho,hoz⟩:=or4 e f g h he hf hg hh
  obtain ⟨fc0,fc1,fc2,fc3,fc4,fc5,fc6,fc7,ff⟩:=id fr
  obtain ⟨wc0,wc1,wc2,wc3,wc4,wc5,wc6,wc7,wf⟩:=id wi
  obtain ⟨rc0,rc1,rc2,rc3,rf⟩:=id re
  by_cases hz:o=0
  ·obtain ⟨rfl,rfl,rfl,rfl⟩:=hoz.1 hz
   have hlow:gk=val a b c d:=by rw[hgk];rfl
   have HE2:Hid (val a b c d%P=m%P):=by unfold Hid;rw[← hlow];exact HE.out
   clear hgk HE hoz hlow
   subst hz
   go_wp2
   have N:=At4.made wr 58 a b c d rfl
   have M0:k0≠wr.heap.size:=Nat.ne_of_lt z0
   have M2:k2≠wr.heap.size:=Nat.ne_of_lt z2
   have M5:Hid (k0≤wr.heap.size):=Nat.le_of_lt z0
   have HB0:Hid (Below k0 w _):=HB.out.alloc (Nat.le_of_lt z0) (.cells #[.int .u64 a,.int .u64 b,.int .u64 c,.int .u64 d] 58)
   replace fr:=fr.alloc (.cells #[.int .u64 a,.int .u64 b,.int .u64 c,.int .u64 d] 58)
   replace re:=re.alloc (.cells #[.int .u64 a,.int .u64 b,.int .u64 c,.int .u64 d] 58)
   clear wi fc0 fc1 fc2 fc3 fc4 fc5 fc6 fc7 ff wc0 wc1 wc2 wc3 wc4 wc5 wc6 wc7 wf rc0 rc1 rc2 rc3 rf z0 z1 z2 HB ho
   generalize World.alloc _ _=W0 at N fr re HB0 ⊢
   generalize wr.heap.size=k5 at N M0 M2 M5 ⊢
   have hB4:Hid (a<18446744073709551616∧b<18446744073709551616∧c<18446744073709551616∧d<18446744073709551616):=⟨ha,hb,hc,hd⟩
   have HPP:Hid (0<P):=by unfold Hid;have:=hP2;omega
   clear ha hb hc hd hP hP2
   have KP:Kept w k0 [⟨k5,0,a,b,c,d⟩,⟨k0,0,p0,p1,p2,p3⟩,⟨k2,0,0,0,0,0⟩] W0:=
    (((Kept.mk1 HB0.out (Nat.le_of_lt fr.lt)).cons re.blk).cons (x:=⟨k0,0,p0,p1,p2,p3⟩) ⟨fr.c0,fr.c1,fr.c2,fr.c3,fr.fz⟩).cons N.blk
   clear fr re N HB0
   go_loopg [] (val a b c d) (fun gk2 wr2=>∃ (a b c d:Nat),gk2=val a b c d∧Kept w k0 [⟨k5,0,a,b,c,d⟩,⟨k0,0,p0,p1,p2,p3⟩,⟨k2,0,0,0,0,0⟩] wr2∧Hid (a<18446744073709551616∧b<18446744073709551616∧c<18446744073709551616∧d<18446744073709551616)∧Hid (val a b c d%P=m%P))
   case atStart=>exact ⟨a,b,c,d,rfl,KP,hB4,HE2⟩
   case round =>
    clear KP hB4 HE2
    obtain ⟨a,b,c,d,hgk2,KP,hB4,HE2⟩:=hrel
    obtain ⟨xc0,xc1,xc2,xc3,xf⟩:=KP.head.at4
    obtain ⟨pc0,pc1,pc2,pc3,pf⟩:=KP.tail.head.at4
    have z5:=KP.head.lt
    have z0:=KP.tail.head.lt
    go_wp2_with fail
    refine (rless_any _ _ _ _ (Four.mk hB4.out.1 hB4.out.2.1 hB4.out.2.2.1 hB4.out.2.2.2 rfl) (Four.mk hp0 hp1 hp2 hp3 rfl) _).mono ?_
    rintro r w2 ⟨v,rfl,hb2,v2,t2,j,rfl,⟨a2,b2,c2,d2,rfl,ha2,hb2',hc2,hd2,es2⟩,hj,he2⟩
    clear xc0 xc1 xc2 xc3 xf pc0 pc1 pc2 pc3 pf z5 z0
    replace KP:=KP.call hb2
    clear hb2
    have HE3:Hid (val a2 b2 c2 d2+P=val a b c d+top*j):=by unfold Hid;rw[← es2,HEP.out];exact he2
    clear he2 es2
    have hj':j=0∨j=1:=by omega
    rcases hj' with rfl|rfl
    ·obtain ⟨xc0,xc1,xc2,xc3,xf⟩:=KP.head.at4
     have z5:=KP.head.lt
     go_wp2
     go_roundg (val a2 b2 c2 d2)
     case measure=>have:=HE3.out;have:=HPP.out;omega
     case rel =>
      refine ⟨a2,b2,c2,d2,rfl,?_,⟨ha2,hb2',hc2,hd2⟩,?_⟩
      ·exact (KP.put M5.out (by simp only[List.mem_cons,List.not_mem_nil,or_false];rintro x (rfl|rfl);exact M0.symm;exact M2.symm) a2 b2 c2 d2).alloc _
      ·unfold Hid
       rw[← HE2.out,show val a b c d=val a2 b2 c2 d2+P by have:=HE3.out;omega,Nat.add_mod_right]
    ·obtain ⟨xc0,xc1,xc2,xc3,xf⟩:=KP.head.at4
     obtain ⟨rc0,rc1,rc2,rc3,rf⟩:=KP.tail.tail.head.at4
     have z5:=KP.head.lt
     have z3:=KP.tail.tail.head.lt
     go_wp2
     have RF:=(KP.tail.tail.head.at4.self4 a b c d).alloc (.cells #[.int .u64 a2,.int .u64 b2,.int .u64 c2,.int .u64 d2] 58)
     unfold set4 at RF
     refine bodyPost_ret (v:=?v) ?hr rfl ?hR
     case hr=>simp[results,Tryz.results57,go_sem,RF.c0,RF.c1,RF.c2,RF.c3];rfl
     refine ⟨_,rfl,?_,Four.mk hB4.out.1 hB4.out.2.1 hB4.out.2.2.1 hB4.out.2.2.2 ?_⟩
     ·rw[H0.out]
      exact (below_set4 KP.bl Q2.out _ _ _ _).alloc (by rw[size_set4];exact KP.le) _
     ·rw[← HE2.out,Nat.mod_eq_of_lt (by have:=HE3.out;have:=val_lt ha2 hb2' hc2 hd2;omega)]
  ·have hpos:0<val e f g h:=by
    rcases Nat.eq_zero_or_pos (val e f g h) with h0|h0
    ·exact absurd (hoz.2 (by unfold val at h0;omega)) hz
    ·exact h0
   have HL:Hid (_∧_):=less_step hP hP2 hpos hgk
   clear hoz hgk hpos
   go_wp2
   have KP:Kept w k0 [⟨k0,0,p0,p1,p2,p3⟩,⟨k0,4,c0,c1,c2,c3⟩,⟨k1,0,a,b,c,d⟩,⟨k1,4,e,f,g,h⟩,⟨k2,0,0,0,0,0⟩] wr:=
    (((((Kept.mk1 HB.out (Nat.le_of_lt z0)).cons re.blk).cons (x:=⟨k1,4,e,f,g,h⟩) ⟨wi.c4,wi.c5,wi.c6,wi.c7,wi.fz⟩).cons (x:=⟨k1,0,a,b,c,d⟩) ⟨wi.c0,wi.c1,wi.c2,wi.c3,wi.fz⟩).cons (x:=⟨k0,4,c0,c1,c2,c3⟩) ⟨fr.c4,fr.c5,fr.c6,fr.c7,fr.fz⟩).cons (x:=⟨k0,0,p0,p1,p2,p3⟩) ⟨fr.c0,fr.c1,fr.c2,fr.c3,fr.fz⟩
   clear HEP rc0 rc1 rc2 rc3 rf fc0 fc1 fc2 fc3 fr wi re HB
   refine anyTill.begin (fun w'=>w'.cell? ⟨k0,4,none⟩=some (.int .u64 c0)∧w'.cell? ⟨k0,5,none⟩=some (.int .u64 c1)∧w'.cell? ⟨k0,6,none⟩=some (.int .u64 c2)∧w'.cell? ⟨k0,7,none⟩=some (.int .u64 c3)∧w'.cell? ⟨k1,0,none⟩=some (.int .u64 a)∧w'.cell? ⟨k1,1,none⟩=some (.int .u64 b)∧w'.cell? ⟨k1,2,none⟩=some (.int .u64 c)∧w'.cell? ⟨k1,3,none⟩=some (.int .u64 d)∧w'.cell? ⟨k1,4,none⟩=some (.int .u64 e)∧w'.cell? ⟨k1,5,none⟩=some (.int .u64 f)∧w'.cell? ⟨k1,6,none⟩=some (.int .u64 g)∧w'.cell? ⟨k1,7,none⟩=some (.int .u64 h)∧Kept w k0 [⟨k0,0,p0,p1,p2,p3⟩,⟨k0,4,c0,c1,c2,c3⟩,⟨k1,0,a,b,c,d⟩,⟨k1,4,e,f,g,h⟩,⟨k2,0,0,0,0,0⟩] w') 22 mixed (lessS_of KP.drew) (fun hS=>?_)
   refine anyTill.tk (i:=0) (v:=?_) rfl (Or.inl ⟨by rfl,?_⟩) hS ?_
   rotate_left
   ·intro w hSw
    (try dsimp only at hSw)
    go_simp
    try (with_reducible rfl)
   simp only[Act.put,List.setIfInBounds_toArray]
   refine anyTill.tk (i:=1) (v:=?_) rfl (Or.inl ⟨by rfl,?_⟩) hS ?_
   rotate_left
   ·intro w hSw
    (try dsimp only at hSw)
    go_simp
    try (with_reducible rfl)
   simp only[Act.put]
   refine anyTill.tk (i:=2) (v:=?_) rfl (Or.inl ⟨by rfl,?_⟩) hS ?_
   rotate_left
   ·intro w hSw
    (try dsimp only at hSw)
    go_simp
    try (with_reducible rfl)
   simp only[Act.put]
   refine anyTill.tk (i:=3) (v:=?_) rfl (Or.inl ⟨by rfl,?_⟩) hS ?_
   rotate_left
   ·intro w hSw
    (try dsimp only at hSw)
    go_simp
    try (with_reducible rfl)
   simp only[Act.put]
   refine anyTill.tk (i:=4) (v:=?_) rfl (Or.inl ⟨by rfl,?_⟩) hS ?_
   rotate_left
   ·intro w hSw
    (try dsimp only at hSw)
    go_simp
    try (with_reducible rfl)
   simp only[Act.put]
   refine anyTill.tk (i:=5) (v:=?_) rfl (Or.inl ⟨by rfl,?_⟩) hS ?_
   rotate_left
   ·intro w hSw
    (try dsimp only at hSw)
    go_simp
    try (with_reducible rfl)
   simp only[Act.put]
   refine anyTill.tk (i:=6) (v:=?_) rfl (Or.inl ⟨by rfl,?_⟩) hS ?_
   rotate_left
   ·intro w hSw
    (try dsimp only at hSw)
    go_simp
    try (with_reducible rfl)
   simp only[Act.put]
   refine anyTill.tk (i:=7) (v:=?_) rfl (Or.inl ⟨by rfl,?_⟩) hS ?_
   rotate_left
   ·intro w hSw
    (try dsimp only at hSw)
    go_simp
    try (with_reducible rfl)
   simp only[Act.put]
   refine anyTill.tk (i:=8) (v:=?_) rfl (Or.inl ⟨by rfl,?_⟩) hS ?_
   rotate_left
   ·intro w hSw
    (try dsimp only at hSw)
    go_simp
    try (with_reducible rfl)
   simp only[Act.put]
   refine anyTill.tk (i:=9) (v:=?_) rfl (Or.inl ⟨by rfl,?_⟩) hS ?_
   rotate_left
   ·intro w hSw
    (try dsimp only at hSw)
    go_simp
    try (with_reducible rfl)
   simp only[Act.put]
   refine anyTill.tk (i:=10) (v:=?_) rfl (Or.inl ⟨by rfl,?_⟩) hS ?_
   rotate_left
   ·intro w hSw
    (try dsimp only at hSw)
    go_simp
    try (with_reducible rfl)
   simp only[Act.put]
   refine anyTill.tk (i:=12) (v:=?_) rfl (Or.inl ⟨by rfl,?_⟩) hS ?_
   rotate_left
   ·intro w hSw
    (try dsimp only at hSw)
    go_simp
    try (with_reducible rfl)
   simp only[Act.put]
   refine anyTill.tk (i:=13) (v:=?_) rfl (Or.inl ⟨by rfl,?_⟩) hS ?_
   rotate_left
   ·intro w hSw
    (try dsimp only at hSw)
    go_simp
    try (with_reducible rfl)
   simp only[Act.put]
   refine anyTill.tk (i:=14) (v:=?_) rfl (Or.inl ⟨by rfl,?_⟩) hS ?_
   rotate_left
   ·intro w hSw
    (try dsimp only at hSw)
    go_simp
    try (with_reducible rfl)
   simp only[Act.put]
   refine anyTill.tk (i:=15) (v:=?_) rfl (Or.inl ⟨by rfl,?_⟩) hS ?_
   rotate_left
   ·intro w hSw
    (try dsimp only at hSw)
    go_simp
    try (with_reducible rfl)
   simp only[Act.put]
   refine anyTill.tk (i:=16) (v:=?_) rfl (Or.inl ⟨by rfl,?_⟩) hS ?_
   rotate_left
   ·intro w hSw
    (try dsimp only at hSw)
    go_simp
    try (with_reducible rfl)
   simp only[Act.put]
   refine anyTill.tk (i:=17) (v:=?_) rfl (Or.inl ⟨by rfl,?_⟩) hS ?_
   rotate_left
   ·intro w hSw
    (try dsimp only at hSw)
    go_simp
    try (with_reducible rfl)
   simp only[Act.put]
   refine anyTill.tk (i:=18) (v:=?_) rfl (Or.inl ⟨by rfl,?_⟩) hS ?_
   rotate_left
   ·intro w hSw
    (try dsimp only at hSw)
    go_simp
    try (with_reducible rfl)
   simp only[Act.put]
   refine anyTill.tk (i:=19) (v:=?_) rfl (Or.inl ⟨by rfl,?_⟩) hS ?_
   rotate_left
   ·intro w hSw
    (try dsimp only at hSw)
    go_simp
    try (with_reducible rfl)
   simp only[Act.put]
   refine anyTill.tk (i:=20) (v:=?_) rfl (Or.inl ⟨by rfl,?_⟩) hS ?_
   rotate_left
   ·intro w hSw
    (try dsimp only at hSw)
    go_simp
    try (with_reducible rfl)
   simp only[Act.put]
   refine anyTill.step (i:=11) rfl (by kernel_rfl) (fun K hK=>?_)
   go_simp
   refine (rproduct_any _ _ _ _ (Four.mk he hf hg hh rfl) (Four.mk hc0 hc1 hc2 hc3 rfl) _).mono ?_
   rintro r w1 ⟨v,rfl,hb1,hE1⟩
   obtain ⟨x0,x1,x2,x3,x4,x5,x6,x7,rfl,hx0,hx1,hx2,hx3,hx4,hx5,hx6,hx7,hxe⟩:=id hE1
   clear hxe hS
   have KP1:=KP.drew.call hb1
   clear hb1 KP
   refine hK.out _ _ (fun _=>lessS_of KP1) ?_
   clear hK K
   try simp only[Act.put,List.setIfInBounds_toArray,List.set_cons_zero,List.set_cons_succ]
   refine anyTill.step (i:=21) rfl (by kernel_rfl) (fun K hK=>?_)
   go_simp
   refine (rplus_any _ _ _ _ hE1 ⟨a,b,c,d,0,0,0,0,rfl,ha,hb,hc,hd,by decide,by decide,by decide,by decide,rfl⟩ (by have h1:=mul_lt_top (val_lt he hf hg hh) (val_lt hc0 hc1 hc2 hc3);have h2:=val_lt ha hb hc hd;have e0:val 0 0 0 0=0:=rfl;rw[e0,Nat.mul_zero,Nat.add_zero];omega) _).mono ?_
   rintro r w2 ⟨v,rfl,hb2,hE2⟩
   obtain ⟨y0,y1,y2,y3,y4,y5,y6,y7,rfl,hy0,hy1,hy2,hy3,hy4,hy5,hy6,hy7,hye⟩:=id hE2
   rw[show val 0 0 0 0=0 from rfl,Nat.mul_zero,Nat.add_zero] at hye
   have HY:Hid (_=_):=hye
   clear hye hE1 hE2
   have KP2:=KP1.call hb2
   clear hb2 KP1
   refine hK.out _ _ (fun _=>lessS_of KP2) ?_
   clear hK K
   try simp only[Act.put,List.setIfInBounds_toArray,List.set_cons_zero,List.set_cons_succ]
   have fr:At8 w2 k0 p0 p1 p2 p3 c0 c1 c2 c3:=⟨KP2.head.c0,KP2.head.c1,KP2.head.c2,KP2.head.c3,KP2.tail.head.c0,KP2.tail.head.c1,KP2.tail.head.c2,KP2.tail.head.c3,KP2.head.f⟩
   have wi:At8 w2 k1 a b c d e f g h:=⟨KP2.tail.tail.head.c0,KP2.tail.tail.head.c1,KP2.tail.tail.head.c2,KP2.tail.tail.head.c3,KP2.tail.tail.tail.head.c0,KP2.tail.tail.tail.head.c1,KP2.tail.tail.tail.head.c2,KP2.tail.tail.tail.head.c3,KP2.tail.tail.head.f⟩
   have re:At4 w2 k2 0 0 0 0:=KP2.tail.tail.tail.tail.head.at4
   have HB:Hid (Below k0 w w2):=KP2.bl
   clear KP2 wc0 wc1 wc2 wc3 wc4 wc5 wc6 wc7 wf z0 z1 z2
   obtain ⟨wc0,wc1,wc2,wc3,wc4,wc5,wc6,wc7,wf⟩:=id wi
   have z1:=wi.lt
   refine anyTill.step (i:=22) rfl (by kernel_rfl) (fun K hK=>?_)
   go_simp
   refine hK.out _ _ (fun h=>Bool.noConfusion h) ?_
   clear hK K
   try simp only[Act.put,List.setIfInBounds_toArray,List.set_cons_zero,List.set_cons_succ]
   refine anyTill.done (by kernel_rfl) ?_ _
   obtain ⟨q1,q2⟩:=H.out
   have q0:=H0.out
   subst q1 q2 q0
   go_wp2
   go_roundg (val y0 y1 y2 y3+top*val y4 y5 y6 y7)
   case measure=>rw[← HY.out];exact HL.out.1
   case rel =>
    refine ⟨y0,y1,y2,y3,y4,y5,y6,y7,⟨?_,?_,?_,?_,hy0,hy1,hy2,hy3,hy4,hy5,hy6,hy7⟩,rfl,?_⟩
    ·exact below_set8x HB.out Q1.out _ _ _ _ _ _ _ _
    ·exact At8.other8x fr n01.symm _ _ _ _ _ _ _ _
    ·exact At8.self8x wi y0 y1 y2 y3 y4 y5 y6 y7
    ·exact At4.other8x re n12 _ _ _ _ _ _ _ _
    ·unfold Hid
     rw[← HY.out,← HE.out]
     exact HL.out.2
end
section
open Go.RowKit Go.Sort
variable {P:Nat} [NeZero P] {N:Nat}
theorem mulS_of {w W:World} {k0 k1 k2 p0 p1 p2 p3 c0 c1 c2 c3 a b c d p q r s:Nat} (h:Kept w k0 [⟨k0,0,p0,p1,p2,p3⟩,⟨k0,4,c0,c1,c2,c3⟩,⟨k1,0,a,b,c,d⟩,⟨k2,0,p,q,r,s⟩] W):W.cell? ⟨k0,0,none⟩=some (.int .u64 p0)∧W.cell? ⟨k0,1,none⟩=some (.int .u64 p1)∧W.cell? ⟨k0,2,none⟩=some (.int .u64 p2)∧W.cell? ⟨k0,3,none⟩=some (.int .u64 p3)∧W.cell? ⟨k0,4,none⟩=some (.int .u64 c0)∧W.cell? ⟨k0,5,none⟩=some (.int .u64 c1)∧W.cell? ⟨k0,6,none⟩=some (.int .u64 c2)∧W.cell? ⟨k0,7,none⟩=some (.int .u64 c3)∧W.cell? ⟨k1,0,none⟩=some (.int .u64 a)∧W.cell? ⟨k1,1,none⟩=some (.int .u64 b)∧W.cell? ⟨k1,2,none⟩=some (.int .u64 c)∧W.cell? ⟨k1,3,none⟩=some (.int .u64 d)∧W.cell? ⟨k2,0,none⟩=some (.int .u64 p)∧W.cell? ⟨k2,1,none⟩=some (.int .u64 q)∧W.cell? ⟨k2,2,none⟩=some (.int .u64 r)∧W.cell? ⟨k2,3,none⟩=some (.int .u64 s)∧Kept w k0 [⟨k0,0,p0,p1,p2,p3⟩,⟨k0,4,c0,c1,c2,c3⟩,⟨k1,0,a,b,c,d⟩,⟨k2,0,p,q,r,s⟩] W:=
 ⟨h.head.c0,h.head.c1,h.head.c2,h.head.c3,h.tail.head.c0,h.tail.head.c1,h.tail.head.c2,h.tail.head.c3,h.tail.tail.head.c0,h.tail.tail.head.c1,h.tail.tail.head.c2,h.tail.tail.head.c3,h.tail.tail.tail.head.c0,h.tail.tail.tail.head.c1,h.tail.tail.tail.head.c2,h.tail.tail.tail.head.c3,h⟩
theorem rMul_any (p0 p1 p2 p3 c0 c1 c2 c3 P:Nat) (x y:Value) (m n:Nat) (hp0:p0<18446744073709551616) (hp1:p1<18446744073709551616) (hp2:p2<18446744073709551616) (hp3:p3<18446744073709551616)
 (hc0:c0<18446744073709551616) (hc1:c1<18446744073709551616) (hc2:c2<18446744073709551616) (hc3:c3<18446744073709551616) (eP:P=val p0 p1 p2 p3) (hP:P+val c0 c1 c2 c3=top) (hP2:top<2*P) (hx:Four x m) (hy:Four y n) (w:World) :
 Calls Tryz.prog 47 #[.agg #[.int .u64 p0,.int .u64 p1,.int .u64 p2,.int .u64 p3,.int .u64 c0,.int .u64 c1,.int .u64 c2,.int .u64 c3],x,y] w (Ret fun e w'=>Below w.heap.size w w'∧Four e (m*n%P)):=by
 obtain ⟨a,b,c,d,rfl,ha,hb,hc,hd,em⟩:=id hx
 obtain ⟨p,q,r,s,rfl,hp,hq,hr,hs,en⟩:=id hy
 have HX:Hid (Four _ _):=hx
 have HY:Hid (Four _ _):=hy
 have HL:Hid (∀ (v:Value) (k:Nat) (w:World),Eight v k→Calls Tryz.prog 57 #[.agg #[.int .u64 p0,.int .u64 p1,.int .u64 p2,.int .u64 p3,.int .u64 c0,.int .u64 c1,.int .u64 c2,.int .u64 c3],v] w (Ret fun e w'=>Below w.heap.size w w'∧Four e (k%P))):=
  fun v k w hv=>rLess_any p0 p1 p2 p3 c0 c1 c2 c3 P v k hp0 hp1 hp2 hp3 hc0 hc1 hc2 hc3 eP hP hP2 hv w
 clear em en hx hy ha hb hc hd hp hq hr hs hp0 hp1 hp2 hp3 hc0 hc1 hc2 hc3 eP hP hP2
 go_enter Tryz.func47,Tryz.ntmps47
 go_wp2_with fail
 have FR:=((((At8.made w 70 p0 p1 p2 p3 c0 c1 c2 c3 rfl).alloc (.cells #[.int .u64 a,.int .u64 b,.int .u64 c,.int .u64 d] 58)).alloc (.cells #[.int .u64 p,.int .u64 q,.int .u64 r,.int .u64 s] 58)).alloc (.cells #[.int .u64 0,.int .u64 0,.int .u64 0,.int .u64 0] 58))
 have X:=(((At4.made (w.alloc (.cells #[.int .u64 p0,.int .u64 p1,.int .u64 p2,.int .u64 p3,.int .u64 c0,.int .u64 c1,.int .u64 c2,.int .u64 c3] 70)) 58 a b c d (World.size_alloc _ _)).alloc (.cells #[.int .u64 p,.int .u64 q,.int .u64 r,.int .u64 s] 58)).alloc (.cells #[.int .u64 0,.int .u64 0,.int .u64 0,.int .u64 0] 58))
 have Y:=((At4.made ((w.alloc (.cells #[.int .u64 p0,.int .u64 p1,.int .u64 p2,.int .u64 p3,.int .u64 c0,.int .u64 c1,.int .u64 c2,.int .u64 c3] 70)).alloc (.cells #[.int .u64 a,.int .u64 b,.int .u64 c,.int .u64 d] 58)) 58 p q r s (k:=w.heap.size+1+1) (by simp)).alloc (.cells #[.int .u64 0,.int .u64 0,.int .u64 0,.int .u64 0] 58))
 have T3:=At4.made (((w.alloc (.cells #[.int .u64 p0,.int .u64 p1,.int .u64 p2,.int .u64 p3,.int .u64 c0,.int .u64 c1,.int .u64 c2,.int .u64 c3] 70)).alloc (.cells #[.int .u64 a,.int .u64 b,.int .u64 c,.int .u64 d] 58)).alloc (.cells #[.int .u64 p,.int .u64 q,.int .u64 r,.int .u64 s] 58)) 58 0 0 0 0 (k:=w.heap.size+1+1+1) (by simp)
 have KP:=((((Kept.mk1 (below4 w (.cells #[.int .u64 p0,.int .u64 p1,.int .u64 p2,.int .u64 p3,.int .u64 c0,.int .u64 c1,.int .u64 c2,.int .u64 c3] 70) (.cells #[.int .u64 a,.int .u64 b,.int .u64 c,.int .u64 d] 58) (.cells #[.int .u64 p,.int .u64 q,.int .u64 r,.int .u64 s] 58) (.cells #[.int .u64 0,.int .u64 0,.int .u64 0,.int .u64 0] 58)) (below4 w (.cells #[.int .u64 p0,.int .u64 p1,.int .u64 p2,.int .u64 p3,.int .u64 c0,.int .u64 c1,.int .u64 c2,.int .u64 c3] 70) (.cells #[.int .u64 a,.int .u64 b,.int .u64 c,.int .u64 d] 58) (.cells #[.int .u64 p,.int .u64 q,.int .u64 r,.int .u64 s] 58) (.cells #[.int .u64 0,.int .u64 0,.int .u64 0,.int .u64 0] 58)).size).cons Y.blk).cons X.blk).cons (x:=⟨w.heap.size,4,c0,c1,c2,c3⟩) ⟨FR.c4,FR.c5,FR.c6,FR.c7,FR.fz⟩).cons (x:=⟨w.heap.size,0,p0,p1,p2,p3⟩) ⟨FR.c0,FR.c1,FR.c2,FR.c3,FR.fz⟩
 simp only[Int.natCast_zero] at T3
 clear FR X Y
 generalize World.alloc _ _=W0 at KP T3 ⊢
 generalize h3:w.heap.size+1+1+1=k3 at T3 ⊢
 generalize h2:w.heap.size+1+1=k2 at KP ⊢
 generalize h1:w.heap.size+1=k1 at KP ⊢
 have Q3:Hid (w.heap.size≤k3):=by unfold Hid;omega
 generalize h0:w.heap.size=k0 at KP Q3 ⊢
 have H0:Hid (w.heap.size=k0):=h0
 have hl3:∀ x∈([⟨k0,0,p0,p1,p2,p3⟩,⟨k0,4,c0,c1,c2,c3⟩,⟨k1,0,a,b,c,d⟩,⟨k2,0,p,q,r,s⟩]:List Blk),k3≠x.k:=by simp only[List.mem_cons,List.not_mem_nil,or_false];rintro x (rfl|rfl|rfl|rfl)<;>simp only<;>omega
 clear h0 h1 h2 h3
 obtain ⟨tc0,tc1,tc2,tc3,tf⟩:=id T3
 have zt:=T3.lt
 go_region_held3 (fun w'=>w'.cell? ⟨k0,0,none⟩=some (.int .u64 p0)∧w'.cell? ⟨k0,1,none⟩=some (.int .u64 p1)∧w'.cell? ⟨k0,2,none⟩=some (.int .u64 p2)∧w'.cell? ⟨k0,3,none⟩=some (.int .u64 p3)∧w'.cell? ⟨k0,4,none⟩=some (.int .u64 c0)∧w'.cell? ⟨k0,5,none⟩=some (.int .u64 c1)∧w'.cell? ⟨k0,6,none⟩=some (.int .u64 c2)∧w'.cell? ⟨k0,7,none⟩=some (.int .u64 c3)∧w'.cell? ⟨k1,0,none⟩=some (.int .u64 a)∧w'.cell? ⟨k1,1,none⟩=some (.int .u64 b)∧w'.cell? ⟨k1,2,none⟩=some (.int .u64 c)∧w'.cell? ⟨k1,3,none⟩=some (.int .u64 d)∧w'.cell? ⟨k2,0,none⟩=some (.int .u64 p)∧w'.cell? ⟨k2,1,none⟩=some (.int .u64 q)∧w'.cell? ⟨k2,2,none⟩=some (.int .u64 r)∧w'.cell? ⟨k2,3,none⟩=some (.int .u64 s)∧Kept w k0 [⟨k0,0,p0,p1,p2,p3⟩,⟨k0,4,c0,c1,c2,c3⟩,⟨k1,0,a,b,c,d⟩,⟨k2,0,p,q,r,s⟩] w') (first|(with_reducible exact mulS_of KP)|(with_reducible exact mulS_of KP.drew)|(with_reducible exact mulS_of (KP.set4' Q3.out hl3 _ _ _ _))|(with_reducible exact mulS_of (KP.set4' Q3.out hl3 _ _ _ _).drew)|fail) (first|(go_at_call 56;refine (rproduct_any _ _ _ _ HX.out HY.out _).mono ?_;rintro e w1 ⟨v,rfl,hb1,hE1⟩;obtain ⟨x0,x1,x2,x3,x4,x5,x6,x7,rfl,hx0,hx1,hx2,hx3,hx4,hx5,hx6,hx7,hxe⟩:=id hE1;clear hxe;have HE1:Hid (Eight _ _):=hE1;clear hE1;have KP1:=KP.drew.call hb1;have T1:=T3.drew.call hb1;clear KP T3 hb1;have KP:=KP1;have T3:=T1;clear KP1 T1;obtain ⟨tc0,tc1,tc2,tc3,tf⟩:=id T3;have zt:=T3.lt)|(go_at_call 57;refine (HL.out _ _ _ HE1.out).mono ?_;rintro e w2 ⟨v,rfl,hb2,hF3⟩;obtain ⟨a',b',c',d',rfl,ha',hb',hc',hd',es3⟩:=id hF3;clear es3;have HF3:Hid (Four _ _):=hF3;clear hF3;have KP1:=KP.call hb2;have T1:=T3.call hb2;clear KP T3 hb2;have KP:=KP1;have T3:=T1;clear KP1 T1;obtain ⟨tc0,tc1,tc2,tc3,tf⟩:=id T3;have zt:=T3.lt))
 go_wp2
 have RF:=T3.self4 a' b' c' d'
 unfold set4 at RF
 refine bodyPost_ret (v:=?v) ?hr rfl ?hR
 case hr=>simp[results,Tryz.results47,go_sem,RF.c0,RF.c1,RF.c2,RF.c3];rfl
 refine ⟨_,rfl,?_,HF3.out⟩
 rw[H0.out]
 exact below_set4 KP.bl Q3.out _ _ _ _
theorem Four.eight {a b c d m:Nat} (h:Four (.agg #[.int .u64 a,.int .u64 b,.int .u64 c,.int .u64 d]) m) :
 Eight (.agg #[.int .u64 a,.int .u64 b,.int .u64 c,.int .u64 d,.int .u64 0,.int .u64 0,.int .u64 0,.int .u64 0]) m:=by
 obtain ⟨p,q,r,s,e,hp,hq,hr,hs,rfl⟩:=h
 simp only[Value.agg.injEq,Array.mk.injEq,List.cons.injEq,Value.int.injEq,true_and,and_true,Int.ofNat_inj] at e
 obtain ⟨rfl,rfl,rfl,rfl⟩:=e
 exact ⟨a,b,c,d,0,0,0,0,rfl,hp,hq,hr,hs,by decide,by decide,by decide,by decide,rfl⟩
theorem add_bound {v u:Value} {m n:Nat} (hx:Four v m) (hy:Four u n):m+n<top*top:=by
 have h1:=hx.lt
 have h2:=hy.lt
 have h3:top+top≤top*top:=by unfold top;decide
 omega
theorem rAdd_any (p0 p1 p2 p3 c0 c1 c2 c3 P:Nat) (x y:Value) (m n:Nat) (hp0:p0<18446744073709551616) (hp1:p1<18446744073709551616) (hp2:p2<18446744073709551616) (hp3:p3<18446744073709551616)
 (hc0:c0<18446744073709551616) (hc1:c1<18446744073709551616) (hc2:c2<18446744073709551616) (hc3:c3<18446744073709551616) (eP:P=val p0 p1 p2 p3) (hP:P+val c0 c1 c2 c3=top) (hP2:top<2*P) (hx:Four x m) (hy:Four y n) (w:World) :
 Calls Tryz.prog 101 #[.agg #[.int .u64 p0,.int .u64 p1,.int .u64 p2,.int .u64 p3,.int .u64 c0,.int .u64 c1,.int .u64 c2,.int .u64 c3],x,y] w (Ret fun e w'=>Below w.heap.size w w'∧Four e ((m+n)%P)):=by
 obtain ⟨a,b,c,d,rfl,ha,hb,hc,hd,em⟩:=id hx
 obtain ⟨p,q,r,s,rfl,hp,hq,hr,hs,en⟩:=id hy
 have HX:Hid (Four _ _):=hx
 have HY:Hid (Four _ _):=hy
 have HL:Hid (∀ (v:Value) (k:Nat) (w:World),Eight v k→Calls Tryz.prog 57 #[.agg #[.int .u64 p0,.int .u64 p1,.int .u64 p2,.int .u64 p3,.int .u64 c0,.int .u64 c1,.int .u64 c2,.int .u64 c3],v] w (Ret fun e w'=>Below w.heap.size w w'∧Four e (k%P))):=
  fun v k w hv=>rLess_any p0 p1 p2 p3 c0 c1 c2 c3 P v k hp0 hp1 hp2 hp3 hc0 hc1 hc2 hc3 eP hP hP2 hv w
 clear em en hx hy ha hb hc hd hp hq hr hs hp0 hp1 hp2 hp3 hc0 hc1 hc2 hc3 eP hP hP2
 go_enter Tryz.func101,Tryz.ntmps101
 go_wp2_with fail
 have FR:=((((At8.made w 70 p0 p1 p2 p3 c0 c1 c2 c3 rfl).alloc (.cells #[.int .u64 a,.int .u64 b,.int .u64 c,.int .u64 d] 58)).alloc (.cells #[.int .u64 p,.int .u64 q,.int .u64 r,.int .u64 s] 58)).alloc (.cells #[.int .u64 0,.int .u64 0,.int .u64 0,.int .u64 0] 58))
 have X:=(((At4.made (w.alloc (.cells #[.int .u64 p0,.int .u64 p1,.int .u64 p2,.int .u64 p3,.int .u64 c0,.int .u64 c1,.int .u64 c2,.int .u64 c3] 70)) 58 a b c d (World.size_alloc _ _)).alloc (.cells #[.int .u64 p,.int .u64 q,.int .u64 r,.int .u64 s] 58)).alloc (.cells #[.int .u64 0,.int .u64 0,.int .u64 0,.int .u64 0] 58))
 have Y:=((At4.made ((w.alloc (.cells #[.int .u64 p0,.int .u64 p1,.int .u64 p2,.int .u64 p3,.int .u64 c0,.int .u64 c1,.int .u64 c2,.int .u64 c3] 70)).alloc (.cells #[.int .u64 a,.int .u64 b,.int .u64 c,.int .u64 d] 58)) 58 p q r s (k:=w.heap.size+1+1) (by simp)).alloc (.cells #[.int .u64 0,.int .u64 0,.int .u64 0,.int .u64 0] 58))
 have T3:=At4.made (((w.alloc (.cells #[.int .u64 p0,.int .u64 p1,.int .u64 p2,.int .u64 p3,.int .u64 c0,.int .u64 c1,.int .u64 c2,.int .u64 c3] 70)).alloc (.cells #[.int .u64 a,.int .u64 b,.int .u64 c,.int .u64 d] 58)).alloc (.cells #[.int .u64 p,.int .u64 q,.int .u64 r,.int .u64 s] 58)) 58 0 0 0 0 (k:=w.heap.size+1+1+1) (by simp)
 have KP:=((((Kept.mk1 (below4 w (.cells #[.int .u64 p0,.int .u64 p1,.int .u64 p2,.int .u64 p3,.int .u64 c0,.int .u64 c1,.int .u64 c2,.int .u64 c3] 70) (.cells #[.int .u64 a,.int .u64 b,.int .u64 c,.int .u64 d] 58) (.cells #[.int .u64 p,.int .u64 q,.int .u64 r,.int .u64 s] 58) (.cells #[.int .u64 0,.int .u64 0,.int .u64 0,.int .u64 0] 58)) (below4 w (.cells #[.int .u64 p0,.int .u64 p1,.int .u64 p2,.int .u64 p3,.int .u64 c0,.int .u64 c1,.int .u64 c2,.int .u64 c3] 70) (.cells #[.int .u64 a,.int .u64 b,.int .u64 c,.int .u64 d] 58) (.cells #[.int .u64 p,.int .u64 q,.int .u64 r,.int .u64 s] 58) (.cells #[.int .u64 0,.int .u64 0,.int .u64 0,.int .u64 0] 58)).size).cons Y.blk).cons X.blk).cons (x:=⟨w.heap.size,4,c0,c1,c2,c3⟩) ⟨FR.c4,FR.c5,FR.c6,FR.c7,FR.fz⟩).cons (x:=⟨w.heap.size,0,p0,p1,p2,p3⟩) ⟨FR.c0,FR.c1,FR.c2,FR.c3,FR.fz⟩
 simp only[Int.natCast_zero] at T3
 clear FR X Y
 generalize World.alloc _ _=W0 at KP T3 ⊢
 generalize h3:w.heap.size+1+1+1=k3 at T3 ⊢
 generalize h2:w.heap.size+1+1=k2 at KP ⊢
 generalize h1:w.heap.size+1=k1 at KP ⊢
 have Q3:Hid (w.heap.size≤k3):=by unfold Hid;omega
 generalize h0:w.heap.size=k0 at KP Q3 ⊢
 have H0:Hid (w.heap.size=k0):=h0
 have hl3:∀ x∈([⟨k0,0,p0,p1,p2,p3⟩,⟨k0,4,c0,c1,c2,c3⟩,⟨k1,0,a,b,c,d⟩,⟨k2,0,p,q,r,s⟩]:List Blk),k3≠x.k:=by simp only[List.mem_cons,List.not_mem_nil,or_false];rintro x (rfl|rfl|rfl|rfl)<;>simp only<;>omega
 clear h0 h1 h2 h3
 obtain ⟨tc0,tc1,tc2,tc3,tf⟩:=id T3
 have zt:=T3.lt
 go_region_held3 (fun w'=>w'.cell? ⟨k0,0,none⟩=some (.int .u64 p0)∧w'.cell? ⟨k0,1,none⟩=some (.int .u64 p1)∧w'.cell? ⟨k0,2,none⟩=some (.int .u64 p2)∧w'.cell? ⟨k0,3,none⟩=some (.int .u64 p3)∧w'.cell? ⟨k0,4,none⟩=some (.int .u64 c0)∧w'.cell? ⟨k0,5,none⟩=some (.int .u64 c1)∧w'.cell? ⟨k0,6,none⟩=some (.int .u64 c2)∧w'.cell? ⟨k0,7,none⟩=some (.int .u64 c3)∧w'.cell? ⟨k1,0,none⟩=some (.int .u64 a)∧w'.cell? ⟨k1,1,none⟩=some (.int .u64 b)∧w'.cell? ⟨k1,2,none⟩=some (.int .u64 c)∧w'.cell? ⟨k1,3,none⟩=some (.int .u64 d)∧w'.cell? ⟨k2,0,none⟩=some (.int .u64 p)∧w'.cell? ⟨k2,1,none⟩=some (.int .u64 q)∧w'.cell? ⟨k2,2,none⟩=some (.int .u64 r)∧w'.cell? ⟨k2,3,none⟩=some (.int .u64 s)∧Kept w k0 [⟨k0,0,p0,p1,p2,p3⟩,⟨k0,4,c0,c1,c2,c3⟩,⟨k1,0,a,b,c,d⟩,⟨k2,0,p,q,r,s⟩] w') (first|(with_reducible exact mulS_of KP)|(with_reducible exact mulS_of KP.drew)|(with_reducible exact mulS_of (KP.set4' Q3.out hl3 _ _ _ _))|(with_reducible exact mulS_of (KP.set4' Q3.out hl3 _ _ _ _).drew)|fail) (first|(go_at_call 58;refine (rplus_any _ _ _ _ (Four.eight HX.out) (Four.eight HY.out) (add_bound HX.out HY.out) _).mono ?_;rintro e w1 ⟨v,rfl,hb1,hE1⟩;obtain ⟨x0,x1,x2,x3,x4,x5,x6,x7,rfl,hx0,hx1,hx2,hx3,hx4,hx5,hx6,hx7,hxe⟩:=id hE1;clear hxe;have HE1:Hid (Eight _ _):=hE1;clear hE1;have KP1:=KP.drew.call hb1;have T1:=T3.drew.call hb1;clear KP T3 hb1;have KP:=KP1;have T3:=T1;clear KP1 T1;obtain ⟨tc0,tc1,tc2,tc3,tf⟩:=id T3;have zt:=T3.lt)|(go_at_call 57;refine (HL.out _ _ _ HE1.out).mono ?_;rintro e w2 ⟨v,rfl,hb2,hF3⟩;obtain ⟨a',b',c',d',rfl,ha',hb',hc',hd',es3⟩:=id hF3;clear es3;have HF3:Hid (Four _ _):=hF3;clear hF3;have KP1:=KP.call hb2;have T1:=T3.call hb2;clear KP T3 hb2;have KP:=KP1;have T3:=T1;clear KP1 T1;obtain ⟨tc0,tc1,tc2,tc3,tf⟩:=id T3;have zt:=T3.lt))
 go_wp2
 have RF:=T3.self4 a' b' c' d'
 unfold set4 at RF
 refine bodyPost_ret (v:=?v) ?hr rfl ?hR
 case hr=>simp[results,Tryz.results101,go_sem,RF.c0,RF.c1,RF.c2,RF.c3];rfl
 refine ⟨_,rfl,?_,HF3.out⟩
 rw[H0.out]
 exact below_set4 KP.bl Q3.out _ _ _ _
theorem rBelow_any (x y:Value) (m n:Nat) (hx:Four x m) (hy:Four y n) (w:World) :
 Calls Tryz.prog 71 #[x,y] w (Ret fun e w'=>Below w.heap.size w w'∧e=.bool (decide (m<n))):=by
 obtain ⟨a,b,c,d,rfl,ha,hb,hc,hd,em⟩:=id hx
 obtain ⟨p,q,r,s,rfl,hp,hq,hr,hs,en⟩:=id hy
 have HX:Hid (Four _ _):=hx
 have HY:Hid (Four _ _):=hy
 clear em en hx hy ha hb hc hd hp hq hr hs
 go_enter Tryz.func71,Tryz.ntmps71
 go_wp2_with fail
 refine (rless_any _ _ _ _ HX.out HY.out _).mono ?_
 rintro e w1 ⟨v,rfl,hb1,v2,t,k,rfl,hF,hk,he⟩
 have HB:Hid (Below w.heap.size w w1):=(below2 w _ _).trans (hb1.mono (below2 w _ _).size)
 have hd:decide (m<n)=decide (k=1):=by
  have h1:=hF.lt
  have h2:=HX.out.lt
  have h3:=HY.out.lt
  have:k=0∨k=1:=by omega
  rcases this with rfl|rfl
  ·rw[decide_eq_false (by omega),decide_eq_false (by omega)]
  ·rw[decide_eq_true (by omega),decide_eq_true rfl]
 have HD:Hid (decide (m<n)=decide (k=1)):=hd
 obtain ⟨a',b',c',d',rfl,ha',hb',hc',hd',es⟩:=id hF
 clear es hF he hd hb1
 have:k=0∨k=1:=by omega
 rcases this with rfl|rfl
 ·go_wp2
  go_ret
  exact ⟨_,rfl,HB.out.alloc HB.out.size _,by rw[HD.out];rfl⟩
 ·go_wp2
  go_ret
  exact ⟨_,rfl,HB.out.alloc HB.out.size _,by rw[HD.out];rfl⟩
end
section
open Go.RowKit Go.Sort Go.Deep
variable {P:Nat} [NeZero P] {N:Nat}
theorem At4.setq {w:World} {k a b c d:Nat} (h:At4 w k a b c d) (q o:Nat) (hq:q<4) :
 At4 (w.setCell ⟨k,q,none⟩ (.int .u64 o)) k (if q=0 then o else a) (if q=1 then o else b) (if q=2 then o else c) (if q=3 then o else d):=by
 have h':q=0∨q=1∨q=2∨q=3:=by omega
 rcases h' with rfl|rfl|rfl|rfl
 ·exact h.set0 o
 ·exact h.set1 o
 ·exact h.set2 o
 ·exact h.set3 o
theorem of_word {a b c d M k B:Nat} (ha:a<18446744073709551616) (hb:b<18446744073709551616) (hc:c<18446744073709551616) (hd:d<18446744073709551616) (hk:k<32) (hB:B<256) (hv:val a b c d=M*256^(k+1)) :
 bits .or .u64 (wd a b c d (k/8):Int) ((B*2^(8*(k%8)):Nat):Int)=((wd a b c d (k/8)+B*2^(8*(k%8)):Nat):Int)∧wd a b c d (k/8)+B*2^(8*(k%8))<18446744073709551616:=by
 have h1:wd a b c d (k/8)=256^(k%8+1)*(M%256^(7-k%8)):=by
  rw[wd_eq (k/8) (by omega) ha hb hc hd,hv,of_div rfl rfl]
 obtain ⟨h2,h3⟩:=of_or (y:=M%256^(7-k%8)) (x:=B) (r:=k%8) (by omega) hB (Nat.mod_lt _ (Nat.pow_pos (by decide)))
 rw[h1]
 refine ⟨?_,h3⟩
 rw[bits_or_u64_nat _ _ (by omega) (by omega),h2]
theorem of_step {a b c d k B o:Nat} (hk:k<32) (ho:o=wd a b c d (k/8)+B*2^(8*(k%8))) :
 val (if k/8=0 then o else a) (if k/8=1 then o else b) (if k/8=2 then o else c) (if k/8=3 then o else d)=val a b c d+B*256^k:=by
 have h:=val_set a b c d (k/8) o (by omega)
 have e:(256:Nat)^k=2^(64*(k/8))*2^(8*(k%8)):=by
  rw[← Nat.pow_add,show 64*(k/8)+8*(k%8)=8*k by omega,Nat.pow_mul]
 rw[ho,Nat.mul_add,← Nat.mul_assoc,Nat.mul_comm (2^(64*(k/8))) B,Nat.mul_assoc,← e] at h
 rw[ho]
 omega
theorem beV_next (s:ByteArray) (i:Nat) (hi:i<s.size):beV (s.data.extract 0 (i+1)).toList=beV (s.data.extract 0 i).toList*256+s[i].toNat:=by
 have e:(s.data.extract 0 (i+1)).toList=(s.data.extract 0 i).toList++[s[i]]:=by
  rw[Array.extract_succ_right (by omega) hi,Array.toList_push]
  rfl
 rw[e,beV_append]
 simp[beV]
theorem rOf_any (s:ByteArray) (hs:s.size=32) (w:World) :
 Calls Tryz.prog 70 #[.string s] w (Ret fun e w'=>Below w.heap.size w w'∧Four e (beV s.data.toList)):=by
 go_enter Tryz.func70,Tryz.ntmps70
 go_wp2
 have KP:=((Kept.mk1 (below2 w (.cells #[.int .u64 0,.int .u64 0,.int .u64 0,.int .u64 0] 58) (.cells #[.int .u64 0,.int .u64 0,.int .u64 0,.int .u64 0] 58)) (below2 w _ _).size).cons ((At4.made w 58 0 0 0 0 rfl).alloc (.cells #[.int .u64 0,.int .u64 0,.int .u64 0,.int .u64 0] 58)).blk).cons (At4.made (w.alloc (.cells #[.int .u64 0,.int .u64 0,.int .u64 0,.int .u64 0] 58)) 58 0 0 0 0 (World.size_alloc _ _)).blk
 generalize World.alloc _ _=W0 at KP ⊢
 generalize h1:w.heap.size+1=k1 at KP ⊢
 have n10:k1≠w.heap.size:=by omega
 have Q1:Hid (w.heap.size≤k1):=by unfold Hid;omega
 clear h1
 go_loopg [4] 32 (fun gk s4 wr=>∃ i a b c d:Nat,i+gk=32∧s4=.int .i64 i∧Kept w w.heap.size [⟨k1,0,a,b,c,d⟩,⟨w.heap.size,0,0,0,0,0⟩] wr∧Hid (Four (.agg #[.int .u64 a,.int .u64 b,.int .u64 c,.int .u64 d]) (beV (s.data.extract 0 i).toList*256^(32-i))))
 case atStart =>
  refine ⟨0,0,0,0,0,rfl,rfl,KP,?_⟩
  have:beV (s.data.extract 0 0).toList=0:=by simp[beV]
  rw[this,Nat.zero_mul]
  exact Four.mk (by decide) (by decide) (by decide) (by decide) rfl
 case round =>
  clear KP
  obtain ⟨i,a,b,c,d,hi,rfl,KP,HF⟩:=hrel
  by_cases hlt:i<32
  ·obtain ⟨k,hk⟩:∃ k,31-i=k:=⟨_,rfl⟩
   have hk32:k<32:=by omega
   have hi32:i<s.size:=by omega
   have hF:val a b c d=beV (s.data.extract 0 i).toList*256^(k+1)∧a<18446744073709551616∧b<18446744073709551616∧c<18446744073709551616∧d<18446744073709551616:=by
    obtain ⟨a',b',c',d',e',h1,h2,h3,h4,h5⟩:=HF.out
    obtain ⟨rfl,rfl,rfl,rfl⟩:a'=a∧b'=b∧c'=c∧d'=d:=by
     simp only[Value.agg.injEq,Array.mk.injEq,List.cons.injEq,Value.int.injEq,true_and,and_true,Int.ofNat_inj] at e'
     exact ⟨e'.1.symm,e'.2.1.symm,e'.2.2.1.symm,e'.2.2.2.symm⟩
    exact ⟨by rw[← h5,show 32-i=k+1 by omega],h1,h2,h3,h4⟩
   obtain ⟨B,hB⟩:∃ B,s[i].toNat=B:=⟨_,rfl⟩
   have hB256:B<256:=hB ▸ s[i].toNat_lt
   have hsb:IntKind.u64.wrap (s[i].toNat:Int)=(B:Int):=by rw[hB];exact wrapN _ (by omega)
   obtain ⟨hor,hol⟩:=of_word hF.2.1 hF.2.2.1 hF.2.2.2.1 hF.2.2.2.2 hk32 hB256 hF.1
   have xw:=KP.head.at4.wd (k/8) (by omega)
   obtain ⟨o,ho⟩:∃ o,wd a b c d (k/8)+B*2^(8*(k%8))=o:=⟨_,rfl⟩
   rw[ho] at hor hol
   have hst:=of_step (a:=a) (b:=b) (c:=c) (d:=d) hk32 ho.symm
   have HST:Hid (Four (.agg #[.int .u64 ((if k/8=0 then o else a:Nat):Int),.int .u64 ((if k/8=1 then o else b:Nat):Int),.int .u64 ((if k/8=2 then o else c:Nat):Int),.int .u64 ((if k/8=3 then o else d:Nat):Int)]) (beV (s.data.extract 0 (i+1)).toList*256^(32-(i+1)))):=by
    refine Four.mk ?_ ?_ ?_ ?_ ?_
    ·split;exact hol;exact hF.2.1
    ·split;exact hol;exact hF.2.2.1
    ·split;exact hol;exact hF.2.2.2.1
    ·split;exact hol;exact hF.2.2.2.2
    ·rw[hst,hF.1,beV_next s i hi32,hB,show 32-(i+1)=k by omega,Nat.add_mul,Nat.pow_succ,Nat.mul_assoc,Nat.mul_comm (256^k) 256]
   obtain ⟨y,hy⟩:∃ y,B*2^(8*(k%8))=y:=⟨_,rfl⟩
   have hyl:y<18446744073709551616:=by omega
   rw[hy] at hor
   obtain ⟨v,hv⟩:∃ v,wd a b c d (k/8)=v:=⟨_,rfl⟩
   rw[hv] at hor xw
   obtain ⟨q,hq⟩:∃ q,k/8=q:=⟨_,rfl⟩
   obtain ⟨r,hr⟩:∃ r,k%8=r:=⟨_,rfl⟩
   obtain ⟨t,ht⟩:∃ t,8*r=t:=⟨_,rfl⟩
   have hq4:q<4:=by omega
   have PT:=fun (v:Value)=>KP.tail.set (j:=k1) (i:=q) Q1.out (by simp only[List.mem_cons,List.not_mem_nil,or_false];rintro x rfl;exact n10) v
   rw[hq] at xw HST
   have hsh:IntKind.u64.wrap ((B:Int)*2^t)=(y:Int):=by
    rw[← ht,← hr,← hy,Int.natCast_mul,Int.natCast_pow]
    have:=wrapN (B*2^(8*(k%8))) (by omega)
    rw[Int.natCast_mul,Int.natCast_pow] at this
    exact this
   have i1:(31:Int)-(i:Int)=(k:Int):=by omega
   have i2:(k:Int).tdiv 8=(q:Int):=by rw[Int.tdiv_eq_ediv_of_nonneg (by omega)];omega
   have i3:(k:Int).tmod 8=(r:Int):=by rw[Int.tmod_eq_emod_of_nonneg (by omega)];omega
   have i4:(q:Int)<4:=by omega
   have i5:IntKind.i64.wrap (q:Int)=(q:Int):=wrap_i _ (by omega)
   have i6:IntKind.i64.wrap (r:Int)=(r:Int):=wrap_i _ (by omega)
   have i7:(8:Int)*(r:Int)=(t:Int):=by omega
   have i8:IntKind.i64.wrap (t:Int)=(t:Int):=wrap_i _ (by omega)
   have i9:t<64:=by omega
   have i10:(t:Int)<64:=by omega
   have hlt':(i:Int)<32:=by omega
   have T1:=KP.head.at4.setq q o hq4
   have z1:=KP.head.lt
   have xf:=KP.head.f
   have HSB:Hid (s[i].toNat=B):=hB
   have H4:Hid (q<4):=hq4
   clear hy hv hq hr ht ho hst hF hB HF
   go_wp2
   go_region
   go_wp2
   go_roundg (gk-1)
   case measure=>omega
   case rel =>
    refine ⟨i+1,_,_,_,_,by omega,rfl,?_,HST⟩
    exact ((PT _).cons T1.blk).drew
  ·have hi32:i=32:=by omega
   subst hi32
   have hse:s.data.extract 0 32=s.data:=by
    have h2:s.data.size=32:=hs
    rw[← h2]
    exact Array.extract_size
   have h1:=HF.out
   rw[Nat.sub_self,Nat.pow_zero,Nat.mul_one,hse] at h1
   have HFE:Hid (Four _ _):=h1
   clear h1 hse
   obtain ⟨nc0,nc1,nc2,nc3,nf⟩:=KP.head.at4
   obtain ⟨rc0,rc1,rc2,rc3,rf⟩:=KP.tail.head.at4
   have z1:=KP.head.lt
   have z0:=KP.tail.head.lt
   clear HF
   go_wp2
   have RF:=KP.tail.head.at4.self4 a b c d
   unfold set4 at RF
   refine bodyPost_ret (v:=?v) ?hr rfl ?hR
   case hr=>simp[results,Tryz.results70,go_sem,RF.c0,RF.c1,RF.c2,RF.c3];rfl
   exact ⟨_,rfl,below_set4 KP.bl (Nat.le_refl _) _ _ _ _,HFE.out⟩
theorem keptF3 (w:World) (p0 p1 p2 p3 c0 c1 c2 c3 a b c d p q r s:Nat) :
 Kept w w.heap.size [⟨w.heap.size,0,p0,p1,p2,p3⟩,⟨w.heap.size,4,c0,c1,c2,c3⟩,⟨w.heap.size+1,0,a,b,c,d⟩,⟨w.heap.size+1+1,0,p,q,r,s⟩,⟨w.heap.size+1+1+1,0,0,0,0,0⟩]
  ((((w.alloc (.cells #[.int .u64 p0,.int .u64 p1,.int .u64 p2,.int .u64 p3,.int .u64 c0,.int .u64 c1,.int .u64 c2,.int .u64 c3] 70)).alloc (.cells #[.int .u64 a,.int .u64 b,.int .u64 c,.int .u64 d] 58)).alloc (.cells #[.int .u64 p,.int .u64 q,.int .u64 r,.int .u64 s] 58)).alloc (.cells #[.int .u64 0,.int .u64 0,.int .u64 0,.int .u64 0] 58)):=by
 have F:=(((At8.made w 70 p0 p1 p2 p3 c0 c1 c2 c3 rfl).alloc (.cells #[.int .u64 a,.int .u64 b,.int .u64 c,.int .u64 d] 58)).alloc (.cells #[.int .u64 p,.int .u64 q,.int .u64 r,.int .u64 s] 58)).alloc (.cells #[.int .u64 0,.int .u64 0,.int .u64 0,.int .u64 0] 58)
 refine (((((Kept.mk1 (below4 w _ _ _ _) (below4 w _ _ _ _).size).cons ?_).cons ?_).cons ?_).cons ?_).cons ?_
 ·exact (At4.made _ 58 0 0 0 0 (by simp)).blk
 ·exact ((At4.made _ 58 p q r s (by simp)).alloc _).blk
 ·exact (((At4.made _ 58 a b c d (by simp)).alloc _).alloc _).blk
 ·exact ⟨F.c4,F.c5,F.c6,F.c7,F.fz⟩
 ·exact ⟨F.c0,F.c1,F.c2,F.c3,F.fz⟩
theorem keptF2 (w:World) (p0 p1 p2 p3 c0 c1 c2 c3 a b c d:Nat) :
 Kept w w.heap.size [⟨w.heap.size,0,p0,p1,p2,p3⟩,⟨w.heap.size,4,c0,c1,c2,c3⟩,⟨w.heap.size+1,0,a,b,c,d⟩,⟨w.heap.size+1+1,0,0,0,0,0⟩]
  (((w.alloc (.cells #[.int .u64 p0,.int .u64 p1,.int .u64 p2,.int .u64 p3,.int .u64 c0,.int .u64 c1,.int .u64 c2,.int .u64 c3] 70)).alloc (.cells #[.int .u64 a,.int .u64 b,.int .u64 c,.int .u64 d] 58)).alloc (.cells #[.int .u64 0,.int .u64 0,.int .u64 0,.int .u64 0] 58)):=by
 have F:=((At8.made w 70 p0 p1 p2 p3 c0 c1 c2 c3 rfl).alloc (.cells #[.int .u64 a,.int .u64 b,.int .u64 c,.int .u64 d] 58)).alloc (.cells #[.int .u64 0,.int .u64 0,.int .u64 0,.int .u64 0] 58)
 refine ((((Kept.mk1 (below3 w _ _ _) (below3 w _ _ _).size).cons ?_).cons ?_).cons ?_).cons ?_
 ·exact (At4.made _ 58 0 0 0 0 (by simp)).blk
 ·exact ((At4.made _ 58 a b c d (by simp)).alloc _).blk
 ·exact ⟨F.c4,F.c5,F.c6,F.c7,F.fz⟩
 ·exact ⟨F.c0,F.c1,F.c2,F.c3,F.fz⟩
theorem keptF1 (w:World) (p0 p1 p2 p3 c0 c1 c2 c3:Nat) :
 Kept w w.heap.size [⟨w.heap.size,0,p0,p1,p2,p3⟩,⟨w.heap.size,4,c0,c1,c2,c3⟩,⟨w.heap.size+1,0,0,0,0,0⟩] ((w.alloc (.cells #[.int .u64 p0,.int .u64 p1,.int .u64 p2,.int .u64 p3,.int .u64 c0,.int .u64 c1,.int .u64 c2,.int .u64 c3] 70)).alloc (.cells #[.int .u64 0,.int .u64 0,.int .u64 0,.int .u64 0] 58)):=by
 have F:=(At8.made w 70 p0 p1 p2 p3 c0 c1 c2 c3 rfl).alloc (.cells #[.int .u64 0,.int .u64 0,.int .u64 0,.int .u64 0] 58)
 refine (((Kept.mk1 (below2 w _ _) (below2 w _ _).size).cons ?_).cons ?_).cons ?_
 ·exact (At4.made _ 58 0 0 0 0 (by simp)).blk
 ·exact ⟨F.c4,F.c5,F.c6,F.c7,F.fz⟩
 ·exact ⟨F.c0,F.c1,F.c2,F.c3,F.fz⟩
theorem rNumber_any (p0 p1 p2 p3 c0 c1 c2 c3 P:Nat) (x:ByteArray) (hR:RefP p0 p1 p2 p3 c0 c1 c2 c3 P) (w:World) :
 Calls Tryz.prog 41 #[.agg #[.int .u64 p0,.int .u64 p1,.int .u64 p2,.int .u64 p3,.int .u64 c0,.int .u64 c1,.int .u64 c2,.int .u64 c3],.string x] w (Ret fun e w'=>Below w.heap.size w w'∧∃ (a b c d:Nat) (ok:Bool),e=.tuple #[.agg #[.int .u64 a,.int .u64 b,.int .u64 c,.int .u64 d],.bool ok]∧(ok=true→IsNum P x.data∧Four (.agg #[.int .u64 a,.int .u64 b,.int .u64 c,.int .u64 d]) (beV x.data.toList))∧(ok=false→¬ IsNum P x.data)∧(x.size=32→Four (.agg #[.int .u64 a,.int .u64 b,.int .u64 c,.int .u64 d]) (beV x.data.toList))∧(¬ x.size=32→a=0∧b=0∧c=0∧d=0)):=by
 have HR:Hid (RefP p0 p1 p2 p3 c0 c1 c2 c3 P):=hR
 clear hR
 by_cases hs:x.size=32
 ·have HS:Hid (x.size=32):=hs
  have hs':(x.size:Int)=32:=by omega
  clear hs
  go_enter Tryz.func41,Tryz.ntmps41
  go_wp2_with fail
  have KP:=keptF1 w p0 p1 p2 p3 c0 c1 c2 c3
  generalize World.alloc _ _=W0 at KP ⊢
  refine (rOf_any x HS.out _).mono ?_
  rintro e w1 ⟨v,rfl,hb1,hF⟩
  obtain ⟨a,b,c,d,rfl,ha,hb,hc,hd,es⟩:=id hF
  have HF:Hid (Four _ _):=hF
  replace KP:=KP.call hb1
  clear hF es hb1 ha hb hc hd
  obtain ⟨pc0,pc1,pc2,pc3,pf⟩:=KP.head.at4
  have z0:=KP.head.lt
  have n0:w.heap.size≠w1.heap.size:=Nat.ne_of_lt z0
  go_wp2_with fail
  refine (rBelow_any _ _ _ _ HF.out (Four.mk HR.out.hp0 HR.out.hp1 HR.out.hp2 HR.out.hp3 HR.out.eP) _).mono ?_
  rintro e w2 ⟨v,rfl,hb2,rfl⟩
  have KP2:=((KP.alloc (.cells #[.int .u64 a,.int .u64 b,.int .u64 c,.int .u64 d] 58)).cons (At4.made w1 58 a b c d rfl).blk).call hb2
  clear hb2 pc0 pc1 pc2 pc3 pf z0 n0
  have n4:w.heap.size+1≠w1.heap.size:=Nat.ne_of_lt KP.tail.tail.head.lt
  clear KP
  generalize w1.heap.size=k5 at KP2 n4 ⊢
  obtain ⟨nc0,nc1,nc2,nc3,nf⟩:=KP2.head.at4
  obtain ⟨rc0,rc1,rc2,rc3,rf⟩:=KP2.tail.tail.tail.head.at4
  have z5:=KP2.head.lt
  have z1:=KP2.tail.tail.tail.head.lt
  obtain ⟨ok,hok⟩:∃ ok,decide (beV x.data.toList<P)=ok:=⟨_,rfl⟩
  rw[hok]
  have HO:Hid (decide (beV x.data.toList<P)=ok):=hok
  clear hok
  go_wp2
  have RF:=KP2.tail.tail.tail.head.at4.self4 a b c d
  unfold set4 at RF
  refine bodyPost_ret (v:=?v) ?hr rfl ?hR
  case hr=>simp[results,Tryz.results41,go_sem,RF.c0,RF.c1,RF.c2,RF.c3];rfl
  refine ⟨_,rfl,below_set4 KP2.bl (Nat.le_succ _) _ _ _ _,a,b,c,d,ok,rfl,fun h=>⟨⟨HS.out,?_⟩,HF.out⟩,fun h hn=>?_,fun _=>HF.out,fun h=>absurd HS.out h⟩
  ·exact of_decide_eq_true (HO.out.trans h)
  ·have:=HO.out
   rw[h] at this
   exact of_decide_eq_false this hn.2
 ·have hs':¬ (x.size:Int)=32:=by omega
  go_enter Tryz.func41,Tryz.ntmps41
  go_wp2
  refine bodyPost_ret (v:=?v2) ?hr2 rfl ?hR2
  case hr2=>simp[results,Tryz.results41,go_sem];rfl
  exact ⟨_,rfl,below2 _ _ _,0,0,0,0,false,rfl,fun h=>Bool.noConfusion h,fun _ h=>hs h.1,fun h=>absurd h hs,fun _=>⟨rfl,rfl,rfl,rfl⟩⟩
theorem rSmall_any (n:Nat) (_:n<18446744073709551616) (w:World):Calls Tryz.prog 98 #[.int .u64 n] w (Ret fun e w'=>Below w.heap.size w w'∧e=.agg #[.int .u64 n,.int .u64 0,.int .u64 0,.int .u64 0]):=by
 go_enter Tryz.func98,Tryz.ntmps98
 go_wp2
 refine bodyPost_ret (v:=?v) ?hr rfl ?hR
 case hr=>simp[results,Tryz.results98,go_sem];rfl
 exact ⟨_,rfl,below1 _ _,rfl⟩
theorem rBit_any (x:Value) (m i:Nat) (hx:Four x m) (hi:i<256) (w:World):Calls Tryz.prog 74 #[x,.int .i64 i] w (Ret fun e w'=>Below w.heap.size w w'∧∃ t:Nat,e=.int .u64 t∧t=m/2^i%2):=by
 obtain ⟨a,b,c,d,rfl,ha,hb,hc,hd,em⟩:=id hx
 have xw:=(At4.made w 58 a b c d rfl).wd (i/64) (by omega)
 have hwl:wd a b c d (i/64)<18446744073709551616:=wd_lt _ ha hb hc hd
 have hbit:wd a b c d (i/64)/2^(i%64)%2=m/2^i%2:=by rw[em];exact wd_bit i hi ha hb hc hd
 have i2:(i:Int).tdiv 64=((i/64:Nat):Int):=by rw[Int.tdiv_eq_ediv_of_nonneg (by omega)];omega
 have i3:(i:Int).tmod 64=((i%64:Nat):Int):=by rw[Int.tmod_eq_emod_of_nonneg (by omega)];omega
 have i4:(i/64:Nat)<4:=by omega
 generalize wd a b c d (i/64)=v at xw hwl hbit
 have hvl:v/2^(i%64)<18446744073709551616:=Nat.lt_of_le_of_lt (Nat.div_le_self _ _) hwl
 have hand:bits .and .u64 ((v:Int)/2^(i%64)) 1=((m/2^i%2:Nat):Int):=by
  have:=and_one (v/2^(i%64)) hvl
  rw[hbit] at this
  rw[← this,Int.natCast_ediv,Int.natCast_pow]
  rfl
 obtain ⟨t,ht⟩:∃ t,m/2^i%2=t:=⟨_,rfl⟩
 rw[ht] at hand
 have HT:Hid (t=m/2^i%2):=ht.symm
 clear hx em ha hb hc hd hbit ht hvl
 go_enter Tryz.func74,Tryz.ntmps74
 go_upto_region 1 with fail
 have zx:w.heap.size<(w.alloc (.cells #[.int .u64 a,.int .u64 b,.int .u64 c,.int .u64 d] 58)).heap.size:=by simp
 have BL:=below1 w (.cells #[.int .u64 a,.int .u64 b,.int .u64 c,.int .u64 d] 58)
 generalize World.alloc _ _=W0 at xw zx BL ⊢
 go_wp2
 go_ret
 exact ⟨_,rfl,BL,t,rfl,HT.out⟩
theorem or_nat (a b:Nat) (ha:a<18446744073709551616) (hb:b<18446744073709551616):∃ x:Nat,bits .or .u64 (a:Int) (b:Int)=(x:Int)∧(x=0↔a=0∧b=0)∧x<18446744073709551616:=
 ⟨a ||| b,bits_or_u64_nat a b ha hb,Nat.or_eq_zero_iff,Nat.or_lt_two_pow (n:=64) ha hb⟩
theorem rZero_any (x:Value) (m:Nat) (hx:Four x m) (w:World):Calls Tryz.prog 33 #[x] w (Ret fun e w'=>Below w.heap.size w w'∧e=.bool (decide (m=0))):=by
 obtain ⟨a,b,c,d,rfl,ha,hb,hc,hd,em⟩:=id hx
 obtain ⟨y,o1,z1,l1⟩:=or_nat a b ha hb
 obtain ⟨z,o2,z2,l2⟩:=or_nat y c l1 hc
 obtain ⟨t,o3,z3,l3⟩:=or_nat z d l2 hd
 have hz:decide (m=0)=decide (t=0):=by
  rw[decide_eq_decide,z3,z2,z1,em]
  unfold val
  omega
 rw[hz]
 clear z1 z2 z3 hz em hx
 go_enter Tryz.func33,Tryz.ntmps33
 go_wp2
 go_ret
 exact ⟨_,rfl,below1 _ _,by by_cases h:t=0<;>simp[h]⟩
theorem neg_val {P m s k:Nat} (hm:m<P) (_:P<top) (h0:¬ m=0) (hs:s<top) (hk:k≤1) (h:s+m=P+top*k):s=(P-m)%P:=by
 have:k=0∨k=1:=by omega
 rw[Nat.mod_eq_of_lt (by omega)]
 rcases this with h'|h'<;>rw[h'] at h<;>omega
theorem rNeg_any (p0 p1 p2 p3 c0 c1 c2 c3 P : Nat) (x : Value) (m : Nat) (hR : RefP p0 p1 p2 p3 c0 c1 c2 c3 P) (hx : Four x m) (hm : m < P) (w : World) :
    Calls Tryz.prog 132 #[.agg #[.int .u64 (p0 : Int), .int .u64 (p1 : Int), .int .u64 (p2 : Int), .int .u64 (p3 : Int), .int .u64 (c0 : Int), .int .u64 (c1 : Int), .int .u64 (c2 : Int), .int .u64 (c3 : Int)], x] w (Ret fun e w' => Below w.heap.size w w' ∧ Four e ((P - m) % P)) := by
  have HR : Hid (RefP p0 p1 p2 p3 c0 c1 c2 c3 P) := hR
  have HX : Hid (Four x m) := hx
  have HM : Hid (m < P) := hm
  obtain ⟨a, b, c, d, rfl, ha, hb, hc, hd, em⟩ := id hx
  clear hR hx hm em ha hb hc hd
  go_enter Tryz.func132, Tryz.ntmps132
  go_wp2_with fail
  have KP := keptF2 w p0 p1 p2 p3 c0 c1 c2 c3 a b c d
  generalize World.alloc _ _ = W0 at KP ⊢
  generalize h2 : w.heap.size + 1 + 1 = k2 at KP ⊢
  generalize h1 : w.heap.size + 1 = k1 at KP ⊢
  have Q2 : Hid (w.heap.size ≤ k2) := by unfold Hid; omega
  generalize h0 : w.heap.size = k0 at KP Q2 ⊢
  have H0 : Hid (w.heap.size = k0) := h0
  clear h0 h1 h2
  refine (rZero_any _ _ HX.out _).mono ?_
  rintro e w1 ⟨v, rfl, hb1, rfl⟩
  replace KP := KP.call hb1
  clear hb1
  obtain ⟨xc0, xc1, xc2, xc3, xf⟩ := KP.tail.tail.head.at4
  have zx := KP.tail.tail.head.lt
  by_cases hz : m = 0
  · have hd : decide (m = 0) = true := decide_eq_true hz
    rw [hd]
    have HZ : Hid (m = 0) := hz
    clear hd hz
    obtain ⟨rc0, rc1, rc2, rc3, rf⟩ := KP.tail.tail.tail.head.at4
    have zr := KP.tail.tail.tail.head.lt
    go_wp2
    have RF := KP.tail.tail.tail.head.at4.self4 a b c d
    unfold set4 at RF
    refine bodyPost_ret (v := ?v) ?hr rfl ?hR
    case hr => simp [results, Tryz.results132, go_sem, RF.c0, RF.c1, RF.c2, RF.c3]; rfl
    refine ⟨_, rfl, by rw [H0.out]; exact below_set4 KP.bl Q2.out _ _ _ _, ?_⟩
    have h1 := HX.out
    rw [HZ.out] at h1 ⊢
    rw [Nat.sub_zero, Nat.mod_self]
    exact h1
  · have hd : decide (m = 0) = false := decide_eq_false hz
    rw [hd]
    have HZ : Hid (¬ m = 0) := hz
    clear hd hz
    obtain ⟨fc0, fc1, fc2, fc3, ff⟩ := KP.head.at4
    have zf := KP.head.lt
    go_wp2_with fail
    refine (rless_any _ _ _ _ (Four.mk HR.out.hp0 HR.out.hp1 HR.out.hp2 HR.out.hp3 HR.out.eP) HX.out _).mono ?_
    rintro e w2 ⟨v, rfl, hb2, v2, t, k, rfl, hF, hk, he⟩
    have HF : Hid (Four v2 ((P - m) % P)) := by
      have h1 := neg_val HM.out (by have h3 := HR.out.hP; have h4 := HR.out.hP2; have h5 := HM.out; have h6 : 0 < val c0 c1 c2 c3 ∨ val c0 c1 c2 c3 = 0 := by omega
                                    rcases h6 with h6 | h6
                                    · omega
                                    · have h7 : Four (.agg #[.int .u64 (p0 : Int), .int .u64 (p1 : Int), .int .u64 (p2 : Int), .int .u64 (p3 : Int)]) P := Four.mk HR.out.hp0 HR.out.hp1 HR.out.hp2 HR.out.hp3 HR.out.eP
                                      exact h7.lt) HZ.out hF.lt hk he
      rw [← h1]; exact hF
    obtain ⟨ra, rb, rc, rd, rfl, -⟩ := id hF
    replace KP := KP.call hb2
    clear hb2 xc0 xc1 xc2 xc3 xf zx fc0 fc1 fc2 fc3 ff zf hF he
    obtain ⟨rc0, rc1, rc2, rc3, rf⟩ := KP.tail.tail.tail.head.at4
    have zr := KP.tail.tail.tail.head.lt
    have nr : k2 ≠ w2.heap.size := Nat.ne_of_lt zr
    go_wp2
    have RF := (KP.tail.tail.tail.head.at4.self4 ra rb rc rd).alloc (.cells #[.int .u64 (ra : Int), .int .u64 (rb : Int), .int .u64 (rc : Int), .int .u64 (rd : Int)] 58)
    unfold set4 at RF
    refine bodyPost_ret (v := ?v2) ?hr2 rfl ?hR2
    case hr2 => simp [results, Tryz.results132, go_sem, RF.c0, RF.c1, RF.c2, RF.c3]; rfl
    refine ⟨_, rfl, ?_, HF.out⟩
    rw [H0.out]
    exact (below_set4 KP.bl Q2.out _ _ _ _).alloc (by simpa [set4] using KP.le) _
theorem uFq:(Tryz.prog.underlying 70).map (·.isRow)=some true:=by kernel_rfl
theorem iFq:(Tryz.prog.info? 70).map (·.size)=some 8:=by kernel_rfl
def rl1:List Value:=[.int .u64 13822214165235122497,.int .u64 13451932020343611451,.int .u64 18446744073709551614,.int .u64 18446744073709551615,.int .u64 4624529908474429119,.int .u64 4994812053365940164,.int .u64 1,.int .u64 0]
def rv1:Value:=.agg rl1.toArray
theorem rMake1_c:Gives 55 #[.int .i64 1] rv1:=fun w=>(rMake1 w).mono (by rintro e w' ⟨v,rfl,hb,rfl⟩;exact ⟨_,rfl,hb,rfl⟩)
theorem Q3_c :Gives 30 #[] rv1:=by
 intro w
 go_enter Tryz.func30,Tryz.ntmps30
 refine RG.M.enter [] 2 (by kernel_rfl) ?_
 intro a0 M0
 repeat refine wp_seq ?_
 refine M0.t [.m 0 [] 0] [(0,(RG.z 8))] [] [(RG.z 8)] [(0,(.p 0 0))] ⟨RG.mk 0 70,trivial⟩ ?_
 intro j1 a1 w1 M1
 repeat refine wp_seq ?_
 refine M1.t [.c 1 [] rv1,.u [(1,0)] 0] [] [(0,1,rl1)] [rl1] [(0,(.p 0 0))] ⟨RG.cl (rMake1_c),RG.pt iFq,trivial⟩ ?_
 intro a2 w2 M2
 refine wp_ret ?_
 refine bodyPost_ret (v:=rv1) (RG.results_row M2.st 0 70 rfl 0 _ rfl (M2.at (s:=(.p 0 0))) uFq iFq) M2.sl.defers ?_
 exact ⟨_,rfl,M2.st.bel.below,rfl⟩
def nuV (bs:Bs):Nat:=if bs.size=32 then beV bs.toList else 0
theorem rNum_v {N:Nat} (hR:RefP 13822214165235122497 13451932020343611451 18446744073709551614 18446744073709551615 4624529908474429119 4994812053365940164 1 0 N) (s:ByteArray):Gives 41 #[rv1,.string s] (.tuple #[nv (nuV s.data),.bool (rq N s.data).isSome]):=fun w =>
 (rNumber_any _ _ _ _ _ _ _ _ N s hR w).mono (by
  rintro e w' ⟨v,rfl,hb,a,b,c,d,ok,rfl,h1,h2,h3,h4⟩
  refine ⟨_,rfl,hb,?_⟩
  unfold nuV rq
  cases ok with
  | true =>
   obtain ⟨hi,hF⟩:=h1 rfl
   rw[if_pos (show s.data.size=32∧beV s.data.toList<N from hi),if_pos (show s.data.size=32 from hi.1),hF.nv]
   rfl
  | false =>
   rw[if_neg (show ¬ (s.data.size=32∧beV s.data.toList<N) from h2 rfl)]
   by_cases hs:s.data.size=32
   ·rw[if_pos hs,(h3 hs).nv]
    rfl
   ·rw[if_neg hs]
    obtain ⟨rfl,rfl,rfl,rfl⟩:=h4 hs
    rfl)
theorem rAdd_R {p0 p1 p2 p3 c0 c1 c2 c3 P:Nat} {x y:Value} {m n:Nat} (hR:RefP p0 p1 p2 p3 c0 c1 c2 c3 P) (hx:Four x m) (hy:Four y n) (w:World) :
 Calls Tryz.prog 101 #[.agg #[.int .u64 p0,.int .u64 p1,.int .u64 p2,.int .u64 p3,.int .u64 c0,.int .u64 c1,.int .u64 c2,.int .u64 c3],x,y] w (Ret fun e w'=>Below w.heap.size w w'∧Four e ((m+n)%P)):=
 rAdd_any p0 p1 p2 p3 c0 c1 c2 c3 P x y m n hR.hp0 hR.hp1 hR.hp2 hR.hp3 hR.hc0 hR.hc1 hR.hc2 hR.hc3 hR.eP hR.hP hR.hP2 hx hy w
theorem rMul_R {p0 p1 p2 p3 c0 c1 c2 c3 P:Nat} {x y:Value} {m n:Nat} (hR:RefP p0 p1 p2 p3 c0 c1 c2 c3 P) (hx:Four x m) (hy:Four y n) (w:World) :
 Calls Tryz.prog 47 #[.agg #[.int .u64 p0,.int .u64 p1,.int .u64 p2,.int .u64 p3,.int .u64 c0,.int .u64 c1,.int .u64 c2,.int .u64 c3],x,y] w (Ret fun e w'=>Below w.heap.size w w'∧Four e (m*n%P)):=
 rMul_any p0 p1 p2 p3 c0 c1 c2 c3 P x y m n hR.hp0 hR.hp1 hR.hp2 hR.hp3 hR.hc0 hR.hc1 hR.hc2 hR.hc3 hR.eP hR.hP hR.hP2 hx hy w
theorem sub_val {P m n:Nat} (hn:n<P):(m+(P-n)%P)%P=(m+P-n)%P:=by
 rw[Nat.add_mod,Nat.mod_mod,← Nat.add_mod,show m+P-n=m+(P-n) by omega]
theorem rSub_any (p0 p1 p2 p3 c0 c1 c2 c3 P:Nat) (x y:Value) (m n:Nat) (hR:RefP p0 p1 p2 p3 c0 c1 c2 c3 P) (hx:Four x m) (hy:Four y n) (hn:n<P) (w:World) :
 Calls Tryz.prog 100 #[.agg #[.int .u64 p0,.int .u64 p1,.int .u64 p2,.int .u64 p3,.int .u64 c0,.int .u64 c1,.int .u64 c2,.int .u64 c3],x,y] w (Ret fun e w'=>Below w.heap.size w w'∧Four e ((m+P-n)%P)):=by
 obtain ⟨a,b,c,d,rfl,ha,hb,hc,hd,em⟩:=id hx
 obtain ⟨p,q,r,s,rfl,hp,hq,hr,hs,en⟩:=id hy
 have HX:Hid (Four _ _):=hx
 have HY:Hid (Four _ _):=hy
 have HR:Hid (RefP p0 p1 p2 p3 c0 c1 c2 c3 P):=hR
 have HN:Hid (n<P):=hn
 clear em en hx hy ha hb hc hd hp hq hr hs hR hn
 go_enter Tryz.func100,Tryz.ntmps100
 go_wp2_with fail
 have FR:=((((At8.made w 70 p0 p1 p2 p3 c0 c1 c2 c3 rfl).alloc (.cells #[.int .u64 a,.int .u64 b,.int .u64 c,.int .u64 d] 58)).alloc (.cells #[.int .u64 p,.int .u64 q,.int .u64 r,.int .u64 s] 58)).alloc (.cells #[.int .u64 0,.int .u64 0,.int .u64 0,.int .u64 0] 58))
 have X:=(((At4.made (w.alloc (.cells #[.int .u64 p0,.int .u64 p1,.int .u64 p2,.int .u64 p3,.int .u64 c0,.int .u64 c1,.int .u64 c2,.int .u64 c3] 70)) 58 a b c d (World.size_alloc _ _)).alloc (.cells #[.int .u64 p,.int .u64 q,.int .u64 r,.int .u64 s] 58)).alloc (.cells #[.int .u64 0,.int .u64 0,.int .u64 0,.int .u64 0] 58))
 have Y:=((At4.made ((w.alloc (.cells #[.int .u64 p0,.int .u64 p1,.int .u64 p2,.int .u64 p3,.int .u64 c0,.int .u64 c1,.int .u64 c2,.int .u64 c3] 70)).alloc (.cells #[.int .u64 a,.int .u64 b,.int .u64 c,.int .u64 d] 58)) 58 p q r s (k:=w.heap.size+1+1) (by simp)).alloc (.cells #[.int .u64 0,.int .u64 0,.int .u64 0,.int .u64 0] 58))
 have T3:=At4.made (((w.alloc (.cells #[.int .u64 p0,.int .u64 p1,.int .u64 p2,.int .u64 p3,.int .u64 c0,.int .u64 c1,.int .u64 c2,.int .u64 c3] 70)).alloc (.cells #[.int .u64 a,.int .u64 b,.int .u64 c,.int .u64 d] 58)).alloc (.cells #[.int .u64 p,.int .u64 q,.int .u64 r,.int .u64 s] 58)) 58 0 0 0 0 (k:=w.heap.size+1+1+1) (by simp)
 have KP:=((((Kept.mk1 (below4 w (.cells #[.int .u64 p0,.int .u64 p1,.int .u64 p2,.int .u64 p3,.int .u64 c0,.int .u64 c1,.int .u64 c2,.int .u64 c3] 70) (.cells #[.int .u64 a,.int .u64 b,.int .u64 c,.int .u64 d] 58) (.cells #[.int .u64 p,.int .u64 q,.int .u64 r,.int .u64 s] 58) (.cells #[.int .u64 0,.int .u64 0,.int .u64 0,.int .u64 0] 58)) (below4 w (.cells #[.int .u64 p0,.int .u64 p1,.int .u64 p2,.int .u64 p3,.int .u64 c0,.int .u64 c1,.int .u64 c2,.int .u64 c3] 70) (.cells #[.int .u64 a,.int .u64 b,.int .u64 c,.int .u64 d] 58) (.cells #[.int .u64 p,.int .u64 q,.int .u64 r,.int .u64 s] 58) (.cells #[.int .u64 0,.int .u64 0,.int .u64 0,.int .u64 0] 58)).size).cons Y.blk).cons X.blk).cons (x:=⟨w.heap.size,4,c0,c1,c2,c3⟩) ⟨FR.c4,FR.c5,FR.c6,FR.c7,FR.fz⟩).cons (x:=⟨w.heap.size,0,p0,p1,p2,p3⟩) ⟨FR.c0,FR.c1,FR.c2,FR.c3,FR.fz⟩
 simp only[Int.natCast_zero] at T3
 clear FR X Y
 generalize World.alloc _ _=W0 at KP T3 ⊢
 generalize h3:w.heap.size+1+1+1=k3 at T3 ⊢
 generalize h2:w.heap.size+1+1=k2 at KP ⊢
 generalize h1:w.heap.size+1=k1 at KP ⊢
 have Q3:Hid (w.heap.size≤k3):=by unfold Hid;omega
 generalize h0:w.heap.size=k0 at KP Q3 ⊢
 have H0:Hid (w.heap.size=k0):=h0
 have hl3:∀ x∈([⟨k0,0,p0,p1,p2,p3⟩,⟨k0,4,c0,c1,c2,c3⟩,⟨k1,0,a,b,c,d⟩,⟨k2,0,p,q,r,s⟩]:List Blk),k3≠x.k:=by simp only[List.mem_cons,List.not_mem_nil,or_false];rintro x (rfl|rfl|rfl|rfl)<;>simp only<;>omega
 clear h0 h1 h2 h3
 obtain ⟨tc0,tc1,tc2,tc3,tf⟩:=id T3
 have zt:=T3.lt
 go_region_held3 (fun w'=>w'.cell? ⟨k0,0,none⟩=some (.int .u64 p0)∧w'.cell? ⟨k0,1,none⟩=some (.int .u64 p1)∧w'.cell? ⟨k0,2,none⟩=some (.int .u64 p2)∧w'.cell? ⟨k0,3,none⟩=some (.int .u64 p3)∧w'.cell? ⟨k0,4,none⟩=some (.int .u64 c0)∧w'.cell? ⟨k0,5,none⟩=some (.int .u64 c1)∧w'.cell? ⟨k0,6,none⟩=some (.int .u64 c2)∧w'.cell? ⟨k0,7,none⟩=some (.int .u64 c3)∧w'.cell? ⟨k1,0,none⟩=some (.int .u64 a)∧w'.cell? ⟨k1,1,none⟩=some (.int .u64 b)∧w'.cell? ⟨k1,2,none⟩=some (.int .u64 c)∧w'.cell? ⟨k1,3,none⟩=some (.int .u64 d)∧w'.cell? ⟨k2,0,none⟩=some (.int .u64 p)∧w'.cell? ⟨k2,1,none⟩=some (.int .u64 q)∧w'.cell? ⟨k2,2,none⟩=some (.int .u64 r)∧w'.cell? ⟨k2,3,none⟩=some (.int .u64 s)∧Kept w k0 [⟨k0,0,p0,p1,p2,p3⟩,⟨k0,4,c0,c1,c2,c3⟩,⟨k1,0,a,b,c,d⟩,⟨k2,0,p,q,r,s⟩] w') (first|(with_reducible exact mulS_of KP)|(with_reducible exact mulS_of KP.drew)|(with_reducible exact mulS_of (KP.set4' Q3.out hl3 _ _ _ _))|(with_reducible exact mulS_of (KP.set4' Q3.out hl3 _ _ _ _).drew)|fail) (first|(go_at_call 132;refine (rNeg_any p0 p1 p2 p3 c0 c1 c2 c3 P _ _ HR.out HY.out HN.out _).mono ?_;rintro e w1 ⟨v,rfl,hb1,hE1⟩;obtain ⟨x0,x1,x2,x3,rfl,-⟩:=id hE1;have HE1:Hid (Four _ _):=hE1;clear hE1;have KP1:=KP.drew.call hb1;have T1:=T3.drew.call hb1;clear KP T3 hb1;have KP:=KP1;have T3:=T1;clear KP1 T1;obtain ⟨tc0,tc1,tc2,tc3,tf⟩:=id T3;have zt:=T3.lt)|(go_at_call 101;refine (rAdd_R HR.out HX.out HE1.out _).mono ?_;rintro e w2 ⟨v,rfl,hb2,hF3⟩;rw[sub_val HN.out] at hF3;obtain ⟨a',b',c',d',rfl,ha',hb',hc',hd',es3⟩:=id hF3;clear es3;have HF3:Hid (Four _ _):=hF3;clear hF3;have KP1:=KP.call hb2;have T1:=T3.call hb2;clear KP T3 hb2;have KP:=KP1;have T3:=T1;clear KP1 T1;obtain ⟨tc0,tc1,tc2,tc3,tf⟩:=id T3;have zt:=T3.lt))
 go_wp2
 have RF:=T3.self4 a' b' c' d'
 unfold set4 at RF
 refine bodyPost_ret (v:=?v) ?hr rfl ?hR
 case hr=>simp[results,Tryz.results100,go_sem,RF.c0,RF.c1,RF.c2,RF.c3];rfl
 refine ⟨_,rfl,?_,HF3.out⟩
 rw[H0.out]
 exact below_set4 KP.bl Q3.out _ _ _ _
theorem rPow_any (p0 p1 p2 p3 c0 c1 c2 c3 P:Nat) (x y:Value) (m n:Nat) (hR:RefP p0 p1 p2 p3 c0 c1 c2 c3 P) (hx:Four x m) (hy:Four y n) (w:World) :
 Calls Tryz.prog 77 #[.agg #[.int .u64 p0,.int .u64 p1,.int .u64 p2,.int .u64 p3,.int .u64 c0,.int .u64 c1,.int .u64 c2,.int .u64 c3],x,y] w (Ret fun e w'=>Below w.heap.size w w'∧Four e (m^n%P)):=by
 obtain ⟨a,b,c,d,rfl,ha,hb,hc,hd,em⟩:=id hx
 obtain ⟨p,q,r,s,rfl,hp,hq,hr,hs,en⟩:=id hy
 have HX:Hid (Four _ _):=hx
 have HY:Hid (Four _ _):=hy
 have HR:Hid (RefP p0 p1 p2 p3 c0 c1 c2 c3 P):=hR
 clear em en hx hy ha hb hc hd hp hq hr hs hR
 go_enter Tryz.func77,Tryz.ntmps77
 go_wp2_with fail
 have KP:=keptF3 w p0 p1 p2 p3 c0 c1 c2 c3 a b c d p q r s
 generalize World.alloc _ _=W0 at KP ⊢
 generalize h3:w.heap.size+1+1+1=k3 at KP ⊢
 generalize h2:w.heap.size+1+1=k2 at KP ⊢
 generalize h1:w.heap.size+1=k1 at KP ⊢
 have Q3:Hid (w.heap.size≤k3):=by unfold Hid;omega
 generalize h0:w.heap.size=k0 at KP Q3 ⊢
 have H0:Hid (w.heap.size=k0):=h0
 clear h0 h1 h2 h3
 refine (rSmall_any 1 (by decide) _).mono ?_
 rintro e w1 ⟨v,rfl,hb1,rfl⟩
 replace KP:=KP.call hb1
 clear hb1
 go_wp2
 have KN:Kept w k0 (⟨w1.heap.size,0,1,0,0,0⟩ :: [⟨k0,0,p0,p1,p2,p3⟩,⟨k0,4,c0,c1,c2,c3⟩,⟨k1,0,a,b,c,d⟩,⟨k2,0,p,q,r,s⟩,⟨k3,0,0,0,0,0⟩]) _:=(KP.alloc (.cells #[.int .u64 1,.int .u64 0,.int .u64 0,.int .u64 0] 58)).cons (At4.made w1 58 1 0 0 0 rfl).blk
 have Q7:Hid (k0≤w1.heap.size):=KP.le
 have hlt:=KP.lts
 clear KP
 generalize World.alloc _ _=W1 at KN ⊢
 generalize w1.heap.size=k7 at KN hlt Q7 ⊢
 have hl7:∀ x∈([⟨k0,0,p0,p1,p2,p3⟩,⟨k0,4,c0,c1,c2,c3⟩,⟨k1,0,a,b,c,d⟩,⟨k2,0,p,q,r,s⟩,⟨k3,0,0,0,0,0⟩]:List Blk),k7≠x.k:=fun x hx=>Nat.ne_of_gt (hlt x hx)
 have n70:k7≠k0:=hl7 _ (List.mem_cons_self)
 have n71:k7≠k1:=hl7 ⟨k1,0,a,b,c,d⟩ (by simp)
 have n72:k7≠k2:=hl7 ⟨k2,0,p,q,r,s⟩ (by simp)
 have n73:k7≠k3:=hl7 ⟨k3,0,0,0,0,0⟩ (by simp)
 clear hlt
 go_loopg [8] 256 (fun gk s8 wr=>gk≤256∧s8=.int .i64 ((gk:Int)-1)∧∃ na nb nc nd:Nat,Kept w k0 (⟨k7,0,na,nb,nc,nd⟩ :: [⟨k0,0,p0,p1,p2,p3⟩,⟨k0,4,c0,c1,c2,c3⟩,⟨k1,0,a,b,c,d⟩,⟨k2,0,p,q,r,s⟩,⟨k3,0,0,0,0,0⟩]) wr∧Hid (Four (.agg #[.int .u64 na,.int .u64 nb,.int .u64 nc,.int .u64 nd]) (m^(n/2^gk)%P)))
 case atStart =>
  refine ⟨Nat.le_refl _,rfl,1,0,0,0,KN,?_⟩
  have h1:=HR.out.hP2
  have h2:3<top:=by decide
  rw[show n/2^256=0 from Nat.div_eq_of_lt HY.out.lt,Nat.pow_zero,Nat.mod_eq_of_lt (by omega)]
  exact Four.mk (by decide) (by decide) (by decide) (by decide) rfl
 case round =>
  clear KN
  obtain ⟨hg,rfl,na,nb,nc,nd,KP,HF⟩:=hrel
  obtain ⟨tc0,tc1,tc2,tc3,tf⟩:=KP.head.at4
  have zt:=KP.head.lt
  by_cases hz:gk=0
  ·subst hz
   have HF0:=HF.out
   rw[Nat.pow_zero,Nat.div_one] at HF0
   have HFE:Hid (Four _ _):=HF0
   clear HF0 HF
   obtain ⟨rc0,rc1,rc2,rc3,rf⟩:=KP.tail.tail.tail.tail.tail.head.at4
   have zr:=KP.tail.tail.tail.tail.tail.head.lt
   go_wp2
   have RF:=KP.tail.tail.tail.tail.tail.head.at4.self4 na nb nc nd
   unfold set4 at RF
   refine bodyPost_ret (v:=?v) ?hr rfl ?hR
   case hr=>simp[results,Tryz.results77,go_sem,RF.c0,RF.c1,RF.c2,RF.c3];rfl
   refine ⟨_,rfl,?_,HFE.out⟩
   rw[H0.out]
   exact below_set4 KP.bl Q3.out _ _ _ _
  ·obtain ⟨i,hi⟩:∃ i,gk=i+1:=⟨gk-1,by omega⟩
   have e1:(gk:Int)-1=(i:Int):=by omega
   rw[e1]
   have d1:(0:Int)≤(i:Int):=by omega
   have hi2:i<256:=by omega
   obtain ⟨E,hE⟩:∃ E,n/2^gk=E:=⟨_,rfl⟩
   rw[hE] at HF
   rw[hi] at hE
   have HE:Hid (n/2^(i+1)=E):=hE
   have HI:Hid (gk=i+1):=hi
   clear hE hi e1
   obtain ⟨fc0,fc1,fc2,fc3,ff⟩:=KP.tail.head.at4
   have fb:=KP.tail.tail.head
   obtain ⟨fd0,fd1,fd2,fd3,fg⟩:=id fb
   replace fd0:wr.cell? ⟨k0,4,none⟩=some (.int .u64 c0):=fd0
   replace fd1:wr.cell? ⟨k0,5,none⟩=some (.int .u64 c1):=fd1
   replace fd2:wr.cell? ⟨k0,6,none⟩=some (.int .u64 c2):=fd2
   replace fd3:wr.cell? ⟨k0,7,none⟩=some (.int .u64 c3):=fd3
   have zf:=KP.tail.head.lt
   go_wp2_with fail
   clear tc0 tc1 tc2 tc3 tf zt fc0 fc1 fc2 fc3 ff fb fd0 fd1 fd2 fd3 fg zf
   refine (rMul_R HR.out HF.out HF.out _).mono ?_
   rintro e w2 ⟨v,rfl,hb2,hF3⟩
   rw[pow_two_mod] at hF3
   obtain ⟨ya,yb,yc,yd,rfl,-⟩:=id hF3
   clear HF
   have HF:Hid (Four _ _):=hF3
   clear hF3
   replace KP:=KP.call hb2
   clear hb2
   obtain ⟨tc0,tc1,tc2,tc3,tf⟩:=KP.head.at4
   have zt:=KP.head.lt
   obtain ⟨ec0,ec1,ec2,ec3,ef⟩:=KP.tail.tail.tail.tail.head.at4
   have ze:=KP.tail.tail.tail.tail.head.lt
   go_wp2_with fail
   clear tc0 tc1 tc2 tc3 tf zt ec0 ec1 ec2 ec3 ef ze
   have KP2:=KP.put Q7.out hl7 ya yb yc yd
   clear KP
   generalize World.setCell _ _ _=WX at KP2 ⊢
   refine (rBit_any _ _ i HY.out hi2 _).mono ?_
   rintro e w3 ⟨v,rfl,hb3,t,rfl,ht⟩
   have KP:=KP2.call hb3
   have HT:Hid (t=n/2^i%2):=ht
   have ht2:t=0∨t=1:=by omega
   clear hb3 KP2 ht
   rcases ht2 with rfl|rfl
   ·go_wp2
    go_roundg (gk-1)
    case measure=>omega
    case rel =>
     refine ⟨by omega,?_,ya,yb,yc,yd,KP,?_⟩
     ·have:=HI.out
      congr 1
      omega
     ·have h1:=HF.out
      unfold Hid
      rw[HI.out,Nat.add_sub_cancel,div_bit n i,HE.out,← HT.out,Nat.add_zero]
      exact h1
   ·obtain ⟨tc0,tc1,tc2,tc3,tf⟩:=KP.head.at4
    have zt:=KP.head.lt
    obtain ⟨ac0,ac1,ac2,ac3,af⟩:=KP.tail.tail.tail.head.at4
    have za:=KP.tail.tail.tail.head.lt
    obtain ⟨fc0,fc1,fc2,fc3,ff⟩:=KP.tail.head.at4
    have fb:=KP.tail.tail.head
    obtain ⟨fd0,fd1,fd2,fd3,fg⟩:=id fb
    replace fd0:w3.cell? ⟨k0,4,none⟩=some (.int .u64 c0):=fd0
    replace fd1:w3.cell? ⟨k0,5,none⟩=some (.int .u64 c1):=fd1
    replace fd2:w3.cell? ⟨k0,6,none⟩=some (.int .u64 c2):=fd2
    replace fd3:w3.cell? ⟨k0,7,none⟩=some (.int .u64 c3):=fd3
    have zf:=KP.tail.head.lt
    go_wp2_with fail
    clear tc0 tc1 tc2 tc3 tf zt fc0 fc1 fc2 fc3 ff fb fd0 fd1 fd2 fd3 fg zf ac0 ac1 ac2 ac3 af za
    refine (rMul_R HR.out HF.out HX.out _).mono ?_
    rintro e w4 ⟨v,rfl,hb4,hF3⟩
    rw[pow_step_mod] at hF3
    obtain ⟨ua,ub,uc,ud,rfl,-⟩:=id hF3
    clear HF
    have HF:Hid (Four _ _):=hF3
    clear hF3
    replace KP:=KP.call hb4
    clear hb4
    obtain ⟨tc0,tc1,tc2,tc3,tf⟩:=KP.head.at4
    have zt:=KP.head.lt
    go_wp2
    go_roundg (gk-1)
    case measure=>omega
    case rel =>
     refine ⟨by omega,?_,ua,ub,uc,ud,KP.put Q7.out hl7 ua ub uc ud,?_⟩
     ·have:=HI.out
      congr 1
      omega
     ·have h1:=HF.out
      unfold Hid
      rw[HI.out,Nat.add_sub_cancel,div_bit n i,HE.out,← HT.out]
      exact h1
theorem rInv_any (p0 p1 p2 p3 c0 c1 c2 c3 P:Nat) (x:Value) (m:Nat) (hR:RefP p0 p1 p2 p3 c0 c1 c2 c3 P) (hx:Four x m) (w:World) :
 Calls Tryz.prog 46 #[.agg #[.int .u64 p0,.int .u64 p1,.int .u64 p2,.int .u64 p3,.int .u64 c0,.int .u64 c1,.int .u64 c2,.int .u64 c3],x] w (Ret fun e w'=>Below w.heap.size w w'∧Four e (m^(P-2)%P)):=by
 have HR:Hid (RefP p0 p1 p2 p3 c0 c1 c2 c3 P):=hR
 have HX:Hid (Four x m):=hx
 obtain ⟨a,b,c,d,rfl,ha,hb,hc,hd,em⟩:=id hx
 clear hR hx em ha hb hc hd
 go_enter Tryz.func46,Tryz.ntmps46
 go_wp2_with fail
 have KP:=keptF2 w p0 p1 p2 p3 c0 c1 c2 c3 a b c d
 generalize World.alloc _ _=W0 at KP ⊢
 generalize h2:w.heap.size+1+1=k2 at KP ⊢
 generalize h1:w.heap.size+1=k1 at KP ⊢
 have Q2:Hid (w.heap.size≤k2):=by unfold Hid;omega
 generalize h0:w.heap.size=k0 at KP Q2 ⊢
 have H0:Hid (w.heap.size=k0):=h0
 clear h0 h1 h2
 have hP4:Four (.agg #[.int .u64 p0,.int .u64 p1,.int .u64 p2,.int .u64 p3]) P:=Four.mk HR.out.hp0 HR.out.hp1 HR.out.hp2 HR.out.hp3 HR.out.eP
 refine (rless_any _ _ P 2 hP4 (Four.mk (a:=2) (b:=0) (c:=0) (d:=0) (by decide) (by decide) (by decide) (by decide) rfl) _).mono ?_
 rintro e w1 ⟨v,rfl,hb1,v2,t,k,rfl,hF,hk,he⟩
 have ht:t=P-2:=by
  have h1:=hF.lt
  have h2:=hP4.lt
  have h3:=HR.out.hP2
  have h4:3<top:=by decide
  have:k=0∨k=1:=by omega
  rcases this with h|h<;>rw[h] at he<;>omega
 have HE:Hid (Four v2 (P-2)):=by unfold Hid;rw[← ht];exact hF
 obtain ⟨ea,eb,ec,ed,rfl,-⟩:=id hF
 replace KP:=KP.call hb1
 clear hb1 hF ht he hP4
 obtain ⟨xc0,xc1,xc2,xc3,xf⟩:=KP.tail.tail.head.at4
 have zx:=KP.tail.tail.head.lt
 obtain ⟨fc0,fc1,fc2,fc3,ff⟩:=KP.head.at4
 have fb:=KP.tail.head
 obtain ⟨fd0,fd1,fd2,fd3,fg⟩:=id fb
 replace fd0:w1.cell? ⟨k0,4,none⟩=some (.int .u64 c0):=fd0
 replace fd1:w1.cell? ⟨k0,5,none⟩=some (.int .u64 c1):=fd1
 replace fd2:w1.cell? ⟨k0,6,none⟩=some (.int .u64 c2):=fd2
 replace fd3:w1.cell? ⟨k0,7,none⟩=some (.int .u64 c3):=fd3
 have zf:=KP.head.lt
 have n0:k0≠w1.heap.size:=Nat.ne_of_lt zf
 have n1:k1≠w1.heap.size:=Nat.ne_of_lt zx
 go_wp2_with fail
 clear xc0 xc1 xc2 xc3 xf zx fc0 fc1 fc2 fc3 ff fb fd0 fd1 fd2 fd3 fg zf n0 n1
 refine (rPow_any p0 p1 p2 p3 c0 c1 c2 c3 P _ _ _ _ HR.out HX.out HE.out _).mono ?_
 rintro e w2 ⟨v,rfl,hb2,hF⟩
 replace KP:=(KP.alloc _).call hb2
 clear hb2
 obtain ⟨qa,qb,qc,qd,rfl,-⟩:=id hF
 have HF:Hid (Four _ _):=hF
 clear hF
 obtain ⟨rc0,rc1,rc2,rc3,rf⟩:=KP.tail.tail.tail.head.at4
 have zr:=KP.tail.tail.tail.head.lt
 go_wp2
 have RF:=KP.tail.tail.tail.head.at4.self4 qa qb qc qd
 unfold set4 at RF
 refine bodyPost_ret (v:=?v) ?hr rfl ?hR
 case hr=>simp[results,Tryz.results46,go_sem,RF.c0,RF.c1,RF.c2,RF.c3];rfl
 refine ⟨_,rfl,?_,HF.out⟩
 rw[H0.out]
 exact below_set4 KP.bl Q2.out _ _ _ _
theorem or_high (v t r:Nat) (hr:r<64) (hv:v<2^r) (ht:t<2):bits .or .u64 (v:Int) ((t*2^r:Nat):Int)=((v+t*2^r:Nat):Int)∧v+t*2^r<18446744073709551616:=by
 have h1:2^r≤2^63:=Nat.pow_le_pow_right (by decide) (by omega)
 have h2:t*2^r≤1*2^r:=Nat.mul_le_mul_right _ (by omega)
 have h3:(2:Nat)^63=9223372036854775808:=by decide
 have e:=Nat.two_pow_add_eq_or_of_lt hv t
 refine ⟨?_,by omega⟩
 rw[bits_or_u64_nat _ _ (by omega) (by omega),Nat.or_comm,Nat.mul_comm t,← e,Nat.add_comm]
theorem quart_word {a b c d Q i:Nat} (ha:a<18446744073709551616) (hb:b<18446744073709551616) (hc:c<18446744073709551616) (hd:d<18446744073709551616) (hi:i<256) (hv:val a b c d=Q%2^i):wd a b c d (i/64)<2^(i%64):=by
 rw[wd_eq (i/64) (by omega) ha hb hc hd,hv]
 refine Nat.lt_of_le_of_lt (Nat.mod_le _ _) ?_
 refine Nat.div_lt_of_lt_mul ?_
 rw[← Nat.pow_add,show 64*(i/64)+i%64=i by omega]
 exact Nat.mod_lt _ (Nat.pow_pos (by decide))
theorem quart_step {a b c d Q i t o:Nat} (hi:i<256) (hv:val a b c d=Q%2^i) (ht:t=Q/2^i%2) (ho:o=wd a b c d (i/64)+t*2^(i%64)) :
 val (if i/64=0 then o else a) (if i/64=1 then o else b) (if i/64=2 then o else c) (if i/64=3 then o else d)=Q%2^(i+1):=by
 have h:=val_set a b c d (i/64) o (by omega)
 have e:(2:Nat)^i=2^(64*(i/64))*2^(i%64):=by
  rw[← Nat.pow_add,show 64*(i/64)+i%64=i by omega]
 rw[ho,Nat.mul_add,← Nat.mul_assoc,Nat.mul_comm (2^(64*(i/64))) t,Nat.mul_assoc,← e] at h
 rw[ho,Nat.pow_succ,Nat.mod_mul,← ht,Nat.mul_comm (2^i)]
 omega
theorem sqS_of {w W:World} {k0 k1 k2 k3 j v p0 p1 p2 p3 c0 c1 c2 c3 a b c d qa qb qc qd:Nat} (h:Kept w k0 (⟨k3,0,qa,qb,qc,qd⟩ :: [⟨k0,0,p0,p1,p2,p3⟩,⟨k0,4,c0,c1,c2,c3⟩,⟨k1,0,a,b,c,d⟩,⟨k2,0,0,0,0,0⟩]) W) (hx:W.cell? ⟨k3,j,none⟩=some (.int .u64 v)):W.cell? ⟨k0,0,none⟩=some (.int .u64 p0)∧W.cell? ⟨k0,1,none⟩=some (.int .u64 p1)∧W.cell? ⟨k0,2,none⟩=some (.int .u64 p2)∧W.cell? ⟨k0,3,none⟩=some (.int .u64 p3)∧W.cell? ⟨k3,j,none⟩=some (.int .u64 v)∧Kept w k0 (⟨k3,0,qa,qb,qc,qd⟩ :: [⟨k0,0,p0,p1,p2,p3⟩,⟨k0,4,c0,c1,c2,c3⟩,⟨k1,0,a,b,c,d⟩,⟨k2,0,0,0,0,0⟩]) W:=
 ⟨h.tail.head.c0,h.tail.head.c1,h.tail.head.c2,h.tail.head.c3,hx,h⟩
theorem sqrS_of {w W:World} {k0 k1 k2 k8 p0 p1 p2 p3 c0 c1 c2 c3 a b c d ra rb rc rd:Nat} (h:Kept w k0 (⟨k8,0,ra,rb,rc,rd⟩ :: [⟨k0,0,p0,p1,p2,p3⟩,⟨k0,4,c0,c1,c2,c3⟩,⟨k1,0,a,b,c,d⟩,⟨k2,0,0,0,0,0⟩]) W):W.cell? ⟨k0,0,none⟩=some (.int .u64 p0)∧W.cell? ⟨k0,1,none⟩=some (.int .u64 p1)∧W.cell? ⟨k0,2,none⟩=some (.int .u64 p2)∧W.cell? ⟨k0,3,none⟩=some (.int .u64 p3)∧W.cell? ⟨k0,4,none⟩=some (.int .u64 c0)∧W.cell? ⟨k0,5,none⟩=some (.int .u64 c1)∧W.cell? ⟨k0,6,none⟩=some (.int .u64 c2)∧W.cell? ⟨k0,7,none⟩=some (.int .u64 c3)∧W.cell? ⟨k8,0,none⟩=some (.int .u64 ra)∧W.cell? ⟨k8,1,none⟩=some (.int .u64 rb)∧W.cell? ⟨k8,2,none⟩=some (.int .u64 rc)∧W.cell? ⟨k8,3,none⟩=some (.int .u64 rd)∧W.cell? ⟨k1,0,none⟩=some (.int .u64 a)∧W.cell? ⟨k1,1,none⟩=some (.int .u64 b)∧W.cell? ⟨k1,2,none⟩=some (.int .u64 c)∧W.cell? ⟨k1,3,none⟩=some (.int .u64 d)∧Kept w k0 (⟨k8,0,ra,rb,rc,rd⟩ :: [⟨k0,0,p0,p1,p2,p3⟩,⟨k0,4,c0,c1,c2,c3⟩,⟨k1,0,a,b,c,d⟩,⟨k2,0,0,0,0,0⟩]) W:=
 ⟨h.tail.head.c0,h.tail.head.c1,h.tail.head.c2,h.tail.head.c3,h.tail.tail.head.c0,h.tail.tail.head.c1,h.tail.tail.head.c2,h.tail.tail.head.c3,h.head.c0,h.head.c1,h.head.c2,h.head.c3,h.tail.tail.tail.head.c0,h.tail.tail.tail.head.c1,h.tail.tail.tail.head.c2,h.tail.tail.tail.head.c3,h⟩
theorem rSqrt_any (p0 p1 p2 p3 c0 c1 c2 c3 P:Nat) (x:Value) (m:Nat) (hR:RefP p0 p1 p2 p3 c0 c1 c2 c3 P) (hP1:P/4%18446744073709551616<18446744073709551615) (hx:Four x m) (w:World) :
 Calls Tryz.prog 102 #[.agg #[.int .u64 p0,.int .u64 p1,.int .u64 p2,.int .u64 p3,.int .u64 c0,.int .u64 c1,.int .u64 c2,.int .u64 c3],x] w (Ret fun e w'=>Below w.heap.size w w'∧RootR P m (m^(P/4+1)%P) e):=by
 obtain ⟨a,b,c,d,rfl,ha,hb,hc,hd,em⟩:=id hx
 have HX:Hid (Four _ m):=hx
 have HR:Hid (RefP p0 p1 p2 p3 c0 c1 c2 c3 P):=hR
 have HP1:Hid (P/4%18446744073709551616<18446744073709551615):=hP1
 have HP4:Hid (Four (.agg #[.int .u64 p0,.int .u64 p1,.int .u64 p2,.int .u64 p3]) P):=Four.mk hR.hp0 hR.hp1 hR.hp2 hR.hp3 hR.eP
 obtain ⟨R,hRe⟩:∃ R,m^(P/4+1)%P=R:=⟨_,rfl⟩
 have hRP:R<P:=by
  rw[← hRe]
  refine Nat.mod_lt _ ?_
  have:=hR.hP2
  omega
 rw[hRe]
 have HRE:Hid (m^(P/4+1)%P=R):=hRe
 have HRP:Hid (R<P):=hRP
 clear em hx ha hb hc hd hR hRe hRP hP1
 go_enter Tryz.func102,Tryz.ntmps102
 go_wp2
 have K0:=keptF2 w p0 p1 p2 p3 c0 c1 c2 c3 a b c d
 have K1:=(K0.alloc (.cells #[.int .u64 0,.int .u64 0,.int .u64 0,.int .u64 0] 58)).cons (At4.made _ 58 0 0 0 0 rfl).blk
 have hz:(((w.alloc (.cells #[.int .u64 p0,.int .u64 p1,.int .u64 p2,.int .u64 p3,.int .u64 c0,.int .u64 c1,.int .u64 c2,.int .u64 c3] 70)).alloc (.cells #[.int .u64 a,.int .u64 b,.int .u64 c,.int .u64 d] 58)).alloc (.cells #[.int .u64 0,.int .u64 0,.int .u64 0,.int .u64 0] 58)).heap.size=w.heap.size+1+1+1:=by simp
 rw[hz] at K1
 clear K0 hz
 generalize World.alloc _ _=W0 at K1 ⊢
 generalize h3:w.heap.size+1+1+1=k3 at K1 ⊢
 generalize h2:w.heap.size+1+1=k2 at K1 ⊢
 generalize h1:w.heap.size+1=k1 at K1 ⊢
 have Q2:Hid (w.heap.size≤k2):=by unfold Hid;omega
 have Q3:Hid (w.heap.size≤k3):=by unfold Hid;omega
 generalize h0:w.heap.size=k0 at K1 Q2 Q3 ⊢
 have H0:Hid (w.heap.size=k0):=h0
 have n30:k3≠k0:=by omega
 have n31:k3≠k1:=by omega
 have n32:k3≠k2:=by omega
 clear h0 h1 h2 h3
 have hl3:∀ x∈([⟨k0,0,p0,p1,p2,p3⟩,⟨k0,4,c0,c1,c2,c3⟩,⟨k1,0,a,b,c,d⟩,⟨k2,0,0,0,0,0⟩]:List Blk),k3≠x.k:=by simp only[List.mem_cons,List.not_mem_nil,or_false];rintro x (rfl|rfl|rfl|rfl);exact n30;exact n30;exact n31;exact n32
 go_loopg [7] 254 (fun gk s7 wr=>∃ i qa qb qc qd:Nat,i+gk=254∧s7=.int .i64 i∧Kept w k0 (⟨k3,0,qa,qb,qc,qd⟩ :: [⟨k0,0,p0,p1,p2,p3⟩,⟨k0,4,c0,c1,c2,c3⟩,⟨k1,0,a,b,c,d⟩,⟨k2,0,0,0,0,0⟩]) wr∧Hid (Four (.agg #[.int .u64 qa,.int .u64 qb,.int .u64 qc,.int .u64 qd]) (P/4%2^i)))
 case atStart =>
  refine ⟨0,0,0,0,0,rfl,rfl,K1,?_⟩
  rw[Nat.pow_zero,Nat.mod_one]
  exact Four.mk (by decide) (by decide) (by decide) (by decide) rfl
 case round =>
  clear K1
  obtain ⟨i,qa,qb,qc,qd,hi,rfl,KP,HF⟩:=hrel
  by_cases hlt:i<254
  ·have hF:val qa qb qc qd=P/4%2^i∧qa<18446744073709551616∧qb<18446744073709551616∧qc<18446744073709551616∧qd<18446744073709551616:=by
    obtain ⟨a',b',c',d',e',h1,h2,h3,h4,h5⟩:=HF.out
    obtain ⟨rfl,rfl,rfl,rfl⟩:a'=qa∧b'=qb∧c'=qc∧d'=qd:=by
     simp only[Value.agg.injEq,Array.mk.injEq,List.cons.injEq,Value.int.injEq,true_and,and_true,Int.ofNat_inj] at e'
     exact ⟨e'.1.symm,e'.2.1.symm,e'.2.2.1.symm,e'.2.2.2.symm⟩
    exact ⟨h5.symm,h1,h2,h3,h4⟩
   have hwl:=quart_word hF.2.1 hF.2.2.1 hF.2.2.2.1 hF.2.2.2.2 (i:=i) (by omega) hF.1
   have xw:=KP.head.at4.wd (i/64) (by omega)
   obtain ⟨t,ht⟩:∃ t,P/2^(i+2)%2=t:=⟨_,rfl⟩
   have ht2:t<2:=by omega
   have htq:t=P/4/2^i%2:=by rw[← ht,Nat.div_div_eq_div_mul,show 4*2^i=2^(i+2) by rw[Nat.pow_add,Nat.mul_comm]]
   obtain ⟨o,ho⟩:∃ o,wd qa qb qc qd (i/64)+t*2^(i%64)=o:=⟨_,rfl⟩
   have hst:=quart_step (i:=i) (by omega) hF.1 htq ho.symm
   obtain ⟨hor,hol⟩:=or_high _ t (i%64) (by omega) hwl ht2
   rw[ho] at hor hol
   have HST:Hid (Four (.agg #[.int .u64 ((if i/64=0 then o else qa:Nat):Int),.int .u64 ((if i/64=1 then o else qb:Nat):Int),.int .u64 ((if i/64=2 then o else qc:Nat):Int),.int .u64 ((if i/64=3 then o else qd:Nat):Int)]) (P/4%2^(i+1))):=by
    refine Four.mk ?_ ?_ ?_ ?_ hst.symm
    ·split;exact hol;exact hF.2.1
    ·split;exact hol;exact hF.2.2.1
    ·split;exact hol;exact hF.2.2.2.1
    ·split;exact hol;exact hF.2.2.2.2
   obtain ⟨y,hy⟩:∃ y,t*2^(i%64)=y:=⟨_,rfl⟩
   have hyl:y<18446744073709551616:=by omega
   rw[hy] at hor
   obtain ⟨v,hv⟩:∃ v,wd qa qb qc qd (i/64)=v:=⟨_,rfl⟩
   rw[hv] at hor xw
   obtain ⟨j,hj⟩:∃ j,i/64=j:=⟨_,rfl⟩
   obtain ⟨r,hr⟩:∃ r,i%64=r:=⟨_,rfl⟩
   obtain ⟨i2,hi2⟩:∃ i2,i+2=i2:=⟨_,rfl⟩
   rw[hj] at xw HST
   have hsh:IntKind.u64.wrap ((t:Int)*2^r)=(y:Int):=by
    rw[← hr,← hy,Int.natCast_mul,Int.natCast_pow]
    have:=wrapN (t*2^(i%64)) (by omega)
    rw[Int.natCast_mul,Int.natCast_pow] at this
    exact this
   have HBT:Hid (∀ w,Calls Tryz.prog 74 #[.agg #[.int .u64 p0,.int .u64 p1,.int .u64 p2,.int .u64 p3],.int .i64 i2] w (Ret fun e w'=>Below w.heap.size w w'∧∃ t:Nat,e=.int .u64 t∧t=P/2^i2%2)):=fun w=>rBit_any _ P i2 HP4.out (by omega) w
   have HT:Hid (P/2^i2%2=t):=by unfold Hid;rw[← hi2];exact ht
   have e1:(i:Int).tdiv 64=(j:Int):=by rw[Int.tdiv_eq_ediv_of_nonneg (by omega)];omega
   have e2:(i:Int).tmod 64=(r:Int):=by rw[Int.tmod_eq_emod_of_nonneg (by omega)];omega
   have e3:(j:Int)<4:=by omega
   have e4:IntKind.i64.wrap (j:Int)=(j:Int):=wrap_i _ (by omega)
   have e5:IntKind.i64.wrap (r:Int)=(r:Int):=wrap_i _ (by omega)
   have e6:(i:Int)+2=(i2:Int):=by omega
   have e7:IntKind.i64.wrap (i2:Int)=(i2:Int):=wrap_i _ (by omega)
   have e8:(r:Int)<64:=by omega
   have e9:r<64:=by omega
   have hlt':(i:Int)<254:=by omega
   have T1:=fun W (h:At4 W k3 qa qb qc qd)=>At4.setq h j o (by omega)
   have hj4:j<4:=by omega
   have XJ:=fun W (h:At4 W k3 qa qb qc qd)=>At4.wd h j hj4
   rw[← hj,hv,hj] at XJ
   have HJ:Hid (j<4):=hj4
   clear hy hv hj hr ho hst hF ht htq hwl hi2 HF hj4
   go_upto_region 5 with fail
   refine anyTill.begin (fun w'=>w'.cell? ⟨k0,0,none⟩=some (.int .u64 p0)∧w'.cell? ⟨k0,1,none⟩=some (.int .u64 p1)∧w'.cell? ⟨k0,2,none⟩=some (.int .u64 p2)∧w'.cell? ⟨k0,3,none⟩=some (.int .u64 p3)∧w'.cell? ⟨k3,j,none⟩=some (.int .u64 v)∧Kept w k0 (⟨k3,0,qa,qb,qc,qd⟩ :: [⟨k0,0,p0,p1,p2,p3⟩,⟨k0,4,c0,c1,c2,c3⟩,⟨k1,0,a,b,c,d⟩,⟨k2,0,0,0,0,0⟩]) w') 16 mixed (sqS_of KP.drew (XJ _ KP.head.at4.drew)) (fun hS=>?_)
   refine anyTill.tk (i:=0) (v:=?_) rfl (Or.inl ⟨by rfl,?_⟩) hS ?_
   rotate_left
   ·intro w hSw
    (try dsimp only at hSw)
    go_simp
    try (with_reducible rfl)
   simp only[Act.put,List.setIfInBounds_toArray]
   refine anyTill.tk (i:=1) (v:=?_) rfl (Or.inl ⟨by rfl,?_⟩) hS ?_
   rotate_left
   ·intro w hSw
    (try dsimp only at hSw)
    go_simp
    try (with_reducible rfl)
   simp only[Act.put]
   refine anyTill.tk (i:=2) (v:=?_) rfl (Or.inl ⟨by rfl,?_⟩) hS ?_
   rotate_left
   ·intro w hSw
    (try dsimp only at hSw)
    go_simp
    try (with_reducible rfl)
   simp only[Act.put]
   refine anyTill.tk (i:=3) (v:=?_) rfl (Or.inl ⟨by rfl,?_⟩) hS ?_
   rotate_left
   ·intro w hSw
    (try dsimp only at hSw)
    go_simp
    try (with_reducible rfl)
   simp only[Act.put]
   refine anyTill.tk (i:=4) (v:=?_) rfl (Or.inl ⟨by rfl,?_⟩) hS ?_
   rotate_left
   ·intro w hSw
    (try dsimp only at hSw)
    go_simp
    try (with_reducible rfl)
   simp only[Act.put]
   refine anyTill.tk (i:=5) (v:=?_) rfl (Or.inl ⟨by rfl,?_⟩) hS ?_
   rotate_left
   ·intro w hSw
    (try dsimp only at hSw)
    go_simp
    try (with_reducible rfl)
   simp only[Act.put]
   refine anyTill.tk (i:=6) (v:=?_) rfl (Or.inl ⟨by rfl,?_⟩) hS ?_
   rotate_left
   ·intro w hSw
    (try dsimp only at hSw)
    go_simp
    try (with_reducible rfl)
   simp only[Act.put]
   refine anyTill.tk (i:=7) (v:=?_) rfl (Or.inl ⟨by rfl,?_⟩) hS ?_
   rotate_left
   ·intro w hSw
    (try dsimp only at hSw)
    go_simp
    try (with_reducible rfl)
   simp only[Act.put]
   refine anyTill.tk (i:=8) (v:=?_) rfl (Or.inl ⟨by rfl,?_⟩) hS ?_
   rotate_left
   ·intro w hSw
    (try dsimp only at hSw)
    go_simp
    try (with_reducible rfl)
   simp only[Act.put]
   refine anyTill.tk (i:=9) (v:=?_) rfl (Or.inl ⟨by rfl,?_⟩) hS ?_
   rotate_left
   ·intro w hSw
    (try dsimp only at hSw)
    go_simp
    try (with_reducible rfl)
   simp only[Act.put]
   refine anyTill.tk (i:=11) (v:=?_) rfl (Or.inl ⟨by rfl,?_⟩) hS ?_
   rotate_left
   ·intro w hSw
    (try dsimp only at hSw)
    go_simp
    try (with_reducible rfl)
   simp only[Act.put]
   refine anyTill.tk (i:=12) (v:=?_) rfl (Or.inl ⟨by rfl,?_⟩) hS ?_
   rotate_left
   ·intro w hSw
    (try dsimp only at hSw)
    go_simp
    try (with_reducible rfl)
   simp only[Act.put]
   try simp only[List.set_cons_zero,List.set_cons_succ]
   refine anyTill.step (i:=10) rfl (by kernel_rfl) (fun K hK=>?_)
   go_simp
   refine (HBT.out _).mono ?_
   rintro e w1 ⟨v',rfl,hb1,t',rfl,ht'⟩
   rw[HT.out] at ht'
   subst ht'
   clear hS
   have KP1:=KP.drew.call hb1
   clear hb1 KP
   refine hK.out _ _ (fun _=>sqS_of KP1 (XJ _ KP1.head.at4)) ?_
   clear hK K
   try simp only[Act.put,List.setIfInBounds_toArray,List.set_cons_zero,List.set_cons_succ]
   have cj:=XJ _ KP1.head.at4
   have cf:=KP1.head.f
   have cz:=KP1.head.lt
   refine anyTill.step (i:=13) rfl (by kernel_rfl) (fun K hK=>?_)
   go_simp
   refine hK.out _ _ (fun _=>sqS_of KP1 (XJ _ KP1.head.at4)) ?_
   clear hK K
   try simp only[Act.put,List.setIfInBounds_toArray,List.set_cons_zero,List.set_cons_succ]
   refine anyTill.step (i:=14) rfl (by kernel_rfl) (fun K hK=>?_)
   go_simp
   refine hK.out _ _ (fun _=>sqS_of KP1 (XJ _ KP1.head.at4)) ?_
   clear hK K
   try simp only[Act.put,List.setIfInBounds_toArray,List.set_cons_zero,List.set_cons_succ]
   refine anyTill.step (i:=15) rfl (by kernel_rfl) (fun K hK=>?_)
   go_simp
   refine hK.out _ _ (fun _=>sqS_of KP1 (XJ _ KP1.head.at4)) ?_
   clear hK K
   try simp only[Act.put,List.setIfInBounds_toArray,List.set_cons_zero,List.set_cons_succ]
   refine anyTill.step (i:=16) rfl (by kernel_rfl) (fun K hK=>?_)
   go_simp
   refine hK.out _ _ (fun h=>Bool.noConfusion h) ?_
   clear hK K
   try simp only[Act.put,List.setIfInBounds_toArray,List.set_cons_zero,List.set_cons_succ]
   refine anyTill.done (by kernel_rfl) ?_ _
   clear cj cf cz
   go_wp2
   go_roundg (gk-1)
   case measure=>omega
   case rel =>
    refine ⟨i+1,_,_,_,_,by omega,rfl,?_,HST⟩
    exact (KP1.tail.set (j:=k3) (i:=j) Q3.out hl3 _).cons (T1 _ KP1.head.at4).blk
  ·have hi254:i=254:=by omega
   subst hi254
   have hF:=HF.out
   have hPt:=HP4.out.lt
   rw[Nat.mod_eq_of_lt (show P/4<2^254 by unfold top at hPt;omega)] at hF
   have hq:val qa qb qc qd=P/4∧qa<18446744073709551615∧qb<18446744073709551616∧qc<18446744073709551616∧qd<18446744073709551616:=by
    obtain ⟨a',b',c',d',e',h1,h2,h3,h4,h5⟩:=hF
    obtain ⟨rfl,rfl,rfl,rfl⟩:a'=qa∧b'=qb∧c'=qc∧d'=qd:=by
     simp only[Value.agg.injEq,Array.mk.injEq,List.cons.injEq,Value.int.injEq,true_and,and_true,Int.ofNat_inj] at e'
     exact ⟨e'.1.symm,e'.2.1.symm,e'.2.2.1.symm,e'.2.2.2.symm⟩
    refine ⟨h5.symm,?_,h2,h3,h4⟩
    have h6:=HP1.out
    rw[h5] at h6
    unfold val at h6
    omega
   obtain ⟨qe,hqe'⟩:∃ qe,qa+1=qe:=⟨_,rfl⟩
   have HE:Hid (Four (.agg #[.int .u64 qe,.int .u64 qb,.int .u64 qc,.int .u64 qd]) (P/4+1)):=by
    refine Four.mk (by omega) hq.2.2.1 hq.2.2.2.1 hq.2.2.2.2 ?_
    rw[← hq.1,← hqe'];unfold val;omega
   have hadd:(qa:Int)+1=(qe:Int):=by omega
   have hw:=wrapN qe (by omega)
   clear hq hF hPt HF hqe'
   obtain ⟨qc0,qc1,qc2,qc3,qf⟩:=KP.head.at4
   have zq:=KP.head.lt
   obtain ⟨xc0,xc1,xc2,xc3,xf⟩:=KP.tail.tail.tail.head.at4
   have zx:=KP.tail.tail.tail.head.lt
   obtain ⟨fc0,fc1,fc2,fc3,ff⟩:=KP.tail.head.at4
   have fb:=KP.tail.tail.head
   have fd0:wr.cell? ⟨k0,4,none⟩=some (.int .u64 c0):=fb.c0
   have fd1:wr.cell? ⟨k0,5,none⟩=some (.int .u64 c1):=fb.c1
   have fd2:wr.cell? ⟨k0,6,none⟩=some (.int .u64 c2):=fb.c2
   have fd3:wr.cell? ⟨k0,7,none⟩=some (.int .u64 c3):=fb.c3
   have zf:=KP.tail.head.lt
   go_wp2_with fail
   clear qc0 qc1 qc2 qc3 qf zq xc0 xc1 xc2 xc3 xf zx fc0 fc1 fc2 fc3 ff fb fd0 fd1 fd2 fd3 zf
   have KP2:=KP.tail.set (j:=k3) (i:=0) Q3.out hl3 (.int .u64 qe)
   clear KP
   generalize World.setCell _ _ _=WS at KP2 ⊢
   refine (rPow_any p0 p1 p2 p3 c0 c1 c2 c3 P _ _ _ _ HR.out HX.out HE.out _).mono ?_
   rintro e w3 ⟨v,rfl,hb3,hF⟩
   have K:=KP2.call hb3
   clear hb3 KP2 HE hadd hw
   obtain ⟨ra,rb,rc,rd,rfl,-⟩:=id hF
   rw[HRE.out] at hF
   have HF:Hid (Four _ R):=hF
   clear hF
   go_upto_region 8 with fail
   have KP:Kept w k0 (⟨w3.heap.size,0,ra,rb,rc,rd⟩ :: [⟨k0,0,p0,p1,p2,p3⟩,⟨k0,4,c0,c1,c2,c3⟩,⟨k1,0,a,b,c,d⟩,⟨k2,0,0,0,0,0⟩]) _:=(K.alloc (.cells #[.int .u64 ra,.int .u64 rb,.int .u64 rc,.int .u64 rd] 58)).cons (At4.made w3 58 ra rb rc rd rfl).blk
   have n80:w3.heap.size≠k0:=Nat.ne_of_gt K.head.lt
   have n81:w3.heap.size≠k1:=Nat.ne_of_gt K.tail.tail.head.lt
   have n82:w3.heap.size≠k2:=Nat.ne_of_gt K.tail.tail.tail.head.lt
   have Q8:Hid (k0≤w3.heap.size):=K.le
   clear K
   generalize World.alloc _ _=W4 at KP ⊢
   generalize w3.heap.size=k8 at KP n80 n81 n82 Q8 ⊢
   by_cases heq:R*R%P=m
   ·have hsame:=same_R a b c d
    go_region_held3 (fun w'=>w'.cell? ⟨k0,0,none⟩=some (.int .u64 p0)∧w'.cell? ⟨k0,1,none⟩=some (.int .u64 p1)∧w'.cell? ⟨k0,2,none⟩=some (.int .u64 p2)∧w'.cell? ⟨k0,3,none⟩=some (.int .u64 p3)∧w'.cell? ⟨k0,4,none⟩=some (.int .u64 c0)∧w'.cell? ⟨k0,5,none⟩=some (.int .u64 c1)∧w'.cell? ⟨k0,6,none⟩=some (.int .u64 c2)∧w'.cell? ⟨k0,7,none⟩=some (.int .u64 c3)∧w'.cell? ⟨k8,0,none⟩=some (.int .u64 ra)∧w'.cell? ⟨k8,1,none⟩=some (.int .u64 rb)∧w'.cell? ⟨k8,2,none⟩=some (.int .u64 rc)∧w'.cell? ⟨k8,3,none⟩=some (.int .u64 rd)∧w'.cell? ⟨k1,0,none⟩=some (.int .u64 a)∧w'.cell? ⟨k1,1,none⟩=some (.int .u64 b)∧w'.cell? ⟨k1,2,none⟩=some (.int .u64 c)∧w'.cell? ⟨k1,3,none⟩=some (.int .u64 d)∧Kept w k0 (⟨k8,0,ra,rb,rc,rd⟩ :: [⟨k0,0,p0,p1,p2,p3⟩,⟨k0,4,c0,c1,c2,c3⟩,⟨k1,0,a,b,c,d⟩,⟨k2,0,0,0,0,0⟩]) w') (first|(with_reducible exact sqrS_of KP)|(with_reducible exact sqrS_of KP.drew)|fail) (first|(go_at_call 47;refine (rMul_R HR.out HF.out HF.out _).mono ?_;rintro e w5 ⟨v,rfl,hb1,hF3⟩;rw[heq] at hF3;obtain rfl:=hF3.inj HX.out;clear hF3;(first|(with_reducible (have KP1:=KP.drew.call hb1))|(with_reducible (have KP1:=KP.call hb1))|fail);clear KP hb1;have KP:=KP1;clear KP1))
    have HEQ:Hid (R*R%P=m):=heq
    clear heq
    rename_i hHeld
    clear hHeld
    obtain ⟨ra',rb',rc',rd',e',hra,-⟩:=id HF.out
    obtain ⟨rfl,-⟩:ra'=ra∧True:=by
     simp only[Value.agg.injEq,Array.mk.injEq,List.cons.injEq,Value.int.injEq,true_and,and_true,Int.ofNat_inj] at e'
     exact ⟨e'.1.symm,trivial⟩
    clear e'
    have hodd2:R%2=ra'%2:=by
     obtain ⟨x1,x2,x3,x4,e',-,-,-,-,h5⟩:=id HF.out
     simp only[Value.agg.injEq,Array.mk.injEq,List.cons.injEq,Value.int.injEq,true_and,and_true,Int.ofNat_inj] at e'
     rw[h5,← e'.1]
     unfold val
     omega
    have hand:=and_one ra' hra
    obtain ⟨tc0,tc1,tc2,tc3,tf⟩:=KP.head.at4
    have zt:=KP.head.lt
    obtain ⟨uc0,uc1,uc2,uc3,uf⟩:=KP.tail.tail.tail.tail.head.at4
    have zu:=KP.tail.tail.tail.tail.head.lt
    have h2:ra'%2=0∨ra'%2=1:=by omega
    rcases h2 with h|h
    ·rw[h] at hand hodd2
     have HF8:Hid (Four (.agg #[.int .u64 ra',.int .u64 rb,.int .u64 rc,.int .u64 rd]) (even P R)):=by
      have h1:even P R=R:=by unfold even;rw[if_neg (by omega)]
      unfold Hid
      rw[h1]
      exact HF.out
     clear h hodd2 hra
     go_wp2
     have RF:=KP.tail.tail.tail.tail.head.at4.self4 ra' rb rc rd
     unfold set4 at RF
     refine bodyPost_ret (v:=?v) ?hr rfl ?hR
     case hr=>simp[results,Tryz.results102,go_sem,RF.c0,RF.c1,RF.c2,RF.c3];rfl
     refine ⟨_,rfl,?_,RootR.yes HEQ.out HF8.out⟩
     rw[H0.out]
     exact below_set4 KP.bl Q2.out _ _ _ _
    ·rw[h] at hand hodd2
     have HO:Hid (R%2=1):=hodd2
     clear h hodd2 hra
     obtain ⟨fc0,fc1,fc2,fc3,ff⟩:=KP.tail.head.at4
     have fb:=KP.tail.tail.head
     have fd0:w5.cell? ⟨k0,4,none⟩=some (.int .u64 c0):=fb.c0
     have fd1:w5.cell? ⟨k0,5,none⟩=some (.int .u64 c1):=fb.c1
     have fd2:w5.cell? ⟨k0,6,none⟩=some (.int .u64 c2):=fb.c2
     have fd3:w5.cell? ⟨k0,7,none⟩=some (.int .u64 c3):=fb.c3
     have zf:=KP.tail.head.lt
     go_wp2_with fail
     clear tc0 tc1 tc2 tc3 tf zt uc0 uc1 uc2 uc3 uf zu fc0 fc1 fc2 fc3 ff fb fd0 fd1 fd2 fd3 zf hand
     refine (rNeg_any p0 p1 p2 p3 c0 c1 c2 c3 P _ _ HR.out HF.out HRP.out _).mono ?_
     rintro e w8 ⟨v,rfl,hb8,hF8⟩
     obtain ⟨sa,sb,sc,sd,rfl,-⟩:=id hF8
     have HF8:Hid (Four (.agg #[.int .u64 sa,.int .u64 sb,.int .u64 sc,.int .u64 sd]) (even P R)):=by
      have h1:(P-R)%P=even P R:=by
       unfold even
       rw[if_pos HO.out]
       exact Nat.mod_eq_of_lt (by have:=HRP.out;have:=HO.out;omega)
      unfold Hid
      rw[← h1]
      exact hF8
     replace KP:=KP.call hb8
     clear hb8 hF8
     obtain ⟨tc0,tc1,tc2,tc3,tf⟩:=KP.head.at4
     have zt:=KP.head.lt
     obtain ⟨uc0,uc1,uc2,uc3,uf⟩:=KP.tail.tail.tail.tail.head.at4
     have zu:=KP.tail.tail.tail.tail.head.lt
     go_wp2
     have RF:=(KP.tail.tail.tail.tail.head.at4.other4 n82 (.int .u64 sa) (.int .u64 sb) (.int .u64 sc) (.int .u64 sd)).self4 sa sb sc sd
     unfold set4 at RF
     refine bodyPost_ret (v:=?v2) ?hr2 rfl ?hR2
     case hr2=>simp[results,Tryz.results102,go_sem,RF.c0,RF.c1,RF.c2,RF.c3];rfl
     refine ⟨_,rfl,?_,RootR.yes HEQ.out HF8.out⟩
     rw[H0.out]
     exact below_set4 (below_set4 KP.bl Q8.out _ _ _ _) Q2.out _ _ _ _
   ·go_region_held3 (fun w'=>w'.cell? ⟨k0,0,none⟩=some (.int .u64 p0)∧w'.cell? ⟨k0,1,none⟩=some (.int .u64 p1)∧w'.cell? ⟨k0,2,none⟩=some (.int .u64 p2)∧w'.cell? ⟨k0,3,none⟩=some (.int .u64 p3)∧w'.cell? ⟨k0,4,none⟩=some (.int .u64 c0)∧w'.cell? ⟨k0,5,none⟩=some (.int .u64 c1)∧w'.cell? ⟨k0,6,none⟩=some (.int .u64 c2)∧w'.cell? ⟨k0,7,none⟩=some (.int .u64 c3)∧w'.cell? ⟨k8,0,none⟩=some (.int .u64 ra)∧w'.cell? ⟨k8,1,none⟩=some (.int .u64 rb)∧w'.cell? ⟨k8,2,none⟩=some (.int .u64 rc)∧w'.cell? ⟨k8,3,none⟩=some (.int .u64 rd)∧w'.cell? ⟨k1,0,none⟩=some (.int .u64 a)∧w'.cell? ⟨k1,1,none⟩=some (.int .u64 b)∧w'.cell? ⟨k1,2,none⟩=some (.int .u64 c)∧w'.cell? ⟨k1,3,none⟩=some (.int .u64 d)∧Kept w k0 (⟨k8,0,ra,rb,rc,rd⟩ :: [⟨k0,0,p0,p1,p2,p3⟩,⟨k0,4,c0,c1,c2,c3⟩,⟨k1,0,a,b,c,d⟩,⟨k2,0,0,0,0,0⟩]) w') (first|(with_reducible exact sqrS_of KP)|(with_reducible exact sqrS_of KP.drew)|fail) (first|(go_at_call 47;refine (rMul_R HR.out HF.out HF.out _).mono ?_;rintro e w5 ⟨v,rfl,hb1,hF3⟩;obtain ⟨ta,tb,tc,td,rfl,hne⟩:=four_ne hF3 HX.out heq;have hoth:=other_R hne;clear hF3;(first|(with_reducible (have KP1:=KP.drew.call hb1))|(with_reducible (have KP1:=KP.call hb1))|fail);clear KP hb1;have KP:=KP1;clear KP1))
    have HEQ:Hid (¬ R*R%P=m):=heq
    clear heq
    rename_i hHeld
    clear hHeld
    obtain ⟨uc0,uc1,uc2,uc3,uf⟩:=KP.tail.tail.tail.tail.head.at4
    have zu:=KP.tail.tail.tail.tail.head.lt
    go_wp2
    have RF:At4 (set4 w5 k2 (.int .u64 0) (.int .u64 0) (.int .u64 0) (.int .u64 0)) k2 0 0 0 0:=KP.tail.tail.tail.tail.head.at4.self4 0 0 0 0
    unfold set4 at RF
    refine bodyPost_ret (v:=?v3) ?hr3 rfl ?hR3
    case hr3=>simp[results,Tryz.results102,go_sem,RF.c0,RF.c1,RF.c2,RF.c3];rfl
    refine ⟨_,rfl,?_,RootR.no HEQ.out⟩
    rw[H0.out]
    exact below_set4 KP.bl Q2.out _ _ _ _
def bytesTo (T:Bs):Nat→Bs
 | 0=>Array.replicate 32 0
 | k+1=>(bytesTo T k).setIfInBounds k T[k]!
theorem bytesTo_size (T:Bs) (k:Nat):(bytesTo T k).size=32:=by
 induction k with
 | zero=>simp[bytesTo]
 | succ k ih=>simp[bytesTo,ih]
theorem bytesTo_at (T:Bs) (k j:Nat) (hk:k≤32) (hj:j<k):(bytesTo T k)[j]! = T[j]!:=by
 induction k with
 | zero=>omega
 | succ k ih =>
  by_cases h:j=k
  ·subst h
   exact getElem!_set_same _ _ _ (by rw[bytesTo_size];omega)
  ·rw[bytesTo,getElem!_set_other _ _ _ _ h]
   exact ih (by omega) (by omega)
theorem bytesTo_all {w:World} {g:Nat} {T:Bs} (hT:T.size=32) (h:Holds encB w g 0 (bytesTo T 32)):Holds encB w g 0 T:=by
 intro j hj
 rw[← bytesTo_at T 32 j (Nat.le_refl _) (by omega)]
 exact h j (by rw[bytesTo_size];omega)
def wordOf (a b c d k:Nat):Nat:=if k<8 then a else if k<16 then b else if k<24 then c else d
theorem be8_at (x j:Nat) (hj:j<8):(be8 x)[j]! = UInt8.ofNat (x/2^(8*(7-j))):=by
 match j,hj with
 | 0,_=>rfl
 | 1,_=>rfl
 | 2,_=>rfl
 | 3,_=>rfl
 | 4,_=>rfl
 | 5,_=>rfl
 | 6,_=>rfl
 | 7,_ =>
  show UInt8.ofNat x=UInt8.ofNat (x/2^(8*(7-7)))
  rw[Nat.sub_self,Nat.mul_zero,Nat.pow_zero,Nat.div_one]
theorem be32_at (a b c d i:Nat) (hi:i<32):(be32 a b c d)[i]! = UInt8.ofNat (wordOf a b c d (31-i)/2^(8*((31-i)%8))):=by
 have e:be32 a b c d=be8 d++be8 c++be8 b++be8 a:=rfl
 have s1:(be8 d++be8 c).size=16:=by simp only[Array.size_append,be8_size]
 have s2:(be8 d++be8 c++be8 b).size=24:=by simp only[Array.size_append,be8_size]
 unfold wordOf
 by_cases k1:i<8
 ·rw[if_neg (by omega),if_neg (by omega),if_neg (by omega),show (31-i)%8=7-i by omega,← be8_at d i k1,
   e,app_front _ _ i (by omega),← getElem!_pos (be8 d++be8 c++be8 b) i (by omega),app_front _ _ i (by omega),← getElem!_pos (be8 d++be8 c) i (by omega),app_front _ _ i (by rw[be8_size];exact k1),← getElem!_pos (be8 d) i (by rw[be8_size];exact k1)]
 ·by_cases k2:i<16
  ·rw[if_neg (by omega),if_neg (by omega),if_pos (by omega),show (31-i)%8=7-(i-8) by omega,← be8_at c (i-8) (by omega),
    e,app_front _ _ i (by omega),← getElem!_pos (be8 d++be8 c++be8 b) i (by omega),app_front _ _ i (by omega),← getElem!_pos (be8 d++be8 c) i (by omega),app_back _ _ i (by rw[be8_size];omega) (by rw[be8_size,be8_size];omega),be8_size]
  ·by_cases k3:i<24
   ·rw[if_neg (by omega),if_pos (by omega),show (31-i)%8=7-(i-16) by omega,← be8_at b (i-16) (by omega),
     e,app_front _ _ i (by omega),← getElem!_pos (be8 d++be8 c++be8 b) i (by omega),app_back _ _ i (by omega) (by rw[s1,be8_size];omega),s1]
   ·rw[if_pos (by omega),show (31-i)%8=7-(i-24) by omega,← be8_at a (i-24) (by omega),
     e,app_back _ _ i (by omega) (by rw[s2,be8_size];omega),s2]
theorem wordOf_lt {a b c d:Nat} (k:Nat) (ha:a<18446744073709551616) (hb:b<18446744073709551616) (hc:c<18446744073709551616) (hd:d<18446744073709551616):wordOf a b c d k<18446744073709551616:=by
 unfold wordOf;split;exact ha;split;exact hb;split;exact hc;exact hd
theorem At4.word {w:World} {k a b c d:Nat} (h:At4 w k a b c d) (i:Nat) (hi:i<32):w.cell? ⟨k,i/8,none⟩=some (.int .u64 (wordOf a b c d i:Int)):=by
 unfold wordOf
 by_cases h1:i<8
 ·rw[if_pos h1,show i/8=0 by omega];exact h.c0
 ·rw[if_neg h1]
  by_cases h2:i<16
  ·rw[if_pos h2,show i/8=1 by omega];exact h.c1
  ·rw[if_neg h2]
   by_cases h3:i<24
   ·rw[if_pos h3,show i/8=2 by omega];exact h.c2
   ·rw[if_neg h3,show i/8=3 by omega];exact h.c3
theorem rBytes_any (x:Value) (m:Nat) (w:World) (hx:Four x m) :
 Calls Tryz.prog 34 #[x] w (Ret fun e w'=>Below w.heap.size w w'∧∃ a b c d:Nat,x=.agg #[.int .u64 a,.int .u64 b,.int .u64 c,.int .u64 d]∧e=.string ⟨be32 a b c d⟩):=by
 obtain ⟨a,b,c,d,rfl,ha,hb,hc,hd,em⟩:=hx
 clear em
 have hmk:∀ w:World,(Instr.makeSlice 24 (.int .i64 32) (.int .i64 32)).run Tryz.prog w=.ok (.slice (some ⟨w.heap.size,0,none⟩) 32 32) (w.alloc (.cells (madeCells #[.int .u8 0] 32) 5)):=
  run_make_row' (P:=Tryz.prog) 24 5 (.int .u8 0) 1 slice22 info5 rfl .i64 .i64 32 (by omega) (by omega)
 go_enter Tryz.func34,Tryz.ntmps34
 go_wp2
 have hH0:Holds encB (((w.alloc (.cells #[.int .u64 a,.int .u64 b,.int .u64 c,.int .u64 d] 58)).alloc (.cells (madeCells #[.int .u8 0] 32) 5))) (w.heap.size+1) 0 (Array.replicate 32 0):=by
  have:=Holds.made (enc:=encB) (w.alloc (.cells #[.int .u64 a,.int .u64 b,.int .u64 c,.int .u64 d] 58)) 5 32 0
  rw[World.size_alloc] at this
  exact this
 have hb0:=below2 w (.cells #[.int .u64 a,.int .u64 b,.int .u64 c,.int .u64 d] 58) (.cells (madeCells #[.int .u8 0] 32) 5)
 have X:=(At4.made w 58 a b c d rfl).alloc (.cells (madeCells #[.int .u8 0] 32) 5)
 generalize World.alloc _ _=W at hH0 hb0 X ⊢
 have HBW:Hid (Below w.heap.size w W):=hb0
 clear hb0 hmk
 go_loopg [4] 32 (fun gk s4 wr=>∃ (k:Nat),k+gk=32∧s4=.int .i64 k∧Holds encB wr (w.heap.size+1) 0 (bytesTo (be32 a b c d) k)∧At4 wr w.heap.size a b c d∧Hid (Below w.heap.size w wr))
 case atStart=>exact ⟨0,rfl,rfl,hH0,X,HBW⟩
 case round =>
  obtain ⟨k,hk,rfl,hB,X',HB⟩:=hrel
  by_cases hlt:k<32
  ·obtain ⟨c0,f0⟩:=hB k (by rw[bytesTo_size];omega)
   rw[Nat.zero_add] at c0 f0
   have xw:=X'.word (31-k) (by omega)
   have hwl:=wordOf_lt (31-k) ha hb hc hd
   have hbyte:=be32_at a b c d k hlt
   obtain ⟨q,hq⟩:∃ q,31-k=q:=⟨_,rfl⟩
   rw[hq] at xw hwl hbyte
   generalize wordOf a b c d q=v at xw hwl hbyte
   have i1:(31:Int)-(k:Int)=(q:Int):=by omega
   have i2:(q:Int).tdiv 8=((q/8:Nat):Int):=by rw[Int.tdiv_eq_ediv_of_nonneg (by omega)];omega
   have i3:(q:Int).tmod 8=((q%8:Nat):Int):=by rw[Int.tmod_eq_emod_of_nonneg (by omega)];omega
   have i4:(q/8:Nat)<4:=by omega
   have hlt':(k:Int)<32:=by omega
   have hs1:(8:Int)*((q%8:Nat):Int)=((8*(q%8):Nat):Int):=by omega
   have hv:(Value.int .u8 ((v:Int)/2^(8*(q%8))%256))=encB (be32 a b c d)[k]!:=by
    rw[hbyte,← byte_at v (2^(8*(q%8))),Int.natCast_pow]
    rfl
   have Hv:Hid (_=_):=hv
   clear hv hbyte hq
   go_wp2
   rw[Hv.out]
   go_roundg (gk-1)
   case measure=>omega
   case rel =>
    refine ⟨k+1,by omega,rfl,?_,X'.other (by omega) _,HB.out.setCell (p:=⟨w.heap.size+1,k,none⟩) (Nat.le_succ _) _⟩
    have:=Holds.set hB (i:=k) (by rw[bytesTo_size];omega) (be32 a b c d)[k]!
    rw[Nat.zero_add] at this
    exact this
  ·have hk32:k=32:=by omega
   subst hk32
   have hT:=bytesTo_all (be32_size a b c d) hB
   have kc:=conv_str Tryz.prog 24 9 5 slice22 int5 str9 wr (w.heap.size+1) 0 32 32 _ hT (be32_size a b c d)
   clear hB hT
   go_wp2
   go_ret
   exact ⟨_,rfl,HB.out,a,b,c,d,rfl,rfl⟩
end
section
open Go.RowKit Go.Sort Go.Deep
structure Ord (N:Nat):Prop where
 gap:Gap 4624529908474429119 4994812053365940164 1 N
 ref:RefP 13822214165235122497 13451932020343611451 18446744073709551614 18446744073709551615 4624529908474429119 4994812053365940164 1 0 N
 le:N≤top
 n2:2≤N%18446744073709551616
variable {N:Nat}
theorem Ord.pos (O:Ord N):0<N:=by have:=O.n2;omega
theorem Ord.four (O:Ord N) {a:Nat} (h:a<N):Four (nv a) a:=four_nv (Nat.lt_of_lt_of_le h O.le)
theorem nv_words {a x y z u:Nat} (h:nv a=.agg #[.int .u64 x,.int .u64 y,.int .u64 z,.int .u64 u]):be32 x y z u=bx a:=by
 have h1:wn a=[.int .u64 x,.int .u64 y,.int .u64 z,.int .u64 u]:=by
  unfold nv at h
  injection h with h
  exact congrArg Array.toList h
 unfold wn at h1
 simp only[List.cons.injEq,Value.int.injEq,true_and,and_true,Int.natCast_inj] at h1
 obtain ⟨rfl,rfl,rfl,rfl⟩:=h1
 rfl
theorem qBytes_c (O:Ord N) {a:Nat} (ha:a<N):Gives 34 #[nv a] (.string ⟨bx a⟩):=fun w =>
 (rBytes_any _ a w (O.four ha)).mono (by
  rintro e w' ⟨v,rfl,hb,x,y,z,u,he,rfl⟩
  exact ⟨_,rfl,hb,by rw[nv_words he]⟩)
def cb (b:Bs):List Value:=b.toList.map encB
theorem cb_length (b:Bs):(cb b).length=b.size:=by unfold cb;rw[List.length_map,Array.length_toList]
theorem cb_range {w:World} {g:Nat} {b:Bs} (h:Holds encB w g 0 b):w.rangeAt g 0 (cb b)∧w.there g 0 (cb b).length:=by
 refine ⟨fun j v hv=>?_,fun j hj=>?_⟩
 ·have hj:j<b.size:=by rw[← cb_length];exact (List.getElem?_eq_some_iff.1 hv).1
  rw[(h j hj).1]
  unfold cb at hv
  rw[List.getElem?_map,Array.getElem?_toList,Array.getElem?_eq_getElem hj] at hv
  rw[getElem!_pos b j hj]
  exact hv
 ·rw[cb_length] at hj
  exact ⟨by rw[(h j hj).1];rfl,(h j hj).2⟩
theorem cb_holds {w:World} {g:Nat} {b:Bs} (h1:w.rangeAt g 0 (cb b)) (h2:w.there g 0 (cb b).length):Holds encB w g 0 b:=fun j hj=>by
 refine ⟨h1 j _ ?_,(h2 j (by rw[cb_length];exact hj)).2⟩
 unfold cb
 rw[List.getElem?_map,Array.getElem?_toList,Array.getElem?_eq_getElem hj,getElem!_pos b j hj]
 rfl
def GivesB (f:FuncId) (args:Array Value) (b:Bs) (n:Nat):Prop:=∀ w,Calls Tryz.prog f args w (Ret fun e w'=>∃ k,RG.Made w k (cb b) w'∧e=.slice (some ⟨k,0,none⟩) n n)
theorem sBytes_c (O:Ord N) {a:Nat} (ha:a<N):GivesB 28 #[nv a] (bx a) 32:=fun w =>
 (Bytes_any _ a w (O.four ha)).mono (by
  rintro e w' ⟨v,rfl,hb,g,x,y,z,u,rfl,hle,he,hH⟩
  rw[nv_words he] at hH
  obtain ⟨h1,h2⟩:=cb_range hH
  exact ⟨_,rfl,g,⟨hb,hle,Holds.lt hH (by rw[bx_size];omega),h1,h2⟩,rfl⟩)
end
section
open Go.RowKit Go.Sort Go.Deep
variable {P:Nat} [NeZero P] {N:Nat}
theorem eqS2 (a b c d p q r s:Nat) (w:World):(binOp .eql 47 (.agg #[.int .u64 a,.int .u64 b,.int .u64 c,.int .u64 d]) (.agg #[.int .u64 p,.int .u64 q,.int .u64 r,.int .u64 s])).run Tryz.prog w=.ok (.bool (decide (a=p∧b=q∧c=r∧d=s))) w:=by
 go_simp
 rw[eqP_d 9997,Result.andThen_ok]
 by_cases h1:a=p∧b=q∧c=r∧d=s
 ·rw[decide_eq_true h1]
  obtain ⟨rfl,rfl,rfl,rfl⟩:=h1
  simp
 ·have h2:(decide (a=p) && (decide (b=q) && (decide (c=r) && decide (d=s))))=false:=by
   rw[← Bool.not_eq_true,Bool.and_eq_true,Bool.and_eq_true,Bool.and_eq_true]
   simpa using h1
  rw[decide_eq_false h1,h2]
  simp
theorem eqS {a b:Nat} (ha:a<top) (hb:b<top) (w:World):(binOp .eql 47 (nv a) (nv b)).run Tryz.prog w=.ok (.bool (decide (a=b))) w:=by
 refine (eqS2 (a%18446744073709551616) (a/18446744073709551616%18446744073709551616) (a/340282366920938463463374607431768211456%18446744073709551616) (a/6277101735386680763835789423207666416102355444464034512896%18446744073709551616) (b%18446744073709551616) (b/18446744073709551616%18446744073709551616) (b/340282366920938463463374607431768211456%18446744073709551616) (b/6277101735386680763835789423207666416102355444464034512896%18446744073709551616) w).trans ?_
 simp only[wn_inj ha hb]
theorem u40:(Tryz.prog.underlying 47).map (·.isRow)=some true:=by kernel_rfl
theorem i40:(Tryz.prog.info? 47).map (·.size)=some 4:=by kernel_rfl
theorem u38:(Tryz.prog.underlying 45).map (·.isRow)=some true:=by kernel_rfl
theorem i38:(Tryz.prog.info? 45).map (·.size)=some 4:=by kernel_rfl
theorem u44:(Tryz.prog.underlying 58).map (·.isRow)=some true:=by kernel_rfl
theorem i44:(Tryz.prog.info? 58).map (·.size)=some 4:=by kernel_rfl
theorem sbytes_c (O:Ord N) {a:Nat} (ha:a<N):GivesB 13 #[nv a] (bx a) 32:=by
 intro w
 go_enter Tryz.func13,Tryz.ntmps13
 refine RG.M.enter [(0,.v (nv a))] 6 (by kernel_rfl) ?_
 intro a0 M0
 repeat refine wp_seq ?_
 refine M0.t [.m 1 [] 0,.x 2 [] (.slice none 0 0)] [(0,(wn a))] [] [(wn a)] [(1,(.p 0 0)),(2,(.v (.slice none 0 0)))] ⟨RG.mk 0 47,RG.st,trivial⟩ ?_
 intro j1 a1 w1 M1
 repeat refine wp_seq ?_
 refine M1.t [.s 3 [] (.p 0 0),.x 4 [(3,0)] (nv a),⟨some 5,[(4,1)],(.s 1 32 32),.make 1⟩,.s 2 [(5,2)] (.s 1 32 32)] [(2,(cb (bx a)))] [] [(wn a),(cb (bx a))] [(2,(.s 1 32 32))] ⟨RG.st,RG.ld u38 i38,RG.cm 1 (fun w _=>sBytes_c O ha w) fun _ _=>by kernel_rfl,RG.st,trivial⟩ ?_
 intro j2 a2 w2 M2
 refine wp_ret ?_
 refine bodyPost_ret (v:=_) (RG.results_t 2 rfl _ (M2.at (s:=.s 1 32 32))) M2.sl.defers ?_
 exact ⟨_,rfl,_,M2.st.made (b:=1) rfl,rfl⟩
theorem qscal_c (O:Ord N) (s:ByteArray):Gives 22 #[.string s] (.tuple #[nv (nuV s.data),.bool (rq N s.data).isSome]):=by
 intro w
 have hnum:=rNum_v O.ref s
 obtain ⟨m,hm⟩:∃ m,m=nuV s.data:=⟨_,rfl⟩
 obtain ⟨ok,hok⟩:∃ b,b=(rq N s.data).isSome:=⟨_,rfl⟩
 rw[← hm,← hok] at hnum ⊢
 go_enter Tryz.func22,Tryz.ntmps22
 refine RG.M.enter [(0,.v (.string s))] 9 (by kernel_rfl) ?_
 intro a0 M0
 repeat refine wp_seq ?_
 refine M0.t [.m 2 [] 0,.x 3 [] (.bool false)] [(0,(RG.z 4))] [] [(RG.z 4)] [(0,(.v (.string s))),(2,(.p 0 0)),(3,(.v (.bool false)))] ⟨RG.mk 0 58,RG.st,trivial⟩ ?_
 intro j1 a1 w1 M1
 repeat refine wp_seq ?_
 refine M1.t [.c 4 [] rv1,.x 5 [] (.string s),.c 6 [(4,0),(5,1)] (.tuple #[(nv m),(.bool ok)]),.x 7 [(6,2)] (nv m),.x 8 [(6,2)] (.bool ok),.u [(7,3)] 0,.x 3 [(8,4)] (.bool ok)] [] [(0,5,(wn m))] [(wn m)] [(2,(.p 0 0)),(3,(.v (.bool ok)))] ⟨RG.cl (Q3_c),RG.st,RG.cl (hnum),RG.st,RG.st,RG.pt i44,RG.st,trivial⟩ ?_
 intro a2 w2 M2
 refine wp_ret ?_
 refine bodyPost_ret (v:=.tuple #[nv m,.bool ok]) (RG.results_rt M2.st 2 3 58 rfl 0 _ rfl (M2.at (s:=.p 0 0)) _ (M2.av (v:=.bool ok) (by kernel_rfl)) u44 i44) M2.sl.defers ?_
 exact ⟨_,rfl,M2.st.bel.below,rfl⟩
end
namespace SP
open Go.RowKit Go.Sort Go.Deep
end SP
namespace SP
open Go.RowKit Go.Sort Go.Deep
theorem strm_size (l:List UInt8) (n:Nat):(strmL l n).size=n:=by rw[strmL,streamL_size]
end SP
namespace SP
open Go.RowKit Go.Sort Go.Deep
end SP
section
open Go.RowKit Go.Sort
variable {P:Nat} [NeZero P] {N:Nat}
def ArgsPts (w:World) (q:Option Addr) (n:Nat) (L:Nat→Bs):Prop:=0<n→∃ gg,q=some ⟨gg,0,none⟩∧gg<w.heap.size∧∀ j,j<n→∃ v,w.cell? ⟨gg,j,none⟩=some v∧Arg33 w v (L j)
def PtsR (P:Nat) [NeZero P] (w:World) (n:Nat) (L:Nat→Bs) (e:Value) (w':World):Prop:=
 (∃ k,w.heap.size≤k∧k<w'.heap.size∧e=.tuple #[.slice (some ⟨k,0,none⟩) n n,.int .i64 0]∧∀ j,j<n→∃ p,rd P (L j)=some p∧w'.rangeAt k (8*j) (ws p.1++ws p.2)) ∨
 ((∃ j,j<n∧rd P (L j)=none)∧e=.tuple #[.slice none 0 0,.int .i64 4])
theorem Pts_c (F:Fld P) (n cap:Nat) (hn:n≤512) (q:Option Addr) (L:Nat→Bs) (w:World) (hA:ArgsPts w q n L):Calls Tryz.prog 66 #[.slice q n cap] w (Ret fun e w'=>Below w.heap.size w w'∧PtsR P w n L e w'):=by
 obtain ⟨C,hCl,hmk⟩:=mk112 n hn
 obtain ⟨i,-⟩:∃ i:Nat,i=0:=⟨_,rfl⟩
 obtain ⟨gg,-⟩:∃ i:Nat,i=0:=⟨_,rfl⟩
 obtain ⟨m,-⟩:∃ i:Nat,i=0:=⟨_,rfl⟩
 obtain ⟨v,-⟩:∃ v:Value,v=.bool true:=⟨_,rfl⟩
 obtain ⟨x,-⟩:∃ x:Fin P,x=0:=⟨_,rfl⟩
 obtain ⟨y,-⟩:∃ x:Fin P,x=0:=⟨_,rfl⟩
 obtain ⟨C2,-⟩:∃ c:List Value,c=C:=⟨_,rfl⟩
 go_enter Tryz.func66,Tryz.ntmps66
 refine RG.var1 (v0:=.slice q n cap) (n:=32) (by kernel_rfl) (by kernel_rfl) (by kernel_rfl) ?_
 intro a0 sl0 f0
 have hS0:=RG.St.begin w
 have M0:RG.M w w.heap.size [] 32 [] [] [(0,(.v (.slice q n cap)))] a0 _:=⟨hS0,sl0,⟨f0,trivial⟩⟩
 repeat refine wp_seq ?_
 refine M0.u [.x 2 [] (.slice none 0 0),.x 3 [] (.int .i64 0)] [(0,(.v (.slice q n cap))),(2,(.v (.slice none 0 0))),(3,(.v (.int .i64 0)))] ⟨RG.st,RG.st,trivial⟩ ?_
 intro a1 w1 M1
 repeat refine wp_seq ?_
 refine M1.t [.x 9 [] (.slice q n cap),.x 10 [(9,0)] (.int .i64 n),⟨some 11,[(10,1)],(.s 0 n n),.make 0⟩,.s 4 [(11,2)] (.s 0 n n)] [(2,C)] [] [C] [(0,(.v (.slice q n cap))),(2,(.v (.slice none 0 0))),(3,(.v (.int .i64 0))),(4,(.s 0 n n))] ⟨RG.st,RG.cert_one rfl 9 (.v (.slice q n cap)) (.int .i64 n) rfl RG.sx (fun a w=>by kernel_rfl) (fun μ w=>by kernel_rfl),RG.cert_makes 0 rfl _ rfl 117 107 10 10 n rfl rfl RG.sx RG.sx (hmk),RG.st,trivial⟩ ?_
 intro j2 a2 w2 M2
 repeat refine wp_seq ?_
 refine M2.u [.x 12 [] (.slice q n cap),.x 13 [(12,0)] (.int .i64 n),.x 14 [] (.int .i64 0)] [(2,(.v (.slice none 0 0))),(3,(.v (.int .i64 0))),(4,(.s 0 n n)),(12,(.v (.slice q n cap))),(13,(.v (.int .i64 n))),(14,(.v (.int .i64 0)))] ⟨RG.st,RG.cert_one rfl 12 (.v (.slice q n cap)) (.int .i64 n) rfl RG.sx (fun a w=>by kernel_rfl) (fun μ w=>by kernel_rfl),RG.st,trivial⟩ ?_
 intro a3 w3 M3
 have f2_3:a3.tmps[2]? = some (.slice none 0 0):=M3.at (s:=(.v (.slice none 0 0)))
 have f3_3:a3.tmps[3]? = some (.int .i64 0):=M3.at (s:=(.v (.int .i64 0)))
 have f4_3:a3.tmps[4]? = some (.slice (some ⟨j2,0,none⟩) n n):=M3.at (s:=(.s 0 n n))
 have f12_3:a3.tmps[12]? = some (.slice q n cap):=M3.at (s:=(.v (.slice q n cap)))
 have f13_3:a3.tmps[13]? = some (.int .i64 n):=M3.at (s:=(.v (.int .i64 n)))
 have f14_3:a3.tmps[14]? = some (.int .i64 0):=M3.at (s:=(.v (.int .i64 0)))
 repeat refine wp_seq ?_
 refine wp_block ?_
 refine wp_loop_ghost (fun m a wr=>∃ (i:Nat) (C:List Value),i+m=n∧(∀ j,j<i→(rd P (L j)).isSome=true)∧Rows 8 n (fun j=>match rd P (L j) with|some p=>ws p.1++ws p.2|none=>[]) i C∧RG.Sl a 32∧a.tmps[4]? = some (.slice (some ⟨j2,0,none⟩) n n)∧a.tmps[12]? = some (.slice q n cap)∧a.tmps[13]? = some (.int .i64 n)∧a.tmps[14]? = some (.int .i64 i)∧RG.St w w.heap.size [] [C] [j2] wr) n ⟨0,C,by omega,fun j hj=>by omega,⟨hCl,fun j r hj=>by omega⟩,M3.sl,f4_3,f12_3,f13_3,f14_3,M3.st⟩ ?_
 intro m' a wr
 rintro ⟨i,C,him,hall,hR,sl,p4,p12,p13,p14,hSp⟩
 generalize j2=kt at p4 hSp
 by_cases hi:i<n
 ·obtain ⟨gg,hqe,hgg,hc⟩:=hA (by omega)
  rw[hqe] at p12
  obtain ⟨v,hv,harg⟩:=hc i hi
  have hcell:w.cell? ⟨gg,0+i,none⟩=some v:=by rw[Nat.zero_add];exact hv
  cases hrdv:rd P (L i) with
  | some pp =>
   obtain ⟨x,y⟩:=pp
   have hrd:∀ w',RG.BelX w.heap.size [] w w'→Calls Tryz.prog 90 #[v] w' (Ret fun e w''=>Below w'.heap.size w' w''∧e=.tuple #[pv x y,.bool true]):=fun w' hb=>by
    have:=readPoint_c F v (L i) w' (harg.below hb.below)
    rw[hrdv] at this
    exact this
   have hlen:=hR.len
   have hoff:0+8*i+(ws x++ws y).length≤C.length:=by rw[hlen];show 0+8*i+8≤8*n;omega
   obtain ⟨C2,hC2e⟩:∃ c,RG.rep C (0+8*i) (ws x++ws y)=c:=⟨_,rfl⟩
   have hC2:=hC2e ▸ RG.rep_at hoff
   have hcl:C2.length=C.length:=hC2e ▸ RG.rep_length hoff
   have hR2:Rows 8 n (fun j=>match rd P (L j) with|some p=>ws p.1++ws p.2|none=>[]) (i+1) C2:=by
    have:=hR.next hi (by show List.length (match rd P (L i) with|some p=>_|none=>_)=_;rw[hrdv];rfl)
    rw[← hC2e]
    have e:(fun j=>match rd P (L j) with|some p=>ws p.1++ws p.2|none=>[]) i=(ws x++ws y):=by show (match rd P (L i) with|some p=>_|none=>_)=_;rw[hrdv]
    rw[← e]
    exact this
   have M10:RG.M w w.heap.size [] 32 [C] [kt] [(4,(.s 0 n n)),(12,(.v (.slice (some ⟨gg,0,none⟩) n cap))),(13,(.v (.int .i64 n))),(14,(.v (.int .i64 i)))] a _:=⟨hSp,sl,⟨p4,p12,p13,p14,trivial⟩⟩
   repeat refine wp_seq ?_
   refine M10.u [.x 15 [] (.bool true)] [(4,(.s 0 n n)),(12,(.v (.slice (some ⟨gg,0,none⟩) n cap))),(13,(.v (.int .i64 n))),(14,(.v (.int .i64 i))),(15,(.v (.bool true)))] ⟨RG.cert_bin rfl .lss 3 3 14 13 (.int .i64 i) (.int .i64 n) (.bool true) rfl rfl RG.sx RG.sx (fun w=>by kernel_rfl) (lssn_t hi),trivial⟩ ?_
   intro a11 w11 M11
   repeat refine wp_seq ?_
   refine wp_cond_true M11.ev ?_
   refine wp_skip ?_
   refine wp_seq ?_
   refine wp_block ?_
   repeat refine wp_seq ?_
   refine M11.u [.x 16 [] (.int .i64 i),.x 17 [] (.pointer (some ⟨gg,(0+i),none⟩)),.x 18 [(17,1)] v,.x 5 [(16,0)] (.int .i64 i),.x 6 [(18,2)] v] [(4,(.s 0 n n)),(5,(.v (.int .i64 i))),(6,(.v v)),(12,(.v (.slice (some ⟨gg,0,none⟩) n cap))),(13,(.v (.int .i64 n))),(14,(.v (.int .i64 i)))] ⟨RG.st,RG.cert_idx rfl 33 12 14 rfl (.v (.slice (some ⟨gg,0,none⟩) n cap)) (.int .i64 i) RG.sx RG.sx (fun μ w=>at46 _ 0 _ _ i hi w),RG.cert_load1B rfl gg (0+i) hgg List.not_mem_nil 24 17 rfl v rfl RG.sx hcell u23,RG.st,RG.st,trivial⟩ ?_
   intro a12 w12 M12
   repeat refine wp_seq ?_
   refine M12.t [.x 20 [] v,.c 21 [(20,0)] (.tuple #[(pv x y),(.bool true)]),.x 19 [(21,1)] (.tuple #[(pv x y),(.bool true)]),.x 22 [(19,2)] (pv x y),.x 23 [(19,2)] (.bool true),.m 7 [] 1,.u [(7,5),(22,3)] 1,.x 8 [(23,4)] (.bool true)] [(5,(RG.z 8))] [(1,6,(ws x++(ws y)))] [C,(ws x++(ws y))] [(4,(.s 0 n n)),(5,(.v (.int .i64 i))),(7,(.p 1 0)),(8,(.v (.bool true))),(12,(.v (.slice (some ⟨gg,0,none⟩) n cap))),(13,(.v (.int .i64 n))),(14,(.v (.int .i64 i)))] ⟨RG.st,RG.cert_callB1 rfl 90 20 v (.tuple #[(pv x y),(.bool true)]) rfl (fun a w=>by kernel_rfl) RG.sx hrd,RG.st,RG.st,RG.st,RG.mk 1 107,RG.pt i109,RG.st,trivial⟩ ?_
   intro j13 a13 w13 M13
   repeat refine wp_seq ?_
   refine M13.u [.x 24 [] (.bool true),.x 25 [(24,0)] (.bool false)] [(4,(.s 0 n n)),(5,(.v (.int .i64 i))),(7,(.p 1 0)),(12,(.v (.slice (some ⟨gg,0,none⟩) n cap))),(13,(.v (.int .i64 n))),(14,(.v (.int .i64 i))),(25,(.v (.bool false)))] ⟨RG.st,RG.st,trivial⟩ ?_
   intro a14 w14 M14
   repeat refine wp_seq ?_
   refine wp_cond_false M14.ev ?_
   refine wp_skip ?_
   repeat refine wp_seq ?_
   refine M14.tx [.s 26 [] (.s 0 n n),.x 27 [] (.int .i64 i),.x 28 [] (pv x y),.s 29 [(26,0),(27,1)] (.p 0 (0+8*i)),.u [(29,3),(28,2)] 0] [] [(0,4,C2)] [C2,(ws x++(ws y))] [(4,(.s 0 n n)),(12,(.v (.slice (some ⟨gg,0,none⟩) n cap))),(13,(.v (.int .i64 n))),(14,(.v (.int .i64 i)))] (by kernel_rfl) (congrArg (fun n=>[n]) hcl) ⟨RG.st,RG.st,RG.ld u109 i109,RG.cert_idx rfl 117 26 27 rfl (.s 0 n n) (.int .i64 i) RG.sx RG.sx (fun μ w=>at112 _ 0 _ _ i hi w),RG.cert_putAt 0 (0+8*i) rfl _ rfl 107 (.tmp 29) (.tmp 28) (ws x++ws y) rfl rfl RG.sx RG.sx hoff hC2 i109 rfl,trivial⟩ ?_
   intro a15 w15 M15
   repeat refine wp_seq ?_
   refine M15.u [.x 30 [] (.int .i64 ((i+1:Nat):Int)),.x 14 [(30,0)] (.int .i64 ((i+1:Nat):Int))] [(4,(.s 0 n n)),(12,(.v (.slice (some ⟨gg,0,none⟩) n cap))),(13,(.v (.int .i64 n))),(14,(.v (.int .i64 ((i+1:Nat):Int))))] ⟨RG.cert_binc rfl .add 3 3 14 (.int .i64 i) (.int .i64 1) (.int .i64 ((i+1:Nat):Int)) rfl rfl RG.sx (fun w=>by kernel_rfl) (addn i 1 (by omega) (by omega)),RG.st,trivial⟩ ?_
   intro a16 w16 M16
   have f4_16:a16.tmps[4]? = some (.slice (some ⟨kt,0,none⟩) n n):=M16.at (s:=(.s 0 n n))
   have f12_16:a16.tmps[12]? = some (.slice (some ⟨gg,0,none⟩) n cap):=M16.at (s:=(.v (.slice (some ⟨gg,0,none⟩) n cap)))
   have f13_16:a16.tmps[13]? = some (.int .i64 n):=M16.at (s:=(.v (.int .i64 n)))
   have f14_16:a16.tmps[14]? = some (.int .i64 ((i+1:Nat):Int)):=M16.at (s:=(.v (.int .i64 ((i+1:Nat):Int))))
   show ∃ n',_
   exact ⟨m'-1,by omega,i+1,C2,by omega,fun j hj=>(by
    by_cases hji:j=i
    ·rw[hji,hrdv];rfl
    ·exact hall j (by omega)),hR2,M16.sl,f4_16,(by rw[hqe];exact f12_16),f13_16,f14_16,RG.St.init (cs:=[C2]) (ks:=[kt]) M16.st⟩
  | none =>
   have hrd:∀ w',RG.BelX w.heap.size [] w w'→Calls Tryz.prog 90 #[v] w' (Ret fun e w''=>Below w'.heap.size w' w''∧e=.tuple #[pv (0:Fin P) 0,.bool false]):=fun w' hb=>by
    have:=readPoint_c F v (L i) w' (harg.below hb.below)
    rw[hrdv] at this
    exact this
   have M20:RG.M w w.heap.size [] 32 [C] [kt] [(4,(.s 0 n n)),(12,(.v (.slice (some ⟨gg,0,none⟩) n cap))),(13,(.v (.int .i64 n))),(14,(.v (.int .i64 i)))] a _:=⟨hSp,sl,⟨p4,p12,p13,p14,trivial⟩⟩
   repeat refine wp_seq ?_
   refine M20.u [.x 15 [] (.bool true)] [(12,(.v (.slice (some ⟨gg,0,none⟩) n cap))),(14,(.v (.int .i64 i))),(15,(.v (.bool true)))] ⟨RG.cert_bin rfl .lss 3 3 14 13 (.int .i64 i) (.int .i64 n) (.bool true) rfl rfl RG.sx RG.sx (fun w=>by kernel_rfl) (lssn_t hi),trivial⟩ ?_
   intro a21 w21 M21
   repeat refine wp_seq ?_
   refine wp_cond_true M21.ev ?_
   refine wp_skip ?_
   refine wp_seq ?_
   refine wp_block ?_
   repeat refine wp_seq ?_
   refine M21.u [.x 16 [] (.int .i64 i),.x 17 [] (.pointer (some ⟨gg,(0+i),none⟩)),.x 18 [(17,1)] v,.x 5 [(16,0)] (.int .i64 i),.x 6 [(18,2)] v] [(6,(.v v))] ⟨RG.st,RG.cert_idx rfl 33 12 14 rfl (.v (.slice (some ⟨gg,0,none⟩) n cap)) (.int .i64 i) RG.sx RG.sx (fun μ w=>at46 _ 0 _ _ i hi w),RG.cert_load1B rfl gg (0+i) hgg List.not_mem_nil 24 17 rfl v rfl RG.sx hcell u23,RG.st,RG.st,trivial⟩ ?_
   intro a22 w22 M22
   repeat refine wp_seq ?_
   refine M22.t [.x 20 [] v,.c 21 [(20,0)] (.tuple #[(pv (0:Fin P) (0:Fin P)),(.bool false)]),.x 19 [(21,1)] (.tuple #[(pv (0:Fin P) (0:Fin P)),(.bool false)]),.x 22 [(19,2)] (pv (0:Fin P) (0:Fin P)),.x 23 [(19,2)] (.bool false),.m 7 [] 1,.u [(7,5),(22,3)] 1,.x 8 [(23,4)] (.bool false)] [(5,(RG.z 8))] [(1,6,(ws (0:Fin P)++(ws (0:Fin P))))] [C,(ws (0:Fin P)++(ws (0:Fin P)))] [(8,(.v (.bool false)))] ⟨RG.st,RG.cert_callB1 rfl 90 20 v (.tuple #[(pv (0:Fin P) (0:Fin P)),(.bool false)]) rfl (fun a w=>by kernel_rfl) RG.sx hrd,RG.st,RG.st,RG.st,RG.mk 1 107,RG.pt i109,RG.st,trivial⟩ ?_
   intro j23 a23 w23 M23
   repeat refine wp_seq ?_
   refine M23.u [.x 24 [] (.bool false),.x 25 [(24,0)] (.bool true)] [(25,(.v (.bool true)))] ⟨RG.st,RG.st,trivial⟩ ?_
   intro a24 w24 M24
   repeat refine wp_seq ?_
   refine wp_cond_true M24.ev ?_
   repeat refine wp_seq ?_
   refine M24.u [.x 2 [] (.slice none 0 0),.x 3 [] (.int .i64 4)] [(2,(.v (.slice none 0 0))),(3,(.v (.int .i64 4)))] ⟨RG.st,RG.st,trivial⟩ ?_
   intro a25 w25 M25
   refine wp_ret ?_
   refine bodyPost_ret (v:=.tuple #[.slice none 0 0,.int .i64 4]) (RG.results_tt 2 3 rfl _ _ (M25.at (s:=(.v (.slice none 0 0)))) (M25.at (s:=(.v (.int .i64 4))))) M25.sl.defers ?_
   exact ⟨_,rfl,M25.st.bel.below,Or.inr ⟨⟨i,hi,hrdv⟩,rfl⟩⟩
 ·have hiN:i=n:=by omega
  have M30:RG.M w w.heap.size [] 32 [C] [kt] [(4,(.s 0 n n)),(12,(.v (.slice q n cap))),(13,(.v (.int .i64 n))),(14,(.v (.int .i64 i)))] a _:=⟨hSp,sl,⟨p4,p12,p13,p14,trivial⟩⟩
  repeat refine wp_seq ?_
  refine M30.u [.x 15 [] (.bool false)] [(4,(.s 0 n n)),(15,(.v (.bool false)))] ⟨RG.cert_bin rfl .lss 3 3 14 13 (.int .i64 i) (.int .i64 n) (.bool false) rfl rfl RG.sx RG.sx (fun w=>by kernel_rfl) (lssn_f hi),trivial⟩ ?_
  intro a31 w31 M31
  repeat refine wp_seq ?_
  refine wp_cond_false M31.ev ?_
  refine wp_exit ?_
  dsimp only[Exit.then,Exit.inBlock]
  rw[if_pos rfl]
  repeat refine wp_seq ?_
  refine M31.u [.s 31 [] (.s 0 n n),.s 2 [(31,0)] (.s 0 n n),.x 3 [] (.int .i64 0)] [(2,(.s 0 n n)),(3,(.v (.int .i64 0)))] ⟨RG.st,RG.st,RG.st,trivial⟩ ?_
  intro a32 w32 M32
  refine wp_ret ?_
  refine bodyPost_ret (v:=.tuple #[.slice (some ⟨kt,0,none⟩) n n,.int .i64 0]) (RG.results_tt 2 3 rfl _ _ (M32.at (s:=(.s 0 n n))) (M32.at (s:=(.v (.int .i64 0))))) M32.sl.defers ?_
  refine ⟨_,rfl,M32.st.bel.below,Or.inl ⟨kt,?_,?_,rfl,fun j hj=>?_⟩⟩
  ·exact (M32.st.has 0 C rfl).2.2.2.elim id (fun h=>absurd h List.not_mem_nil)
  ·exact (M32.st.has 0 C rfl).2.2.1
  ·obtain ⟨pp,hpp⟩:=Option.isSome_iff_exists.1 (hall j (by omega))
   refine ⟨pp,hpp,RG.range_sub (M32.st.has 0 C rfl).1 (fun r hr=>?_)⟩
   have h5:=hR.row j r (by omega) hr
   rw[h5]
   show (match rd P (L j) with|some p=>_|none=>_)[r]? = _
   rw[hpp]
def ArgsScs (w:World) (q:Option Addr) (n:Nat) (L:Nat→Bs):Prop:=0<n→∃ gg,q=some ⟨gg,0,none⟩∧gg<w.heap.size∧∀ j,j<n→∃ v,w.cell? ⟨gg,j,none⟩=some v∧Arg w v (L j)
def ScsR (N:Nat) (w:World) (n:Nat) (L:Nat→Bs) (e:Value) (w':World):Prop:=
 (∃ k,w.heap.size≤k∧k<w'.heap.size∧e=.tuple #[.slice (some ⟨k,0,none⟩) n n,.int .i64 0]∧∀ j,j<n→∃ p,rq N (L j)=some p∧w'.rangeAt k (4*j) (wn p)) ∨
 ((∃ j,j<n∧rq N (L j)=none)∧e=.tuple #[.slice none 0 0,.int .i64 3])
theorem Scs_c {N:Nat} (hG:Gap 4624529908474429119 4994812053365940164 1 N) (n cap:Nat) (hn:n≤512) (q:Option Addr) (L:Nat→Bs) (w:World) (hA:ArgsScs w q n L):Calls Tryz.prog 65 #[.slice q n cap] w (Ret fun e w'=>Below w.heap.size w w'∧ScsR N w n L e w'):=by
 obtain ⟨C,hCl,hmk⟩:=mk82 n hn
 obtain ⟨i,-⟩:∃ i:Nat,i=0:=⟨_,rfl⟩
 obtain ⟨gg,-⟩:∃ i:Nat,i=0:=⟨_,rfl⟩
 obtain ⟨m,-⟩:∃ i:Nat,i=0:=⟨_,rfl⟩
 obtain ⟨v,-⟩:∃ v:Value,v=.bool true:=⟨_,rfl⟩
 obtain ⟨C2,-⟩:∃ c:List Value,c=C:=⟨_,rfl⟩
 go_enter Tryz.func65,Tryz.ntmps65
 refine RG.var1 (v0:=.slice q n cap) (n:=33) (by kernel_rfl) (by kernel_rfl) (by kernel_rfl) ?_
 intro a0 sl0 f0
 have hS0:=RG.St.begin w
 have M0:RG.M w w.heap.size [] 33 [] [] [(0,(.v (.slice q n cap)))] a0 _:=⟨hS0,sl0,⟨f0,trivial⟩⟩
 repeat refine wp_seq ?_
 refine M0.u [.x 2 [] (.slice none 0 0),.x 3 [] (.int .i64 0)] [(0,(.v (.slice q n cap))),(2,(.v (.slice none 0 0))),(3,(.v (.int .i64 0)))] ⟨RG.st,RG.st,trivial⟩ ?_
 intro a1 w1 M1
 repeat refine wp_seq ?_
 refine M1.t [.x 9 [] (.slice q n cap),.x 10 [(9,0)] (.int .i64 n),⟨some 11,[(10,1)],(.s 0 n n),.make 0⟩,.s 4 [(11,2)] (.s 0 n n)] [(2,C)] [] [C] [(0,(.v (.slice q n cap))),(2,(.v (.slice none 0 0))),(3,(.v (.int .i64 0))),(4,(.s 0 n n))] ⟨RG.st,RG.cert_one rfl 9 (.v (.slice q n cap)) (.int .i64 n) rfl RG.sx (fun a w=>by kernel_rfl) (fun μ w=>by kernel_rfl),RG.cert_makes 0 rfl _ rfl 114 45 10 10 n rfl rfl RG.sx RG.sx (hmk),RG.st,trivial⟩ ?_
 intro j2 a2 w2 M2
 repeat refine wp_seq ?_
 refine M2.u [.x 12 [] (.slice q n cap),.x 13 [(12,0)] (.int .i64 n),.x 14 [] (.int .i64 0)] [(2,(.v (.slice none 0 0))),(3,(.v (.int .i64 0))),(4,(.s 0 n n)),(12,(.v (.slice q n cap))),(13,(.v (.int .i64 n))),(14,(.v (.int .i64 0)))] ⟨RG.st,RG.cert_one rfl 12 (.v (.slice q n cap)) (.int .i64 n) rfl RG.sx (fun a w=>by kernel_rfl) (fun μ w=>by kernel_rfl),RG.st,trivial⟩ ?_
 intro a3 w3 M3
 have f2_3:a3.tmps[2]? = some (.slice none 0 0):=M3.at (s:=(.v (.slice none 0 0)))
 have f3_3:a3.tmps[3]? = some (.int .i64 0):=M3.at (s:=(.v (.int .i64 0)))
 have f4_3:a3.tmps[4]? = some (.slice (some ⟨j2,0,none⟩) n n):=M3.at (s:=(.s 0 n n))
 have f12_3:a3.tmps[12]? = some (.slice q n cap):=M3.at (s:=(.v (.slice q n cap)))
 have f13_3:a3.tmps[13]? = some (.int .i64 n):=M3.at (s:=(.v (.int .i64 n)))
 have f14_3:a3.tmps[14]? = some (.int .i64 0):=M3.at (s:=(.v (.int .i64 0)))
 repeat refine wp_seq ?_
 refine wp_block ?_
 refine wp_loop_ghost (fun m a wr=>∃ (i:Nat) (C:List Value),i+m=n∧(∀ j,j<i→(rq N (L j)).isSome=true)∧Rows 4 n (fun j=>match rq N (L j) with|some k=>wn k|none=>[]) i C∧RG.Sl a 33∧a.tmps[4]? = some (.slice (some ⟨j2,0,none⟩) n n)∧a.tmps[12]? = some (.slice q n cap)∧a.tmps[13]? = some (.int .i64 n)∧a.tmps[14]? = some (.int .i64 i)∧RG.St w w.heap.size [] [C] [j2] wr) n ⟨0,C,by omega,fun j hj=>by omega,⟨hCl,fun j r hj=>by omega⟩,M3.sl,f4_3,f12_3,f13_3,f14_3,M3.st⟩ ?_
 intro m' a wr
 rintro ⟨i,C,him,hall,hR,sl,p4,p12,p13,p14,hSp⟩
 generalize j2=kt at p4 hSp
 by_cases hi:i<n
 ·obtain ⟨gg,hqe,hgg,hc⟩:=hA (by omega)
  rw[hqe] at p12
  obtain ⟨v,hv,harg⟩:=hc i hi
  have hcell:w.cell? ⟨gg,0+i,none⟩=some v:=by rw[Nat.zero_add];exact hv
  cases hrdv:rq N (L i) with
  | some pp =>
   obtain ⟨m,rfl⟩:∃ m,m=pp:=⟨_,rfl⟩
   have hrd:∀ w',RG.BelX w.heap.size [] w w'→Calls Tryz.prog 89 #[gv1,v] w' (Ret fun e w''=>Below w'.heap.size w' w''∧e=.tuple #[nv m,.bool true]):=fun w' hb=>by
    have:=readQ_c hG v (L i) w' (harg.below hb.below)
    rw[hrdv] at this
    exact this
   have hlen:=hR.len
   have hoff:0+4*i+(wn m).length≤C.length:=by rw[hlen];show 0+4*i+4≤4*n;omega
   obtain ⟨C2,hC2e⟩:∃ c,RG.rep C (0+4*i) (wn m)=c:=⟨_,rfl⟩
   have hC2:=hC2e ▸ RG.rep_at hoff
   have hcl:C2.length=C.length:=hC2e ▸ RG.rep_length hoff
   have hR2:Rows 4 n (fun j=>match rq N (L j) with|some k=>wn k|none=>[]) (i+1) C2:=by
    have:=hR.next hi (by show List.length (match rq N (L i) with|some p=>_|none=>_)=_;rw[hrdv];rfl)
    rw[← hC2e]
    have e:(fun j=>match rq N (L j) with|some k=>wn k|none=>[]) i=(wn m):=by show (match rq N (L i) with|some p=>_|none=>_)=_;rw[hrdv]
    rw[← e]
    exact this
   have M10:RG.M w w.heap.size [] 33 [C] [kt] [(4,(.s 0 n n)),(12,(.v (.slice (some ⟨gg,0,none⟩) n cap))),(13,(.v (.int .i64 n))),(14,(.v (.int .i64 i)))] a _:=⟨hSp,sl,⟨p4,p12,p13,p14,trivial⟩⟩
   repeat refine wp_seq ?_
   refine M10.u [.x 15 [] (.bool true)] [(4,(.s 0 n n)),(12,(.v (.slice (some ⟨gg,0,none⟩) n cap))),(13,(.v (.int .i64 n))),(14,(.v (.int .i64 i))),(15,(.v (.bool true)))] ⟨RG.cert_bin rfl .lss 3 3 14 13 (.int .i64 i) (.int .i64 n) (.bool true) rfl rfl RG.sx RG.sx (fun w=>by kernel_rfl) (lssn_t hi),trivial⟩ ?_
   intro a11 w11 M11
   repeat refine wp_seq ?_
   refine wp_cond_true M11.ev ?_
   refine wp_skip ?_
   refine wp_seq ?_
   refine wp_block ?_
   repeat refine wp_seq ?_
   refine M11.u [.x 16 [] (.int .i64 i),.x 17 [] (.pointer (some ⟨gg,(0+i),none⟩)),.x 18 [(17,1)] v,.x 5 [(16,0)] (.int .i64 i),.x 6 [(18,2)] v] [(4,(.s 0 n n)),(5,(.v (.int .i64 i))),(6,(.v v)),(12,(.v (.slice (some ⟨gg,0,none⟩) n cap))),(13,(.v (.int .i64 n))),(14,(.v (.int .i64 i)))] ⟨RG.st,RG.cert_idx rfl 33 12 14 rfl (.v (.slice (some ⟨gg,0,none⟩) n cap)) (.int .i64 i) RG.sx RG.sx (fun μ w=>at46 _ 0 _ _ i hi w),RG.cert_load1B rfl gg (0+i) hgg List.not_mem_nil 24 17 rfl v rfl RG.sx hcell u23,RG.st,RG.st,trivial⟩ ?_
   intro a12 w12 M12
   repeat refine wp_seq ?_
   refine M12.t [.c 20 [] gv1,.x 21 [] v,.c 22 [(20,0),(21,1)] (.tuple #[(nv m),(.bool true)]),.x 19 [(22,2)] (.tuple #[(nv m),(.bool true)]),.x 23 [(19,3)] (nv m),.x 24 [(19,3)] (.bool true),.m 7 [] 1,.u [(7,6),(23,4)] 1,.x 8 [(24,5)] (.bool true)] [(6,(RG.z 4))] [(1,7,(wn m))] [C,(wn m)] [(4,(.s 0 n n)),(5,(.v (.int .i64 i))),(7,(.p 1 0)),(8,(.v (.bool true))),(12,(.v (.slice (some ⟨gg,0,none⟩) n cap))),(13,(.v (.int .i64 n))),(14,(.v (.int .i64 i)))] ⟨RG.cl (Scalars_c),RG.st,RG.cert_callB2 rfl 89 20 21 gv1 v (.tuple #[(nv m),(.bool true)]) rfl (fun a w=>by kernel_rfl) RG.sx RG.sx hrd,RG.st,RG.st,RG.st,RG.mk 1 45,RG.pt i85,RG.st,trivial⟩ ?_
   intro j13 a13 w13 M13
   repeat refine wp_seq ?_
   refine M13.u [.x 25 [] (.bool true),.x 26 [(25,0)] (.bool false)] [(4,(.s 0 n n)),(5,(.v (.int .i64 i))),(7,(.p 1 0)),(12,(.v (.slice (some ⟨gg,0,none⟩) n cap))),(13,(.v (.int .i64 n))),(14,(.v (.int .i64 i))),(26,(.v (.bool false)))] ⟨RG.st,RG.st,trivial⟩ ?_
   intro a14 w14 M14
   repeat refine wp_seq ?_
   refine wp_cond_false M14.ev ?_
   refine wp_skip ?_
   repeat refine wp_seq ?_
   refine M14.tx [.s 27 [] (.s 0 n n),.x 28 [] (.int .i64 i),.x 29 [] (nv m),.s 30 [(27,0),(28,1)] (.p 0 (0+4*i)),.u [(30,3),(29,2)] 0] [] [(0,4,C2)] [C2,(wn m)] [(4,(.s 0 n n)),(12,(.v (.slice (some ⟨gg,0,none⟩) n cap))),(13,(.v (.int .i64 n))),(14,(.v (.int .i64 i)))] (by kernel_rfl) (congrArg (fun n=>[n]) hcl) ⟨RG.st,RG.st,RG.ld u85 i85,RG.cert_idx rfl 114 27 28 rfl (.s 0 n n) (.int .i64 i) RG.sx RG.sx (fun μ w=>at82 _ 0 _ _ i hi w),RG.cert_putAt 0 (0+4*i) rfl _ rfl 45 (.tmp 30) (.tmp 29) (wn m) rfl rfl RG.sx RG.sx hoff hC2 i85 rfl,trivial⟩ ?_
   intro a15 w15 M15
   repeat refine wp_seq ?_
   refine M15.u [.x 31 [] (.int .i64 ((i+1:Nat):Int)),.x 14 [(31,0)] (.int .i64 ((i+1:Nat):Int))] [(4,(.s 0 n n)),(12,(.v (.slice (some ⟨gg,0,none⟩) n cap))),(13,(.v (.int .i64 n))),(14,(.v (.int .i64 ((i+1:Nat):Int))))] ⟨RG.cert_binc rfl .add 3 3 14 (.int .i64 i) (.int .i64 1) (.int .i64 ((i+1:Nat):Int)) rfl rfl RG.sx (fun w=>by kernel_rfl) (addn i 1 (by omega) (by omega)),RG.st,trivial⟩ ?_
   intro a16 w16 M16
   have f4_16:a16.tmps[4]? = some (.slice (some ⟨kt,0,none⟩) n n):=M16.at (s:=(.s 0 n n))
   have f12_16:a16.tmps[12]? = some (.slice (some ⟨gg,0,none⟩) n cap):=M16.at (s:=(.v (.slice (some ⟨gg,0,none⟩) n cap)))
   have f13_16:a16.tmps[13]? = some (.int .i64 n):=M16.at (s:=(.v (.int .i64 n)))
   have f14_16:a16.tmps[14]? = some (.int .i64 ((i+1:Nat):Int)):=M16.at (s:=(.v (.int .i64 ((i+1:Nat):Int))))
   show ∃ n',_
   exact ⟨m'-1,by omega,i+1,C2,by omega,fun j hj=>(by
    by_cases hji:j=i
    ·rw[hji,hrdv];rfl
    ·exact hall j (by omega)),hR2,M16.sl,f4_16,(by rw[hqe];exact f12_16),f13_16,f14_16,RG.St.init (cs:=[C2]) (ks:=[kt]) M16.st⟩
  | none =>
   have hrd:∀ w',RG.BelX w.heap.size [] w w'→Calls Tryz.prog 89 #[gv1,v] w' (Ret fun e w''=>Below w'.heap.size w' w''∧e=.tuple #[nv 0,.bool false]):=fun w' hb=>by
    have:=readQ_c hG v (L i) w' (harg.below hb.below)
    rw[hrdv] at this
    exact this
   have M20:RG.M w w.heap.size [] 33 [C] [kt] [(4,(.s 0 n n)),(12,(.v (.slice (some ⟨gg,0,none⟩) n cap))),(13,(.v (.int .i64 n))),(14,(.v (.int .i64 i)))] a _:=⟨hSp,sl,⟨p4,p12,p13,p14,trivial⟩⟩
   repeat refine wp_seq ?_
   refine M20.u [.x 15 [] (.bool true)] [(12,(.v (.slice (some ⟨gg,0,none⟩) n cap))),(14,(.v (.int .i64 i))),(15,(.v (.bool true)))] ⟨RG.cert_bin rfl .lss 3 3 14 13 (.int .i64 i) (.int .i64 n) (.bool true) rfl rfl RG.sx RG.sx (fun w=>by kernel_rfl) (lssn_t hi),trivial⟩ ?_
   intro a21 w21 M21
   repeat refine wp_seq ?_
   refine wp_cond_true M21.ev ?_
   refine wp_skip ?_
   refine wp_seq ?_
   refine wp_block ?_
   repeat refine wp_seq ?_
   refine M21.u [.x 16 [] (.int .i64 i),.x 17 [] (.pointer (some ⟨gg,(0+i),none⟩)),.x 18 [(17,1)] v,.x 5 [(16,0)] (.int .i64 i),.x 6 [(18,2)] v] [(6,(.v v))] ⟨RG.st,RG.cert_idx rfl 33 12 14 rfl (.v (.slice (some ⟨gg,0,none⟩) n cap)) (.int .i64 i) RG.sx RG.sx (fun μ w=>at46 _ 0 _ _ i hi w),RG.cert_load1B rfl gg (0+i) hgg List.not_mem_nil 24 17 rfl v rfl RG.sx hcell u23,RG.st,RG.st,trivial⟩ ?_
   intro a22 w22 M22
   repeat refine wp_seq ?_
   refine M22.t [.c 20 [] gv1,.x 21 [] v,.c 22 [(20,0),(21,1)] (.tuple #[(nv 0),(.bool false)]),.x 19 [(22,2)] (.tuple #[(nv 0),(.bool false)]),.x 23 [(19,3)] (nv 0),.x 24 [(19,3)] (.bool false),.m 7 [] 1,.u [(7,6),(23,4)] 1,.x 8 [(24,5)] (.bool false)] [(6,(RG.z 4))] [(1,7,(wn 0))] [C,(wn 0)] [(8,(.v (.bool false)))] ⟨RG.cl (Scalars_c),RG.st,RG.cert_callB2 rfl 89 20 21 gv1 v (.tuple #[(nv 0),(.bool false)]) rfl (fun a w=>by kernel_rfl) RG.sx RG.sx hrd,RG.st,RG.st,RG.st,RG.mk 1 45,RG.pt i85,RG.st,trivial⟩ ?_
   intro j23 a23 w23 M23
   repeat refine wp_seq ?_
   refine M23.u [.x 25 [] (.bool false),.x 26 [(25,0)] (.bool true)] [(26,(.v (.bool true)))] ⟨RG.st,RG.st,trivial⟩ ?_
   intro a24 w24 M24
   repeat refine wp_seq ?_
   refine wp_cond_true M24.ev ?_
   repeat refine wp_seq ?_
   refine M24.u [.x 2 [] (.slice none 0 0),.x 3 [] (.int .i64 3)] [(2,(.v (.slice none 0 0))),(3,(.v (.int .i64 3)))] ⟨RG.st,RG.st,trivial⟩ ?_
   intro a25 w25 M25
   refine wp_ret ?_
   refine bodyPost_ret (v:=.tuple #[.slice none 0 0,.int .i64 3]) (RG.results_tt 2 3 rfl _ _ (M25.at (s:=(.v (.slice none 0 0)))) (M25.at (s:=(.v (.int .i64 3))))) M25.sl.defers ?_
   exact ⟨_,rfl,M25.st.bel.below,Or.inr ⟨⟨i,hi,hrdv⟩,rfl⟩⟩
 ·have hiN:i=n:=by omega
  have M30:RG.M w w.heap.size [] 33 [C] [kt] [(4,(.s 0 n n)),(12,(.v (.slice q n cap))),(13,(.v (.int .i64 n))),(14,(.v (.int .i64 i)))] a _:=⟨hSp,sl,⟨p4,p12,p13,p14,trivial⟩⟩
  repeat refine wp_seq ?_
  refine M30.u [.x 15 [] (.bool false)] [(4,(.s 0 n n)),(15,(.v (.bool false)))] ⟨RG.cert_bin rfl .lss 3 3 14 13 (.int .i64 i) (.int .i64 n) (.bool false) rfl rfl RG.sx RG.sx (fun w=>by kernel_rfl) (lssn_f hi),trivial⟩ ?_
  intro a31 w31 M31
  repeat refine wp_seq ?_
  refine wp_cond_false M31.ev ?_
  refine wp_exit ?_
  dsimp only[Exit.then,Exit.inBlock]
  rw[if_pos rfl]
  repeat refine wp_seq ?_
  refine M31.u [.s 32 [] (.s 0 n n),.s 2 [(32,0)] (.s 0 n n),.x 3 [] (.int .i64 0)] [(2,(.s 0 n n)),(3,(.v (.int .i64 0)))] ⟨RG.st,RG.st,RG.st,trivial⟩ ?_
  intro a32 w32 M32
  refine wp_ret ?_
  refine bodyPost_ret (v:=.tuple #[.slice (some ⟨kt,0,none⟩) n n,.int .i64 0]) (RG.results_tt 2 3 rfl _ _ (M32.at (s:=(.s 0 n n))) (M32.at (s:=(.v (.int .i64 0))))) M32.sl.defers ?_
  refine ⟨_,rfl,M32.st.bel.below,Or.inl ⟨kt,?_,?_,rfl,fun j hj=>?_⟩⟩
  ·exact (M32.st.has 0 C rfl).2.2.2.elim id (fun h=>absurd h List.not_mem_nil)
  ·exact (M32.st.has 0 C rfl).2.2.1
  ·obtain ⟨pp,hpp⟩:=Option.isSome_iff_exists.1 (hall j (by omega))
   refine ⟨pp,hpp,RG.range_sub (M32.st.has 0 C rfl).1 (fun r hr=>?_)⟩
   have h5:=hR.row j r (by omega) hr
   rw[h5]
   show (match rq N (L j) with|some p=>_|none=>_)[r]? = _
   rw[hpp]
end
section
open Go.RowKit Go.Sort Go.Deep
variable {P:Nat} [NeZero P] {N:Nat}
def OutE (c:Int) (e:Value):Prop:=e=.tuple #[.slice none 0 0,.int .i64 c]
def OutP (w:World) (T:Bs) (e:Value) (w':World):Prop:=∃ g cap,e=.tuple #[.slice (some ⟨g,0,none⟩) 33 cap,.int .i64 0]∧33≤cap∧w.heap.size≤g∧g<w'.heap.size∧Holds encB w' g 0 T
def ptP (s:T3 P):Fin P × Fin P:=(s.1*(EC.inv s.2.2*EC.inv s.2.2),s.2.1*(EC.inv s.2.2*EC.inv s.2.2)*EC.inv s.2.2)
theorem cell_below {w w1:World} {k j:Nat} {v:Value} (h:w.cell? ⟨k,j,none⟩=some v) (hb:Below w.heap.size w w1) (hk:k<w.heap.size):w1.cell? ⟨k,j,none⟩=some v:=by
 have h1:w.rangeAt k j [v]:=fun i u hu=>by
  cases i with
  | zero =>
   obtain rfl:v=u:=Option.some.inj hu
   exact h
  | succ i=>exact absurd hu (by simp)
 exact RG.range_below h1 hb hk 0 v rfl
theorem ArgsPts.below {w w1:World} {q:Option Addr} {n:Nat} {L:Nat→Bs} (h:ArgsPts w q n L) (hb:Below w.heap.size w w1):ArgsPts w1 q n L:=fun hn=>by
 obtain ⟨gg,hq,hlt,hc⟩:=h hn
 refine ⟨gg,hq,Nat.lt_of_lt_of_le hlt hb.size,fun j hj=>?_⟩
 obtain ⟨v,hv,ha⟩:=hc j hj
 exact ⟨v,cell_below hv hb hlt,ha.below hb⟩
def SumR (P:Nat) [NeZero P] (N:Nat) (w:World) (n a:Nat) (L M:Nat→Bs) (e:Value) (w':World):Prop:=
 (n≠a∧OutE 2 e)∨(n=a∧512<n∧OutE 1 e)∨(n=a∧n≤512∧(((∃ j,j<n∧rq N (L j)=none)∧OutE 3 e) ∨
  ∃ ns:Nat→Nat,(∀ j,j<n→rq N (L j)=some (ns j))∧(((∃ j,j<n∧rd P (M j)=none)∧OutE 4 e) ∨
   ∃ xs ys:Nat→Fin P,(∀ j,j<n→rd P (M j)=some (xs j,ys j))∧OutP w (by33 (ptP (sumJ ns xs ys n 257)).1 (ptP (sumJ ns xs ys n 257)).2) e w')))
theorem choose_nat {A:Type} [Inhabited A] {n:Nat} {p:Nat→A→Prop} (h:∀ j,j<n→∃ a,p j a):∃ f:Nat→A,∀ j,j<n→p j (f j):=
 ⟨fun j=>if hj:j<n then (h j hj).choose else default,fun j hj=>by
  show p j (if hj:j<n then (h j hj).choose else default)
  rw[dif_pos hj]
  exact (h j hj).choose_spec⟩
theorem rq_top {N:Nat} (hN:N≤top) {bs:Bs} {m:Nat} (h:rq N bs=some m):m<top:=by
 unfold rq at h
 split at h
 ·rename_i h1
  obtain rfl:beV bs.toList=m:=Option.some.inj h
  exact Nat.lt_of_lt_of_le h1.2 hN
 ·exact absurd h (by simp)
theorem gSum_c {N:Nat} (C:Fld P) (hG:Gap 4624529908474429119 4994812053365940164 1 N) (hN:N≤top) (q q':Option Addr) (n cap a cap':Nat) (L M:Nat→Bs) (w:World) (hL:ArgsScs w q n L) (hM:ArgsPts w q' a M) :
 Calls Tryz.prog 37 #[.slice q n cap,.slice q' a cap'] w (Ret fun e w'=>Below w.heap.size w w'∧SumR P N w n a L M e w'):=by
 have HL:Hid (ArgsScs w q n L):=hL
 have HM:Hid (ArgsPts w q' a M):=hM
 clear hL hM
 by_cases hna:n=a
 ·subst hna
  by_cases h512:512<n
  ·go_enter Tryz.func37,Tryz.ntmps37
   go_wp2
   go_ret2
   exact ⟨_,rfl,RowKit.Below.refl _ _,Or.inr (Or.inl ⟨rfl,h512,rfl⟩)⟩
  ·have H5:n≤512:=by omega
   go_enter Tryz.func37,Tryz.ntmps37
   go_wp2_with fail
   refine (Scs_c hG n cap H5 q L w HL.out).mono ?_
   rintro e w1 ⟨v,rfl,hb1,⟨k,hk1,hk2,rfl,hrow⟩|⟨hno,rfl⟩⟩
   ·obtain ⟨ns,hns⟩:=choose_nat hrow
    have HB:Hid (Below w.heap.size w w1):=hb1
    have HS:Hid (k<w1.heap.size∧∀ j,j<n→w1.rangeAt k (4*j) (wn (ns j))):=⟨hk2,fun j hj=>(hns j hj).2⟩
    have HN:Hid (∀ j,j<n→rq N (L j)=some (ns j)):=fun j hj=>(hns j hj).1
    clear hrow hns hk1 hk2 hb1
    go_wp2_with fail
    refine (Pts_c C n cap' H5 q' M w1 (HM.out.below HB.out)).mono ?_
    rintro e w2 ⟨v,rfl,hb2,⟨k',hk1,hk2,rfl,hrow⟩|⟨hno,rfl⟩⟩
    ·obtain ⟨ps,hps⟩:=choose_nat hrow
     have HB2:Hid (Below w.heap.size w w2):=HB.out.trans (hb2.mono HB.out.size)
     have HS2:Hid (k<w2.heap.size∧∀ j,j<n→w2.rangeAt k (4*j) (wn (ns j))):=⟨Nat.lt_of_lt_of_le HS.out.1 hb2.size,fun j hj=>RG.range_below (HS.out.2 j hj) hb2 HS.out.1⟩
     have HP:Hid (k'<w2.heap.size∧∀ j,j<n→w2.rangeAt k' (8*j) (ws (ps j).1++ws (ps j).2)):=⟨hk2,fun j hj=>(hps j hj).2⟩
     have HM2:Hid (∀ j,j<n→rd P (M j)=some ((ps j).1,(ps j).2)):=fun j hj=>(hps j hj).1
     clear hrow hps hk1 hk2 hb2
     have hBt:∀ w,Calls Tryz.prog 61 #[pv (ptP (sumJ ns (fun j=>(ps j).1) (fun j=>(ps j).2) n 257)).1 (ptP (sumJ ns (fun j=>(ps j).1) (fun j=>(ps j).2) n 257)).2] w (Ret fun e w'=>Below w.heap.size w w'∧BytesR w (by33 (ptP (sumJ ns (fun j=>(ps j).1) (fun j=>(ps j).2) n 257)).1 (ptP (sumJ ns (fun j=>(ps j).1) (fun j=>(ps j).2) n 257)).2) e w'):=bytes_c C _ _
     have hS:Calls Tryz.prog 67 #[.slice (some ⟨k,0,none⟩) n n,.slice (some ⟨k',0,none⟩) n n] w2 (Ret fun e w'=>Below w2.heap.size w2 w'∧e=pv (ptP (sumJ ns (fun j=>(ps j).1) (fun j=>(ps j).2) n 257)).1 (ptP (sumJ ns (fun j=>(ps j).1) (fun j=>(ps j).2) n 257)).2):=by
      refine (sums_c C n H5 ns (fun j=>(ps j).1) (fun j=>(ps j).2) (fun i hi=>rq_top hN (HN.out i hi)) k k' w2 HS2.out.1 HP.out.1 HS2.out.2 HP.out.2).mono ?_
      rintro e w' ⟨v,rfl,hb,s,rfl,rfl⟩
      exact ⟨_,rfl,hb,rfl⟩
     generalize hz:ptP (sumJ ns (fun j=>(ps j).1) (fun j=>(ps j).2) n 257)=z at hS hBt
     have HZ:Hid (ptP (sumJ ns (fun j=>(ps j).1) (fun j=>(ps j).2) n 257)=z):=hz
     clear hz
     generalize pv z.1 z.2=v4 at hS hBt
     go_wp2_with fail
     refine hS.mono ?_
     rintro e w3 ⟨v,rfl,hb3,rfl⟩
     have HB3:Hid (Below w.heap.size w w3):=HB2.out.trans (hb3.mono HB2.out.size)
     clear hb3
     go_wp2_with fail
     refine (hBt _).mono ?_
     rintro e w4 ⟨v,rfl,hb4,g,cap3,rfl,hc3,hg3,hlt3,hH3⟩
     have HB4:Hid (Below w.heap.size w w4):=HB3.out.trans (hb4.mono HB3.out.size)
     have HO:Hid (OutP w (by33 z.1 z.2) (.tuple #[.slice (some ⟨g,0,none⟩) 33 cap3,.int .i64 0]) w4):=⟨g,cap3,rfl,hc3,Nat.le_trans HB3.out.size hg3,hlt3,hH3⟩
     clear hb4 hH3
     go_wp2
     go_ret2
     refine ⟨_,rfl,HB4.out,Or.inr (Or.inr ⟨rfl,H5,Or.inr ⟨ns,HN.out,Or.inr ⟨_,_,HM2.out,?_⟩⟩⟩)⟩
     rw[HZ.out]
     exact HO.out
    ·have HB2:Hid (Below w.heap.size w w2):=HB.out.trans (hb2.mono HB.out.size)
     have HO:Hid (∃ j,j<n∧rd P (M j)=none):=hno
     clear hb2 hno
     go_wp2
     go_ret2
     exact ⟨_,rfl,HB2.out,Or.inr (Or.inr ⟨rfl,H5,Or.inr ⟨ns,HN.out,Or.inl ⟨HO.out,rfl⟩⟩⟩)⟩
   ·have HB:Hid (Below w.heap.size w w1):=hb1
    have HO:Hid (∃ j,j<n∧rq N (L j)=none):=hno
    clear hb1 hno
    go_wp2
    go_ret2
    exact ⟨_,rfl,HB.out,Or.inr (Or.inr ⟨rfl,H5,Or.inl ⟨HO.out,rfl⟩⟩)⟩
 ·go_enter Tryz.func37,Tryz.ntmps37
  go_wp2
  go_ret2
  exact ⟨_,rfl,RowKit.Below.refl _ _,Or.inl ⟨hna,rfl⟩⟩
def zs33:Bs:=Array.replicate 33 0
theorem sq_mod (r d:Nat):d*d%(r+d)=r*r%(r+d):=by
 have h:d*d+(r+d)*r=r*r+(r+d)*d:=by
  rw[Nat.add_mul,Nat.add_mul,Nat.mul_comm d r]
  omega
 have h1:=congrArg (· % (r+d)) h
 simp only[Nat.add_mul_mod_self_left] at h1
 exact h1
theorem rt_sq {m y:Fin P} (h:rt m=some y):y*y=m:=by
 have h0:=rt_yes h
 unfold rt at h
 rw[if_pos h0] at h
 obtain rfl:=Option.some.inj h
 have hP:=Nat.pos_of_neZero P
 have hr:m.val^(P/4+1)%P<P:=Nat.mod_lt _ hP
 generalize m.val^(P/4+1)%P=r at h0 hr
 apply Fin.ext
 rw[Fin.val_mul]
 show (even P r%P)*(even P r%P)%P=m.val
 rw[Nat.mod_eq_of_lt (even_lt hP hr),← h0]
 unfold even
 split
 ·have h2:=sq_mod r (P-r)
  rw[show r+(P-r)=P by omega] at h2
  exact h2
 ·rfl
theorem zero33_iff {bs:Bs} (hs:bs.size=33):Zero33 bs↔bs=zs33:=by
 constructor
 ·intro h
  apply Array.ext
  ·rw[hs];rfl
  ·intro i h1 h2
   have:=h i (List.mem_range.2 (by omega))
   rw[getElem!_pos bs i h1] at this
   have h3:bs[i].toNat=0:=by
    have h4:ub bs[i]=(bs[i].toNat:Int):=rfl
    rw[h4] at this
    omega
   have h5:(zs33)[i]=0:=by
    have h6:(Array.replicate 33 (0:UInt8))[i]'h2=0:=Array.getElem_replicate _
    exact h6
   rw[h5]
   exact UInt8.toNat_inj.1 h3
 ·rintro rfl i hi
  have hi:=List.mem_range.1 hi
  unfold zs33
  rw[getElem!_pos _ i (by rw[Array.size_replicate];exact hi),Array.getElem_replicate]
  rfl
theorem on_of {x y:Fin P} (h:y*y=x*x*x+7):EC.On (.some (x,y):EC.Pt P):=by
 show y^2=x^3+7
 grobner
theorem on_neg {x y:Fin P} (h:y*y=x*x*x+7):EC.On (.some (x,0-y):EC.Pt P):=by
 show (0-y)^2=x^3+7
 grobner
def wr:EC.Pt P→Bs
 | none=>zs33
 | some (x,y)=>#[mark y.val]++bx x.val
theorem by33_wr (C:Fld P) {x y:Fin P} {p:EC.Pt P} (h:EC.Pair x y p) (ho:EC.On p):by33 x y=wr p:=by
 unfold by33
 match p,h,ho with
 | none,h,_=>rw[if_pos (show x=0∧y=0 from h)];rfl
 | some (a,b),h,ho =>
  obtain ⟨rfl,rfl⟩:=h
  rw[if_neg (fun e=>C.cur.y_ne ho e.2)]
  rfl
def pt (p:Fin P × Fin P):EC.Pt P:=if p.1=0∧p.2=0 then none else some p
theorem pair_pt (C:Fld P) {x y:Fin P} {q:EC.Pt P} (h:EC.Pair x y q) (ho:EC.On q):q=pt (x,y):=by
 unfold pt
 match q,h,ho with
 | none,h,_=>rw[if_pos (show x=0∧y=0 from h)]
 | some (a,b),h,ho =>
  obtain ⟨rfl,rfl⟩:=h
  rw[if_neg (fun e=>C.cur.y_ne ho e.2)]
theorem rd_on (C:Fld P) {bs:Bs} {p:Fin P × Fin P} (h:rd P bs=some p):EC.Pair p.1 p.2 (pt p)∧EC.On (pt p):=by
 have key:∃ q:EC.Pt P,EC.Pair p.1 p.2 q∧EC.On q:=by
  unfold rd at h
  split at h
  ·split at h
   ·obtain rfl:=Option.some.inj h
    exact ⟨none,⟨rfl,rfl⟩,EC.none_on⟩
   ·split at h
    ·split at h
     ·obtain ⟨y,hr,rfl⟩:=Option.map_eq_some_iff.1 h
      have hsq:=rt_sq hr
      refine ⟨some (rdx P bs,if ub bs[0]! = 3 then 0-y else y),⟨rfl,rfl⟩,?_⟩
      split
      ·exact on_neg hsq
      ·exact on_of hsq
     ·cases h
    ·cases h
  ·cases h
 obtain ⟨q,h1,h2⟩:=key
 have:=pair_pt C h1 h2
 rw[show pt p=q from this.symm]
 exact ⟨h1,h2⟩
omit [NeZero P] in
theorem wr_size (p:EC.Pt P):(wr p).size=33:=by
 match p with
 | none=>rfl
 | some (x,y) =>
  show (#[mark y.val]++bx x.val).size=33
  rw[Array.size_append,bx_size]
  rfl
end
section
variable {P:Nat} [NeZero P] {N:Nat}
theorem root_mod {a P:Nat} (h:NT.IsP P) (h4:P%4=3):(a*a%P)^(P/4+1)%P*((a*a%P)^(P/4+1)%P)%P=a*a%P:=by
 rw[← Nat.mul_mod,← Nat.pow_add,← Nat.pow_mod,← Nat.pow_two,← Nat.pow_mul,show 2*(P/4+1+(P/4+1))=P+1 by omega,Nat.pow_succ,Nat.mul_mod,h.fermat a,← Nat.mul_mod,Nat.pow_two]
theorem root_is {a R P:Nat} (h:NT.IsP P) (ha:a<P) (hR:R<P) (he:R*R%P=a*a%P):R=a∨R+a=P:=by
 have key:∀ x y:Nat,x<P→y<P→y≤x→x*x%P=y*y%P→x=y∨x+y=P:=by
  intro x y hx hy hxy hxe
  have hd:P ∣ x*x-y*y:=by
   refine Nat.dvd_of_mod_eq_zero ?_
   exact Nat.sub_mod_eq_zero_of_mod_eq hxe
  have hf:x*x-y*y=(x-y)*(x+y):=by
   rw[Nat.mul_comm (x-y),Nat.mul_self_sub_mul_self_eq]
  rw[hf] at hd
  rcases h.euclid hd with h1|h1
  ·left
   have:=Nat.eq_zero_of_dvd_of_lt h1 (by omega)
   omega
  ·obtain ⟨k,hk⟩:=h1
   have:k=0∨k=1∨2≤k:=by omega
   rcases this with rfl|rfl|h2
   ·left;omega
   ·right;omega
   ·have:=Nat.mul_le_mul_left P h2
    omega
 rcases Nat.le_total a R with h1|h1
 ·exact key R a hR ha h1 he
 ·rcases key a R ha hR h1 he.symm with h2|h2
  ·left;exact h2.symm
  ·right;omega
end
section
open Go.RowKit Go.Sort Go.Deep
theorem w8_be8 (x:Nat) (hx:x<18446744073709551616) :
 w8 (UInt8.ofNat (x/72057594037927936)) (UInt8.ofNat (x/281474976710656)) (UInt8.ofNat (x/1099511627776)) (UInt8.ofNat (x/4294967296)) (UInt8.ofNat (x/16777216)) (UInt8.ofNat (x/65536)) (UInt8.ofNat (x/256)) (UInt8.ofNat x)=x:=by
 unfold w8
 simp only[UInt8.toNat_ofNat']
 omega
theorem be32_list (a b c d:Nat):(be32 a b c d).toList=[UInt8.ofNat (d/72057594037927936),UInt8.ofNat (d/281474976710656),UInt8.ofNat (d/1099511627776),UInt8.ofNat (d/4294967296),UInt8.ofNat (d/16777216),UInt8.ofNat (d/65536),UInt8.ofNat (d/256),UInt8.ofNat d,UInt8.ofNat (c/72057594037927936),UInt8.ofNat (c/281474976710656),UInt8.ofNat (c/1099511627776),UInt8.ofNat (c/4294967296),UInt8.ofNat (c/16777216),UInt8.ofNat (c/65536),UInt8.ofNat (c/256),UInt8.ofNat c,UInt8.ofNat (b/72057594037927936),UInt8.ofNat (b/281474976710656),UInt8.ofNat (b/1099511627776),UInt8.ofNat (b/4294967296),UInt8.ofNat (b/16777216),UInt8.ofNat (b/65536),UInt8.ofNat (b/256),UInt8.ofNat b,UInt8.ofNat (a/72057594037927936),UInt8.ofNat (a/281474976710656),UInt8.ofNat (a/1099511627776),UInt8.ofNat (a/4294967296),UInt8.ofNat (a/16777216),UInt8.ofNat (a/65536),UInt8.ofNat (a/256),UInt8.ofNat a]:=by
 simp only[be32,be8,Array.toList_append,List.cons_append,List.nil_append]
theorem val_congr {a b c d p q r s:Nat} (h1:a=p) (h2:b=q) (h3:c=r) (h4:d=s):val a b c d=val p q r s:=by subst h1 h2 h3 h4;rfl
theorem beV_be32 (a b c d:Nat) (ha:a<18446744073709551616) (hb:b<18446744073709551616) (hc:c<18446744073709551616) (hd:d<18446744073709551616):beV (be32 a b c d).toList=val a b c d:=
 (congrArg beV (be32_list a b c d)).trans ((beV_32 _ _ _ _ _ _ _ _ _ _ _ _ _ _ _ _ _ _ _ _ _ _ _ _ _ _ _ _ _ _ _ _).trans (val_congr (w8_be8 a ha) (w8_be8 b hb) (w8_be8 c hc) (w8_be8 d hd)))
theorem bx_val {n:Nat} (hn:n<top):beV (bx n).toList=n:=by
 unfold bx
 rw[beV_be32 _ _ _ _ (by omega) (by omega) (by omega) (by omega)]
 unfold val
 unfold top at hn
 omega
variable {P:Nat} [NeZero P]
theorem rt_of (C:Fld P) {y m:Fin P} (h:y*y=m):rt m=some (if y.val%2=1 then 0-y else y):=by
 have hm:y.val*y.val%P=m.val:=by rw[← h,Fin.val_mul]
 have h1:=root_mod (a:=y.val) C.cur.pr C.p3
 rw[hm] at h1
 unfold rt
 rw[if_pos h1]
 have hP:=Nat.pos_of_neZero P
 have hr:m.val^(P/4+1)%P<P:=Nat.mod_lt _ hP
 generalize m.val^(P/4+1)%P=r at h1 hr
 have hy:=y.isLt
 have h3:=C.p3
 have hor:=root_is C.cur.pr hy hr (h1.trans hm.symm)
 congr 1
 apply Fin.ext
 show even P r%P=_
 unfold even
 have h0:(0-y:Fin P).val=(P-y.val)%P:=by rw[← sub_fin,EC.val_zero,Nat.zero_add]
 by_cases ho:y.val%2=1
 ·rw[if_pos ho,h0]
  rcases hor with e|e
  ·rw[e,if_pos ho]
  ·rw[if_neg (by omega),show P-y.val=r by omega]
 ·rw[if_neg ho]
  rcases hor with e|e
  ·rw[e,if_neg ho,Nat.mod_eq_of_lt hy]
  ·by_cases hz:y.val=0
   ·omega
   ·rw[if_pos (by omega),show P-r=y.val by omega,Nat.mod_eq_of_lt hy]
theorem ub_mark (n:Nat):ub (mark n)=if n%2=1 then 3 else 2:=by
 unfold mark
 split<;>rfl
theorem tl_mark {m:UInt8} {b:Bs} (h:b.size=32):tl33 (#[m]++b)=b:=by
 unfold tl33
 rw[Array.extract_append]
 have h1:(#[m]:Bs).extract 1 33=#[]:=by rfl
 rw[h1]
 simp[h]
theorem mark_0 (m:UInt8) (b:Bs):(#[m]++b)[0]! = m:=by
 rw[getElem!_pos _ 0 (by rw[Array.size_append];simp;omega),Array.getElem_append_left (by simp)]
 rfl
theorem rd_of (C:Fld P) {b:Bs} (hs:b.size=33) {x y:Fin P} (hm:ub b[0]! = if y.val%2=1 then 3 else 2) (hv:beV (tl33 b).toList=x.val) (h:EC.On (some (x,y):EC.Pt P)):rd P b=some (x,y):=by
 have hz:¬ Zero33 b:=fun hz=>by
  have:=hz 0 (List.mem_range.2 (by decide))
  rw[hm] at this
  split at this<;>omega
 have hx:rdx P b=x:=by
  unfold rdx
  rw[hv]
  exact Fin.ext (Nat.mod_eq_of_lt x.isLt)
 have hy:y*y=x*x*x+7:=by
  have:y^2=x^3+7:=h
  grobner
 unfold rd
 rw[if_pos hs,if_neg hz,hm,hv,if_pos x.isLt,hx,rt_of C hy]
 by_cases ho:y.val%2=1
 ·rw[if_pos ho,if_pos (Or.inr rfl),if_pos ho,Option.map_some,if_pos rfl]
  have e:0-(0-y)=y:=by grobner
  rw[e]
 ·rw[if_neg ho,if_pos (Or.inl rfl),if_neg ho,Option.map_some,if_neg (by decide)]
theorem rd_wr (C:Fld P) {X:EC.Pt P} (h:EC.On X):∃ p,rd P (wr X)=some p∧pt p=X:=by
 match X,h with
 | none,_ =>
  refine ⟨(0,0),?_,by unfold pt;rw[if_pos ⟨rfl,rfl⟩]⟩
  have h1:(wr (none:EC.Pt P)).size=33:=wr_size _
  have h2:Zero33 (wr (none:EC.Pt P)):=(zero33_iff h1).2 rfl
  generalize wr (none:EC.Pt P)=b at h1 h2
  unfold rd
  rw[if_pos h1,if_pos h2]
 | some (x,y),h =>
  have hs:=wr_size (P:=P) (some (x,y))
  have hb0:(wr (some (x,y):EC.Pt P))[0]! = mark y.val:=mark_0 _ _
  have ht:tl33 (wr (some (x,y):EC.Pt P))=bx x.val:=tl_mark (bx_size _)
  refine ⟨(x,y),rd_of C hs (by rw[hb0,ub_mark]) (by rw[ht,bx_val (C.top x)]) h,by unfold pt;rw[if_neg (fun e=>C.cur.y_ne h e.2)]⟩
end
section
open Go.RowKit Go.Sort Go.Deep
variable {P:Nat} [NeZero P] {N:Nat}
def gxl:List Value:=[.int .u64 6481385041966929816,.int .u64 188021827762530521,.int .u64 6170039885052185351,.int .u64 8772561819708210092]
def gyl:List Value:=[.int .u64 11261198710074299576,.int .u64 18237243440184513561,.int .u64 6747795201694173352,.int .u64 5204712524664259685]
def gX (P:Nat) [NeZero P]:Fin P:=Fin.ofNat P 55066263022277343669578718895168534326250603453777594175500187360389116729240
def gY (P:Nat) [NeZero P]:Fin P:=Fin.ofNat P 32670510020758816978083085130507043184471273380659243275938904335757337482424
def gG (P:Nat) [NeZero P]:EC.Pt P:=some (gX P,gY P)
theorem Fld.eq (C:Fld P):P=115792089237316195423570985008687907853269984665640564039457584007908834671663:=by
 have h:=C.gap.hP
 have e:val 4294968273 0 0 0=4294968273:=by decide
 rw[e] at h
 unfold Go.Proofs.YtmepmoalhgehhaaGreatDoor.top at h
 omega
theorem gX_val (C:Fld P):(gX P).val=55066263022277343669578718895168534326250603453777594175500187360389116729240:=by
 have h:=C.eq
 exact Nat.mod_eq_of_lt (by omega)
theorem gY_val (C:Fld P):(gY P).val=32670510020758816978083085130507043184471273380659243275938904335757337482424:=by
 have h:=C.eq
 exact Nat.mod_eq_of_lt (by omega)
theorem gxl_ws (C:Fld P):gxl=ws (gX P):=by
 show _=wn (gX P).val
 rw[gX_val C]
 kernel_rfl
theorem gyl_ws (C:Fld P):gyl=ws (gY P):=by
 show _=wn (gY P).val
 rw[gY_val C]
 kernel_rfl
theorem gG_on (C:Fld P):EC.On (gG P):=by
 refine on_of (Fin.ext ?_)
 have h7:(7:Fin P).val=7:=Nat.mod_eq_of_lt C.p7
 rw[Fin.val_mul,Fin.val_add,Fin.val_mul,Fin.val_mul,gX_val C,gY_val C,h7]
 have h:=C.eq
 rw[h]
theorem base_v:Gives 60 #[] (.agg (gxl++gyl).toArray):=by
 intro w
 go_enter Tryz.func60,Tryz.ntmps60
 refine RG.M.enter [] 4 (by kernel_rfl) ?_
 intro a0 M0
 repeat refine wp_seq ?_
 refine M0.t [.m 0 [] 0] [(0,RG.z 8)] [] [RG.z 8] [(0,.p 0 0)] ⟨RG.mk 0 107,trivial⟩ ?_
 intro j1 a1 w1 M1
 repeat refine wp_seq ?_
 refine M1.t [.x 1 [] (.agg gxl.toArray),.x 2 [] (.agg gyl.toArray),.x 3 [(1,0),(2,1)] (.agg (gxl++gyl).toArray),.u [(3,2)] 0] [] [(0,3,gxl++gyl)] [gxl++gyl] [(0,.p 0 0)] ⟨RG.st,RG.st,RG.st,RG.pt i109,trivial⟩ ?_
 intro a2 w2 M2
 refine wp_ret ?_
 refine bodyPost_ret (v:=.agg (gxl++gyl).toArray) (RG.results_row M2.st 0 107 rfl 0 _ rfl (M2.at (s:=.p 0 0)) u109 i109) M2.sl.defers ?_
 exact ⟨_,rfl,M2.st.bel.below,rfl⟩
theorem base_c (C:Fld P):Gives 60 #[] (pv (gX P) (gY P)):=by
 unfold pv
 rw[← gxl_ws C,← gyl_ws C]
 exact base_v
theorem gG_wr (C:Fld P):by33 (gX P) (gY P)=wr (gG P):=by33_wr C ⟨rfl,rfl⟩ (gG_on C)
theorem Base_c (C:Fld P) (w:World):Calls Tryz.prog 35 #[] w (Ret fun e w'=>Below w.heap.size w w'∧BytesR w (wr (gG P)) e w'):=by
 have HC:Hid (Fld P):=C
 clear C
 go_enter Tryz.func35,Tryz.ntmps35
 go_wp2_with fail
 refine (base_c HC.out _).mono ?_
 rintro e w1 ⟨v,rfl,hb1,rfl⟩
 go_wp2_with fail
 refine (bytes_c HC.out (gX P) (gY P) _).mono ?_
 rintro e w2 ⟨v,rfl,hb2,g,cap,rfl,h1,h2,h3,h4⟩
 rw[gG_wr HC.out] at h4
 have HB:Hid (Below w.heap.size w w2∧BytesR w (wr (gG P)) (.slice (some ⟨g,0,none⟩) 33 cap) w2):=⟨hb1.trans (hb2.mono hb1.size),g,cap,rfl,h1,Nat.le_trans hb1.size h2,h3,h4⟩
 clear hb1 hb2 h1 h2 h3 h4
 go_wp2
 go_ret
 exact ⟨_,rfl,HB.out⟩
end
section
open Go.RowKit Go.Sort Go.Deep Go.Shelf
attribute [local go_sem] Oper.semAt_some
section
variable {F:Fence} {n:Nat} {P:Program} {ops:Array Oper} {rest:List Oper} {op:Oper} {a:Act} {w:World} {Q:Exit→Act→World→Prop}
end
def Row (W:World) (k:Nat) (vs:List Value):Prop:=k<W.heap.size∧W.rangeAt k 0 vs∧W.there k 0 vs.length
theorem Row.cell {W:World} {k:Nat} {vs:List Value} (h:Row W k vs) {j:Nat} (hj:j<vs.length):W.cell? ⟨k,j,none⟩=some vs[j]:=by
 have:=h.2.1 j vs[j] (List.getElem?_eq_getElem hj)
 rwa[Nat.zero_add] at this
theorem row_own (k:Nat) (vs:List Value):Own (fun (_:Unit) W=>Row W k vs):=fun s A B row hs hg hr=>by
 refine ⟨Nat.lt_of_lt_of_le hs.1 hg.size,fun j v hj=>?_,fun j hj=>?_⟩
 ·exact cell_kept (hs.2.1 j v hj) hg hr
 ·have h1:=hs.2.1 j vs[j] (List.getElem?_eq_getElem hj)
  have h2:=cell_kept h1 hg hr
  exact ⟨by rw[h2];rfl,(frozen_kept h1 hg hr).trans (hs.2.2 j hj).2⟩
theorem Row.putObj {W:World} {k D:Nat} {vs:List Value} (h:Row W k vs) {o:Obj} (hD:W.heap[D]? = some o) (ho:o.isCells=false) (o':Obj):Row (W.putObj D o') k vs:=
 row_own k vs () W (W.putObj D o') (some D) h (grownBy_putObj' W D o') (fun r e=>by cases e;exact ⟨_,hD,ho⟩)
theorem Row.below {W W':World} {k:Nat} {vs:List Value} (h:Row W k vs) (hb:Below W.heap.size W W'):Row W' k vs:=by
 have e:=hb.block k h.1
 refine ⟨Nat.lt_of_lt_of_le h.1 hb.size,fun j v hj=>?_,fun j hj=>?_⟩
 ·exact (World.cell?_of_block e).trans (h.2.1 j v hj)
 ·have h1:=h.2.2 j hj
  exact ⟨by rw[World.cell?_of_block e];exact h1.1,(World.frozen?_of_block e).trans h1.2⟩
theorem results_cell {P:Program} {fn:Func} {tmps:Array Value} {W:World} {k:Nat} {vs:List Value} (t:Tmp) (T:TypeId) (hr:fn.results=#[.cell t T]) (h:Row W k vs) (ht:tmps[t]? = some (.pointer (some ⟨k,0,none⟩)))
 (hu:(P.underlying T).map (·.isRow)=some true) (hi:(P.info? T).map (·.size)=some vs.length):(results fn tmps).run P W=.ok (.agg vs.toArray) W:=by
 obtain ⟨d,hu,hd⟩:=Option.map_eq_some_iff.1 hu
 have h1:=run_loadVar_mid (P:=P) W k 0 T vs d h.2.1 hu hd hi
 have h2:tmps.getD t undef=.pointer (some ⟨k,0,none⟩):=by rw[Array.getD_eq_getD_getElem?,ht];rfl
 unfold results
 rw[hr]
 simp only[Array.mapM_eq_mapM_toList,List.mapM_cons,List.mapM_nil,h2,asAddr]
 simp[Sem.run_bind,h1]
theorem Row.put {W:World} {k:Nat} {vs us:List Value} (h:Row W k vs) (hl:us.length=vs.length):Row (W.setCells k 0 us) k us:=
 ⟨by rw[RG.setCells_size];exact h.1,World.rangeAt_setCells_same W k 0 us (by rw[hl];exact h.2.2),by rw[hl];exact World.there_setCells h.2.2 _ _ _⟩
theorem Row.other {W:World} {k j:Nat} {vs us:List Value} (h:Row W k vs) (hne:k≠j):Row (W.setCells j 0 us) k vs:=
 ⟨by rw[RG.setCells_size];exact h.1,World.rangeAt_setCells_apart h.2.1 j 0 us (Or.inl hne),World.there_setCells h.2.2 _ _ _⟩
variable {P:Nat} [NeZero P]
end
section
open Go.RowKit Go.Sort Go.Deep
variable {P:Nat} [NeZero P] {N:Nat}
theorem redS_of {w W:World} {k0 k1 g0 g1 g2:Nat} (h:Kept w k0 [⟨k0,0,g0,g1,g2,0⟩,⟨k1,0,0,0,0,0⟩] W):W.cell? ⟨k0,0,none⟩=some (.int .u64 g0)∧W.cell? ⟨k0,1,none⟩=some (.int .u64 g1)∧W.cell? ⟨k0,2,none⟩=some (.int .u64 g2)∧W.cell? ⟨k0,3,none⟩=some (.int .u64 0)∧Kept w k0 [⟨k0,0,g0,g1,g2,0⟩,⟨k1,0,0,0,0,0⟩] W:=⟨h.head.c0,h.head.c1,h.head.c2,h.head.c3,h⟩
theorem redS_get {w W:World} {k0 k1 g0 g1 g2:Nat} (h:W.cell? ⟨k0,0,none⟩=some (.int .u64 g0)∧W.cell? ⟨k0,1,none⟩=some (.int .u64 g1)∧W.cell? ⟨k0,2,none⟩=some (.int .u64 g2)∧W.cell? ⟨k0,3,none⟩=some (.int .u64 0)∧Kept w k0 [⟨k0,0,g0,g1,g2,0⟩,⟨k1,0,0,0,0,0⟩] W):Kept w k0 [⟨k0,0,g0,g1,g2,0⟩,⟨k1,0,0,0,0,0⟩] W:=h.2.2.2.2
theorem redS_alloc {w W:World} {k0 k1 g0 g1 g2:Nat} {o:Obj} (h:W.cell? ⟨k0,0,none⟩=some (.int .u64 g0)∧W.cell? ⟨k0,1,none⟩=some (.int .u64 g1)∧W.cell? ⟨k0,2,none⟩=some (.int .u64 g2)∧W.cell? ⟨k0,3,none⟩=some (.int .u64 0)∧Kept w k0 [⟨k0,0,g0,g1,g2,0⟩,⟨k1,0,0,0,0,0⟩] W):(W.alloc o).cell? ⟨k0,0,none⟩=some (.int .u64 g0)∧(W.alloc o).cell? ⟨k0,1,none⟩=some (.int .u64 g1)∧(W.alloc o).cell? ⟨k0,2,none⟩=some (.int .u64 g2)∧(W.alloc o).cell? ⟨k0,3,none⟩=some (.int .u64 0)∧Kept w k0 [⟨k0,0,g0,g1,g2,0⟩,⟨k1,0,0,0,0,0⟩] (W.alloc o):=redS_of ((redS_get h).alloc o)
theorem redS_allocd {w W:World} {k0 k1 g0 g1 g2:Nat} {o:Obj} (h:W.drew.cell? ⟨k0,0,none⟩=some (.int .u64 g0)∧W.drew.cell? ⟨k0,1,none⟩=some (.int .u64 g1)∧W.drew.cell? ⟨k0,2,none⟩=some (.int .u64 g2)∧W.drew.cell? ⟨k0,3,none⟩=some (.int .u64 0)∧Kept w k0 [⟨k0,0,g0,g1,g2,0⟩,⟨k1,0,0,0,0,0⟩] W.drew):(W.alloc o).drew.cell? ⟨k0,0,none⟩=some (.int .u64 g0)∧(W.alloc o).drew.cell? ⟨k0,1,none⟩=some (.int .u64 g1)∧(W.alloc o).drew.cell? ⟨k0,2,none⟩=some (.int .u64 g2)∧(W.alloc o).drew.cell? ⟨k0,3,none⟩=some (.int .u64 0)∧Kept w k0 [⟨k0,0,g0,g1,g2,0⟩,⟨k1,0,0,0,0,0⟩] (W.alloc o).drew:=redS_of (((redS_get h).undrew).alloc o).drew
theorem holds_part {w:World} {g o:Nat} {bs:Bs} (p l:Nat) (h:Holds encB w g o bs) (hp:p+l≤bs.size):Holds encB w g (o+p) (bs.extract p (p+l)):=by
 refine Holds.part h (by rw[Array.size_extract];omega) (fun j hj=>?_)
 rw[Array.size_extract] at hj
 rw[getElem!_pos (bs.extract p (p+l)) j (by rw[Array.size_extract];omega),getElem!_pos bs (p+j) (by omega),Array.getElem_extract]
theorem holds_front {w:World} {g o:Nat} {bs:Bs} (f:Nat) (h:Holds encB w g o bs) (hf:f≤bs.size):Holds encB w g o (bs.extract 0 f):=by
 have:=holds_part 0 f h (by omega)
 rwa[Nat.zero_add,Nat.add_zero] at this
def RedR (w:World) (k0 k1 g0 g1 g2 N:Nat) (s6:Value) (wx:World):Prop:=
 ∃ k6 a b c d:Nat,s6=.pointer (some ⟨k6,0,none⟩)∧Kept w k0 [⟨k6,0,a,b,c,d⟩,⟨k0,0,g0,g1,g2,0⟩,⟨k1,0,0,0,0,0⟩] wx∧k6≠k0∧k6≠k1∧k0≤k6 ∧
  Hid (Four (.agg #[.int .u64 a,.int .u64 b,.int .u64 c,.int .u64 d]) N)
theorem RedR.made {w w1:World} {k0 k1 g0 g1 g2 N a b c d:Nat} (KP:Kept w k0 [⟨k0,0,g0,g1,g2,0⟩,⟨k1,0,0,0,0,0⟩] w1) (hF:Hid (Four (.agg #[.int .u64 a,.int .u64 b,.int .u64 c,.int .u64 d]) N)) :
 RedR w k0 k1 g0 g1 g2 N (.pointer (some ⟨w1.heap.size,0,none⟩)) (w1.alloc (.cells #[.int .u64 a,.int .u64 b,.int .u64 c,.int .u64 d] 136)):=
 ⟨w1.heap.size,a,b,c,d,rfl,(KP.alloc _).cons (At4.made w1 136 a b c d rfl).blk,Nat.ne_of_gt KP.head.lt,Nat.ne_of_gt KP.tail.head.lt,KP.le,hF⟩
theorem RedR.put {w w1:World} {k0 k1 k6 g0 g1 g2 N a b c d x y z u:Nat} (KP:Kept w k0 [⟨k0,0,g0,g1,g2,0⟩,⟨k1,0,0,0,0,0⟩] w1) (T:At4 w1 k6 x y z u) (M7:k0≤k6) (N7:∀ x∈([⟨k0,0,g0,g1,g2,0⟩,⟨k1,0,0,0,0,0⟩]:List Blk),x.k<k6) (hF:Hid (Four (.agg #[.int .u64 a,.int .u64 b,.int .u64 c,.int .u64 d]) N)) :
 RedR w k0 k1 g0 g1 g2 N (.pointer (some ⟨k6,0,none⟩)) ((((w1.setCell ⟨k6,0,none⟩ (.int .u64 a)).setCell ⟨k6,1,none⟩ (.int .u64 b)).setCell ⟨k6,2,none⟩ (.int .u64 c)).setCell ⟨k6,3,none⟩ (.int .u64 d)):=
 ⟨k6,a,b,c,d,rfl,(KP.set4' M7 (fun x hx=>Nat.ne_of_gt (N7 x hx)) _ _ _ _).cons (T.self4 a b c d).blk,Nat.ne_of_gt (N7 ⟨k0,0,g0,g1,g2,0⟩ (by simp)),Nat.ne_of_gt (N7 ⟨k1,0,0,0,0,0⟩ (by simp)),M7,hF⟩
theorem red_step {P:Nat} (bs:Bs) (p:Nat) (hp:p+32≤bs.size):(beV (bs.extract p (p+32)).toList+top*(beV (bs.extract 0 p).toList%P))%P=beV (bs.extract 0 (p+32)).toList%P:=by
 have e:(bs.extract 0 (p+32)).toList=(bs.extract 0 p).toList++(bs.extract p (p+32)).toList:=by
  rw[← Array.toList_append,Array.extract_append_extract,Nat.min_eq_left (by omega),Nat.max_eq_right (by omega)]
 have l32:(bs.extract p (p+32)).toList.length=32:=by rw[Array.length_toList,Array.size_extract];omega
 have ht:256^32=top:=by unfold top;decide
 rw[e,beV_append,l32,ht,Nat.add_comm,Nat.add_mod,Nat.mul_mod,Nat.mod_mod,← Nat.mul_mod,← Nat.add_mod,Nat.mul_comm]
theorem PReduce_any (g0 g1 g2 P g o n cap : Nat) (bs : Bs) (hG : Gap g0 g1 g2 P) (w : World) (hs : bs.size = n) (hc : n ≤ cap) (hg : g < w.heap.size) (hB : Holds encB w g o bs) :
    Calls Tryz.prog 104 #[.agg #[.int .u64 (g0 : Int), .int .u64 (g1 : Int), .int .u64 (g2 : Int), .int .u64 0], .slice (some ⟨g, o, none⟩) n cap] w (Ret fun e w' => Below w.heap.size w w' ∧ Four e (beV bs.toList % P)) := by
  obtain ⟨f, hf⟩ : ∃ f, f = n % 32 := ⟨_, rfl⟩
  have hf32 : f < 32 := by omega
  have hfn : f ≤ n := by omega
  have e1 : (n : Int) % 32 = (f : Int) := by omega
  have e2 : (f : Int) ≤ (cap : Int) := by omega
  have e3 : (f : Int) ≤ (n : Int) := by omega
  have e4 : f ≤ cap := by omega
  have hsz0 : (bs.extract 0 f).size = f := by rw [Array.size_extract]; omega
  have Hf : Hid (f = n % 32) := hf
  have HS : Hid ((bs.extract 0 f).size = f) := hsz0
  have hbs : f ≤ bs.size := by omega
  have HSZ : Hid (bs.size = n) := hs
  have HG : Hid (Gap g0 g1 g2 P) := hG
  clear hf hsz0 hG
  go_enter Tryz.func104, Tryz.ntmps104
  go_upto_region 2 with fail
  rw [e1]
  clear e1
  have PR := (At4.made w 138 g0 g1 g2 0 rfl).alloc (.cells #[.int .u64 0, .int .u64 0, .int .u64 0, .int .u64 0] 45)
  have RE := At4.made (w.alloc (.cells #[.int .u64 (g0 : Int), .int .u64 (g1 : Int), .int .u64 (g2 : Int), .int .u64 0] 138)) 45 0 0 0 0 (World.size_alloc _ _)
  have KP := ((Kept.mk1 (below2 w (.cells #[.int .u64 (g0 : Int), .int .u64 (g1 : Int), .int .u64 (g2 : Int), .int .u64 0] 138) (.cells #[.int .u64 0, .int .u64 0, .int .u64 0, .int .u64 0] 45)) (below2 w (.cells #[.int .u64 (g0 : Int), .int .u64 (g1 : Int), .int .u64 (g2 : Int), .int .u64 0] 138) (.cells #[.int .u64 0, .int .u64 0, .int .u64 0, .int .u64 0] 45)).size).cons RE.blk).cons PR.blk
  clear PR RE
  generalize World.alloc _ _ = W0 at KP ⊢
  generalize h1 : w.heap.size + 1 = k1 at KP ⊢
  have Q1 : Hid (w.heap.size ≤ k1) := by unfold Hid; omega
  generalize h0 : w.heap.size = k0 at KP Q1 hg ⊢
  have n01 : k0 ≠ k1 := by omega
  have H0 : Hid (w.heap.size = k0) := h0
  have HBS : Hid (Holds encB w g o bs) := hB
  clear h0 h1 hB hs
  go_cut [6] (fun s6 wx => RedR w k0 k1 g0 g1 g2 (beV (bs.extract 0 f).toList % P) s6 wx)
  case first =>
    go_region_held3 (fun w' => w'.cell? ⟨k0, 0, none⟩ = some (.int .u64 (g0 : Int)) ∧ w'.cell? ⟨k0, 1, none⟩ = some (.int .u64 (g1 : Int)) ∧ w'.cell? ⟨k0, 2, none⟩ = some (.int .u64 (g2 : Int)) ∧ w'.cell? ⟨k0, 3, none⟩ = some (.int .u64 0) ∧ Kept w k0 [⟨k0, 0, g0, g1, g2, 0⟩, ⟨k1, 0, 0, 0, 0, 0⟩] w') (first | (with_reducible exact redS_of KP) | (with_reducible exact redS_of KP.drew) | (with_reducible exact redS_allocd (by assumption)) | (with_reducible exact redS_alloc (by assumption)) | (with_reducible exact redS_of (KP.alloc _)) | (with_reducible exact redS_of (KP.set4' M7 (fun x hx => Nat.ne_of_gt (N7 x hx)) _ _ _ _)) | (with_reducible exact redS_of (KP.alloc _).drew) | (with_reducible exact redS_of (KP.set4' M7 (fun x hx => Nat.ne_of_gt (N7 x hx)) _ _ _ _).drew) | fail) (first | (go_at_call 111; refine (fromBytes_any (some ⟨g, o, none⟩) g o f cap (bs.extract 0 f) _ (Nat.le_of_lt hf32) e4 HS.out (Or.inr ⟨rfl, holds_front f (Holds.below HBS.out (redS_get (by assumption)).bl hg) hbs⟩)).mono ?_; rintro e w1 ⟨v, rfl, hb1, hF1⟩; obtain ⟨a1, b1, c1, d1, rfl, ha1, hb1', hc1, hd1, es1⟩ := id hF1; clear es1; have HF1 : Hid (Four _ _) := hF1; clear hF1; (try (with_reducible have T1 := T.call hb1; clear T; have T := T1; clear T1)); (try (first | (with_reducible have T := (At4.made _ 136 0 0 0 0 rfl).call hb1) | (with_reducible have T := (At4.made _ 136 0 0 0 0 rfl).drew.call hb1)); have N7 := KP.lts; have M7 := KP.le); have KP1 := Kept.call (redS_get (by assumption)) hb1; clear KP; have KP := KP1; clear KP1 hb1) | (go_at_call 109; refine (four_any _ _ HF1.out _).mono ?_; rintro e w1 ⟨v, rfl, hb1, rfl⟩; (try (with_reducible have T1 := T.call hb1; clear T; have T := T1; clear T1)); (try (first | (with_reducible have T := (At4.made _ 136 0 0 0 0 rfl).call hb1) | (with_reducible have T := (At4.made _ 136 0 0 0 0 rfl).drew.call hb1)); have N7 := KP.lts; have M7 := KP.le); have KP1 := Kept.call (redS_get (by assumption)) hb1; clear KP; have KP := KP1; clear KP1 hb1) | (go_at_call 133; refine (fold_any g0 g1 g2 _ _ _ _ P HG.out.h0 HG.out.h1 HG.out.h2 HG.out.hor HG.out.hP HG.out.hP2 HF1.out (Four.mk (a := 0) (b := 0) (c := 0) (d := 0) (by decide) (by decide) (by decide) (by decide) rfl) _).mono ?_; rintro e w1 ⟨v, rfl, hb1, hF3⟩; obtain ⟨a', b', c', d', rfl, ha', hb', hc', hd', es3⟩ := id hF3; clear es3; have HF3 : Hid (Four _ _) := hF3; clear hF3; (try (with_reducible have T1 := T.call hb1; clear T; have T := T1; clear T1)); (try (first | (with_reducible have T := (At4.made _ 136 0 0 0 0 rfl).call hb1) | (with_reducible have T := (At4.made _ 136 0 0 0 0 rfl).drew.call hb1)); have N7 := KP.lts; have M7 := KP.le); have KP1 := Kept.call (redS_get (by assumption)) hb1; clear KP; have KP := KP1; clear KP1 hb1; (try (obtain ⟨tc0, tc1, tc2, tc3, tf⟩ := id T; have zt := T.lt))))
    all_goals (try go_wp2)
    all_goals (rw [show val 0 0 0 0 = 0 from rfl, Nat.mul_zero, Nat.add_zero] at HF3)
    all_goals (go_meet; first | (with_reducible exact RedR.made KP HF3) | (with_reducible exact (RedR.made KP HF3).drew) | (with_reducible exact RedR.put KP T M7 N7 HF3) | (with_reducible exact (RedR.put KP T M7 N7 HF3).drew) | fail)
  case rest =>
    clear KP
    obtain ⟨k6, a, b, c, d, rfl, KP, n60, n61, M6, HF⟩ := hcut
    have f0 : (0 : Int) ≤ (f : Int) := Int.natCast_nonneg _
    go_upto_region 3 with fail
    go_cut [1] (fun s1 wx => ∃ q : Nat, s1 = .slice (some ⟨g, q, none⟩) (n - f) (cap - f) ∧ Hid (0 < n - f → q = o + f) ∧ Kept w k0 [⟨k6, 0, a, b, c, d⟩, ⟨k0, 0, g0, g1, g2, 0⟩, ⟨k1, 0, 0, 0, 0, 0⟩] wx)
    case first =>
      by_cases ec : cap = f
      · have en : n = f := by omega
        have HEN : Hid (n = f ∧ cap = f) := ⟨en, ec⟩
        go_wp2
        go_meet
        refine ⟨o, ?_, fun h => ?_, KP⟩
        · rw [HEN.out.1, HEN.out.2]; try simp
        · have := HEN.out.1; omega
      · go_wp2
        go_meet
        exact ⟨o + f, rfl, fun _ => rfl, KP⟩
    case rest =>
    clear KP
    obtain ⟨q0, rfl, HQ0, KP⟩ := hcut
    go_wp2_with fail
    go_loopg [1] (n - f) (fun gk s1 wr => ∃ (l q lc a b c d : Nat), gk = l ∧ l ≤ n ∧ s1 = .slice (some ⟨g, q, none⟩) l lc ∧ Hid (l % 32 = 0 ∧ (0 < l → q = o + (n - l)) ∧ lc = cap - (n - l)) ∧ Kept w k0 [⟨k6, 0, a, b, c, d⟩, ⟨k0, 0, g0, g1, g2, 0⟩, ⟨k1, 0, 0, 0, 0, 0⟩] wr ∧
      Hid (Four (.agg #[.int .u64 (a : Int), .int .u64 (b : Int), .int .u64 (c : Int), .int .u64 (d : Int)]) (beV (bs.extract 0 (n - l)).toList % P)))
    case atStart =>
      refine ⟨n - f, q0, cap - f, a, b, c, d, rfl, by omega, rfl, ⟨by have := Hf.out; omega, fun h => by have := HQ0.out h; omega, by omega⟩, KP, ?_⟩
      rw [show n - (n - f) = f by omega]
      exact HF
    case round =>
      clear KP HF
      obtain ⟨l, q, lc, a, b, c, d, hgk, hln, rfl, HQ3, KP, HF⟩ := hrel
      clear e2 e3 e4 f0 hbs HS hf32 hfn HQ0
      have hlcl : l ≤ lc := by have := HQ3.out; omega
      by_cases h0 : l = 0
      · subst h0
        obtain ⟨xc0, xc1, xc2, xc3, xf⟩ := KP.head.at4
        have z7 := KP.head.lt
        go_wp2_with fail
        refine (number_any _ _ HF.out _).mono ?_
        rintro e w3 ⟨v, rfl, hb3, rfl⟩
        have KP3 := KP.call hb3
        clear hb3 xc0 xc1 xc2 xc3 xf z7 KP
        obtain ⟨rc0, rc1, rc2, rc3, rf⟩ := KP3.tail.tail.head.at4
        have z3 := KP3.tail.tail.head.lt
        go_wp2
        have RF := KP3.tail.tail.head.at4.self4 a b c d
        unfold set4 at RF
        refine bodyPost_ret (v := ?v) ?hr rfl ?hR
        case hr => simp [results, Tryz.results104, go_sem, RF.c0, RF.c1, RF.c2, RF.c3]; rfl
        refine ⟨_, rfl, ?_, ?_⟩
        · rw [H0.out]
          exact below_set4 KP3.bl Q1.out _ _ _ _
        · have := HF.out
          rw [Nat.sub_zero, ← HSZ.out, Array.extract_size] at this
          exact this
      · have h32 : 32 ≤ l := by have := HQ3.out; omega
        have HQ : Hid (o + (n - l) = q) := (HQ3.out.2.1 (by omega)).symm
        have h32c : 32 ≤ lc := by omega
        have i1 : (32 : Int) ≤ (lc : Int) := by omega
        have i2 : (32 : Int) ≤ (l : Int) := by omega
        have i3 : (0 : Int) < (l : Int) := by omega
        have HSL : Hid (n - l + 32 ≤ bs.size) := by unfold Hid; have := HSZ.out; omega
        have HS3 : Hid ((bs.extract (n - l) (n - l + 32)).size = 32) := by unfold Hid; rw [Array.size_extract]; have := HSL.out; omega
        obtain ⟨tc0, tc1, tc2, tc3, tf⟩ := KP.head.at4
        have zt := KP.head.lt
        obtain ⟨pc0, pc1, pc2, pc3, pf⟩ := KP.tail.head.at4
        have hl6 : ∀ x ∈ ([⟨k0, 0, g0, g1, g2, 0⟩, ⟨k1, 0, 0, 0, 0, 0⟩] : List Blk), k6 ≠ x.k := by simp only [List.mem_cons, List.not_mem_nil, or_false]; rintro x (rfl | rfl); exact n60; exact n61
        have HFF : Hid (_ = _) := red_step (P := P) bs (n - l) HSL.out
        go_wp2_with fail
        go_region_with (first | (go_at_call 111; refine (fromBytes_any (some ⟨g, q, none⟩) g q 32 lc (bs.extract (n - l) (n - l + 32)) _ (Nat.le_refl 32) h32c HS3.out (Or.inr ⟨rfl, HQ.out ▸ holds_part (n - l) 32 (by first | (with_reducible exact Holds.below HBS.out KP.bl hg) | (with_reducible exact Holds.below HBS.out KP.drew.bl hg) | fail) HSL.out⟩)).mono ?_; rintro e w1 ⟨v, rfl, hb1, hF1⟩; obtain ⟨a1, b1, c1, d1, rfl, ha1, hb1', hc1, hd1, es1⟩ := id hF1; clear es1; have HF1 : Hid (Four _ _) := hF1; clear hF1; (first | (with_reducible have KP1 := KP.call hb1) | (with_reducible have KP1 := KP.drew.call hb1) | fail); clear KP; have KP := KP1; clear KP1 hb1; obtain ⟨tc0, tc1, tc2, tc3, tf⟩ := KP.head.at4; have zt := KP.head.lt; obtain ⟨pc0, pc1, pc2, pc3, pf⟩ := KP.tail.head.at4) | (go_at_call 109; refine (four_any _ _ HF1.out _).mono ?_; rintro e w1 ⟨v, rfl, hb1, rfl⟩; (first | (with_reducible have KP1 := KP.call hb1) | (with_reducible have KP1 := KP.drew.call hb1) | fail); clear KP; have KP := KP1; clear KP1 hb1; obtain ⟨tc0, tc1, tc2, tc3, tf⟩ := KP.head.at4; have zt := KP.head.lt; obtain ⟨pc0, pc1, pc2, pc3, pf⟩ := KP.tail.head.at4) | (go_at_call 133; refine (fold_any g0 g1 g2 _ _ _ _ P HG.out.h0 HG.out.h1 HG.out.h2 HG.out.hor HG.out.hP HG.out.hP2 HF1.out HF.out _).mono ?_; rintro e w1 ⟨v, rfl, hb1, hF3⟩; obtain ⟨a', b', c', d', rfl, ha', hb', hc', hd', es3⟩ := id hF3; clear es3; have HF3 : Hid (Four _ _) := hF3; clear hF3; (first | (with_reducible have KP1 := KP.call hb1) | (with_reducible have KP1 := KP.drew.call hb1) | fail); clear KP; have KP := KP1; clear KP1 hb1; obtain ⟨tc0, tc1, tc2, tc3, tf⟩ := KP.head.at4; have zt := KP.head.lt; obtain ⟨pc0, pc1, pc2, pc3, pf⟩ := KP.tail.head.at4))
        all_goals (rw [HFF.out] at HF3)
        all_goals (by_cases i4 : lc = 32)
        all_goals (try go_wp2)
        all_goals
          (go_roundg (l - 32)
           case measure => omega
           case rel =>
            first
              | refine ⟨l - 32, q + 32, lc - 32, a', b', c', d', rfl, by omega, rfl, ⟨by have := HQ3.out; omega, fun _ => by have := HQ.out; omega, by have := HQ3.out; omega⟩, ?_, ?_⟩
              | refine ⟨l - 32, q, lc - 32, a', b', c', d', rfl, by omega, by first | rfl | (rw [i4]), ⟨by have := HQ3.out; omega, fun h => by omega, by have := HQ3.out; omega⟩, ?_, ?_⟩
              | fail
            · first | (with_reducible exact KP.put M6 hl6 a' b' c' d') | (with_reducible exact (KP.put M6 hl6 a' b' c' d').drew) | fail
            · rw [show n - (l - 32) = n - l + 32 by omega]; exact HF3)
def sPl (N a b:Nat):Nat:=(a+b)%N
def redu (N:Nat) (bs:Bs):Nat:=beV bs.toList%N
def FSRd_1 (v:Value) (n:Nat):List RG.It:=[.c 3 [] gv1,.x 4 [] v,.c 5 [(3,0),(4,1)] (nv n),.x 6 [(5,2)] (nv n),.u [(6,3)] 0]
theorem reduced_c (O:Ord N) (g:Nat) (bs:Bs) (hs:bs.size=64) (w:World) (hg:g<w.heap.size) (hB:Holds encB w g 0 bs):Calls Tryz.prog 79 #[.slice (some ⟨g,0,none⟩) 64 64] w (Ret fun e w'=>Below w.heap.size w w'∧e=nv (redu N bs)):=by
 have hc:∀ w',RG.BelX w.heap.size [] w w'→Calls Tryz.prog 104 #[gv1,.slice (some ⟨g,0,none⟩) 64 64] w' (Ret fun e w''=>Below w'.heap.size w' w''∧e=nv (redu N bs)):=fun w' hb =>
  (PReduce_any _ _ _ N g 0 64 64 bs O.gap w' hs (Nat.le_refl _) (Nat.lt_of_lt_of_le hg hb.below.size) (Holds.below hB hb.below hg)).mono (by rintro e w'' ⟨v,rfl,hb,hF⟩;exact ⟨_,rfl,hb,hF.nv⟩)
 go_enter Tryz.func79,Tryz.ntmps79
 refine RG.M.enter [(0,(.v (.slice (some ⟨g,0,none⟩) 64 64)))] 7 (by kernel_rfl) ?_
 intro a0 M0
 repeat refine wp_seq ?_
 refine M0.t [.m 2 [] 0] [(0,(RG.z 4))] [] [(RG.z 4)] [(0,(.v (.slice (some ⟨g,0,none⟩) 64 64))),(2,(.p 0 0))] ⟨RG.mk 0 47,trivial⟩ ?_
 intro j1 a1 w1 M1
 repeat refine wp_seq ?_
 refine M1.t (FSRd_1 (.slice (some ⟨g,0,none⟩) 64 64) (redu N bs)) [] [(0,4,(wn (redu N bs)))] [(wn (redu N bs))] [(2,(.p 0 0))] ⟨RG.cl (Scalars_c),RG.st,RG.clB (fun _ _=>by kernel_rfl) hc,RG.st,RG.pt i40,trivial⟩ ?_
 intro a2 w2 M2
 refine wp_ret ?_
 refine bodyPost_ret (v:=(nv (redu N bs))) (RG.results_row M2.st 2 47 rfl 0 _ rfl (M2.at (s:=(.p 0 0))) u40 i40) M2.sl.defers ?_
 exact ⟨_,rfl,M2.st.bel.below,rfl⟩
theorem redu_lt (O:Ord N) (bs:Bs):redu N bs<N:=Nat.mod_lt _ O.pos
theorem row_new (w:World) (c:List Value) (T:TypeId):Row (w.alloc (.cells c.toArray T)) w.heap.size c:=
 have h:=RG.Made.alloc w c T
 ⟨h.lt,h.range,h.there⟩
theorem wn_one (n:Nat):(wn n).toArray.all (·.oneCell')=true:=by kernel_rfl
theorem spread_c (O:Ord N) (r2:Nat) (T:Bs) (w:World) (hTs:T.size=32) (hT:Holds encB w r2 0 T) :
 Calls Tryz.prog 50 #[.slice (some ⟨r2,0,none⟩) 32 32] w (Ret fun e w'=>Below w.heap.size w w'∧e=nv (redu N (SP.strmL T.toList 64))):=by
 obtain ⟨S,hS⟩:∃ S,Hid (SP.strmL T.toList 64=S):=⟨_,rfl⟩
 have hSs:S.size=64:=by rw[← hS.out];exact SP.strm_size _ _
 rw[hS.out]
 obtain ⟨w1,hw1⟩:∃ w1,Hid (w.alloc (.cells #[.int .u64 0,.int .u64 0,.int .u64 0,.int .u64 0] 47)=w1):=⟨_,rfl⟩
 have K2:Hid (Row w1 w.heap.size [.int .u64 0,.int .u64 0,.int .u64 0,.int .u64 0]∧Below w.heap.size w w1∧Holds encB w1 r2 0 T):=by rw[← hw1.out];exact ⟨row_new w _ _,below1 w _,Holds.below hT (below1 w _) (Holds.lt hT (by omega))⟩
 clear hT
 go_enter Tryz.func50,Tryz.ntmps50
 go_wp2_with fail
 rw[hw1.out]
 clear hw1
 refine (SP.Stream_yes (some ⟨r2,0,none⟩) r2 0 32 32 64 T w1 (by decide) hTs (Nat.le_refl _) (by decide) (Or.inr ⟨rfl,K2.out.2.2⟩)).mono ?_
 rintro e w3 ⟨r3,rfl,h1,h2,h3⟩
 rw[hS.out] at h3
 have K3:Hid (Row w3 w.heap.size [.int .u64 0,.int .u64 0,.int .u64 0,.int .u64 0]∧Below w.heap.size w w3∧Holds encB w3 r3 0 S):=⟨K2.out.1.below h2,K2.out.2.1.trans (h2.mono K2.out.2.1.size),h3⟩
 clear h1 h2 h3 K2
 go_wp2_with fail
 refine (reduced_c O r3 S hSs w3 (Holds.lt K3.out.2.2 (by omega)) K3.out.2.2).mono ?_
 rintro e w4 ⟨v,rfl,hb4,rfl⟩
 have K4:Hid (Row w4 w.heap.size [.int .u64 0,.int .u64 0,.int .u64 0,.int .u64 0]∧Below w.heap.size w w4):=⟨K3.out.1.below hb4,K3.out.2.1.trans (hb4.mono K3.out.2.1.size)⟩
 clear hb4 K3
 obtain ⟨m,hm⟩:∃ m,Hid (redu N S=m):=⟨_,rfl⟩
 rw[hm.out]
 obtain ⟨w5,hw5⟩:∃ w5,Hid (w4.setCells w.heap.size 0 (wn m)=w5):=⟨_,rfl⟩
 have K5:Hid (Row w5 w.heap.size (wn m)∧Below w.heap.size w w5):=by rw[← hw5.out];exact ⟨K4.out.1.put rfl,RG.below_setCells (Nat.le_refl _) _ _ _ K4.out.2⟩
 obtain ⟨vm,hvm⟩:∃ vm,Hid (nv m=vm):=⟨_,rfl⟩
 rw[hvm.out]
 go_wp2_with (refine wpList_store_mid rfl 47 _ _ rfl w.heap.size 0 (wn m).toArray ?_ ?_ ?_ ?_ ?_ ?_;rfl;exact hvm.out.symm;exact K4.out.1.2.2;exact i40;exact wn_one m;rw[show (wn m).toArray.toList=wn m from rfl,hw5.out])
 refine bodyPost_ret (results_cell 2 47 rfl K5.out.1 rfl u40 i40) rfl ?_
 exact ⟨_,rfl,K5.out.2,by rw[hm.out];rfl⟩
theorem ofOne_c:Gives 80 #[.int .u64 1] (nv 1):=by
 intro w
 go_enter Tryz.func80,Tryz.ntmps80
 refine RG.M.enter [(0,.v (.int .u64 1))] 6 (by kernel_rfl) ?_
 intro a0 M0
 repeat refine wp_seq ?_
 refine M0.t [.m 2 [] 0] [(0,RG.z 4)] [] [RG.z 4] [(0,.v (.int .u64 1)),(2,.p 0 0)] ⟨RG.mk 0 47,trivial⟩ ?_
 intro k a1 w1 M1
 repeat refine wp_seq ?_
 refine M1.t [.x 3 [] (.int .u64 1),.x 4 [(3,0)] (nv 1),.x 5 [(4,1)] (nv 1),.u [(5,2)] 0] [] [(0,3,wn 1)] [wn 1] [(2,.p 0 0)] ⟨RG.st,RG.st,RG.st,RG.pt i40,trivial⟩ ?_
 intro a2 w2 M2
 refine wp_ret ?_
 refine bodyPost_ret (v:=nv 1) (RG.results_row M2.st 2 47 rfl 0 _ rfl (M2.at (s:=(.p 0 0))) u40 i40) M2.sl.defers ?_
 exact ⟨_,rfl,M2.st.bel.below,rfl⟩
def orOne (a:Nat):Nat:=if a=0 then 1 else a
theorem orOne_lt (O:Ord N) {a:Nat} (ha:a<N):orOne a<N:=by
 unfold orOne
 by_cases h:a=0
 ·rw[if_pos h];have:=O.n2;omega
 ·rw[if_neg h];exact ha
theorem orOne_c (O:Ord N) {a:Nat} (ha:a<N):Gives 51 #[nv a] (nv (orOne a)):=by
 intro w
 have hat:a<top:=Nat.lt_of_lt_of_le ha O.le
 have hq:∀ w:World,(binOp .eql 47 (nv a) (nv 0)).run Tryz.prog w=.ok (.bool (decide (a=0))) w:=fun w=>eqS hat (show 0<top by unfold top;omega) w
 obtain ⟨d,hd⟩:∃ d,Hid (decide (a=0)=d):=⟨_,rfl⟩
 rw[hd.out] at hq
 go_enter Tryz.func51,Tryz.ntmps51
 refine RG.M.enter [(0,.v (nv a))] 8 (by kernel_rfl) ?_
 intro a0 M0
 repeat refine wp_seq ?_
 refine M0.t [.m 1 [] 0,.m 2 [] 1] [(0,wn a),(1,RG.z 4)] [] [wn a,RG.z 4] [(1,.p 0 0),(2,.p 1 0)] ⟨RG.mk 0 47,RG.mk 1 47,trivial⟩ ?_
 intro j1 i1 a1 w1 M1
 repeat refine wp_seq ?_
 refine M1.u [.x 3 [] (nv a),.x 4 [] (nv 0),.x 5 [(3,0),(4,1)] (.bool d)] [(1,.p 0 0),(2,.p 1 0),(5,.v (.bool d))] ⟨RG.ld u40 i40,RG.st,RG.cert_bin rfl .eql 47 47 3 4 (nv a) (nv 0) (.bool d) rfl rfl RG.sx RG.sx (fun w=>by kernel_rfl) hq,trivial⟩ ?_
 intro a2 w2 M2
 cases d with
 | true =>
  refine wp_cond_true M2.ev ?_
  have h0:a=0:=of_decide_eq_true hd.out
  have hr:orOne a=1:=by unfold orOne;rw[if_pos h0]
  rw[hr]
  repeat refine wp_seq ?_
  refine M2.t [.c 6 [] (nv 1),.u [(6,0)] 1] [] [(1,1,wn 1)] [wn a,wn 1] [(2,.p 1 0)] ⟨RG.cl ofOne_c,RG.pt i40,trivial⟩ ?_
  intro a3 w3 M3
  refine wp_ret ?_
  refine bodyPost_ret (v:=nv 1) (RG.results_row M3.st 2 47 rfl 1 _ rfl (M3.at (s:=(.p 1 0))) u40 i40) M3.sl.defers ?_
  exact ⟨_,rfl,M3.st.bel.below,rfl⟩
 | false =>
  refine wp_cond_false M2.ev ?_
  have h0:¬ a=0:=of_decide_eq_false hd.out
  have hr:orOne a=a:=by unfold orOne;rw[if_neg h0]
  rw[hr]
  refine wp_skip ?_
  repeat refine wp_seq ?_
  refine M2.t [.x 7 [] (nv a),.u [(7,0)] 1] [] [(1,1,wn a)] [wn a,wn a] [(2,.p 1 0)] ⟨RG.ld u40 i40,RG.pt i40,trivial⟩ ?_
  intro a3 w3 M3
  refine wp_ret ?_
  refine bodyPost_ret (v:=nv a) (RG.results_row M3.st 2 47 rfl 1 _ rfl (M3.at (s:=(.p 1 0))) u40 i40) M3.sl.defers ?_
  exact ⟨_,rfl,M3.st.bel.below,rfl⟩
def kSc (N:Nat) (T:Bs):Nat:=orOne (redu N (SP.strmL T.toList 64))
theorem kSc_lt (O:Ord N) (T:Bs):kSc N T<N:=orOne_lt O (redu_lt O _)
theorem scalarOf_c (O:Ord N) (r2:Nat) (T:Bs) (w:World) (hTs:T.size=32) (hT:Holds encB w r2 0 T) :
 Calls Tryz.prog 26 #[.slice (some ⟨r2,0,none⟩) 32 32] w (Ret fun e w'=>Below w.heap.size w w'∧e=nv (kSc N T)):=by
 obtain ⟨w1,hw1⟩:∃ w1,Hid (w.alloc (.cells #[.int .u64 0,.int .u64 0,.int .u64 0,.int .u64 0] 47)=w1):=⟨_,rfl⟩
 have K2:Hid (Row w1 w.heap.size [.int .u64 0,.int .u64 0,.int .u64 0,.int .u64 0]∧Below w.heap.size w w1∧Holds encB w1 r2 0 T):=by rw[← hw1.out];exact ⟨row_new w _ _,below1 w _,Holds.below hT (below1 w _) (Holds.lt hT (by omega))⟩
 clear hT
 have hlt:=redu_lt O (SP.strmL T.toList 64)
 have HO:=orOne_c O hlt
 have hS:=spread_c O r2 T w1 hTs K2.out.2.2
 have HK:Hid (kSc N T=orOne (redu N (SP.strmL T.toList 64))):=rfl
 generalize redu N (SP.strmL T.toList 64)=m at HO hS HK hlt
 rw[HK.out]
 generalize orOne m=x at HO ⊢
 obtain ⟨vm,hvm⟩:∃ vm,Hid (nv m=vm):=⟨_,rfl⟩
 rw[hvm.out] at HO hS
 go_enter Tryz.func26,Tryz.ntmps26
 go_wp2_with fail
 rw[hw1.out]
 clear hw1
 refine hS.mono ?_
 rintro e w3 ⟨v,rfl,h2,rfl⟩
 have K3:Hid (Row w3 w.heap.size [.int .u64 0,.int .u64 0,.int .u64 0,.int .u64 0]∧Below w.heap.size w w3):=⟨K2.out.1.below h2,K2.out.2.1.trans (h2.mono K2.out.2.1.size)⟩
 clear h2 K2 hS
 go_wp2_with fail
 refine (HO w3).mono ?_
 rintro e w4 ⟨v,rfl,hb4,rfl⟩
 have K4:Hid (Row w4 w.heap.size [.int .u64 0,.int .u64 0,.int .u64 0,.int .u64 0]∧Below w.heap.size w w4):=⟨K3.out.1.below hb4,K3.out.2.trans (hb4.mono K3.out.2.size)⟩
 clear hb4 K3 HO
 obtain ⟨w5,hw5⟩:∃ w5,Hid (w4.setCells w.heap.size 0 (wn x)=w5):=⟨_,rfl⟩
 have K5:Hid (Row w5 w.heap.size (wn x)∧Below w.heap.size w w5):=by rw[← hw5.out];exact ⟨K4.out.1.put rfl,RG.below_setCells (Nat.le_refl _) _ _ _ K4.out.2⟩
 obtain ⟨vx,hvx⟩:∃ vx,Hid (nv x=vx):=⟨_,rfl⟩
 rw[hvx.out]
 go_wp2_with (refine wpList_store_mid rfl 47 _ _ rfl w.heap.size 0 (wn x).toArray ?_ ?_ ?_ ?_ ?_ ?_;rfl;exact hvx.out.symm;exact K4.out.1.2.2;exact i40;exact wn_one x;rw[show (wn x).toArray.toList=wn x from rfl,hw5.out])
 refine bodyPost_ret (results_cell 2 47 rfl K5.out.1 rfl u40 i40) rfl ?_
 exact ⟨_,rfl,K5.out.2,rfl⟩
end
section
open Go.RowKit Go.Sort Go.Deep
section
variable {P:Program} {ops:Array Oper} {rest:List Oper} {op:Oper} {a:Act} {w w':World} {v:Value} {Q:Exit→Act→World→Prop}
theorem wpList_op (hgd:op.guard=none) (X:Op) (_:op.op=X) (hr:(execOp a.eval op).run P w=.ok (.value v) w') (h:wpList P ops Q rest (a.put op.dst v) w'):wpList P ops Q (op :: rest) a w:=
 wpList_plain hgd fun K hK=>by
  unfold Oper.wp
  rw[hr]
  exact hK _ _ h
end
variable {N:Nat}
theorem Hid.mk' {p:Prop} (h:p):Hid p:=h
end
namespace SP
open Go.RowKit Go.Sort Go.Deep
end SP
section
open Go.RowKit Go.Sort Go.Deep
variable {P:Nat} [NeZero P] {N:Nat}
theorem modS_of {w W:World} {k0 k1 k7 p0 p1 p2 p3 c0 c1 c2 c3 x0 x1 x2 x3 x4 x5 x6 x7:Nat} (h:Kept w k0 [⟨k0,0,p0,p1,p2,p3⟩,⟨k0,4,c0,c1,c2,c3⟩,⟨k7,0,x0,x1,x2,x3⟩,⟨k7,4,x4,x5,x6,x7⟩,⟨k1,0,0,0,0,0⟩] W):W.cell? ⟨k0,0,none⟩=some (.int .u64 p0)∧W.cell? ⟨k0,1,none⟩=some (.int .u64 p1)∧W.cell? ⟨k0,2,none⟩=some (.int .u64 p2)∧W.cell? ⟨k0,3,none⟩=some (.int .u64 p3)∧W.cell? ⟨k0,4,none⟩=some (.int .u64 c0)∧W.cell? ⟨k0,5,none⟩=some (.int .u64 c1)∧W.cell? ⟨k0,6,none⟩=some (.int .u64 c2)∧W.cell? ⟨k0,7,none⟩=some (.int .u64 c3)∧W.cell? ⟨k7,0,none⟩=some (.int .u64 x0)∧W.cell? ⟨k7,1,none⟩=some (.int .u64 x1)∧W.cell? ⟨k7,2,none⟩=some (.int .u64 x2)∧W.cell? ⟨k7,3,none⟩=some (.int .u64 x3)∧W.cell? ⟨k7,4,none⟩=some (.int .u64 x4)∧W.cell? ⟨k7,5,none⟩=some (.int .u64 x5)∧W.cell? ⟨k7,6,none⟩=some (.int .u64 x6)∧W.cell? ⟨k7,7,none⟩=some (.int .u64 x7)∧Kept w k0 [⟨k0,0,p0,p1,p2,p3⟩,⟨k0,4,c0,c1,c2,c3⟩,⟨k7,0,x0,x1,x2,x3⟩,⟨k7,4,x4,x5,x6,x7⟩,⟨k1,0,0,0,0,0⟩] W:=
 ⟨h.head.c0,h.head.c1,h.head.c2,h.head.c3,h.tail.head.c0,h.tail.head.c1,h.tail.head.c2,h.tail.head.c3,h.tail.tail.head.c0,h.tail.tail.head.c1,h.tail.tail.head.c2,h.tail.tail.head.c3,h.tail.tail.tail.head.c0,h.tail.tail.tail.head.c1,h.tail.tail.tail.head.c2,h.tail.tail.tail.head.c3,h⟩
theorem mod_bound {v:Value} {n B:Nat} (hF:Four v n) (hB:B<256):n*val 256 0 0 0+(val B 0 0 0+top*val 0 0 0 0)<top*top:=by
 have h1:=hF.lt
 have e1:val 256 0 0 0=256:=rfl
 have e2:val B 0 0 0=B:=by unfold val;omega
 have e3:val 0 0 0 0=0:=rfl
 have h2:n*256≤(top-1)*256:=Nat.mul_le_mul_right _ (by omega)
 have h3:(top-1)*256+256≤top*top:=by unfold top;decide
 rw[e1,e2,e3]
 omega
theorem mod_step (P:Nat) (s:ByteArray) (k:Nat) (hk:k<s.size) :
 (beV (s.data.extract 0 k).toList%P*val 256 0 0 0+(val s[k].toNat 0 0 0+top*val 0 0 0 0))%P=beV (s.data.extract 0 (k+1)).toList%P:=by
 have e:(s.data.extract 0 (k+1)).toList=(s.data.extract 0 k).toList++[s[k]]:=by
  rw[Array.extract_succ_right (by omega) hk,Array.toList_push]
  rfl
 have e1:val 256 0 0 0=256:=rfl
 have e2:val s[k].toNat 0 0 0=s[k].toNat:=by unfold val;omega
 have e3:val 0 0 0 0=0:=rfl
 rw[e,beV_append,e1,e2,e3,Nat.mul_zero,Nat.add_zero,Nat.add_mod,Nat.mul_mod,Nat.mod_mod,← Nat.mul_mod,← Nat.add_mod]
 simp[beV]
theorem rMod_any (p0 p1 p2 p3 c0 c1 c2 c3 P:Nat) (s:ByteArray) (hR:RefP p0 p1 p2 p3 c0 c1 c2 c3 P) (hs:s.size≤1048576) (w:World) :
 Calls Tryz.prog 31 #[.agg #[.int .u64 p0,.int .u64 p1,.int .u64 p2,.int .u64 p3,.int .u64 c0,.int .u64 c1,.int .u64 c2,.int .u64 c3],.string s] w (Ret fun e w'=>Below w.heap.size w w'∧Four e (beV s.data.toList%P)):=by
 have HR:Hid (RefP p0 p1 p2 p3 c0 c1 c2 c3 P):=hR
 clear hR
 go_enter Tryz.func31,Tryz.ntmps31
 go_wp2
 have FR:=((At8.made w 70 p0 p1 p2 p3 c0 c1 c2 c3 rfl).alloc (.cells #[.int .u64 0,.int .u64 0,.int .u64 0,.int .u64 0] 58)).alloc (.cells #[.int .u64 0,.int .u64 0,.int .u64 0,.int .u64 0] 58)
 have RE:=(At4.made (w.alloc (.cells #[.int .u64 p0,.int .u64 p1,.int .u64 p2,.int .u64 p3,.int .u64 c0,.int .u64 c1,.int .u64 c2,.int .u64 c3] 70)) 58 0 0 0 0 (World.size_alloc _ _)).alloc (.cells #[.int .u64 0,.int .u64 0,.int .u64 0,.int .u64 0] 58)
 have NN:=At4.made ((w.alloc (.cells #[.int .u64 p0,.int .u64 p1,.int .u64 p2,.int .u64 p3,.int .u64 c0,.int .u64 c1,.int .u64 c2,.int .u64 c3] 70)).alloc (.cells #[.int .u64 0,.int .u64 0,.int .u64 0,.int .u64 0] 58)) 58 0 0 0 0 (k:=w.heap.size+1+1) (by simp)
 have KP:=((((Kept.mk1 (below3 w (.cells #[.int .u64 p0,.int .u64 p1,.int .u64 p2,.int .u64 p3,.int .u64 c0,.int .u64 c1,.int .u64 c2,.int .u64 c3] 70) (.cells #[.int .u64 0,.int .u64 0,.int .u64 0,.int .u64 0] 58) (.cells #[.int .u64 0,.int .u64 0,.int .u64 0,.int .u64 0] 58)) (below3 w (.cells #[.int .u64 p0,.int .u64 p1,.int .u64 p2,.int .u64 p3,.int .u64 c0,.int .u64 c1,.int .u64 c2,.int .u64 c3] 70) (.cells #[.int .u64 0,.int .u64 0,.int .u64 0,.int .u64 0] 58) (.cells #[.int .u64 0,.int .u64 0,.int .u64 0,.int .u64 0] 58)).size).cons RE.blk).cons NN.blk).cons (x:=⟨w.heap.size,4,c0,c1,c2,c3⟩) ⟨FR.c4,FR.c5,FR.c6,FR.c7,FR.fz⟩).cons (x:=⟨w.heap.size,0,p0,p1,p2,p3⟩) ⟨FR.c0,FR.c1,FR.c2,FR.c3,FR.fz⟩
 clear FR RE NN
 generalize World.alloc _ _=W0 at KP ⊢
 go_loopg [6] s.size (fun gk s6 wr=>∃ (k a b c d:Nat),k+gk=s.size∧s6=.int .i64 k∧Kept w w.heap.size [⟨w.heap.size,0,p0,p1,p2,p3⟩,⟨w.heap.size,4,c0,c1,c2,c3⟩,⟨w.heap.size+1+1,0,a,b,c,d⟩,⟨w.heap.size+1,0,0,0,0,0⟩] wr ∧
  Hid (Four (.agg #[.int .u64 a,.int .u64 b,.int .u64 c,.int .u64 d]) (beV (s.data.extract 0 k).toList%P)))
 case atStart =>
  refine ⟨0,0,0,0,0,Nat.zero_add _,rfl,KP,?_⟩
  have:beV (s.data.extract 0 0).toList=0:=by simp[beV]
  rw[this,Nat.zero_mod]
  exact Four.mk (by decide) (by decide) (by decide) (by decide) rfl
 case round =>
  clear KP
  obtain ⟨k,a,b,c,d,hk,rfl,KP,HF⟩:=hrel
  generalize h2:w.heap.size+1+1=k2 at KP ⊢
  generalize h1:w.heap.size+1=k1 at KP ⊢
  have H:Hid (w.heap.size+1=k1∧w.heap.size+1+1=k2):=⟨h1,h2⟩
  have Q1:Hid (w.heap.size≤k1):=by unfold Hid;omega
  have Q2:Hid (w.heap.size≤k2):=by unfold Hid;omega
  have n12:k2≠k1:=by omega
  have n02:k2≠w.heap.size:=by omega
  generalize h0:w.heap.size=k0 at KP Q1 Q2 n02 ⊢
  have H0:Hid (w.heap.size=k0):=h0
  clear h0 h1 h2
  obtain ⟨nc0,nc1,nc2,nc3,nf⟩:=KP.tail.tail.head.at4
  have z2:=KP.tail.tail.head.lt
  by_cases hlt:k<s.size
  ·have hlt':(k:Int)<(s.size:Int):=by omega
   go_wp2_with fail
   refine (rproduct_any _ _ _ _ HF.out (Four.mk (a:=256) (b:=0) (c:=0) (d:=0) (by decide) (by decide) (by decide) (by decide) rfl) _).mono ?_
   rintro r w1 ⟨v,rfl,hb1,hE1⟩
   obtain ⟨x0,x1,x2,x3,x4,x5,x6,x7,rfl,hx0,hx1,hx2,hx3,hx4,hx5,hx6,hx7,hxe⟩:=id hE1
   clear hxe nc0 nc1 nc2 nc3 nf z2
   replace KP:=KP.call hb1
   clear hb1
   have A7:=At8.made w1 101 x0 x1 x2 x3 x4 x5 x6 x7 rfl
   have T2:=KP.tail.tail.head.at4.alloc (.cells #[.int .u64 x0,.int .u64 x1,.int .u64 x2,.int .u64 x3,.int .u64 x4,.int .u64 x5,.int .u64 x6,.int .u64 x7] 101)
   have KP7:Kept w k0 [⟨k0,0,p0,p1,p2,p3⟩,⟨k0,4,c0,c1,c2,c3⟩,⟨w1.heap.size,0,x0,x1,x2,x3⟩,⟨w1.heap.size,4,x4,x5,x6,x7⟩,⟨k1,0,0,0,0,0⟩] _:=
    ((((KP.alloc _).tail.tail.tail.cons (x:=⟨w1.heap.size,4,x4,x5,x6,x7⟩) ⟨A7.c4,A7.c5,A7.c6,A7.c7,A7.fz⟩).cons (x:=⟨w1.heap.size,0,x0,x1,x2,x3⟩) ⟨A7.c0,A7.c1,A7.c2,A7.c3,A7.fz⟩).cons (x:=⟨k0,4,c0,c1,c2,c3⟩) (KP.alloc _).tail.head).cons (x:=⟨k0,0,p0,p1,p2,p3⟩) (KP.alloc _).head
   have n72:k2≠w1.heap.size:=Nat.ne_of_lt KP.tail.tail.head.lt
   clear A7 KP
   have KP:=KP7
   clear KP7
   have z0:=KP.head.lt
   go_wp2_with fail
   generalize World.alloc _ _=W7 at KP T2 ⊢
   generalize w1.heap.size=k7 at KP n72 ⊢
   have hl2:∀ x∈([⟨k0,0,p0,p1,p2,p3⟩,⟨k0,4,c0,c1,c2,c3⟩,⟨k7,0,x0,x1,x2,x3⟩,⟨k7,4,x4,x5,x6,x7⟩,⟨k1,0,0,0,0,0⟩]:List Blk),k2≠x.k:=by simp only[List.mem_cons,List.not_mem_nil,or_false];rintro x (rfl|rfl|rfl|rfl|rfl);exact n02;exact n02;exact n72;exact n72;exact n12
   have HE1:Hid (Eight _ _):=hE1
   obtain ⟨B,hB⟩:∃ B,s[k].toNat=B:=⟨_,rfl⟩
   have hB256:B<256:=hB ▸ s[k].toNat_lt
   have hsb:IntKind.u64.wrap (s[k].toNat:Int)=(B:Int):=by rw[hB];exact wrapN _ (by omega)
   have HFX:Hid _:=mod_step P s k hlt
   have HB:Hid (s[k].toNat=B):=hB
   clear hE1 hB z0
   obtain ⟨tc0,tc1,tc2,tc3,tf⟩:=id T2
   have zt:=T2.lt
   go_region_held3 (fun w'=>w'.cell? ⟨k0,0,none⟩=some (.int .u64 p0)∧w'.cell? ⟨k0,1,none⟩=some (.int .u64 p1)∧w'.cell? ⟨k0,2,none⟩=some (.int .u64 p2)∧w'.cell? ⟨k0,3,none⟩=some (.int .u64 p3)∧w'.cell? ⟨k0,4,none⟩=some (.int .u64 c0)∧w'.cell? ⟨k0,5,none⟩=some (.int .u64 c1)∧w'.cell? ⟨k0,6,none⟩=some (.int .u64 c2)∧w'.cell? ⟨k0,7,none⟩=some (.int .u64 c3)∧w'.cell? ⟨k7,0,none⟩=some (.int .u64 x0)∧w'.cell? ⟨k7,1,none⟩=some (.int .u64 x1)∧w'.cell? ⟨k7,2,none⟩=some (.int .u64 x2)∧w'.cell? ⟨k7,3,none⟩=some (.int .u64 x3)∧w'.cell? ⟨k7,4,none⟩=some (.int .u64 x4)∧w'.cell? ⟨k7,5,none⟩=some (.int .u64 x5)∧w'.cell? ⟨k7,6,none⟩=some (.int .u64 x6)∧w'.cell? ⟨k7,7,none⟩=some (.int .u64 x7)∧Kept w k0 [⟨k0,0,p0,p1,p2,p3⟩,⟨k0,4,c0,c1,c2,c3⟩,⟨k7,0,x0,x1,x2,x3⟩,⟨k7,4,x4,x5,x6,x7⟩,⟨k1,0,0,0,0,0⟩] w') (first|(with_reducible exact modS_of KP)|(with_reducible exact modS_of KP.drew)|(with_reducible exact modS_of (KP.set4' Q2.out hl2 _ _ _ _))|(with_reducible exact modS_of (KP.set4' Q2.out hl2 _ _ _ _).drew)|fail) (first|(go_at_call 58;refine (rplus_any _ _ _ _ HE1.out ⟨B,0,0,0,0,0,0,0,rfl,by omega,by decide,by decide,by decide,by decide,by decide,by decide,by decide,rfl⟩ (mod_bound HF.out hB256) _).mono ?_;rintro r w2 ⟨v,rfl,hb2,hE2⟩;obtain ⟨y0,y1,y2,y3,y4,y5,y6,y7,rfl,hy0,hy1,hy2,hy3,hy4,hy5,hy6,hy7,hye⟩:=id hE2;clear hye;have HE2:Hid (Eight _ _):=hE2;clear hE2;have KP1:=KP.drew.call hb2;have T1:=T2.drew.call hb2;clear KP T2 hb2;have KP:=KP1;have T2:=T1;clear KP1 T1;obtain ⟨tc0,tc1,tc2,tc3,tf⟩:=id T2;have zt:=T2.lt)|(go_at_call 57;refine (rLess_any p0 p1 p2 p3 c0 c1 c2 c3 P _ _ HR.out.hp0 HR.out.hp1 HR.out.hp2 HR.out.hp3 HR.out.hc0 HR.out.hc1 HR.out.hc2 HR.out.hc3 HR.out.eP HR.out.hP HR.out.hP2 HE2.out _).mono ?_;rintro r w3 ⟨v,rfl,hb3,hF3⟩;obtain ⟨a',b',c',d',rfl,ha',hb',hc',hd',es3⟩:=id hF3;clear es3;have HF3:Hid (Four _ _):=hF3;clear hF3;have KP1:=KP.call hb3;have T1:=T2.call hb3;clear KP T2 hb3;have KP:=KP1;have T2:=T1;clear KP1 T1;obtain ⟨tc0,tc1,tc2,tc3,tf⟩:=id T2;have zt:=T2.lt))
   go_wp2
   obtain ⟨q1,q2⟩:=H.out
   have q0:=H0.out
   subst q1 q2 q0
   go_roundg (gk-1)
   case measure=>omega
   case rel =>
    refine ⟨k+1,a',b',c',d',by omega,rfl,?_,?_⟩
    ·have K3:=KP.set4' Q2.out hl2 (.int .u64 a') (.int .u64 b') (.int .u64 c') (.int .u64 d')
     exact (((K3.tail.tail.tail.tail).cons (T2.self4 a' b' c' d').blk).cons K3.tail.head).cons K3.head
    ·have h1:=HF3.out
     rw[HB.out] at HFX
     unfold Hid
     rw[← HFX.out]
     exact h1
  ·have hk2:k=s.size:=by omega
   have hge:¬ ((k:Int)<(s.size:Int)):=by omega
   obtain ⟨rc0,rc1,rc2,rc3,rf⟩:=KP.tail.tail.tail.head.at4
   have z1:=KP.tail.tail.tail.head.lt
   have HK:Hid (k=s.size):=hk2
   clear hk2
   go_wp2
   have RF:=KP.tail.tail.tail.head.at4.self4 a b c d
   unfold set4 at RF
   refine bodyPost_ret (v:=?v) ?hr rfl ?hR
   case hr=>simp[results,Tryz.results31,go_sem,RF.c0,RF.c1,RF.c2,RF.c3];rfl
   refine ⟨_,rfl,?_,?_⟩
   ·rw[H0.out]
    exact below_set4 KP.bl Q1.out _ _ _ _
   ·have:=HF.out
    rw[HK.out,show s.size=s.data.size from rfl,Array.extract_size] at this
    exact this
end
end Go.Proofs.YtmepmoalhgehhaaGreatDoor
