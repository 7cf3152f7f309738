import Derived.Deep.RegionHeld3
import Derived.Deep.CutRange
import Derived.Deep.DeepCutAuto
import Derived.Laws.MakeOwn
import Derived.ChangeKeysEq
import Derived.Deep.AppendSrc
import Derived.Lib.AppendZeros
import Derived.LoopN
import Derived.Deep.RegionWith
import Derived.Deep.LoopGhost
import Derived.BigQuiet
import Derived.Lib.LazyBuf
import Derived.RangeFuncNested
import Derived.RangeFuncBound
import Derived.RangeFuncCalls
import Derived.RangeFuncLeaves
import Derived.Shelf.Abstract
import Derived.Shelf.RegionOpen
import Derived.WalkKit
import Derived.OwnWalkIn
import Derived.TacticsInMore
import Derived.LoopNIn
import Derived.LoopIn
import Derived.Great.BuildSlice
import Derived.Laws.AppendOwn
import Derived.Test.YtgdfkblfggnnfaaDoorKt3
set_option linter.unusedVariables false
set_option linter.unusedSimpArgs false
set_option maxRecDepth 1000000
set_option maxHeartbeats 4000000
namespace Go.Proofs.YtgdfkblfggnnfaaDoor
section
open Go.RowKit Go.Sort
variable {P:Nat} [NeZero P] {N:Nat}
def rt (m:Fin P):Option (Fin P):=if m.val^(P/4+1)%P*(m.val^(P/4+1)%P)%P=m.val then some (Fin.ofNat P (even P (m.val^(P/4+1)%P))) else none
omit [NeZero P] in
theorem even_lt {r:Nat} (hP:0<P) (h:r<P):even P r<P:=by unfold even;split<;>omega
theorem rt_four {m y:Fin P} {v:Value} (h:rt m=some y) (hF:Four v (even P (m.val^(P/4+1)%P))):v=fv y:=by
 unfold rt at h
 split at h
 ·obtain rfl:=Option.some.inj h
  have:(Fin.ofNat P (even P (m.val^(P/4+1)%P))).val=even P (m.val^(P/4+1)%P):=Nat.mod_eq_of_lt (even_lt (Nat.pos_of_neZero P) (Nat.mod_lt _ (Nat.pos_of_neZero P)))
  show v=nv _
  rw[this]
  exact hF.nv
 ·cases h
theorem rt_yes {m y:Fin P} (h:rt m=some y):m.val^(P/4+1)%P*(m.val^(P/4+1)%P)%P=m.val:=by
 unfold rt at h
 split at h
 ·assumption
 ·cases h
theorem rt_no {m:Fin P} (h:rt m=none):¬ m.val^(P/4+1)%P*(m.val^(P/4+1)%P)%P=m.val:=by
 unfold rt at h
 split at h
 ·cases h
 ·assumption
theorem RootR.val {m:Fin P} {e:Value} (h:RootR P m.val (m.val^(P/4+1)%P) e):(∀ y,rt m=some y→e=.tuple #[fv y,.bool true])∧(rt m=none→e=.tuple #[fv (0:Fin P),.bool false]):=by
 obtain ⟨ya,yb,yc,yd,ok,rfl,h1,h2,h3⟩:=h
 refine ⟨fun y hy=>?_,fun hn=>?_⟩
 ·cases ok with
  | true=>rw[rt_four hy (h1 rfl).2]
  | false=>exact absurd (rt_yes hy) (h2 rfl)
 ·cases ok with
  | true=>exact absurd (h1 rfl).1 (rt_no hn)
  | false =>
   obtain ⟨rfl,rfl,rfl,rfl⟩:=h3 rfl
   rw[← zero_fv]
   rfl
theorem Root_y (h:Fld P) {m y:Fin P} (e:rt m=some y):Gives 86 #[gv0,fv m] (.tuple #[fv y,.bool true]):=fun w =>
 (Root_any 4294968273 0 0 P _ m.val h.gap h.p4 (h.four m) w).mono (by rintro e' w' ⟨v,rfl,hb,hF⟩;exact ⟨_,rfl,hb,hF.val.1 y e⟩)
theorem Root_n (h:Fld P) {m:Fin P} (e:rt m=none):Gives 86 #[gv0,fv m] (.tuple #[fv (0:Fin P),.bool false]):=fun w =>
 (Root_any 4294968273 0 0 P _ m.val h.gap h.p4 (h.four m) w).mono (by rintro e' w' ⟨v,rfl,hb,hF⟩;exact ⟨_,rfl,hb,hF.val.2 e⟩)
def gl0:List Value:=[.int .u64 4294968273,.int .u64 0,.int .u64 0,.int .u64 0]
theorem above_y_c (C:Fld P) (x y:Fin P)(hr:rt (x*x*x+7)=some y) :Gives 61 #[(fv x)] (.tuple #[pv x y,.bool true]):=by
 intro w
 obtain ⟨c1,hc1⟩:∃ c,c=x*x:=⟨_,rfl⟩
 obtain ⟨c2,hc2⟩:∃ c,c=c1*x:=⟨_,rfl⟩
 obtain ⟨c3,hc3⟩:∃ c,c=c2+(7:Fin P):=⟨_,rfl⟩
 have hfin:((.tuple #[(pv x y),(.bool true)]):Value)=(.tuple #[pv x y,.bool true]):=by
  subst_vars;rfl
 rw[← hfin]
 go_enter Tryd.func61,Tryd.ntmps61
 refine RG.M.enter [(0,(.v (fv x)))] 31 (by kernel_rfl) ?_
 intro a0 M0
 repeat refine wp_seq ?_
 refine M0.t [.m 1 [] 0,.m 2 [] 1,.x 3 [] (.bool false)] [(0,(ws x)),(1,(RG.z 8))] [] [(ws x),(RG.z 8)] [(1,(.p 0 0)),(2,(.p 1 0)),(3,(.v (.bool false)))] ⟨RG.mk 0 44,RG.mk 1 53,RG.st,trivial⟩ ?_
 intro j1 i1 a1 w1 M1
 repeat refine wp_seq ?_
 refine M1.t [.c 8 [] gv0,.m 4 [] 2,.u [(4,1),(8,0)] 2] [(1,(RG.z 4))] [(2,2,gl0)] [(ws x),(RG.z 8),gl0] [(1,(.p 0 0)),(2,(.p 1 0)),(3,(.v (.bool false))),(4,(.p 2 0))] ⟨RG.cl (Coordinates_c),RG.mk 2 94,RG.pt i79,trivial⟩ ?_
 intro j2 a2 w2 M2
 repeat refine wp_seq ?_
 refine M2.d [.x 9 [] gv0,.x 10 [] gv0,.x 11 [] gv0,.x 12 [] (fv x),.x 13 [] (fv x),.c 14 [(11,2),(12,3),(13,4)] (fv c1),.x 15 [] (fv x),.c 16 [(10,1),(14,5),(15,6)] (fv c2),.x 17 [] (fv (7:Fin P)),.c 18 [(9,0),(16,7),(17,8)] (fv c3),.m 5 [] 3,.u [(5,10),(18,9)] 3] [(10,(RG.z 4))] [(3,11,(ws c3))] [(ws x),(RG.z 8),gl0,(ws c3)] [(1,(.p 0 0)),(2,(.p 1 0)),(3,(.v (.bool false))),(4,(.p 2 0)),(5,(.p 3 0))] ⟨RG.ld u79 i79,RG.ld u79 i79,RG.ld u79 i79,RG.ld u85 i85,RG.ld u85 i85,RG.cl ((PTimes_c C x x).e hc1),RG.ld u85 i85,RG.cl ((PTimes_c C c1 x).e hc2),RG.se (seven_fv C),RG.cl ((PPlus_c C c2 (7:Fin P)).e hc3),RG.mk 3 44,RG.pt i85,trivial⟩ ?_
 intro j3 a3 w3 M3
 repeat refine wp_seq ?_
 refine M3.t [.x 20 [] gv0,.x 21 [] (fv c3),.c 22 [(20,0),(21,1)] (.tuple #[(fv y),(.bool true)]),.x 19 [(22,2)] (.tuple #[(fv y),(.bool true)]),.x 23 [(19,3)] (fv y),.x 24 [(19,3)] (.bool true),.m 6 [] 4,.u [(6,6),(23,4)] 4,.x 7 [(24,5)] (.bool true)] [(6,(RG.z 4))] [(4,7,(ws y))] [(ws x),(RG.z 8),gl0,(ws c3),(ws y)] [(1,(.p 0 0)),(2,(.p 1 0)),(3,(.v (.bool false))),(6,(.p 4 0)),(7,(.v (.bool true)))] ⟨RG.ld u79 i79,RG.ld u85 i85,RG.cl (f:=86) (args:=#[gv0,(fv c3)]) (v:=(.tuple #[(fv y),(.bool true)])) (Root_y C (by subst_vars;exact hr)),RG.st,RG.st,RG.st,RG.mk 4 44,RG.pt i85,RG.st,trivial⟩ ?_
 intro j4 a4 w4 M4
 repeat refine wp_seq ?_
 refine M4.u [.x 25 [] (.bool true),.x 26 [(25,0)] (.bool false)] [(1,(.p 0 0)),(2,(.p 1 0)),(3,(.v (.bool false))),(6,(.p 4 0)),(26,(.v (.bool false)))] ⟨RG.st,RG.st,trivial⟩ ?_
 intro a5 w5 M5
 repeat refine wp_seq ?_
 refine wp_cond_false M5.ev ?_
 refine wp_skip ?_
 repeat refine wp_seq ?_
 refine M5.t [.x 28 [] (fv x),.x 29 [] (fv y),.x 30 [(28,0),(29,1)] (pv x y),.u [(30,2)] 1,.x 3 [] (.bool true)] [] [(1,3,(ws x++(ws y)))] [(ws x),(ws x++(ws y)),gl0,(ws c3),(ws y)] [(2,(.p 1 0)),(3,(.v (.bool true)))] ⟨RG.ld u85 i85,RG.ld u85 i85,RG.st,RG.pt i109,RG.st,trivial⟩ ?_
 intro a6 w6 M6
 refine wp_ret ?_
 refine bodyPost_ret (v:=(.tuple #[(pv x y),(.bool true)])) (RG.results_rt M6.st 2 3 53 rfl 1 _ rfl (M6.at (s:=(.p 1 0))) _ (M6.at (s:=(.v (.bool true)))) u109 i109) M6.sl.defers ?_
 exact ⟨_,rfl,M6.st.bel.below,rfl⟩
theorem above_n_c (C:Fld P) (x:Fin P)(hr:rt (x*x*x+7)=none) :Gives 61 #[(fv x)] (.tuple #[pv (0:Fin P) 0,.bool false]):=by
 intro w
 obtain ⟨c1,hc1⟩:∃ c,c=x*x:=⟨_,rfl⟩
 obtain ⟨c2,hc2⟩:∃ c,c=c1*x:=⟨_,rfl⟩
 obtain ⟨c3,hc3⟩:∃ c,c=c2+(7:Fin P):=⟨_,rfl⟩
 have hfin:((.tuple #[(pv (0:Fin P) (0:Fin P)),(.bool false)]):Value)=(.tuple #[pv (0:Fin P) 0,.bool false]):=by
  subst_vars;rfl
 rw[← hfin]
 go_enter Tryd.func61,Tryd.ntmps61
 refine RG.M.enter [(0,(.v (fv x)))] 31 (by kernel_rfl) ?_
 intro a0 M0
 repeat refine wp_seq ?_
 refine M0.t [.m 1 [] 0,.m 2 [] 1,.x 3 [] (.bool false)] [(0,(ws x)),(1,(RG.z 8))] [] [(ws x),(RG.z 8)] [(1,(.p 0 0)),(2,(.p 1 0)),(3,(.v (.bool false)))] ⟨RG.mk 0 44,RG.mk 1 53,RG.st,trivial⟩ ?_
 intro j1 i1 a1 w1 M1
 repeat refine wp_seq ?_
 refine M1.t [.c 8 [] gv0,.m 4 [] 2,.u [(4,1),(8,0)] 2] [(1,(RG.z 4))] [(2,2,gl0)] [(ws x),(RG.z 8),gl0] [(1,(.p 0 0)),(2,(.p 1 0)),(3,(.v (.bool false))),(4,(.p 2 0))] ⟨RG.cl (Coordinates_c),RG.mk 2 94,RG.pt i79,trivial⟩ ?_
 intro j2 a2 w2 M2
 repeat refine wp_seq ?_
 refine M2.d [.x 9 [] gv0,.x 10 [] gv0,.x 11 [] gv0,.x 12 [] (fv x),.x 13 [] (fv x),.c 14 [(11,2),(12,3),(13,4)] (fv c1),.x 15 [] (fv x),.c 16 [(10,1),(14,5),(15,6)] (fv c2),.x 17 [] (fv (7:Fin P)),.c 18 [(9,0),(16,7),(17,8)] (fv c3),.m 5 [] 3,.u [(5,10),(18,9)] 3] [(10,(RG.z 4))] [(3,11,(ws c3))] [(ws x),(RG.z 8),gl0,(ws c3)] [(2,(.p 1 0)),(3,(.v (.bool false))),(4,(.p 2 0)),(5,(.p 3 0))] ⟨RG.ld u79 i79,RG.ld u79 i79,RG.ld u79 i79,RG.ld u85 i85,RG.ld u85 i85,RG.cl ((PTimes_c C x x).e hc1),RG.ld u85 i85,RG.cl ((PTimes_c C c1 x).e hc2),RG.se (seven_fv C),RG.cl ((PPlus_c C c2 (7:Fin P)).e hc3),RG.mk 3 44,RG.pt i85,trivial⟩ ?_
 intro j3 a3 w3 M3
 repeat refine wp_seq ?_
 refine M3.t [.x 20 [] gv0,.x 21 [] (fv c3),.c 22 [(20,0),(21,1)] (.tuple #[(fv (0:Fin P)),(.bool false)]),.x 19 [(22,2)] (.tuple #[(fv (0:Fin P)),(.bool false)]),.x 23 [(19,3)] (fv (0:Fin P)),.x 24 [(19,3)] (.bool false),.m 6 [] 4,.u [(6,6),(23,4)] 4,.x 7 [(24,5)] (.bool false)] [(6,(RG.z 4))] [(4,7,(ws (0:Fin P)))] [(ws x),(RG.z 8),gl0,(ws c3),(ws (0:Fin P))] [(2,(.p 1 0)),(3,(.v (.bool false))),(7,(.v (.bool false)))] ⟨RG.ld u79 i79,RG.ld u85 i85,RG.cl (f:=86) (args:=#[gv0,(fv c3)]) (v:=(.tuple #[(fv (0:Fin P)),(.bool false)])) (Root_n C (by subst_vars;exact hr)),RG.st,RG.st,RG.st,RG.mk 4 44,RG.pt i85,RG.st,trivial⟩ ?_
 intro j4 a4 w4 M4
 repeat refine wp_seq ?_
 refine M4.u [.x 25 [] (.bool false),.x 26 [(25,0)] (.bool true)] [(2,(.p 1 0)),(3,(.v (.bool false))),(26,(.v (.bool true)))] ⟨RG.st,RG.st,trivial⟩ ?_
 intro a5 w5 M5
 repeat refine wp_seq ?_
 refine wp_cond_true M5.ev ?_
 repeat refine wp_seq ?_
 refine M5.t [.x 27 [] (pv (0:Fin P) (0:Fin P)),.u [(27,0)] 1,.x 3 [] (.bool false)] [] [(1,1,(ws (0:Fin P)++(ws (0:Fin P))))] [(ws x),(ws (0:Fin P)++(ws (0:Fin P))),gl0,(ws c3),(ws (0:Fin P))] [(2,(.p 1 0)),(3,(.v (.bool false)))] ⟨RG.se (zero_pv (P:=P)),RG.pt i109,RG.st,trivial⟩ ?_
 intro a6 w6 M6
 refine wp_ret ?_
 refine bodyPost_ret (v:=(.tuple #[(pv (0:Fin P) (0:Fin P)),(.bool false)])) (RG.results_rt M6.st 2 3 53 rfl 1 _ rfl (M6.at (s:=(.p 1 0))) _ (M6.at (s:=(.v (.bool false)))) u109 i109) M6.sl.defers ?_
 exact ⟨_,rfl,M6.st.bel.below,rfl⟩
theorem popp_c (C:Fld P) (x y:Fin P):Gives 62 #[(pv x y)] (pv x (0-y)):=by
 intro w
 obtain ⟨c1,hc1⟩:∃ c,c=(0:Fin P)-y:=⟨_,rfl⟩
 have hfin:((pv x c1):Value)=(pv x (0-y)):=by
  subst_vars;rfl
 rw[← hfin]
 go_enter Tryd.func62,Tryd.ntmps62
 refine RG.M.enter [(0,(.v (pv x y)))] 11 (by kernel_rfl) ?_
 intro a0 M0
 repeat refine wp_seq ?_
 refine M0.t [.m 1 [] 0,.m 2 [] 1] [(0,(ws x++(ws y))),(1,(RG.z 8))] [] [(ws x++(ws y)),(RG.z 8)] [(1,(.p 0 0)),(2,(.p 1 0))] ⟨RG.mk 0 53,RG.mk 1 53,trivial⟩ ?_
 intro j1 i1 a1 w1 M1
 repeat refine wp_seq ?_
 refine M1.d [.s 3 [] (.p 0 0),.x 4 [(3,0)] (fv x),.c 5 [] gv0,.x 6 [] (fv (0:Fin P)),.s 7 [] (.p 0 4),.x 8 [(7,4)] (fv y),.c 9 [(5,2),(6,3),(8,5)] (fv c1),.x 10 [(4,1),(9,6)] (pv x c1),.u [(10,7)] 1] [] [(1,8,(ws x++(ws c1)))] [(ws x++(ws y)),(ws x++(ws c1))] [(2,(.p 1 0))] ⟨RG.st,RG.ld u85 i85,RG.cl (Coordinates_c),RG.se (zero_fv (P:=P)),RG.st,RG.ld u85 i85,RG.cl ((PMinus_c C (0:Fin P) y).e hc1),RG.st,RG.pt i109,trivial⟩ ?_
 intro a2 w2 M2
 refine wp_ret ?_
 refine bodyPost_ret (v:=(pv x c1)) (RG.results_row M2.st 2 53 rfl 1 _ rfl (M2.at (s:=(.p 1 0))) u109 i109) M2.sl.defers ?_
 exact ⟨_,rfl,M2.st.bel.below,rfl⟩
end
section
open Go.RowKit Go.Sort Go.Deep
variable {P:Nat} [NeZero P] {N:Nat}
theorem readS_of {w W:World} {k0 k1 k6 a b c d g0 g1 g2:Nat} (h:Kept w k0 [⟨k6,0,a,b,c,d⟩,⟨k0,0,g0,g1,g2,0⟩,⟨k1,0,0,0,0,0⟩] W):W.cell? ⟨k6,0,none⟩=some (.int .u64 a)∧W.cell? ⟨k6,1,none⟩=some (.int .u64 b)∧W.cell? ⟨k6,2,none⟩=some (.int .u64 c)∧W.cell? ⟨k6,3,none⟩=some (.int .u64 d)∧W.cell? ⟨k0,0,none⟩=some (.int .u64 g0)∧W.cell? ⟨k0,1,none⟩=some (.int .u64 g1)∧W.cell? ⟨k0,2,none⟩=some (.int .u64 g2)∧W.cell? ⟨k0,3,none⟩=some (.int .u64 0)∧Kept w k0 [⟨k6,0,a,b,c,d⟩,⟨k0,0,g0,g1,g2,0⟩,⟨k1,0,0,0,0,0⟩] W:=⟨h.head.c0,h.head.c1,h.head.c2,h.head.c3,h.tail.head.c0,h.tail.head.c1,h.tail.head.c2,h.tail.head.c3,h⟩
theorem readS_get {w W:World} {k0 k1 k6 a b c d g0 g1 g2:Nat} (h:W.cell? ⟨k6,0,none⟩=some (.int .u64 a)∧W.cell? ⟨k6,1,none⟩=some (.int .u64 b)∧W.cell? ⟨k6,2,none⟩=some (.int .u64 c)∧W.cell? ⟨k6,3,none⟩=some (.int .u64 d)∧W.cell? ⟨k0,0,none⟩=some (.int .u64 g0)∧W.cell? ⟨k0,1,none⟩=some (.int .u64 g1)∧W.cell? ⟨k0,2,none⟩=some (.int .u64 g2)∧W.cell? ⟨k0,3,none⟩=some (.int .u64 0)∧Kept w k0 [⟨k6,0,a,b,c,d⟩,⟨k0,0,g0,g1,g2,0⟩,⟨k1,0,0,0,0,0⟩] W):Kept w k0 [⟨k6,0,a,b,c,d⟩,⟨k0,0,g0,g1,g2,0⟩,⟨k1,0,0,0,0,0⟩] W:=h.2.2.2.2.2.2.2.2
theorem readS_alloc {w W:World} {k0 k1 k6 a b c d g0 g1 g2:Nat} {o:Obj} (h:W.cell? ⟨k6,0,none⟩=some (.int .u64 a)∧W.cell? ⟨k6,1,none⟩=some (.int .u64 b)∧W.cell? ⟨k6,2,none⟩=some (.int .u64 c)∧W.cell? ⟨k6,3,none⟩=some (.int .u64 d)∧W.cell? ⟨k0,0,none⟩=some (.int .u64 g0)∧W.cell? ⟨k0,1,none⟩=some (.int .u64 g1)∧W.cell? ⟨k0,2,none⟩=some (.int .u64 g2)∧W.cell? ⟨k0,3,none⟩=some (.int .u64 0)∧Kept w k0 [⟨k6,0,a,b,c,d⟩,⟨k0,0,g0,g1,g2,0⟩,⟨k1,0,0,0,0,0⟩] W):(W.alloc o).cell? ⟨k6,0,none⟩=some (.int .u64 a)∧(W.alloc o).cell? ⟨k6,1,none⟩=some (.int .u64 b)∧(W.alloc o).cell? ⟨k6,2,none⟩=some (.int .u64 c)∧(W.alloc o).cell? ⟨k6,3,none⟩=some (.int .u64 d)∧(W.alloc o).cell? ⟨k0,0,none⟩=some (.int .u64 g0)∧(W.alloc o).cell? ⟨k0,1,none⟩=some (.int .u64 g1)∧(W.alloc o).cell? ⟨k0,2,none⟩=some (.int .u64 g2)∧(W.alloc o).cell? ⟨k0,3,none⟩=some (.int .u64 0)∧Kept w k0 [⟨k6,0,a,b,c,d⟩,⟨k0,0,g0,g1,g2,0⟩,⟨k1,0,0,0,0,0⟩] (W.alloc o):=readS_of ((readS_get h).alloc o)
theorem readS_allocd {w W:World} {k0 k1 k6 a b c d g0 g1 g2:Nat} {o:Obj} (h:W.drew.cell? ⟨k6,0,none⟩=some (.int .u64 a)∧W.drew.cell? ⟨k6,1,none⟩=some (.int .u64 b)∧W.drew.cell? ⟨k6,2,none⟩=some (.int .u64 c)∧W.drew.cell? ⟨k6,3,none⟩=some (.int .u64 d)∧W.drew.cell? ⟨k0,0,none⟩=some (.int .u64 g0)∧W.drew.cell? ⟨k0,1,none⟩=some (.int .u64 g1)∧W.drew.cell? ⟨k0,2,none⟩=some (.int .u64 g2)∧W.drew.cell? ⟨k0,3,none⟩=some (.int .u64 0)∧Kept w k0 [⟨k6,0,a,b,c,d⟩,⟨k0,0,g0,g1,g2,0⟩,⟨k1,0,0,0,0,0⟩] W.drew):(W.alloc o).drew.cell? ⟨k6,0,none⟩=some (.int .u64 a)∧(W.alloc o).drew.cell? ⟨k6,1,none⟩=some (.int .u64 b)∧(W.alloc o).drew.cell? ⟨k6,2,none⟩=some (.int .u64 c)∧(W.alloc o).drew.cell? ⟨k6,3,none⟩=some (.int .u64 d)∧(W.alloc o).drew.cell? ⟨k0,0,none⟩=some (.int .u64 g0)∧(W.alloc o).drew.cell? ⟨k0,1,none⟩=some (.int .u64 g1)∧(W.alloc o).drew.cell? ⟨k0,2,none⟩=some (.int .u64 g2)∧(W.alloc o).drew.cell? ⟨k0,3,none⟩=some (.int .u64 0)∧Kept w k0 [⟨k6,0,a,b,c,d⟩,⟨k0,0,g0,g1,g2,0⟩,⟨k1,0,0,0,0,0⟩] (W.alloc o).drew:=readS_of (((readS_get h).undrew).alloc o).drew
theorem Read_len (pv:Value) (p:Option Addr) (n cap:Nat) (w:World) (g0 g1 g2:Nat) (hp:pv=.agg #[.int .u64 g0,.int .u64 g1,.int .u64 g2,.int .u64 0]) (hn:n≠32) :
 Calls Tryd.prog 43 #[pv,.slice p n cap] w (Ret fun e w'=>Below w.heap.size w w'∧e=.tuple #[.agg #[.int .u64 0,.int .u64 0,.int .u64 0,.int .u64 0],.bool false]):=by
 subst hp
 have h1:¬ (n:Int)=32:=by omega
 go_enter Tryd.func43,Tryd.ntmps43
 go_wp2
 refine bodyPost_ret (v:=?v) ?hr rfl ?hR
 case hr=>simp[results,Tryd.results43,go_sem];rfl
 exact ⟨_,rfl,below2 _ _ _,rfl⟩
theorem Read_any (g0 g1 g2 P g o cap:Nat) (bs:Bs) (hG:Gap g0 g1 g2 P) (w:World) (hs:bs.size=32) (hc:32≤cap) (hg:g<w.heap.size) (hB:Holds encB w g o bs) :
 Calls Tryd.prog 43 #[.agg #[.int .u64 g0,.int .u64 g1,.int .u64 g2,.int .u64 0],.slice (some ⟨g,o,none⟩) 32 cap] w
  (Ret fun e w'=>Below w.heap.size w w'∧((beV bs.toList<P∧∃ v,e=.tuple #[v,.bool true]∧Four v (beV bs.toList))∨(P≤beV bs.toList∧e=.tuple #[.agg #[.int .u64 0,.int .u64 0,.int .u64 0,.int .u64 0],.bool false]))):=by
 have HG:Hid (Gap g0 g1 g2 P):=hG
 have HBS:Hid (Holds encB w g o bs):=hB
 have HS:Hid (bs.size=32):=hs
 clear hG hB hs
 go_enter Tryd.func43,Tryd.ntmps43
 go_wp2_with fail
 have PR:=(At4.made w 94 g0 g1 g2 0 rfl).alloc (.cells #[.int .u64 0,.int .u64 0,.int .u64 0,.int .u64 0] 44)
 have RE:=At4.made (w.alloc (.cells #[.int .u64 g0,.int .u64 g1,.int .u64 g2,.int .u64 0] 94)) 44 0 0 0 0 (World.size_alloc _ _)
 have KP0:=((Kept.mk1 (below2 w (.cells #[.int .u64 g0,.int .u64 g1,.int .u64 g2,.int .u64 0] 94) (.cells #[.int .u64 0,.int .u64 0,.int .u64 0,.int .u64 0] 44)) (below2 w (.cells #[.int .u64 g0,.int .u64 g1,.int .u64 g2,.int .u64 0] 94) (.cells #[.int .u64 0,.int .u64 0,.int .u64 0,.int .u64 0] 44)).size).cons RE.blk).cons PR.blk
 have HB0:=Holds.below HBS.out (below2 w (.cells #[.int .u64 g0,.int .u64 g1,.int .u64 g2,.int .u64 0] 94) (.cells #[.int .u64 0,.int .u64 0,.int .u64 0,.int .u64 0] 44)) hg
 clear PR RE
 generalize World.alloc _ _=W0 at KP0 HB0 ⊢
 refine (fromBytes_any (some ⟨g,o,none⟩) g o 32 cap bs _ (Nat.le_refl 32) hc HS.out (Or.inr ⟨rfl,HB0⟩)).mono ?_
 rintro e w1 ⟨v,rfl,hb1,hF⟩
 obtain ⟨a,b,c,d,rfl,ha,hb,hc',hd,es⟩:=id hF
 have HF:Hid (Four _ _):=hF
 have K1:=KP0.call hb1
 clear es hF hb1 KP0 HB0
 go_wp2_with fail
 have KP:=(K1.alloc (.cells #[.int .u64 a,.int .u64 b,.int .u64 c,.int .u64 d] 44)).cons (At4.made w1 44 a b c d rfl).blk
 have q60:w1.heap.size≠w.heap.size:=Nat.ne_of_gt K1.head.lt
 clear K1
 generalize World.alloc _ _=W1 at KP ⊢
 generalize w1.heap.size=k6 at KP q60 ⊢
 generalize h1:w.heap.size+1=k1 at KP ⊢
 have Q1:Hid (w.heap.size≤k1):=by unfold Hid;omega
 generalize h0:w.heap.size=k0 at KP Q1 hg q60 ⊢
 have H0:Hid (w.heap.size=k0):=h0
 clear h0 h1
 go_cut [8] (fun s8 wx=>∃ k:Nat,s8=.int .u64 k∧k≤1∧Hid (∃ t,t<top∧t+top*k=beV bs.toList+val g0 g1 g2 0)∧Kept w k0 [⟨k6,0,a,b,c,d⟩,⟨k0,0,g0,g1,g2,0⟩,⟨k1,0,0,0,0,0⟩] wx)
 case first =>
  go_region_held3 (fun w'=>w'.cell? ⟨k6,0,none⟩=some (.int .u64 a)∧w'.cell? ⟨k6,1,none⟩=some (.int .u64 b)∧w'.cell? ⟨k6,2,none⟩=some (.int .u64 c)∧w'.cell? ⟨k6,3,none⟩=some (.int .u64 d)∧w'.cell? ⟨k0,0,none⟩=some (.int .u64 g0)∧w'.cell? ⟨k0,1,none⟩=some (.int .u64 g1)∧w'.cell? ⟨k0,2,none⟩=some (.int .u64 g2)∧w'.cell? ⟨k0,3,none⟩=some (.int .u64 0)∧Kept w k0 [⟨k6,0,a,b,c,d⟩,⟨k0,0,g0,g1,g2,0⟩,⟨k1,0,0,0,0,0⟩] w') (first|(with_reducible exact readS_of KP)|(with_reducible exact readS_of KP.drew)|(with_reducible exact readS_allocd (by assumption))|(with_reducible exact readS_alloc (by assumption))|(with_reducible exact readS_of (KP.alloc _))|(with_reducible exact readS_of (KP.set4' M7 (fun x hx=>Nat.ne_of_gt (N7 x hx)) _ _ _ _))|(with_reducible exact readS_of (KP.alloc _).drew)|(with_reducible exact readS_of (KP.set4' M7 (fun x hx=>Nat.ne_of_gt (N7 x hx)) _ _ _ _).drew)|fail) (first|(go_at_call 59;refine (four_any _ _ HF.out _).mono ?_;rintro e w2 ⟨v,rfl,hb1,rfl⟩;(try (with_reducible have T1:=T.call hb1;clear T;have T:=T1;clear T1));(try (first|(with_reducible have T:=(At4.made _ 92 0 0 0 0 rfl).call hb1)|(with_reducible have T:=(At4.made _ 92 0 0 0 0 rfl).drew.call hb1));have N7:=KP.lts;have M7:=KP.le);have KP1:=Kept.call (readS_get (by assumption)) hb1;clear KP;have KP:=KP1;clear KP1 hb1)|(go_at_call 58;refine (plus_any _ _ _ _ HF.out (Four.mk HG.out.h0 HG.out.h1 HG.out.h2 (by decide) rfl) _).mono ?_;rintro e w2 ⟨v,rfl,hb1,v2,t,k,rfl,hF2,hk,he⟩;obtain ⟨a',b',c',d',rfl,ha',hb',hc',hd',es⟩:=id hF2;have HT:Hid (t<top∧t+top*k=beV bs.toList+val g0 g1 g2 0):=⟨hF2.lt,he⟩;clear es he hF2;(try (with_reducible have T1:=T.call hb1;clear T;have T:=T1;clear T1));(try (first|(with_reducible have T:=(At4.made _ 92 0 0 0 0 rfl).call hb1)|(with_reducible have T:=(At4.made _ 92 0 0 0 0 rfl).drew.call hb1));have N7:=KP.lts;have M7:=KP.le);have KP1:=Kept.call (readS_get (by assumption)) hb1;clear KP;have KP:=KP1;clear KP1 hb1;(try (obtain ⟨tc0,tc1,tc2,tc3,tf⟩:=id T;have zt:=T.lt))))
  all_goals (try go_wp2)
  all_goals (have HX:Hid (∃ t,t<top∧t+top*k=beV bs.toList+val g0 g1 g2 0):=⟨t,HT.out⟩)
  all_goals (go_meet;first|(with_reducible exact ⟨k,rfl,hk,HX,KP.alloc _⟩)|(with_reducible exact ⟨k,rfl,hk,HX,(KP.alloc _).drew⟩)|(with_reducible exact ⟨k,rfl,hk,HX,KP.set4' M7 (fun x hx=>Nat.ne_of_gt (N7 x hx)) _ _ _ _⟩)|(with_reducible exact ⟨k,rfl,hk,HX,(KP.set4' M7 (fun x hx=>Nat.ne_of_gt (N7 x hx)) _ _ _ _).drew⟩)|fail)
 case rest =>
  clear KP
  obtain ⟨k,rfl,hk,HE,KP⟩:=hcut
  have hk':k=0∨k=1:=by omega
  rcases hk' with rfl|rfl
  ·obtain ⟨xc0,xc1,xc2,xc3,xf⟩:=KP.head.at4
   obtain ⟨rc0,rc1,rc2,rc3,rf⟩:=KP.tail.tail.head.at4
   have z1:=KP.tail.tail.head.lt
   go_wp2
   have RF:=KP.tail.tail.head.at4.self4 a b c d
   unfold set4 at RF
   refine bodyPost_ret (v:=?v0) ?hr0 rfl ?hR0
   case hr0=>simp[results,Tryd.results43,go_sem,RF.c0,RF.c1,RF.c2,RF.c3];rfl
   refine ⟨_,rfl,?_,Or.inl ⟨?_,_,rfl,HF.out⟩⟩
   ·rw[H0.out];exact below_set4 KP.bl Q1.out _ _ _ _
   ·obtain ⟨t,h1,h2⟩:=HE.out
    have:=HG.out.hP
    omega
  ·obtain ⟨rc0,rc1,rc2,rc3,rf⟩:=KP.tail.tail.head.at4
   have z1:=KP.tail.tail.head.lt
   go_wp2
   have RF:At4 (set4 wc k1 (.int .u64 0) (.int .u64 0) (.int .u64 0) (.int .u64 0)) k1 0 0 0 0:=KP.tail.tail.head.at4.self4 0 0 0 0
   unfold set4 at RF
   refine bodyPost_ret (v:=?v1) ?hr1 rfl ?hR1
   case hr1=>simp[results,Tryd.results43,go_sem,RF.c0,RF.c1,RF.c2,RF.c3];rfl
   refine ⟨_,rfl,?_,Or.inr ⟨?_,rfl⟩⟩
   ·rw[H0.out];exact below_set4 KP.bl Q1.out _ _ _ _
   ·obtain ⟨t,h1,h2⟩:=HE.out
    have:=HG.out.hP
    omega
def Arg (w:World) (v:Value) (bs:Bs):Prop:=∃ (p:Option Addr) (n cap:Nat),v=.slice p n cap∧bs.size=n∧(n=32→∃ g o,p=some ⟨g,o,none⟩∧32≤cap∧g<w.heap.size∧Holds encB w g o bs)
theorem Arg.below {w w1:World} {v:Value} {bs:Bs} (h:Arg w v bs) (hb:Below w.heap.size w w1):Arg w1 v bs:=by
 obtain ⟨p,n,cap,rfl,hs,h1⟩:=h
 refine ⟨p,n,cap,rfl,hs,fun h2=>?_⟩
 obtain ⟨g,o,h3,h4,h6,h7⟩:=h1 h2
 exact ⟨g,o,h3,h4,Nat.lt_of_lt_of_le h6 hb.size,Holds.below h7 hb h6⟩
end
section
open Go.RowKit Go.Sort
theorem u131:(Tryd.prog.underlying 37).map (·.isRow)=some true:=by kernel_rfl
theorem i131:(Tryd.prog.info? 37).map (·.size)=some 33:=by kernel_rfl
theorem u5:(Tryd.prog.underlying 5).map (·.isRow)=some false:=by kernel_rfl
theorem und131:Tryd.prog.underlying 37=some (.array 33 5):=by kernel_rfl
theorem und5:Tryd.prog.underlying 5=some (.int .u8):=by kernel_rfl
theorem cells5:Tryd.prog.cellsOf 5=1:=by kernel_rfl
theorem sl33 (g o cap:Nat) (hc:33≤cap) (w:World):(Instr.sliceAt 23 (.slice (some ⟨g,o,none⟩) 33 cap) (some (.int .i64 1)) none none).run Tryd.prog w=.ok (.slice (some ⟨g,o+1,none⟩) 32 (cap-1)) w:=by
 go_simp
 omega
theorem arr33 (g o cap:Nat) (w:World):(Instr.arrayAt 37 (.slice (some ⟨g,o,none⟩) 33 cap)).run Tryd.prog w=.ok (.pointer (some ⟨g,o,none⟩)) w:=by kernel_rfl
theorem at23 (g o n cap:Nat) (hn:0<n) (w:World):(Instr.indexAt 23 (.slice (some ⟨g,o,none⟩) n cap) (.int .i64 0)).run Tryd.prog w=.ok (.pointer (some ⟨g,o,none⟩)) w:=by
 have h:(0:Int)<(n:Int):=by omega
 go_simp
theorem part5 (xs:Array Value) (i:Nat) (v:Value) (h:xs[i]? = some v) (w:World):(part 5 xs i).run Tryd.prog w=.ok v w:=by
 go_simp
theorem eqI (xs ys:Array Value) (a b:Nat→Int) (D:Nat) (w:World):∀ (is:List Nat),(∀ i∈is,xs[i]? = some (.int .u8 (a i)))→(∀ i∈is,ys[i]? = some (.int .u8 (b i))) →
 (Op.eqItems (D+1) 5 1 xs ys is).run Tryd.prog w=.ok (decide (∀ i∈is,a i=b i)) w
 | [],_,_=>by
  rw[Op.eqItems]
  simp
 | i :: is,hx,hy=>by
  have ih:=eqI xs ys a b D w is (fun j hj=>hx j (List.mem_cons_of_mem _ hj)) (fun j hj=>hy j (List.mem_cons_of_mem _ hj))
  have p1:=part5 xs (i*1) _ (by rw[Nat.mul_one];exact hx i List.mem_cons_self) w
  have p2:=part5 ys (i*1) _ (by rw[Nat.mul_one];exact hy i List.mem_cons_self) w
  have p3:=run_equalIn_int (P:=Tryd.prog) w D 5 .u8 .u8 (a i) (b i) und5
  rw[Op.eqItems]
  simp only[Sem.run_bind,p1,p2,p3,Result.andThen_ok]
  by_cases h:a i=b i
  ·simp only[h,beq_self_eq_true,Bool.not_true,Bool.false_eq_true,if_false,ih,List.forall_mem_cons,true_and]
  ·have h2:(a i == b i)=false:=by simpa using h
   simp only[h2,Bool.not_false,if_true,Sem.run_pure,List.forall_mem_cons,h,false_and,decide_false]
def bl33 (bs:Bs):List Value:=bs.toList.map encB
def z33:List Value:=List.replicate 33 (.int .u8 0)
theorem bl33_at (bs:Bs) (i:Nat) (h:i<bs.size):(bl33 bs)[i]? = some (.int .u8 (ub bs[i]!)):=by
 unfold bl33
 rw[List.getElem?_map,Array.getElem?_toList,Array.getElem?_eq_getElem h,getElem!_pos bs i h]
 rfl
theorem eqz (bs:Bs) (h:bs.size=33) (w:World):(binOp .eql 37 (.agg (bl33 bs).toArray) (.agg z33.toArray)).run Tryd.prog w=.ok (.bool (decide (∀ i∈List.range 33,ub bs[i]! = 0))) w:=by
 have hi:(Tryd.prog.info? 5).isSome=true:=by kernel_rfl
 obtain ⟨inf,hinf⟩:=Option.isSome_iff_exists.1 hi
 rw[run_eql_struct,run_equalIn_array w 9999 _ _ und131 hinf,cells5,
  eqI _ _ (fun i=>ub bs[i]!) (fun _=>0) 9998 w (List.range 33) (fun i hi=>by
   rw[List.getElem?_toArray]
   exact bl33_at bs i (by rw[h];exact List.mem_range.1 hi)) (fun i hi=>by
   rw[List.getElem?_toArray]
   unfold z33
   rw[List.getElem?_replicate,if_pos (List.mem_range.1 hi)])]
 rfl
@[reducible] def Zero33 (bs:Bs):Prop:=∀ i∈List.range 33,ub bs[i]! = 0
theorem eqz_t {bs:Bs} (h:bs.size=33) (hz:Zero33 bs) (w:World):(binOp .eql 37 (.agg (bl33 bs).toArray) (.agg z33.toArray)).run Tryd.prog w=.ok (.bool true) w:=by rw[eqz bs h,decide_eq_true (show ∀ i∈List.range 33,ub bs[i]! = 0 from hz)]
theorem eqz_f {bs:Bs} (h:bs.size=33) (hz:¬ Zero33 bs) (w:World):(binOp .eql 37 (.agg (bl33 bs).toArray) (.agg z33.toArray)).run Tryd.prog w=.ok (.bool false) w:=by rw[eqz bs h,decide_eq_false (show ¬ ∀ i∈List.range 33,ub bs[i]! = 0 from hz)]
theorem bl33_length {bs:Bs} (h:bs.size=33):(bl33 bs).length=33:=by unfold bl33;rw[List.length_map,Array.length_toList,h]
theorem bl33_range {bs:Bs} {w:World} {g o:Nat} (hB:Holds encB w g o bs):w.rangeAt g o (bl33 bs):=fun j v hv=>by
 have hj:j<bs.size:=by
  have:=(List.getElem?_eq_some_iff.1 hv).1
  unfold bl33 at this
  rwa[List.length_map,Array.length_toList] at this
 rw[bl33_at bs j hj] at hv
 rw[(hB j hj).1]
 exact hv
def tl33 (bs:Bs):Bs:=bs.extract 1 33
theorem tl33_size {bs:Bs} (h:bs.size=33):(tl33 bs).size=32:=by unfold tl33;rw[Array.size_extract,h];rfl
theorem tl33_holds {bs:Bs} {w:World} {g o:Nat} (h:bs.size=33) (hB:Holds encB w g o bs):Holds encB w g (o+1) (tl33 bs):=
 Holds.part hB (by rw[tl33_size h,h];decide) (fun j hj=>by
  rw[tl33_size h] at hj
  unfold tl33
  rw[getElem!_pos _ j (by rw[Array.size_extract,h];omega),getElem!_pos _ (1+j) (by rw[h];omega),Array.getElem_extract])
variable {P:Nat} [NeZero P]
theorem Read_y (C:Fld P) {g o cap:Nat} {bs:Bs} (hs:bs.size=32) (hc:32≤cap) {x:Fin P} (hx:beV bs.toList=x.val) {w:World} (hg:g<w.heap.size) (hB:Holds encB w g o bs) :
 Calls Tryd.prog 43 #[gv0,.slice (some ⟨g,o,none⟩) 32 cap] w (Ret fun e w'=>Below w.heap.size w w'∧e=.tuple #[fv x,.bool true]):=
 (Read_any 4294968273 0 0 P g o cap bs C.gap w hs hc hg hB).mono (by
  rintro e w' ⟨v,rfl,hb,⟨hl,v',rfl,h8⟩|⟨hl,rfl⟩⟩
  ·refine ⟨_,rfl,hb,?_⟩
   rw[hx] at h8
   rw[h8.nv]
  ·have:=x.isLt
   omega)
theorem Read_n (C:Fld P) {g o cap:Nat} {bs:Bs} (hs:bs.size=32) (hc:32≤cap) (hx:¬ beV bs.toList<P) {w:World} (hg:g<w.heap.size) (hB:Holds encB w g o bs) :
 Calls Tryd.prog 43 #[gv0,.slice (some ⟨g,o,none⟩) 32 cap] w (Ret fun e w'=>Below w.heap.size w w'∧e=.tuple #[fv (0:Fin P),.bool false]):=
 (Read_any 4294968273 0 0 P g o cap bs C.gap w hs hc hg hB).mono (by
  rintro e w' ⟨v,rfl,hb,⟨hl,v',rfl,h8⟩|⟨hl,rfl⟩⟩
  ·exact absurd hl hx
  ·refine ⟨_,rfl,hb,?_⟩
   rw[← zero_fv])
def rdx (P:Nat) [NeZero P] (bs:Bs):Fin P:=Fin.ofNat P (beV (tl33 bs).toList)
def rd (P:Nat) [NeZero P] (bs:Bs):Option (Fin P × Fin P):=
 if bs.size=33 then
  if Zero33 bs then some (0,0) else
  if ub bs[0]! = 2∨ub bs[0]! = 3 then
   if beV (tl33 bs).toList<P then
    (rt (rdx P bs*rdx P bs*rdx P bs+7)).map (fun y=>(rdx P bs,if ub bs[0]! = 3 then 0-y else y))
   else none
  else none
 else none
def rdV:Option (Fin P × Fin P)→Value
 | none=>.tuple #[pv (0:Fin P) 0,.bool false]
 | some p=>.tuple #[pv p.1 p.2,.bool true]
end
section
open Go.RowKit Go.Sort
variable {P:Nat} [NeZero P] {N:Nat}
theorem rp_len (C:Fld P) (q:Option Addr) (n cap:Nat) (x:Fin P) (w:World) (hn:¬ n=33):Calls Tryd.prog 44 #[(.slice q n cap)] w (Ret fun e w'=>Below w.heap.size w w'∧e=(.tuple #[pv (0:Fin P) 0,.bool false])):=by
 have hne:∀ w,(binOp .neq 3 (.int .i64 n) (.int .i64 33)).run Tryd.prog w=.ok (.bool true) w:=fun w=>by
  have h:¬ (n:Int)=33:=by omega
  go_simp
 go_enter Tryd.func44,Tryd.ntmps44
 refine RG.var1 (v0:=(.slice q n cap)) (n:=54) (by kernel_rfl) (by kernel_rfl) (by kernel_rfl) ?_
 intro a0 sl0 f0
 have hS0:=RG.St.begin w
 have M0:RG.M w w.heap.size [] 54 [] [] [(0,(.v (.slice q n cap)))] a0 _:=⟨hS0,sl0,⟨f0,trivial⟩⟩
 repeat refine wp_seq ?_
 refine M0.t [.m 2 [] 0,.x 3 [] (.bool false)] [(0,(RG.z 8))] [] [(RG.z 8)] [(0,(.v (.slice q n cap))),(2,(.p 0 0)),(3,(.v (.bool false)))] ⟨RG.mk 0 53,RG.st,trivial⟩ ?_
 intro j1 a1 w1 M1
 repeat refine wp_seq ?_
 refine M1.u [.x 7 [] (.slice q n cap),.x 8 [(7,0)] (.int .i64 n),.x 9 [(8,1)] (.bool true)] [(2,(.p 0 0)),(3,(.v (.bool false))),(9,(.v (.bool true)))] ⟨RG.st,RG.cert_one rfl 7 (.v (.slice q n cap)) (.int .i64 n) rfl RG.sx (fun a w=>by kernel_rfl) (fun μ w=>by kernel_rfl),RG.cert_binc rfl .neq 3 3 8 (.int .i64 n) (.int .i64 33) (.bool true) rfl rfl RG.sx (fun w=>by kernel_rfl) (hne),trivial⟩ ?_
 intro a2 w2 M2
 repeat refine wp_seq ?_
 refine wp_cond_true M2.ev ?_
 repeat refine wp_seq ?_
 refine M2.t [.x 10 [] (pv (0:Fin P) (0:Fin P)),.u [(10,0)] 0,.x 3 [] (.bool false)] [] [(0,1,(ws (0:Fin P)++(ws (0:Fin P))))] [(ws (0:Fin P)++(ws (0:Fin P)))] [(2,(.p 0 0)),(3,(.v (.bool false)))] ⟨RG.se (zero_pv (P:=P)),RG.pt i109,RG.st,trivial⟩ ?_
 intro a3 w3 M3
 refine wp_ret ?_
 refine bodyPost_ret (v:=(.tuple #[(pv (0:Fin P) (0:Fin P)),(.bool false)])) (RG.results_rt M3.st 2 3 53 rfl 0 _ rfl (M3.at (s:=(.p 0 0))) _ (M3.at (s:=(.v (.bool false)))) u109 i109) M3.sl.defers ?_
 exact ⟨_,rfl,M3.st.bel.below,rfl⟩
abbrev v33 (g o cap:Nat):Value:=.slice (some ⟨g,o,none⟩) 33 cap
theorem rp33 (C:Fld P) (g o cap:Nat) (bs:Bs) (w:World) (hs:bs.size=33) (hc:33≤cap) (hg:g<w.heap.size) (hB:Holds encB w g o bs):Calls Tryd.prog 44 #[v33 g o cap] w (Ret fun e w'=>Below w.heap.size w w'∧e=rdV (rd P bs)):=by
 have hrg:=bl33_range hB
 have hb0:w.cell? ⟨g,o,none⟩=some (.int .u8 (ub bs[0]!)):=by
  have:=(hB 0 (by rw[hs];decide)).1
  rw[Nat.add_zero] at this
  exact this
 go_enter Tryd.func44,Tryd.ntmps44
 refine RG.var1 (v0:=(v33 g o cap)) (n:=54) (by kernel_rfl) (by kernel_rfl) (by kernel_rfl) ?_
 intro a0 sl0 f0
 have hS0:=RG.St.begin w
 have M0:RG.M w w.heap.size [] 54 [] [] [(0,(.v (v33 g o cap)))] a0 _:=⟨hS0,sl0,⟨f0,trivial⟩⟩
 repeat refine wp_seq ?_
 refine M0.t [.m 2 [] 0,.x 3 [] (.bool false)] [(0,(RG.z 8))] [] [(RG.z 8)] [(0,(.v (v33 g o cap))),(2,(.p 0 0)),(3,(.v (.bool false)))] ⟨RG.mk 0 53,RG.st,trivial⟩ ?_
 intro j1 a1 w1 M1
 repeat refine wp_seq ?_
 refine M1.u [.x 7 [] (v33 g o cap),.x 8 [(7,0)] (.int .i64 33),.x 9 [(8,1)] (.bool false)] [(0,(.v (v33 g o cap))),(2,(.p 0 0)),(3,(.v (.bool false))),(9,(.v (.bool false)))] ⟨RG.st,RG.cert_one rfl 7 (.v (v33 g o cap)) (.int .i64 33) rfl RG.sx (fun a w=>by kernel_rfl) (fun μ w=>by kernel_rfl),RG.st,trivial⟩ ?_
 intro a2 w2 M2
 repeat refine wp_seq ?_
 refine wp_cond_false M2.ev ?_
 refine wp_skip ?_
 repeat refine wp_seq ?_
 unfold rd
 rw[if_pos hs]
 by_cases hz:Zero33 bs
 ·rw[if_pos hz]
  refine M2.u [.x 11 [] (v33 g o cap),.x 12 [(11,0)] (.pointer (some ⟨g,o,none⟩)),.x 13 [(12,1)] (.agg (bl33 bs).toArray),.x 14 [] (.agg z33.toArray),.x 15 [(13,2),(14,3)] (.bool true)] [(2,(.p 0 0)),(3,(.v (.bool false))),(15,(.v (.bool true)))] ⟨RG.st,RG.cert_s2a rfl 37 11 (v33 g o cap) (.pointer (some ⟨g,o,none⟩)) rfl rfl RG.sx (arr33 g o cap),RG.cert_loadB rfl g o hg List.not_mem_nil 37 12 rfl (bl33 bs) rfl RG.sx hrg u131 (by rw[bl33_length hs];exact i131),RG.st,RG.cert_bin rfl .eql 37 37 13 14 (.agg (bl33 bs).toArray) (.agg z33.toArray) (.bool true) rfl rfl RG.sx RG.sx (fun w=>by kernel_rfl) (eqz_t hs hz),trivial⟩ ?_
  intro a3 w3 M3
  repeat refine wp_seq ?_
  refine wp_cond_true M3.ev ?_
  repeat refine wp_seq ?_
  refine M3.t [.x 16 [] (pv (0:Fin P) (0:Fin P)),.u [(16,0)] 0,.x 3 [] (.bool true)] [] [(0,1,(ws (0:Fin P)++(ws (0:Fin P))))] [(ws (0:Fin P)++(ws (0:Fin P)))] [(2,(.p 0 0)),(3,(.v (.bool true)))] ⟨RG.se (zero_pv (P:=P)),RG.pt i109,RG.st,trivial⟩ ?_
  intro a4 w4 M4
  refine wp_ret ?_
  refine bodyPost_ret (v:=(.tuple #[(pv (0:Fin P) (0:Fin P)),(.bool true)])) (RG.results_rt M4.st 2 3 53 rfl 0 _ rfl (M4.at (s:=(.p 0 0))) _ (M4.at (s:=(.v (.bool true)))) u109 i109) M4.sl.defers ?_
  exact ⟨_,rfl,M4.st.bel.below,rfl⟩
 rw[if_neg hz]
 refine M2.u [.x 11 [] (v33 g o cap),.x 12 [(11,0)] (.pointer (some ⟨g,o,none⟩)),.x 13 [(12,1)] (.agg (bl33 bs).toArray),.x 14 [] (.agg z33.toArray),.x 15 [(13,2),(14,3)] (.bool false)] [(0,(.v (v33 g o cap))),(2,(.p 0 0)),(3,(.v (.bool false))),(15,(.v (.bool false)))] ⟨RG.st,RG.cert_s2a rfl 37 11 (v33 g o cap) (.pointer (some ⟨g,o,none⟩)) rfl rfl RG.sx (arr33 g o cap),RG.cert_loadB rfl g o hg List.not_mem_nil 37 12 rfl (bl33 bs) rfl RG.sx hrg u131 (by rw[bl33_length hs];exact i131),RG.st,RG.cert_bin rfl .eql 37 37 13 14 (.agg (bl33 bs).toArray) (.agg z33.toArray) (.bool false) rfl rfl RG.sx RG.sx (fun w=>by kernel_rfl) (eqz_f hs hz),trivial⟩ ?_
 intro a3 w3 M3
 repeat refine wp_seq ?_
 refine wp_cond_false M3.ev ?_
 refine wp_skip ?_
 repeat refine wp_seq ?_
 by_cases hm:ub bs[0]! = 2∨ub bs[0]! = 3
 rotate_left
 ·rw[if_neg hm]
  generalize ub bs[0]! = m at hb0 hm
  have h2:¬ m=2:=fun h=>hm (.inl h)
  have h3:¬ m=3:=fun h=>hm (.inr h)
  have hm2:∀ w,(binOp .neq 5 (.int .u8 m) (.int .u8 2)).run Tryd.prog w=.ok (.bool true) w:=fun w=>by
   go_simp
  have hm3:∀ w,(binOp .neq 5 (.int .u8 m) (.int .u8 3)).run Tryd.prog w=.ok (.bool true) w:=fun w=>by
   go_simp
  refine M3.u [.x 17 [] (v33 g o cap),.x 18 [(17,0)] (.pointer (some ⟨g,o,none⟩)),.x 19 [(18,1)] (.int .u8 m),.x 20 [(19,2)] (.bool true),.x 21 [(20,3)] (.bool true),.x 22 [] (v33 g o cap),.x 23 [(22,5)] (.pointer (some ⟨g,o,none⟩)),.x 24 [(23,6)] (.int .u8 m),.x 25 [(24,7)] (.bool true),.x 26 [(21,4),(25,8)] (.bool true)] [(2,(.p 0 0)),(3,(.v (.bool false))),(26,(.v (.bool true)))] ⟨RG.st,RG.cert_idxc rfl 23 17 (.int .i64 0) rfl (.v (v33 g o cap)) RG.sx (fun μ w=>at23 g o 33 cap (by decide) w),RG.cert_load1B rfl g o hg List.not_mem_nil 5 18 rfl (.int .u8 m) rfl RG.sx hb0 u5,RG.cert_binc rfl .neq 5 5 19 (.int .u8 m) (.int .u8 2) (.bool true) rfl rfl RG.sx (fun w=>by kernel_rfl) (hm2),RG.st,RG.st,RG.cert_idxc rfl 23 22 (.int .i64 0) rfl (.v (v33 g o cap)) RG.sx (fun μ w=>at23 g o 33 cap (by decide) w),RG.cert_load1B rfl g o hg List.not_mem_nil 5 23 rfl (.int .u8 m) rfl RG.sx hb0 u5,RG.cert_binc rfl .neq 5 5 24 (.int .u8 m) (.int .u8 3) (.bool true) rfl rfl RG.sx (fun w=>by kernel_rfl) (hm3),RG.st,trivial⟩ ?_
  intro a4 w4 M4
  repeat refine wp_seq ?_
  refine wp_cond_true M4.ev ?_
  repeat refine wp_seq ?_
  refine M4.t [.x 27 [] (pv (0:Fin P) (0:Fin P)),.u [(27,0)] 0,.x 3 [] (.bool false)] [] [(0,1,(ws (0:Fin P)++(ws (0:Fin P))))] [(ws (0:Fin P)++(ws (0:Fin P)))] [(2,(.p 0 0)),(3,(.v (.bool false)))] ⟨RG.se (zero_pv (P:=P)),RG.pt i109,RG.st,trivial⟩ ?_
  intro a5 w5 M5
  refine wp_ret ?_
  refine bodyPost_ret (v:=(.tuple #[(pv (0:Fin P) (0:Fin P)),(.bool false)])) (RG.results_rt M5.st 2 3 53 rfl 0 _ rfl (M5.at (s:=(.p 0 0))) _ (M5.at (s:=(.v (.bool false)))) u109 i109) M5.sl.defers ?_
  exact ⟨_,rfl,M5.st.bel.below,rfl⟩
 rw[if_pos hm]
 rcases hm with hm|hm
 case' inl=>refine M3.u [.x 17 [] (v33 g o cap),.x 18 [(17,0)] (.pointer (some ⟨g,o,none⟩)),.x 19 [(18,1)] (.int .u8 2),.x 20 [(19,2)] (.bool false),.x 21 [(20,3)] (.bool false),⟨some 22,[],(.v undef),.pass⟩,⟨some 23,[],(.v undef),.pass⟩,⟨some 24,[],(.v undef),.pass⟩,⟨some 25,[],(.v undef),.pass⟩,.x 26 [(21,4),(25,8)] (.bool false)] [(0,(.v (v33 g o cap))),(2,(.p 0 0)),(3,(.v (.bool false))),(26,(.v (.bool false)))] ⟨RG.st,RG.cert_idxc rfl 23 17 (.int .i64 0) rfl (.v (v33 g o cap)) RG.sx (fun μ w=>at23 g o 33 cap (by decide) w),RG.cert_load1B rfl g o hg List.not_mem_nil 5 18 rfl (.int .u8 2) rfl RG.sx (hb0.trans (by rw[hm])) u5,RG.st,RG.st,RG.cert_pass rfl rfl,RG.cert_pass rfl rfl,RG.cert_pass rfl rfl,RG.cert_pass rfl rfl,RG.st,trivial⟩ ?_
 case' inr=>refine M3.u [.x 17 [] (v33 g o cap),.x 18 [(17,0)] (.pointer (some ⟨g,o,none⟩)),.x 19 [(18,1)] (.int .u8 3),.x 20 [(19,2)] (.bool true),.x 21 [(20,3)] (.bool true),.x 22 [] (v33 g o cap),.x 23 [(22,5)] (.pointer (some ⟨g,o,none⟩)),.x 24 [(23,6)] (.int .u8 3),.x 25 [(24,7)] (.bool false),.x 26 [(21,4),(25,8)] (.bool false)] [(0,(.v (v33 g o cap))),(2,(.p 0 0)),(3,(.v (.bool false))),(26,(.v (.bool false)))] ⟨RG.st,RG.cert_idxc rfl 23 17 (.int .i64 0) rfl (.v (v33 g o cap)) RG.sx (fun μ w=>at23 g o 33 cap (by decide) w),RG.cert_load1B rfl g o hg List.not_mem_nil 5 18 rfl (.int .u8 3) rfl RG.sx (hb0.trans (by rw[hm])) u5,RG.st,RG.st,RG.st,RG.cert_idxc rfl 23 22 (.int .i64 0) rfl (.v (v33 g o cap)) RG.sx (fun μ w=>at23 g o 33 cap (by decide) w),RG.cert_load1B rfl g o hg List.not_mem_nil 5 23 rfl (.int .u8 3) rfl RG.sx (hb0.trans (by rw[hm])) u5,RG.st,RG.st,trivial⟩ ?_
 all_goals
  intro a4 w4 M4
  repeat refine wp_seq ?_
  refine wp_cond_false M4.ev ?_
  refine wp_skip ?_
  repeat refine wp_seq ?_
  by_cases hx:beV (tl33 bs).toList<P
  rotate_left
  ·rw[if_neg hx]
   have hrd:∀ w',RG.BelX w.heap.size [] w w'→Calls Tryd.prog 43 #[gv0,.slice (some ⟨g,o+1,none⟩) 32 (cap-1)] w' (Ret fun e w''=>Below w'.heap.size w' w''∧e=.tuple #[fv (0:Fin P),.bool false]):=fun w' hb=>Read_n C (tl33_size hs) (by omega) hx (Nat.lt_of_lt_of_le hg hb.size) (Holds.below (tl33_holds hs hB) hb.below hg)
   refine M4.d [.c 29 [] gv0,.x 30 [] (v33 g o cap),.x 31 [(30,1)] (.slice (some ⟨g,o+1,none⟩) 32 (cap-1)),.c 32 [(29,0),(31,2)] (.tuple #[(fv (0:Fin P)),(.bool false)]),.x 28 [(32,3)] (.tuple #[(fv (0:Fin P)),(.bool false)]),.x 33 [(28,4)] (fv (0:Fin P)),.x 34 [(28,4)] (.bool false),.m 4 [] 1,.u [(4,7),(33,5)] 1,.x 5 [(34,6)] (.bool false)] [(7,(RG.z 4))] [(1,8,(ws (0:Fin P)))] [(RG.z 8),(ws (0:Fin P))] [(2,(.p 0 0)),(3,(.v (.bool false))),(5,(.v (.bool false)))] ⟨RG.cl (Coordinates_c),RG.st,RG.cert_slice1 rfl 23 30 (.int .i64 1) (v33 g o cap) (.slice (some ⟨g,o+1,none⟩) 32 (cap-1)) rfl rfl RG.sx (sl33 g o cap hc),RG.cert_callB2 rfl 43 29 31 gv0 (.slice (some ⟨g,o+1,none⟩) 32 (cap-1)) (.tuple #[(fv (0:Fin P)),(.bool false)]) rfl (fun a w=>by kernel_rfl) RG.sx RG.sx hrd,RG.st,RG.st,RG.st,RG.mk 1 44,RG.pt i85,RG.st,trivial⟩ ?_
   intro j5 a5 w5 M5
   repeat refine wp_seq ?_
   refine M5.u [.x 35 [] (.bool false),.x 36 [(35,0)] (.bool true)] [(2,(.p 0 0)),(3,(.v (.bool false))),(36,(.v (.bool true)))] ⟨RG.st,RG.st,trivial⟩ ?_
   intro a6 w6 M6
   repeat refine wp_seq ?_
   refine wp_cond_true M6.ev ?_
   repeat refine wp_seq ?_
   refine M6.t [.x 37 [] (pv (0:Fin P) (0:Fin P)),.u [(37,0)] 0,.x 3 [] (.bool false)] [] [(0,1,(ws (0:Fin P)++(ws (0:Fin P))))] [(ws (0:Fin P)++(ws (0:Fin P))),(ws (0:Fin P))] [(2,(.p 0 0)),(3,(.v (.bool false)))] ⟨RG.se (zero_pv (P:=P)),RG.pt i109,RG.st,trivial⟩ ?_
   intro a7 w7 M7
   refine wp_ret ?_
   refine bodyPost_ret (v:=(.tuple #[(pv (0:Fin P) (0:Fin P)),(.bool false)])) (RG.results_rt M7.st 2 3 53 rfl 0 _ rfl (M7.at (s:=(.p 0 0))) _ (M7.at (s:=(.v (.bool false)))) u109 i109) M7.sl.defers ?_
   exact ⟨_,rfl,M7.st.bel.below,rfl⟩
  rw[if_pos hx]
  have hx':beV (tl33 bs).toList=(rdx P bs).val:=(Nat.mod_eq_of_lt hx).symm
  generalize rdx P bs=x at hx'
  have hrd:∀ w',RG.BelX w.heap.size [] w w'→Calls Tryd.prog 43 #[gv0,.slice (some ⟨g,o+1,none⟩) 32 (cap-1)] w' (Ret fun e w''=>Below w'.heap.size w' w''∧e=.tuple #[fv x,.bool true]):=fun w' hb=>Read_y C (tl33_size hs) (by omega) hx' (Nat.lt_of_lt_of_le hg hb.size) (Holds.below (tl33_holds hs hB) hb.below hg)
  refine M4.d [.c 29 [] gv0,.x 30 [] (v33 g o cap),.x 31 [(30,1)] (.slice (some ⟨g,o+1,none⟩) 32 (cap-1)),.c 32 [(29,0),(31,2)] (.tuple #[(fv x),(.bool true)]),.x 28 [(32,3)] (.tuple #[(fv x),(.bool true)]),.x 33 [(28,4)] (fv x),.x 34 [(28,4)] (.bool true),.m 4 [] 1,.u [(4,7),(33,5)] 1,.x 5 [(34,6)] (.bool true)] [(7,(RG.z 4))] [(1,8,(ws x))] [(RG.z 8),(ws x)] [(0,(.v (v33 g o cap))),(2,(.p 0 0)),(3,(.v (.bool false))),(4,(.p 1 0)),(5,(.v (.bool true)))] ⟨RG.cl (Coordinates_c),RG.st,RG.cert_slice1 rfl 23 30 (.int .i64 1) (v33 g o cap) (.slice (some ⟨g,o+1,none⟩) 32 (cap-1)) rfl rfl RG.sx (sl33 g o cap hc),RG.cert_callB2 rfl 43 29 31 gv0 (.slice (some ⟨g,o+1,none⟩) 32 (cap-1)) (.tuple #[(fv x),(.bool true)]) rfl (fun a w=>by kernel_rfl) RG.sx RG.sx hrd,RG.st,RG.st,RG.st,RG.mk 1 44,RG.pt i85,RG.st,trivial⟩ ?_
  intro j5 a5 w5 M5
  repeat refine wp_seq ?_
  refine M5.u [.x 35 [] (.bool true),.x 36 [(35,0)] (.bool false)] [(0,(.v (v33 g o cap))),(2,(.p 0 0)),(3,(.v (.bool false))),(4,(.p 1 0)),(5,(.v (.bool true))),(36,(.v (.bool false)))] ⟨RG.st,RG.st,trivial⟩ ?_
  intro a6 w6 M6
  repeat refine wp_seq ?_
  refine wp_cond_false M6.ev ?_
  refine wp_skip ?_
  repeat refine wp_seq ?_
  cases hr:rt (x*x*x+7) with
  | none =>
   refine M6.t [.x 39 [] (fv x),.c 40 [(39,0)] (.tuple #[(pv (0:Fin P) (0:Fin P)),(.bool false)]),.x 38 [(40,1)] (.tuple #[(pv (0:Fin P) (0:Fin P)),(.bool false)]),.x 41 [(38,2)] (pv (0:Fin P) (0:Fin P)),.x 42 [(38,2)] (.bool false),.m 6 [] 2,.u [(6,5),(41,3)] 2,.x 5 [(42,4)] (.bool false)] [(5,(RG.z 8))] [(2,6,(ws (0:Fin P)++(ws (0:Fin P))))] [(RG.z 8),(ws x),(ws (0:Fin P)++(ws (0:Fin P)))] [(2,(.p 0 0)),(3,(.v (.bool false))),(5,(.v (.bool false))),(6,(.p 2 0))] ⟨RG.ld u85 i85,RG.cert_call1 rfl 61 39 (fv x) (.tuple #[(pv (0:Fin P) (0:Fin P)),(.bool false)]) rfl (fun a w=>by kernel_rfl) RG.sx (above_n_c C x hr),RG.st,RG.st,RG.st,RG.mk 2 53,RG.pt i109,RG.st,trivial⟩ ?_
   intro j7 a7 w7 M7
   repeat refine wp_seq ?_
   refine M7.u [.x 43 [] (.bool false),.x 44 [(43,0)] (.bool false),⟨some 45,[],(.v undef),.pass⟩,⟨some 46,[],(.v undef),.pass⟩,⟨some 47,[],(.v undef),.pass⟩,⟨some 48,[],(.v undef),.pass⟩,.x 49 [(44,1),(48,5)] (.bool false)] [(2,(.p 0 0)),(3,(.v (.bool false))),(5,(.v (.bool false))),(6,(.p 2 0)),(49,(.v (.bool false)))] ⟨RG.st,RG.st,RG.cert_pass rfl rfl,RG.cert_pass rfl rfl,RG.cert_pass rfl rfl,RG.cert_pass rfl rfl,RG.st,trivial⟩ ?_
   intro a8 w8 M8
   repeat refine wp_seq ?_
   refine wp_cond_false M8.ev ?_
   refine wp_skip ?_
   repeat refine wp_seq ?_
   refine M8.t [.x 52 [] (pv (0:Fin P) (0:Fin P)),.x 53 [] (.bool false),.u [(52,0)] 0,.x 3 [(53,1)] (.bool false)] [] [(0,2,(ws (0:Fin P)++(ws (0:Fin P))))] [(ws (0:Fin P)++(ws (0:Fin P))),(ws x),(ws (0:Fin P)++(ws (0:Fin P)))] [(2,(.p 0 0)),(3,(.v (.bool false)))] ⟨RG.ld u109 i109,RG.st,RG.pt i109,RG.st,trivial⟩ ?_
   intro a9 w9 M9
   refine wp_ret ?_
   refine bodyPost_ret (v:=(.tuple #[(pv (0:Fin P) (0:Fin P)),(.bool false)])) (RG.results_rt M9.st 2 3 53 rfl 0 _ rfl (M9.at (s:=(.p 0 0))) _ (M9.at (s:=(.v (.bool false)))) u109 i109) M9.sl.defers ?_
   exact ⟨_,rfl,M9.st.bel.below,rfl⟩
  | some y =>
   refine M6.t [.x 39 [] (fv x),.c 40 [(39,0)] (.tuple #[(pv x y),(.bool true)]),.x 38 [(40,1)] (.tuple #[(pv x y),(.bool true)]),.x 41 [(38,2)] (pv x y),.x 42 [(38,2)] (.bool true),.m 6 [] 2,.u [(6,5),(41,3)] 2,.x 5 [(42,4)] (.bool true)] [(5,(RG.z 8))] [(2,6,(ws x++(ws y)))] [(RG.z 8),(ws x),(ws x++(ws y))] [(0,(.v (v33 g o cap))),(2,(.p 0 0)),(3,(.v (.bool false))),(5,(.v (.bool true))),(6,(.p 2 0))] ⟨RG.ld u85 i85,RG.cert_call1 rfl 61 39 (fv x) (.tuple #[(pv x y),(.bool true)]) rfl (fun a w=>by kernel_rfl) RG.sx (above_y_c C x y hr),RG.st,RG.st,RG.st,RG.mk 2 53,RG.pt i109,RG.st,trivial⟩ ?_
   intro j7 a7 w7 M7
   repeat refine wp_seq ?_
   rw[Option.map_some]
   by_cases h3:ub bs[0]! = 3
   ·rw[if_pos h3]
    generalize hy2:0-y=y2
    have popp_y:Gives 62 #[pv x y] (pv x y2):=hy2 ▸ popp_c C x y
    refine M7.u [.x 43 [] (.bool true),.x 44 [(43,0)] (.bool true),.x 45 [] (v33 g o cap),.x 46 [(45,2)] (.pointer (some ⟨g,o,none⟩)),.x 47 [(46,3)] (.int .u8 3),.x 48 [(47,4)] (.bool true),.x 49 [(44,1),(48,5)] (.bool true)] [(2,(.p 0 0)),(3,(.v (.bool false))),(5,(.v (.bool true))),(6,(.p 2 0)),(49,(.v (.bool true)))] ⟨RG.st,RG.st,RG.st,RG.cert_idxc rfl 23 45 (.int .i64 0) rfl (.v (v33 g o cap)) RG.sx (fun μ w=>at23 g o 33 cap (by decide) w),RG.cert_load1B rfl g o hg List.not_mem_nil 5 46 rfl (.int .u8 3) rfl RG.sx (hb0.trans (by rw[h3])) u5,RG.st,RG.st,trivial⟩ ?_
    intro a8 w8 M8
    repeat refine wp_seq ?_
    refine wp_cond_true M8.ev ?_
    repeat refine wp_seq ?_
    refine M8.t [.x 50 [] (pv x y),.c 51 [(50,0)] (pv x y2),.u [(51,1)] 2] [] [(2,2,(ws x++(ws y2)))] [(RG.z 8),(ws x),(ws x++(ws y2))] [(2,(.p 0 0)),(3,(.v (.bool false))),(5,(.v (.bool true))),(6,(.p 2 0))] ⟨RG.ld u109 i109,RG.cl (popp_y),RG.pt i109,trivial⟩ ?_
    intro a9 w9 M9
    repeat refine wp_seq ?_
    refine M9.t [.x 52 [] (pv x y2),.x 53 [] (.bool true),.u [(52,0)] 0,.x 3 [(53,1)] (.bool true)] [] [(0,2,(ws x++(ws y2)))] [(ws x++(ws y2)),(ws x),(ws x++(ws y2))] [(2,(.p 0 0)),(3,(.v (.bool true)))] ⟨RG.ld u109 i109,RG.st,RG.pt i109,RG.st,trivial⟩ ?_
    intro a10 w10 M10
    refine wp_ret ?_
    refine bodyPost_ret (v:=(.tuple #[(pv x y2),(.bool true)])) (RG.results_rt M10.st 2 3 53 rfl 0 _ rfl (M10.at (s:=(.p 0 0))) _ (M10.at (s:=(.v (.bool true)))) u109 i109) M10.sl.defers ?_
    exact ⟨_,rfl,M10.st.bel.below,rfl⟩
   ·rw[if_neg h3]
    have h2:ub bs[0]! = 2:=by omega
    refine M7.u [.x 43 [] (.bool true),.x 44 [(43,0)] (.bool true),.x 45 [] (v33 g o cap),.x 46 [(45,2)] (.pointer (some ⟨g,o,none⟩)),.x 47 [(46,3)] (.int .u8 2),.x 48 [(47,4)] (.bool false),.x 49 [(44,1),(48,5)] (.bool false)] [(2,(.p 0 0)),(3,(.v (.bool false))),(5,(.v (.bool true))),(6,(.p 2 0)),(49,(.v (.bool false)))] ⟨RG.st,RG.st,RG.st,RG.cert_idxc rfl 23 45 (.int .i64 0) rfl (.v (v33 g o cap)) RG.sx (fun μ w=>at23 g o 33 cap (by decide) w),RG.cert_load1B rfl g o hg List.not_mem_nil 5 46 rfl (.int .u8 2) rfl RG.sx (hb0.trans (by rw[h2])) u5,RG.st,RG.st,trivial⟩ ?_
    intro a8 w8 M8
    repeat refine wp_seq ?_
    refine wp_cond_false M8.ev ?_
    refine wp_skip ?_
    repeat refine wp_seq ?_
    refine M8.t [.x 52 [] (pv x y),.x 53 [] (.bool true),.u [(52,0)] 0,.x 3 [(53,1)] (.bool true)] [] [(0,2,(ws x++(ws y)))] [(ws x++(ws y)),(ws x),(ws x++(ws y))] [(2,(.p 0 0)),(3,(.v (.bool true)))] ⟨RG.ld u109 i109,RG.st,RG.pt i109,RG.st,trivial⟩ ?_
    intro a9 w9 M9
    refine wp_ret ?_
    refine bodyPost_ret (v:=(.tuple #[(pv x y),(.bool true)])) (RG.results_rt M9.st 2 3 53 rfl 0 _ rfl (M9.at (s:=(.p 0 0))) _ (M9.at (s:=(.v (.bool true)))) u109 i109) M9.sl.defers ?_
    exact ⟨_,rfl,M9.st.bel.below,rfl⟩
def Arg33 (w:World) (v:Value) (bs:Bs):Prop:=∃ (p:Option Addr) (n cap:Nat),v=.slice p n cap∧bs.size=n∧(n=33→∃ g o,p=some ⟨g,o,none⟩∧33≤cap∧g<w.heap.size∧Holds encB w g o bs)
theorem Arg33.below {w w1:World} {v:Value} {bs:Bs} (h:Arg33 w v bs) (hb:Below w.heap.size w w1):Arg33 w1 v bs:=by
 obtain ⟨p,n,cap,rfl,hs,h1⟩:=h
 refine ⟨p,n,cap,rfl,hs,fun h2=>?_⟩
 obtain ⟨g,o,h3,h4,h6,h7⟩:=h1 h2
 exact ⟨g,o,h3,h4,Nat.lt_of_lt_of_le h6 hb.size,Holds.below h7 hb h6⟩
theorem readPoint_c (C:Fld P) (v:Value) (bs:Bs) (w:World) (hv:Arg33 w v bs):Calls Tryd.prog 44 #[v] w (Ret fun e w'=>Below w.heap.size w w'∧e=rdV (rd P bs)):=by
 obtain ⟨p,n,cap,rfl,hs,h1⟩:=hv
 by_cases hn:n=33
 ·subst hn
  obtain ⟨g,o,rfl,hc,hg,hB⟩:=h1 rfl
  exact rp33 C g o cap bs w hs hc hg hB
 ·unfold rd
  rw[if_neg (by rw[hs];exact hn)]
  exact rp_len C p n cap 0 w hn
end
section
open Go.RowKit Go.Sort Go.Deep
variable {P:Nat} [NeZero P] {N:Nat}
def bx (n:Nat):Bs:=be32 (n%18446744073709551616) (n/18446744073709551616%18446744073709551616) (n/340282366920938463463374607431768211456%18446744073709551616) (n/6277101735386680763835789423207666416102355444464034512896%18446744073709551616)
theorem bx_size (n:Nat):(bx n).size=32:=by unfold bx;exact be32_size _ _ _ _
def mark (n:Nat):UInt8:=if n%2=1 then 3 else 2
def by33 (x y:Fin P):Bs:=if x=0∧y=0 then Array.replicate 33 0 else #[mark y.val]++bx x.val
theorem Bytes_c (C:Fld P) (x:Fin P) (w:World):Calls Tryd.prog 28 #[fv x] w (Ret fun e w'=>Below w.heap.size w w'∧∃ g,e=.slice (some ⟨g,0,none⟩) 32 32∧w.heap.size≤g∧Holds encB w' g 0 (bx x.val)):=
 (Bytes_any _ _ w (C.four x)).mono (by
  rintro e w' ⟨v,rfl,hb,g,a,b,c,d,rfl,hg,he,hH⟩
  refine ⟨_,rfl,hb,g,rfl,hg,?_⟩
  have h2:fv x=.agg #[.int .u64 ((x.val%18446744073709551616:Nat):Int),.int .u64 ((x.val/18446744073709551616%18446744073709551616:Nat):Int),.int .u64 ((x.val/340282366920938463463374607431768211456%18446744073709551616:Nat):Int),.int .u64 ((x.val/6277101735386680763835789423207666416102355444464034512896%18446744073709551616:Nat):Int)]:=rfl
  rw[h2] at he
  simp only[Value.agg.injEq,Array.mk.injEq,List.cons.injEq,Value.int.injEq,true_and,and_true,Int.ofNat_inj] at he
  obtain ⟨rfl,rfl,rfl,rfl⟩:=he
  exact hH)
theorem Odd_c (C:Fld P) (y:Fin P):Gives 32 #[fv y] (.bool (decide (y.val%2=1))):=fun w =>
 (Odd_any _ _ (C.four y) w).mono (by rintro e w' ⟨v,rfl,hb,rfl⟩;exact ⟨_,rfl,hb,rfl⟩)
theorem info5b:(Tryd.prog.info? 5).map (fun i=>(i.zero,i.size,i.bytes))=some (some (.int .u8 0),1,1):=by kernel_rfl
theorem und23:Tryd.prog.underlying 23=some (.slice 5):=by kernel_rfl
def BytesR (w:World) (T:Bs) (e:Value) (w':World):Prop:=∃ g cap,e=.slice (some ⟨g,0,none⟩) 33 cap∧33≤cap∧w.heap.size≤g∧g<w'.heap.size∧Holds encB w' g 0 T
theorem mk33 (w:World):(Instr.makeSlice 23 (.int .i64 33) (.int .i64 33)).run Tryd.prog w=.ok (.slice (some ⟨w.heap.size,0,none⟩) 33 33) (w.alloc (.cells (madeCells #[.int .u8 0] 33) 5)):=
 run_make_row' (P:=Tryd.prog) 23 5 (.int .u8 0) 1 und23 info5b rfl .i64 .i64 33 (by decide) (by decide) w
theorem made33 (w:World) (o:Obj):Holds encB ((w.alloc o).alloc (.cells (madeCells #[.int .u8 0] 33) 5)) (w.heap.size+1) 0 (Array.replicate 33 0):=by
 have h:=Holds.made (enc:=encB) (w.alloc o) 5 33 (0:UInt8)
 rw[World.size_alloc] at h
 exact h
omit [NeZero P] in
theorem pv_words (x y:Fin P):pv x y=.agg #[.int .u64 ((x.val%18446744073709551616:Nat):Int),.int .u64 ((x.val/18446744073709551616%18446744073709551616:Nat):Int),.int .u64 ((x.val/340282366920938463463374607431768211456%18446744073709551616:Nat):Int),.int .u64 ((x.val/6277101735386680763835789423207666416102355444464034512896%18446744073709551616:Nat):Int),.int .u64 ((y.val%18446744073709551616:Nat):Int),.int .u64 ((y.val/18446744073709551616%18446744073709551616:Nat):Int),.int .u64 ((y.val/340282366920938463463374607431768211456%18446744073709551616:Nat):Int),.int .u64 ((y.val/6277101735386680763835789423207666416102355444464034512896%18446744073709551616:Nat):Int)]:=rfl
theorem bytes_zero (C:Fld P) (x y:Fin P) (hz:x=0∧y=0) (w:World):Calls Tryd.prog 19 #[pv x y] w (Ret fun e w'=>Below w.heap.size w w'∧BytesR w (Array.replicate 33 0) e w'):=by
 have heq:=eqPt_t C (x:=x) (y:=y) (z:=0) (t:=0) hz
 rw[← zero_pv,pv_words] at heq
 rw[pv_words]
 generalize ((x.val%18446744073709551616:Nat):Int)=a at heq ⊢
 generalize ((x.val/18446744073709551616%18446744073709551616:Nat):Int)=b at heq ⊢
 generalize ((x.val/340282366920938463463374607431768211456%18446744073709551616:Nat):Int)=c at heq ⊢
 generalize ((x.val/6277101735386680763835789423207666416102355444464034512896%18446744073709551616:Nat):Int)=d at heq ⊢
 generalize ((y.val%18446744073709551616:Nat):Int)=p at heq ⊢
 generalize ((y.val/18446744073709551616%18446744073709551616:Nat):Int)=q at heq ⊢
 generalize ((y.val/340282366920938463463374607431768211456%18446744073709551616:Nat):Int)=r at heq ⊢
 generalize ((y.val/6277101735386680763835789423207666416102355444464034512896%18446744073709551616:Nat):Int)=s at heq ⊢
 have hmk:=mk33
 generalize hT:(Array.replicate 33 0:Bs)=T
 go_enter Tryd.func19,Tryd.ntmps19
 go_wp2
 go_ret
 have hM:=made33 w (.cells #[.int .u64 a,.int .u64 b,.int .u64 c,.int .u64 d,.int .u64 p,.int .u64 q,.int .u64 r,.int .u64 s] 53)
 rw[hT] at hM
 exact ⟨_,rfl,below2 _ _ _,_,33,rfl,by omega,by omega,by simp,hM⟩
theorem grow33 (w:World) (k g m:Nat) (B:Bs) (hB:B.size=32) (hc:w.cell? ⟨k,0,none⟩=some (.int .u8 m)) (hH:Holds encB w g 0 B) (hm:m<256:=by decide) :
 ∃ (w':World) (cap:Nat),(Builtin.append_ #[23,23] 23 #[.slice (some ⟨k,0,none⟩) 1 1,.slice (some ⟨g,0,none⟩) 32 32]).run Tryd.prog w=.ok (.slice (some ⟨w.heap.size,0,none⟩) 33 cap) w'∧Below w.heap.size w w'∧33≤cap∧w.heap.size<w'.heap.size∧Holds encB w' w.heap.size 0 (#[UInt8.ofNat m]++B):=by
 obtain ⟨i,hi,hzz⟩:=Option.map_eq_some_iff.1 info5b
 simp only[Prod.mk.injEq] at hzz
 obtain ⟨hz,hs,hb⟩:=hzz
 have hap:=run_append_grow (P:=Tryd.prog) w 23 23 5 i (.int .u8 0) und23 hi hz ⟨k,0,none⟩ 1 1 [.int .u8 m] (by rw[hs];rfl) (fun j v hj=>by
  cases j with
  | zero =>
   obtain rfl:Value.int .u8 m=v:=by simpa using hj
   rw[Addr.add_mid]
   exact hc
  | succ j=>simp at hj) ⟨g,0,none⟩ 32 32 (B.toList.map encB) (by rw[hs,List.length_map,Array.length_toList,hB]) (fun j v hj=>by
  have hj':j<B.size:=by
   have:=(List.getElem?_eq_some_iff.1 hj).1
   rwa[List.length_map,Array.length_toList] at this
  rw[Addr.add_mid,(hH j hj').1]
  rw[List.getElem?_map,Array.getElem?_toList,Array.getElem?_eq_getElem hj'] at hj
  rw[getElem!_pos B j hj']
  exact hj) (by decide) (by decide) (by rw[hb];decide)
 refine ⟨_,_,hap,?_,?_,?_,?_⟩
 ·exact (Below.refl _ w).drew.trans (below1 w.drew _)
 ·exact grownCap_ge w (1+32) 1 5
 ·show w.drew.heap.size<(w.drew.alloc _).heap.size
  rw[World.size_alloc]
  exact Nat.lt_succ_self _
 ·intro j hj
  have hsz:(#[UInt8.ofNat m]++B).size=33:=by rw[Array.size_append,hB];rfl
  have hj':j<33:=by rw[← hsz];exact hj
  refine ⟨?_,World.frozen?_alloc_new w.drew _ _ _⟩
  show (w.drew.alloc _).cell? ⟨w.drew.heap.size,0+j,none⟩=_
  rw[Nat.zero_add,World.cell?_alloc_new,getElem!_pos _ j hj,Array.getElem?_append_left (by
   rw[Array.size_append,List.size_toArray,List.size_toArray,List.length_map,Array.length_toList]
   show j<1+B.size
   omega)]
  cases j with
  | zero =>
   rw[Array.getElem?_append_left (by simp),Array.getElem_append_left (by simp)]
   show some (Value.int .u8 m)=some (encB (UInt8.ofNat m))
   unfold encB
   rw[ub_ofNat,Nat.mod_eq_of_lt hm]
  | succ i =>
   rw[Array.getElem?_append_right (by simp),Array.getElem_append_right (by simp),List.getElem?_toArray,List.getElem?_map,Array.getElem?_toList]
   show Option.map encB B[i]? = some (encB B[i])
   rw[Array.getElem?_eq_getElem (by omega)]
   rfl
theorem keptP (w:World) (a b c d p q r s:Nat):Kept w w.heap.size [⟨w.heap.size,0,a,b,c,d⟩,⟨w.heap.size,4,p,q,r,s⟩] (w.alloc (.cells #[.int .u64 a,.int .u64 b,.int .u64 c,.int .u64 d,.int .u64 p,.int .u64 q,.int .u64 r,.int .u64 s] 53)):=by
 have F:=At8.made w 53 a b c d p q r s rfl
 refine ((Kept.mk1 (below1 w _) (below1 w _).size).cons ?_).cons ?_
 ·exact ⟨F.c4,F.c5,F.c6,F.c7,F.fz⟩
 ·exact ⟨F.c0,F.c1,F.c2,F.c3,F.fz⟩
theorem bytes_odd (C:Fld P) (x y:Fin P) (hz:¬ (x=0∧y=0)) (ho:y.val%2=1) (w:World):Calls Tryd.prog 19 #[pv x y] w (Ret fun e w'=>Below w.heap.size w w'∧BytesR w (#[3]++bx x.val) e w'):=by
 have heq:=eqPt_f C (x:=x) (y:=y) (z:=0) (t:=0) hz
 rw[← zero_pv,pv_words] at heq
 rw[pv_words]
 have hO:∀ w,Calls Tryd.prog 32 #[.agg #[.int .u64 ((y.val%18446744073709551616:Nat):Int),.int .u64 ((y.val/18446744073709551616%18446744073709551616:Nat):Int),.int .u64 ((y.val/340282366920938463463374607431768211456%18446744073709551616:Nat):Int),.int .u64 ((y.val/6277101735386680763835789423207666416102355444464034512896%18446744073709551616:Nat):Int)]] w (Ret fun e w'=>Below w.heap.size w w'∧e=.bool true):=fun w=>by
  have h:=Odd_c C y w
  rw[decide_eq_true ho] at h
  exact h
 have hBy:∀ w,Calls Tryd.prog 28 #[.agg #[.int .u64 ((x.val%18446744073709551616:Nat):Int),.int .u64 ((x.val/18446744073709551616%18446744073709551616:Nat):Int),.int .u64 ((x.val/340282366920938463463374607431768211456%18446744073709551616:Nat):Int),.int .u64 ((x.val/6277101735386680763835789423207666416102355444464034512896%18446744073709551616:Nat):Int)]] w (Ret fun e w'=>Below w.heap.size w w'∧∃ g,e=.slice (some ⟨g,0,none⟩) 32 32∧w.heap.size≤g∧Holds encB w' g 0 (bx x.val)):=Bytes_c C x
 have hbs:=bx_size x.val
 generalize bx x.val=B at hBy hbs ⊢
 generalize x.val%18446744073709551616=a at heq hO hBy ⊢
 generalize x.val/18446744073709551616%18446744073709551616=b at heq hO hBy ⊢
 generalize x.val/340282366920938463463374607431768211456%18446744073709551616=c at heq hO hBy ⊢
 generalize x.val/6277101735386680763835789423207666416102355444464034512896%18446744073709551616=d at heq hO hBy ⊢
 generalize y.val%18446744073709551616=p at heq hO hBy ⊢
 generalize y.val/18446744073709551616%18446744073709551616=q at heq hO hBy ⊢
 generalize y.val/340282366920938463463374607431768211456%18446744073709551616=r at heq hO hBy ⊢
 generalize y.val/6277101735386680763835789423207666416102355444464034512896%18446744073709551616=s at heq hO hBy ⊢
 have HQ:Hid (∀ w,(binOp .eql 53 _ _).run Tryd.prog w=_):=heq
 go_enter Tryd.func19,Tryd.ntmps19
 go_wp2_with fail
 have KP:=keptP w a b c d p q r s
 clear heq
 generalize World.alloc _ _=W0 at KP ⊢
 generalize hk:w.heap.size=k0 at KP ⊢
 refine (hO _).mono ?_
 rintro e w1 ⟨v,rfl,hb1,rfl⟩
 replace KP:=KP.call hb1
 clear hb1 HQ hO
 obtain ⟨xc0,xc1,xc2,xc3,xf⟩:=KP.head
 have zx:=KP.head.lt
 go_wp2_with fail
 refine (hBy _).mono ?_
 rintro e w2 ⟨v,rfl,hb2,g,rfl,hg,hH⟩
 have hc:w2.cell? ⟨w1.heap.size,0,none⟩=some (.int .u8 3):=by
  rw[hb2.cell (p:=⟨w1.heap.size,0,none⟩) (by show w1.heap.size<_;rw[World.size_alloc];omega),World.cell?_alloc_new]
  rfl
 have hle:k0≤w2.heap.size:=Nat.le_trans KP.le (Nat.le_trans (by rw[World.size_alloc];omega) hb2.size)
 have hbl:Hid (Below k0 w w2):=((KP.alloc _).call hb2).bl
 clear KP hb2 xc0 xc1 xc2 xc3 xf zx hg
 obtain ⟨W3,cp,hap,hb3,hcp,hsz3,hH3⟩:=grow33 w2 w1.heap.size g 3 B hbs hc hH
 generalize w1.heap.size=km at hap ⊢
 go_wp2_with (at_builtin;refine Lib.wpList_append_run _ rfl _ _ 23 23 rfl _ _ rfl rfl _ _ hap ?_)
 go_ret
 refine ⟨_,rfl,?_,_,cp,rfl,hcp,?_,hsz3,hH3⟩
 ·rw[hk];exact hbl.out.trans (hb3.mono hle)
 ·rw[hk];exact hle
theorem bytes_even (C:Fld P) (x y:Fin P) (hz:¬ (x=0∧y=0)) (ho:¬ y.val%2=1) (w:World):Calls Tryd.prog 19 #[pv x y] w (Ret fun e w'=>Below w.heap.size w w'∧BytesR w (#[2]++bx x.val) e w'):=by
 have heq:=eqPt_f C (x:=x) (y:=y) (z:=0) (t:=0) hz
 rw[← zero_pv,pv_words] at heq
 rw[pv_words]
 have hO:∀ w,Calls Tryd.prog 32 #[.agg #[.int .u64 ((y.val%18446744073709551616:Nat):Int),.int .u64 ((y.val/18446744073709551616%18446744073709551616:Nat):Int),.int .u64 ((y.val/340282366920938463463374607431768211456%18446744073709551616:Nat):Int),.int .u64 ((y.val/6277101735386680763835789423207666416102355444464034512896%18446744073709551616:Nat):Int)]] w (Ret fun e w'=>Below w.heap.size w w'∧e=.bool false):=fun w=>by
  have h:=Odd_c C y w
  rw[decide_eq_false ho] at h
  exact h
 have hBy:∀ w,Calls Tryd.prog 28 #[.agg #[.int .u64 ((x.val%18446744073709551616:Nat):Int),.int .u64 ((x.val/18446744073709551616%18446744073709551616:Nat):Int),.int .u64 ((x.val/340282366920938463463374607431768211456%18446744073709551616:Nat):Int),.int .u64 ((x.val/6277101735386680763835789423207666416102355444464034512896%18446744073709551616:Nat):Int)]] w (Ret fun e w'=>Below w.heap.size w w'∧∃ g,e=.slice (some ⟨g,0,none⟩) 32 32∧w.heap.size≤g∧Holds encB w' g 0 (bx x.val)):=Bytes_c C x
 have hbs:=bx_size x.val
 generalize bx x.val=B at hBy hbs ⊢
 generalize x.val%18446744073709551616=a at heq hO hBy ⊢
 generalize x.val/18446744073709551616%18446744073709551616=b at heq hO hBy ⊢
 generalize x.val/340282366920938463463374607431768211456%18446744073709551616=c at heq hO hBy ⊢
 generalize x.val/6277101735386680763835789423207666416102355444464034512896%18446744073709551616=d at heq hO hBy ⊢
 generalize y.val%18446744073709551616=p at heq hO hBy ⊢
 generalize y.val/18446744073709551616%18446744073709551616=q at heq hO hBy ⊢
 generalize y.val/340282366920938463463374607431768211456%18446744073709551616=r at heq hO hBy ⊢
 generalize y.val/6277101735386680763835789423207666416102355444464034512896%18446744073709551616=s at heq hO hBy ⊢
 have HQ:Hid (∀ w,(binOp .eql 53 _ _).run Tryd.prog w=_):=heq
 go_enter Tryd.func19,Tryd.ntmps19
 go_wp2_with fail
 have KP:=keptP w a b c d p q r s
 clear heq
 generalize World.alloc _ _=W0 at KP ⊢
 generalize hk:w.heap.size=k0 at KP ⊢
 refine (hO _).mono ?_
 rintro e w1 ⟨v,rfl,hb1,rfl⟩
 replace KP:=KP.call hb1
 clear hb1 HQ hO
 obtain ⟨xc0,xc1,xc2,xc3,xf⟩:=KP.head
 have zx:=KP.head.lt
 go_wp2_with fail
 refine (hBy _).mono ?_
 rintro e w2 ⟨v,rfl,hb2,g,rfl,hg,hH⟩
 have hc:w2.cell? ⟨w1.heap.size,0,none⟩=some (.int .u8 2):=by
  rw[hb2.cell (p:=⟨w1.heap.size,0,none⟩) (by show w1.heap.size<_;rw[World.size_alloc];omega),World.cell?_alloc_new]
  rfl
 have hle:k0≤w2.heap.size:=Nat.le_trans KP.le (Nat.le_trans (by rw[World.size_alloc];omega) hb2.size)
 have hbl:Hid (Below k0 w w2):=((KP.alloc _).call hb2).bl
 clear KP hb2 xc0 xc1 xc2 xc3 xf zx hg
 obtain ⟨W3,cp,hap,hb3,hcp,hsz3,hH3⟩:=grow33 w2 w1.heap.size g 2 B hbs hc hH
 generalize w1.heap.size=km at hap ⊢
 go_wp2_with (at_builtin;refine Lib.wpList_append_run _ rfl _ _ 23 23 rfl _ _ rfl rfl _ _ hap ?_)
 go_ret
 refine ⟨_,rfl,?_,_,cp,rfl,hcp,?_,hsz3,hH3⟩
 ·rw[hk];exact hbl.out.trans (hb3.mono hle)
 ·rw[hk];exact hle
theorem bytes_c (C:Fld P) (x y:Fin P) (w:World):Calls Tryd.prog 19 #[pv x y] w (Ret fun e w'=>Below w.heap.size w w'∧BytesR w (by33 x y) e w'):=by
 unfold by33 mark
 by_cases hz:x=0∧y=0
 ·rw[if_pos hz]
  exact bytes_zero C x y hz w
 ·rw[if_neg hz]
  by_cases ho:y.val%2=1
  ·rw[if_pos ho]
   exact bytes_odd C x y hz ho w
  ·rw[if_neg ho]
   exact bytes_even C x y hz ho w
theorem u23:(Tryd.prog.underlying 23).map (·.isRow)=some false:=by kernel_rfl
theorem at46 (k o n c i:Nat) (hi:i<n) (w:World):(Instr.indexAt 24 (.slice (some ⟨k,o,none⟩) n c) (.int .i64 i)).run Tryd.prog w=.ok (.pointer (some ⟨k,o+i,none⟩)) w:=by
 have h1:¬ (i:Int)<0:=by omega
 have h2:(i:Int)<n:=by omega
 go_simp
theorem mk112 (N:Nat) (hN:N≤512):∃ C0:List Value,C0.length=8*N∧∀ w:World,(Instr.makeSlice 72 (.int .i64 N) (.int .i64 N)).run Tryd.prog w=.ok (.slice (some ⟨w.heap.size,0,none⟩) N N) (w.alloc (.cells C0.toArray 53)):=by
 have hu:Tryd.prog.underlying 72=some (.slice 53):=by kernel_rfl
 have hi:(Tryd.prog.info? 53).map (fun i=>(i.size,decide (i.bytes≤4000),i.zero.isSome))=some (8,true,true):=by kernel_rfl
 obtain ⟨i,hi1,hi2⟩:=Option.map_eq_some_iff.1 hi
 simp only[Prod.mk.injEq,decide_eq_true_eq] at hi2
 obtain ⟨h1,h2,h3⟩:=hi2
 obtain ⟨z,hz⟩:=Option.isSome_iff_exists.1 h3
 refine ⟨(madeCells z.cells (N*8)).toList,by rw[Array.length_toList,size_madeCells,Nat.mul_comm],fun w=>?_⟩
 have hb:(i.bytes:Int)*(N:Int)≤281474976710656:=by
  have:i.bytes*N≤4000*512:=Nat.mul_le_mul h2 hN
  have h5:((i.bytes*N:Nat):Int)≤281474976710656:=by omega
  rwa[Int.natCast_mul] at h5
 have:=run_make (P:=Tryd.prog) w 72 53 i z hu hi1 hz .i64 .i64 (N:Int) (N:Int) (by omega) (by omega) hb (by omega)
 rw[Int.toNat_natCast,h1] at this
 rw[Array.toArray_toList]
 exact this
theorem mk82 (N:Nat) (hN:N≤512):∃ C0:List Value,C0.length=4*N∧∀ w:World,(Instr.makeSlice 69 (.int .i64 N) (.int .i64 N)).run Tryd.prog w=.ok (.slice (some ⟨w.heap.size,0,none⟩) N N) (w.alloc (.cells C0.toArray 44)):=by
 have hu:Tryd.prog.underlying 69=some (.slice 44):=by kernel_rfl
 have hi:(Tryd.prog.info? 44).map (fun i=>(i.size,decide (i.bytes≤4000),i.zero.isSome))=some (4,true,true):=by kernel_rfl
 obtain ⟨i,hi1,hi2⟩:=Option.map_eq_some_iff.1 hi
 simp only[Prod.mk.injEq,decide_eq_true_eq] at hi2
 obtain ⟨h1,h2,h3⟩:=hi2
 obtain ⟨z,hz⟩:=Option.isSome_iff_exists.1 h3
 refine ⟨(madeCells z.cells (N*4)).toList,by rw[Array.length_toList,size_madeCells,Nat.mul_comm],fun w=>?_⟩
 have hb:(i.bytes:Int)*(N:Int)≤281474976710656:=by
  have:i.bytes*N≤4000*512:=Nat.mul_le_mul h2 hN
  have h5:((i.bytes*N:Nat):Int)≤281474976710656:=by omega
  rwa[Int.natCast_mul] at h5
 have:=run_make (P:=Tryd.prog) w 69 44 i z hu hi1 hz .i64 .i64 (N:Int) (N:Int) (by omega) (by omega) hb (by omega)
 rw[Int.toNat_natCast,h1] at this
 rw[Array.toArray_toList]
 exact this
structure Rows (sz N:Nat) (cell:Nat→List Value) (m:Nat) (C:List Value):Prop where
 len:C.length=sz*N
 row:∀ j r,j<m→r<sz→C[sz*j+r]? = (cell j)[r]?
theorem Rows.next {sz N m:Nat} {cell:Nat→List Value} {C:List Value} (h:Rows sz N cell m C) (hm:m<N) (hc:(cell m).length=sz):Rows sz N cell (m+1) (RG.rep C (0+sz*m) (cell m)):=by
 have hlen:=h.len
 have hb:sz*m+sz≤sz*N:=by rw[← Nat.mul_succ];exact Nat.mul_le_mul_left _ hm
 have hl:0+sz*m+(cell m).length≤C.length:=by rw[hc];omega
 refine ⟨by rw[RG.rep_length hl];exact hlen,fun j r hj hr=>?_⟩
 rw[RG.rep_at hl]
 by_cases hjm:j=m
 ·subst hjm
  rw[if_pos (by rw[hc];omega),show sz*j+r-(0+sz*j)=r by omega]
 ·have h2:sz*j+sz≤sz*m:=by rw[← Nat.mul_succ];exact Nat.mul_le_mul_left _ (by omega)
  rw[if_neg (by rw[hc];omega)]
  exact h.row j r (by omega) hr
def rq (N:Nat) (bs:Bs):Option Nat:=if bs.size=32∧beV bs.toList<N then some (beV bs.toList) else none
def rqV:Option Nat→Value
 | none=>.tuple #[nv 0,.bool false]
 | some n=>.tuple #[nv n,.bool true]
theorem Scalars_c:Gives 42 #[] gv1:=fun w=>(Scalars_any w).mono (by rintro e w' ⟨rfl,rfl⟩;exact ⟨_,rfl,below1 _ _,rfl⟩)
theorem readQ_c {N:Nat} (hG:Gap 4624529908474429119 4994812053365940164 1 N) (v:Value) (bs:Bs) (w:World) (hv:Arg w v bs):Calls Tryd.prog 43 #[gv1,v] w (Ret fun e w'=>Below w.heap.size w w'∧e=rqV (rq N bs)):=by
 obtain ⟨p,n,cap,rfl,hs,h1⟩:=hv
 unfold rq
 by_cases hn:n=32
 ·subst hn
  obtain ⟨g,o,rfl,h4,h6,h7⟩:=h1 rfl
  refine (Read_any _ _ _ N g o cap bs hG w hs h4 h6 h7).mono ?_
  rintro e w' ⟨v,rfl,hb,⟨hl,v',rfl,h8⟩|⟨hl,rfl⟩⟩
  ·rw[if_pos ⟨hs,hl⟩]
   exact ⟨_,rfl,hb,by rw[h8.nv];rfl⟩
  ·rw[if_neg (fun h=>by omega)]
   exact ⟨_,rfl,hb,rfl⟩
 ·refine (Read_len _ p n cap w _ _ _ rfl hn).mono ?_
  rintro e w' ⟨v,rfl,hb,rfl⟩
  rw[if_neg (fun h=>hn (hs.symm.trans h.1))]
  exact ⟨_,rfl,hb,rfl⟩
end
section
open Go.RowKit Go.Sort
variable {P:Nat} [NeZero P] {N:Nat}
structure RefP (p0 p1 p2 p3 c0 c1 c2 c3 P:Nat):Prop where
 hp0:p0<18446744073709551616
 hp1:p1<18446744073709551616
 hp2:p2<18446744073709551616
 hp3:p3<18446744073709551616
 hc0:c0<18446744073709551616
 hc1:c1<18446744073709551616
 hc2:c2<18446744073709551616
 hc3:c3<18446744073709551616
 eP:P=val p0 p1 p2 p3
 hP:P+val c0 c1 c2 c3=top
 hP2:top<2*P
theorem refP1:RefP 13822214165235122497 13451932020343611451 18446744073709551614 18446744073709551615 4624529908474429119 4994812053365940164 1 0 Go.Proofs.YtgdfkblfggnnfaaDoor.p1:=
 ⟨by decide,by decide,by decide,by decide,by decide,by decide,by decide,by decide,by decide +kernel,by decide +kernel,by decide +kernel⟩
def Eight (v:Value) (n:Nat):Prop:=∃ a b c d a' b' c' d':Nat,v=.agg #[.int .u64 a,.int .u64 b,.int .u64 c,.int .u64 d,.int .u64 a',.int .u64 b',.int .u64 c',.int .u64 d'] ∧
 a<18446744073709551616∧b<18446744073709551616∧c<18446744073709551616∧d<18446744073709551616∧a'<18446744073709551616∧b'<18446744073709551616∧c'<18446744073709551616∧d'<18446744073709551616 ∧
 n=val a b c d+top*val a' b' c' d'
end
section
open Go.RowKit Go.Sort
section
variable {w w0:World} {k a b c d e f g h j B:Nat}
end
end
section
open Go.RowKit Go.Sort
variable {P:Nat} [NeZero P] {N:Nat}
end
section
open Go.RowKit Go.Sort Go.Deep
variable {P:Nat} [NeZero P] {N:Nat}
def wordOf (a b c d k:Nat):Nat:=if k<8 then a else if k<16 then b else if k<24 then c else d
end
section
open Go.RowKit Go.Sort Go.Deep
structure Ord (N:Nat):Prop where
 gap:Gap 4624529908474429119 4994812053365940164 1 N
 ref:RefP 13822214165235122497 13451932020343611451 18446744073709551614 18446744073709551615 4624529908474429119 4994812053365940164 1 0 N
 le:N≤top
 n2:2≤N%18446744073709551616
variable {N:Nat}
theorem Ord.pos (O:Ord N):0<N:=by have:=O.n2;omega
theorem Ord.four (O:Ord N) {a:Nat} (h:a<N):Four (nv a) a:=four_nv (Nat.lt_of_lt_of_le h O.le)
theorem nv_words {a x y z u:Nat} (h:nv a=.agg #[.int .u64 x,.int .u64 y,.int .u64 z,.int .u64 u]):be32 x y z u=bx a:=by
 have h1:wn a=[.int .u64 x,.int .u64 y,.int .u64 z,.int .u64 u]:=by
  unfold nv at h
  injection h with h
  exact congrArg Array.toList h
 unfold wn at h1
 simp only[List.cons.injEq,Value.int.injEq,true_and,and_true,Int.natCast_inj] at h1
 obtain ⟨rfl,rfl,rfl,rfl⟩:=h1
 rfl
def cb (b:Bs):List Value:=b.toList.map encB
theorem cb_length (b:Bs):(cb b).length=b.size:=by unfold cb;rw[List.length_map,Array.length_toList]
theorem cb_range {w:World} {g:Nat} {b:Bs} (h:Holds encB w g 0 b):w.rangeAt g 0 (cb b)∧w.there g 0 (cb b).length:=by
 refine ⟨fun j v hv=>?_,fun j hj=>?_⟩
 ·have hj:j<b.size:=by rw[← cb_length];exact (List.getElem?_eq_some_iff.1 hv).1
  rw[(h j hj).1]
  unfold cb at hv
  rw[List.getElem?_map,Array.getElem?_toList,Array.getElem?_eq_getElem hj] at hv
  rw[getElem!_pos b j hj]
  exact hv
 ·rw[cb_length] at hj
  exact ⟨by rw[(h j hj).1];rfl,(h j hj).2⟩
theorem cb_holds {w:World} {g:Nat} {b:Bs} (h1:w.rangeAt g 0 (cb b)) (h2:w.there g 0 (cb b).length):Holds encB w g 0 b:=fun j hj=>by
 refine ⟨h1 j _ ?_,(h2 j (by rw[cb_length];exact hj)).2⟩
 unfold cb
 rw[List.getElem?_map,Array.getElem?_toList,Array.getElem?_eq_getElem hj,getElem!_pos b j hj]
 rfl
def GivesB (f:FuncId) (args:Array Value) (b:Bs) (n:Nat):Prop:=∀ w,Calls Tryd.prog f args w (Ret fun e w'=>∃ k,RG.Made w k (cb b) w'∧e=.slice (some ⟨k,0,none⟩) n n)
theorem sBytes_c (O:Ord N) {a:Nat} (ha:a<N):GivesB 28 #[nv a] (bx a) 32:=fun w =>
 (Bytes_any _ a w (O.four ha)).mono (by
  rintro e w' ⟨v,rfl,hb,g,x,y,z,u,rfl,hle,he,hH⟩
  rw[nv_words he] at hH
  obtain ⟨h1,h2⟩:=cb_range hH
  exact ⟨_,rfl,g,⟨hb,hle,Holds.lt hH (by rw[bx_size];omega),h1,h2⟩,rfl⟩)
end
section
open Go.RowKit Go.Sort Go.Deep
variable {P:Nat} [NeZero P] {N:Nat}
theorem eqS2 (a b c d p q r s:Nat) (w:World):(binOp .eql 46 (.agg #[.int .u64 a,.int .u64 b,.int .u64 c,.int .u64 d]) (.agg #[.int .u64 p,.int .u64 q,.int .u64 r,.int .u64 s])).run Tryd.prog w=.ok (.bool (decide (a=p∧b=q∧c=r∧d=s))) w:=by
 go_simp
 rw[eqP_d 9997,Result.andThen_ok]
 by_cases h1:a=p∧b=q∧c=r∧d=s
 ·rw[decide_eq_true h1]
  obtain ⟨rfl,rfl,rfl,rfl⟩:=h1
  simp
 ·have h2:(decide (a=p) && (decide (b=q) && (decide (c=r) && decide (d=s))))=false:=by
   rw[← Bool.not_eq_true,Bool.and_eq_true,Bool.and_eq_true,Bool.and_eq_true]
   simpa using h1
  rw[decide_eq_false h1,h2]
  simp
theorem eqS {a b:Nat} (ha:a<top) (hb:b<top) (w:World):(binOp .eql 46 (nv a) (nv b)).run Tryd.prog w=.ok (.bool (decide (a=b))) w:=by
 refine (eqS2 (a%18446744073709551616) (a/18446744073709551616%18446744073709551616) (a/340282366920938463463374607431768211456%18446744073709551616) (a/6277101735386680763835789423207666416102355444464034512896%18446744073709551616) (b%18446744073709551616) (b/18446744073709551616%18446744073709551616) (b/340282366920938463463374607431768211456%18446744073709551616) (b/6277101735386680763835789423207666416102355444464034512896%18446744073709551616) w).trans ?_
 simp only[wn_inj ha hb]
theorem u40:(Tryd.prog.underlying 46).map (·.isRow)=some true:=by kernel_rfl
theorem i40:(Tryd.prog.info? 46).map (·.size)=some 4:=by kernel_rfl
theorem u38:(Tryd.prog.underlying 44).map (·.isRow)=some true:=by kernel_rfl
theorem i38:(Tryd.prog.info? 44).map (·.size)=some 4:=by kernel_rfl
theorem sbytes_c (O:Ord N) {a:Nat} (ha:a<N):GivesB 16 #[nv a] (bx a) 32:=by
 intro w
 go_enter Tryd.func16,Tryd.ntmps16
 refine RG.M.enter [(0,.v (nv a))] 6 (by kernel_rfl) ?_
 intro a0 M0
 repeat refine wp_seq ?_
 refine M0.t [.m 1 [] 0,.x 2 [] (.slice none 0 0)] [(0,(wn a))] [] [(wn a)] [(1,(.p 0 0)),(2,(.v (.slice none 0 0)))] ⟨RG.mk 0 46,RG.st,trivial⟩ ?_
 intro j1 a1 w1 M1
 repeat refine wp_seq ?_
 refine M1.t [.s 3 [] (.p 0 0),.x 4 [(3,0)] (nv a),⟨some 5,[(4,1)],(.s 1 32 32),.make 1⟩,.s 2 [(5,2)] (.s 1 32 32)] [(2,(cb (bx a)))] [] [(wn a),(cb (bx a))] [(2,(.s 1 32 32))] ⟨RG.st,RG.ld u38 i38,RG.cm 1 (fun w _=>sBytes_c O ha w) fun _ _=>by kernel_rfl,RG.st,trivial⟩ ?_
 intro j2 a2 w2 M2
 refine wp_ret ?_
 refine bodyPost_ret (v:=_) (RG.results_t 2 rfl _ (M2.at (s:=.s 1 32 32))) M2.sl.defers ?_
 exact ⟨_,rfl,_,M2.st.made (b:=1) rfl,rfl⟩
end
namespace SP
open Go.RowKit Go.Sort Go.Deep
end SP
namespace SP
open Go.RowKit Go.Sort Go.Deep
theorem strm_size (l:List UInt8) (n:Nat):(strmL l n).size=n:=by rw[strmL,streamL_size]
end SP
namespace SP
open Go.RowKit Go.Sort Go.Deep
end SP
section
open Go.RowKit Go.Sort
variable {P:Nat} [NeZero P] {N:Nat}
def ArgsPts (w:World) (q:Option Addr) (n:Nat) (L:Nat→Bs):Prop:=0<n→∃ gg,q=some ⟨gg,0,none⟩∧gg<w.heap.size∧∀ j,j<n→∃ v,w.cell? ⟨gg,j,none⟩=some v∧Arg33 w v (L j)
def PtsR (P:Nat) [NeZero P] (w:World) (n:Nat) (L:Nat→Bs) (e:Value) (w':World):Prop:=
 (∃ k,w.heap.size≤k∧k<w'.heap.size∧e=.tuple #[.slice (some ⟨k,0,none⟩) n n,.int .i64 0]∧∀ j,j<n→∃ p,rd P (L j)=some p∧w'.rangeAt k (8*j) (ws p.1++ws p.2)) ∨
 ((∃ j,j<n∧rd P (L j)=none)∧e=.tuple #[.slice none 0 0,.int .i64 4])
theorem Pts_c (F:Fld P) (n cap:Nat) (hn:n≤512) (q:Option Addr) (L:Nat→Bs) (w:World) (hA:ArgsPts w q n L):Calls Tryd.prog 30 #[.slice q n cap] w (Ret fun e w'=>Below w.heap.size w w'∧PtsR P w n L e w'):=by
 obtain ⟨C,hCl,hmk⟩:=mk112 n hn
 obtain ⟨i,-⟩:∃ i:Nat,i=0:=⟨_,rfl⟩
 obtain ⟨gg,-⟩:∃ i:Nat,i=0:=⟨_,rfl⟩
 obtain ⟨m,-⟩:∃ i:Nat,i=0:=⟨_,rfl⟩
 obtain ⟨v,-⟩:∃ v:Value,v=.bool true:=⟨_,rfl⟩
 obtain ⟨x,-⟩:∃ x:Fin P,x=0:=⟨_,rfl⟩
 obtain ⟨y,-⟩:∃ x:Fin P,x=0:=⟨_,rfl⟩
 obtain ⟨C2,-⟩:∃ c:List Value,c=C:=⟨_,rfl⟩
 go_enter Tryd.func30,Tryd.ntmps30
 refine RG.var1 (v0:=.slice q n cap) (n:=32) (by kernel_rfl) (by kernel_rfl) (by kernel_rfl) ?_
 intro a0 sl0 f0
 have hS0:=RG.St.begin w
 have M0:RG.M w w.heap.size [] 32 [] [] [(0,(.v (.slice q n cap)))] a0 _:=⟨hS0,sl0,⟨f0,trivial⟩⟩
 repeat refine wp_seq ?_
 refine M0.u [.x 2 [] (.slice none 0 0),.x 3 [] (.int .i64 0)] [(0,(.v (.slice q n cap))),(2,(.v (.slice none 0 0))),(3,(.v (.int .i64 0)))] ⟨RG.st,RG.st,trivial⟩ ?_
 intro a1 w1 M1
 repeat refine wp_seq ?_
 refine M1.t [.x 9 [] (.slice q n cap),.x 10 [(9,0)] (.int .i64 n),⟨some 11,[(10,1)],(.s 0 n n),.make 0⟩,.s 4 [(11,2)] (.s 0 n n)] [(2,C)] [] [C] [(0,(.v (.slice q n cap))),(2,(.v (.slice none 0 0))),(3,(.v (.int .i64 0))),(4,(.s 0 n n))] ⟨RG.st,RG.cert_one rfl 9 (.v (.slice q n cap)) (.int .i64 n) rfl RG.sx (fun a w=>by kernel_rfl) (fun μ w=>by kernel_rfl),RG.cert_makes 0 rfl _ rfl 72 53 10 10 n rfl rfl RG.sx RG.sx (hmk),RG.st,trivial⟩ ?_
 intro j2 a2 w2 M2
 repeat refine wp_seq ?_
 refine M2.u [.x 12 [] (.slice q n cap),.x 13 [(12,0)] (.int .i64 n),.x 14 [] (.int .i64 0)] [(2,(.v (.slice none 0 0))),(3,(.v (.int .i64 0))),(4,(.s 0 n n)),(12,(.v (.slice q n cap))),(13,(.v (.int .i64 n))),(14,(.v (.int .i64 0)))] ⟨RG.st,RG.cert_one rfl 12 (.v (.slice q n cap)) (.int .i64 n) rfl RG.sx (fun a w=>by kernel_rfl) (fun μ w=>by kernel_rfl),RG.st,trivial⟩ ?_
 intro a3 w3 M3
 have f2_3:a3.tmps[2]? = some (.slice none 0 0):=M3.at (s:=(.v (.slice none 0 0)))
 have f3_3:a3.tmps[3]? = some (.int .i64 0):=M3.at (s:=(.v (.int .i64 0)))
 have f4_3:a3.tmps[4]? = some (.slice (some ⟨j2,0,none⟩) n n):=M3.at (s:=(.s 0 n n))
 have f12_3:a3.tmps[12]? = some (.slice q n cap):=M3.at (s:=(.v (.slice q n cap)))
 have f13_3:a3.tmps[13]? = some (.int .i64 n):=M3.at (s:=(.v (.int .i64 n)))
 have f14_3:a3.tmps[14]? = some (.int .i64 0):=M3.at (s:=(.v (.int .i64 0)))
 repeat refine wp_seq ?_
 refine wp_block ?_
 refine wp_loop_ghost (fun m a wr=>∃ (i:Nat) (C:List Value),i+m=n∧(∀ j,j<i→(rd P (L j)).isSome=true)∧Rows 8 n (fun j=>match rd P (L j) with|some p=>ws p.1++ws p.2|none=>[]) i C∧RG.Sl a 32∧a.tmps[4]? = some (.slice (some ⟨j2,0,none⟩) n n)∧a.tmps[12]? = some (.slice q n cap)∧a.tmps[13]? = some (.int .i64 n)∧a.tmps[14]? = some (.int .i64 i)∧RG.St w w.heap.size [] [C] [j2] wr) n ⟨0,C,by omega,fun j hj=>by omega,⟨hCl,fun j r hj=>by omega⟩,M3.sl,f4_3,f12_3,f13_3,f14_3,M3.st⟩ ?_
 intro m' a wr
 rintro ⟨i,C,him,hall,hR,sl,p4,p12,p13,p14,hSp⟩
 generalize j2=kt at p4 hSp
 by_cases hi:i<n
 ·obtain ⟨gg,hqe,hgg,hc⟩:=hA (by omega)
  rw[hqe] at p12
  obtain ⟨v,hv,harg⟩:=hc i hi
  have hcell:w.cell? ⟨gg,0+i,none⟩=some v:=by rw[Nat.zero_add];exact hv
  cases hrdv:rd P (L i) with
  | some pp =>
   obtain ⟨x,y⟩:=pp
   have hrd:∀ w',RG.BelX w.heap.size [] w w'→Calls Tryd.prog 44 #[v] w' (Ret fun e w''=>Below w'.heap.size w' w''∧e=.tuple #[pv x y,.bool true]):=fun w' hb=>by
    have:=readPoint_c F v (L i) w' (harg.below hb.below)
    rw[hrdv] at this
    exact this
   have hlen:=hR.len
   have hoff:0+8*i+(ws x++ws y).length≤C.length:=by rw[hlen];show 0+8*i+8≤8*n;omega
   obtain ⟨C2,hC2e⟩:∃ c,RG.rep C (0+8*i) (ws x++ws y)=c:=⟨_,rfl⟩
   have hC2:=hC2e ▸ RG.rep_at hoff
   have hcl:C2.length=C.length:=hC2e ▸ RG.rep_length hoff
   have hR2:Rows 8 n (fun j=>match rd P (L j) with|some p=>ws p.1++ws p.2|none=>[]) (i+1) C2:=by
    have:=hR.next hi (by show List.length (match rd P (L i) with|some p=>_|none=>_)=_;rw[hrdv];rfl)
    rw[← hC2e]
    have e:(fun j=>match rd P (L j) with|some p=>ws p.1++ws p.2|none=>[]) i=(ws x++ws y):=by show (match rd P (L i) with|some p=>_|none=>_)=_;rw[hrdv]
    rw[← e]
    exact this
   have M10:RG.M w w.heap.size [] 32 [C] [kt] [(4,(.s 0 n n)),(12,(.v (.slice (some ⟨gg,0,none⟩) n cap))),(13,(.v (.int .i64 n))),(14,(.v (.int .i64 i)))] a _:=⟨hSp,sl,⟨p4,p12,p13,p14,trivial⟩⟩
   repeat refine wp_seq ?_
   refine M10.u [.x 15 [] (.bool true)] [(4,(.s 0 n n)),(12,(.v (.slice (some ⟨gg,0,none⟩) n cap))),(13,(.v (.int .i64 n))),(14,(.v (.int .i64 i))),(15,(.v (.bool true)))] ⟨RG.cert_bin rfl .lss 3 3 14 13 (.int .i64 i) (.int .i64 n) (.bool true) rfl rfl RG.sx RG.sx (fun w=>by kernel_rfl) (lssn_t hi),trivial⟩ ?_
   intro a11 w11 M11
   repeat refine wp_seq ?_
   refine wp_cond_true M11.ev ?_
   refine wp_skip ?_
   refine wp_seq ?_
   refine wp_block ?_
   repeat refine wp_seq ?_
   refine M11.u [.x 16 [] (.int .i64 i),.x 17 [] (.pointer (some ⟨gg,(0+i),none⟩)),.x 18 [(17,1)] v,.x 5 [(16,0)] (.int .i64 i),.x 6 [(18,2)] v] [(4,(.s 0 n n)),(5,(.v (.int .i64 i))),(6,(.v v)),(12,(.v (.slice (some ⟨gg,0,none⟩) n cap))),(13,(.v (.int .i64 n))),(14,(.v (.int .i64 i)))] ⟨RG.st,RG.cert_idx rfl 24 12 14 rfl (.v (.slice (some ⟨gg,0,none⟩) n cap)) (.int .i64 i) RG.sx RG.sx (fun μ w=>at46 _ 0 _ _ i hi w),RG.cert_load1B rfl gg (0+i) hgg List.not_mem_nil 23 17 rfl v rfl RG.sx hcell u23,RG.st,RG.st,trivial⟩ ?_
   intro a12 w12 M12
   repeat refine wp_seq ?_
   refine M12.t [.x 20 [] v,.c 21 [(20,0)] (.tuple #[(pv x y),(.bool true)]),.x 19 [(21,1)] (.tuple #[(pv x y),(.bool true)]),.x 22 [(19,2)] (pv x y),.x 23 [(19,2)] (.bool true),.m 7 [] 1,.u [(7,5),(22,3)] 1,.x 8 [(23,4)] (.bool true)] [(5,(RG.z 8))] [(1,6,(ws x++(ws y)))] [C,(ws x++(ws y))] [(4,(.s 0 n n)),(5,(.v (.int .i64 i))),(7,(.p 1 0)),(8,(.v (.bool true))),(12,(.v (.slice (some ⟨gg,0,none⟩) n cap))),(13,(.v (.int .i64 n))),(14,(.v (.int .i64 i)))] ⟨RG.st,RG.cert_callB1 rfl 44 20 v (.tuple #[(pv x y),(.bool true)]) rfl (fun a w=>by kernel_rfl) RG.sx hrd,RG.st,RG.st,RG.st,RG.mk 1 53,RG.pt i109,RG.st,trivial⟩ ?_
   intro j13 a13 w13 M13
   repeat refine wp_seq ?_
   refine M13.u [.x 24 [] (.bool true),.x 25 [(24,0)] (.bool false)] [(4,(.s 0 n n)),(5,(.v (.int .i64 i))),(7,(.p 1 0)),(12,(.v (.slice (some ⟨gg,0,none⟩) n cap))),(13,(.v (.int .i64 n))),(14,(.v (.int .i64 i))),(25,(.v (.bool false)))] ⟨RG.st,RG.st,trivial⟩ ?_
   intro a14 w14 M14
   repeat refine wp_seq ?_
   refine wp_cond_false M14.ev ?_
   refine wp_skip ?_
   repeat refine wp_seq ?_
   refine M14.tx [.s 26 [] (.s 0 n n),.x 27 [] (.int .i64 i),.x 28 [] (pv x y),.s 29 [(26,0),(27,1)] (.p 0 (0+8*i)),.u [(29,3),(28,2)] 0] [] [(0,4,C2)] [C2,(ws x++(ws y))] [(4,(.s 0 n n)),(12,(.v (.slice (some ⟨gg,0,none⟩) n cap))),(13,(.v (.int .i64 n))),(14,(.v (.int .i64 i)))] (by kernel_rfl) (congrArg (fun n=>[n]) hcl) ⟨RG.st,RG.st,RG.ld u109 i109,RG.cert_idx rfl 72 26 27 rfl (.s 0 n n) (.int .i64 i) RG.sx RG.sx (fun μ w=>at112 _ 0 _ _ i hi w),RG.cert_putAt 0 (0+8*i) rfl _ rfl 53 (.tmp 29) (.tmp 28) (ws x++ws y) rfl rfl RG.sx RG.sx hoff hC2 i109 rfl,trivial⟩ ?_
   intro a15 w15 M15
   repeat refine wp_seq ?_
   refine M15.u [.x 30 [] (.int .i64 ((i+1:Nat):Int)),.x 14 [(30,0)] (.int .i64 ((i+1:Nat):Int))] [(4,(.s 0 n n)),(12,(.v (.slice (some ⟨gg,0,none⟩) n cap))),(13,(.v (.int .i64 n))),(14,(.v (.int .i64 ((i+1:Nat):Int))))] ⟨RG.cert_binc rfl .add 3 3 14 (.int .i64 i) (.int .i64 1) (.int .i64 ((i+1:Nat):Int)) rfl rfl RG.sx (fun w=>by kernel_rfl) (addn i 1 (by omega) (by omega)),RG.st,trivial⟩ ?_
   intro a16 w16 M16
   have f4_16:a16.tmps[4]? = some (.slice (some ⟨kt,0,none⟩) n n):=M16.at (s:=(.s 0 n n))
   have f12_16:a16.tmps[12]? = some (.slice (some ⟨gg,0,none⟩) n cap):=M16.at (s:=(.v (.slice (some ⟨gg,0,none⟩) n cap)))
   have f13_16:a16.tmps[13]? = some (.int .i64 n):=M16.at (s:=(.v (.int .i64 n)))
   have f14_16:a16.tmps[14]? = some (.int .i64 ((i+1:Nat):Int)):=M16.at (s:=(.v (.int .i64 ((i+1:Nat):Int))))
   show ∃ n',_
   exact ⟨m'-1,by omega,i+1,C2,by omega,fun j hj=>(by
    by_cases hji:j=i
    ·rw[hji,hrdv];rfl
    ·exact hall j (by omega)),hR2,M16.sl,f4_16,(by rw[hqe];exact f12_16),f13_16,f14_16,RG.St.init (cs:=[C2]) (ks:=[kt]) M16.st⟩
  | none =>
   have hrd:∀ w',RG.BelX w.heap.size [] w w'→Calls Tryd.prog 44 #[v] w' (Ret fun e w''=>Below w'.heap.size w' w''∧e=.tuple #[pv (0:Fin P) 0,.bool false]):=fun w' hb=>by
    have:=readPoint_c F v (L i) w' (harg.below hb.below)
    rw[hrdv] at this
    exact this
   have M20:RG.M w w.heap.size [] 32 [C] [kt] [(4,(.s 0 n n)),(12,(.v (.slice (some ⟨gg,0,none⟩) n cap))),(13,(.v (.int .i64 n))),(14,(.v (.int .i64 i)))] a _:=⟨hSp,sl,⟨p4,p12,p13,p14,trivial⟩⟩
   repeat refine wp_seq ?_
   refine M20.u [.x 15 [] (.bool true)] [(12,(.v (.slice (some ⟨gg,0,none⟩) n cap))),(14,(.v (.int .i64 i))),(15,(.v (.bool true)))] ⟨RG.cert_bin rfl .lss 3 3 14 13 (.int .i64 i) (.int .i64 n) (.bool true) rfl rfl RG.sx RG.sx (fun w=>by kernel_rfl) (lssn_t hi),trivial⟩ ?_
   intro a21 w21 M21
   repeat refine wp_seq ?_
   refine wp_cond_true M21.ev ?_
   refine wp_skip ?_
   refine wp_seq ?_
   refine wp_block ?_
   repeat refine wp_seq ?_
   refine M21.u [.x 16 [] (.int .i64 i),.x 17 [] (.pointer (some ⟨gg,(0+i),none⟩)),.x 18 [(17,1)] v,.x 5 [(16,0)] (.int .i64 i),.x 6 [(18,2)] v] [(6,(.v v))] ⟨RG.st,RG.cert_idx rfl 24 12 14 rfl (.v (.slice (some ⟨gg,0,none⟩) n cap)) (.int .i64 i) RG.sx RG.sx (fun μ w=>at46 _ 0 _ _ i hi w),RG.cert_load1B rfl gg (0+i) hgg List.not_mem_nil 23 17 rfl v rfl RG.sx hcell u23,RG.st,RG.st,trivial⟩ ?_
   intro a22 w22 M22
   repeat refine wp_seq ?_
   refine M22.t [.x 20 [] v,.c 21 [(20,0)] (.tuple #[(pv (0:Fin P) (0:Fin P)),(.bool false)]),.x 19 [(21,1)] (.tuple #[(pv (0:Fin P) (0:Fin P)),(.bool false)]),.x 22 [(19,2)] (pv (0:Fin P) (0:Fin P)),.x 23 [(19,2)] (.bool false),.m 7 [] 1,.u [(7,5),(22,3)] 1,.x 8 [(23,4)] (.bool false)] [(5,(RG.z 8))] [(1,6,(ws (0:Fin P)++(ws (0:Fin P))))] [C,(ws (0:Fin P)++(ws (0:Fin P)))] [(8,(.v (.bool false)))] ⟨RG.st,RG.cert_callB1 rfl 44 20 v (.tuple #[(pv (0:Fin P) (0:Fin P)),(.bool false)]) rfl (fun a w=>by kernel_rfl) RG.sx hrd,RG.st,RG.st,RG.st,RG.mk 1 53,RG.pt i109,RG.st,trivial⟩ ?_
   intro j23 a23 w23 M23
   repeat refine wp_seq ?_
   refine M23.u [.x 24 [] (.bool false),.x 25 [(24,0)] (.bool true)] [(25,(.v (.bool true)))] ⟨RG.st,RG.st,trivial⟩ ?_
   intro a24 w24 M24
   repeat refine wp_seq ?_
   refine wp_cond_true M24.ev ?_
   repeat refine wp_seq ?_
   refine M24.u [.x 2 [] (.slice none 0 0),.x 3 [] (.int .i64 4)] [(2,(.v (.slice none 0 0))),(3,(.v (.int .i64 4)))] ⟨RG.st,RG.st,trivial⟩ ?_
   intro a25 w25 M25
   refine wp_ret ?_
   refine bodyPost_ret (v:=.tuple #[.slice none 0 0,.int .i64 4]) (RG.results_tt 2 3 rfl _ _ (M25.at (s:=(.v (.slice none 0 0)))) (M25.at (s:=(.v (.int .i64 4))))) M25.sl.defers ?_
   exact ⟨_,rfl,M25.st.bel.below,Or.inr ⟨⟨i,hi,hrdv⟩,rfl⟩⟩
 ·have hiN:i=n:=by omega
  have M30:RG.M w w.heap.size [] 32 [C] [kt] [(4,(.s 0 n n)),(12,(.v (.slice q n cap))),(13,(.v (.int .i64 n))),(14,(.v (.int .i64 i)))] a _:=⟨hSp,sl,⟨p4,p12,p13,p14,trivial⟩⟩
  repeat refine wp_seq ?_
  refine M30.u [.x 15 [] (.bool false)] [(4,(.s 0 n n)),(15,(.v (.bool false)))] ⟨RG.cert_bin rfl .lss 3 3 14 13 (.int .i64 i) (.int .i64 n) (.bool false) rfl rfl RG.sx RG.sx (fun w=>by kernel_rfl) (lssn_f hi),trivial⟩ ?_
  intro a31 w31 M31
  repeat refine wp_seq ?_
  refine wp_cond_false M31.ev ?_
  refine wp_exit ?_
  dsimp only[Exit.then,Exit.inBlock]
  rw[if_pos rfl]
  repeat refine wp_seq ?_
  refine M31.u [.s 31 [] (.s 0 n n),.s 2 [(31,0)] (.s 0 n n),.x 3 [] (.int .i64 0)] [(2,(.s 0 n n)),(3,(.v (.int .i64 0)))] ⟨RG.st,RG.st,RG.st,trivial⟩ ?_
  intro a32 w32 M32
  refine wp_ret ?_
  refine bodyPost_ret (v:=.tuple #[.slice (some ⟨kt,0,none⟩) n n,.int .i64 0]) (RG.results_tt 2 3 rfl _ _ (M32.at (s:=(.s 0 n n))) (M32.at (s:=(.v (.int .i64 0))))) M32.sl.defers ?_
  refine ⟨_,rfl,M32.st.bel.below,Or.inl ⟨kt,?_,?_,rfl,fun j hj=>?_⟩⟩
  ·exact (M32.st.has 0 C rfl).2.2.2.elim id (fun h=>absurd h List.not_mem_nil)
  ·exact (M32.st.has 0 C rfl).2.2.1
  ·obtain ⟨pp,hpp⟩:=Option.isSome_iff_exists.1 (hall j (by omega))
   refine ⟨pp,hpp,RG.range_sub (M32.st.has 0 C rfl).1 (fun r hr=>?_)⟩
   have h5:=hR.row j r (by omega) hr
   rw[h5]
   show (match rd P (L j) with|some p=>_|none=>_)[r]? = _
   rw[hpp]
def ArgsScs (w:World) (q:Option Addr) (n:Nat) (L:Nat→Bs):Prop:=0<n→∃ gg,q=some ⟨gg,0,none⟩∧gg<w.heap.size∧∀ j,j<n→∃ v,w.cell? ⟨gg,j,none⟩=some v∧Arg w v (L j)
def ScsR (N:Nat) (w:World) (n:Nat) (L:Nat→Bs) (e:Value) (w':World):Prop:=
 (∃ k,w.heap.size≤k∧k<w'.heap.size∧e=.tuple #[.slice (some ⟨k,0,none⟩) n n,.int .i64 0]∧∀ j,j<n→∃ p,rq N (L j)=some p∧w'.rangeAt k (4*j) (wn p)) ∨
 ((∃ j,j<n∧rq N (L j)=none)∧e=.tuple #[.slice none 0 0,.int .i64 3])
theorem Scs_c {N:Nat} (hG:Gap 4624529908474429119 4994812053365940164 1 N) (n cap:Nat) (hn:n≤512) (q:Option Addr) (L:Nat→Bs) (w:World) (hA:ArgsScs w q n L):Calls Tryd.prog 29 #[.slice q n cap] w (Ret fun e w'=>Below w.heap.size w w'∧ScsR N w n L e w'):=by
 obtain ⟨C,hCl,hmk⟩:=mk82 n hn
 obtain ⟨i,-⟩:∃ i:Nat,i=0:=⟨_,rfl⟩
 obtain ⟨gg,-⟩:∃ i:Nat,i=0:=⟨_,rfl⟩
 obtain ⟨m,-⟩:∃ i:Nat,i=0:=⟨_,rfl⟩
 obtain ⟨v,-⟩:∃ v:Value,v=.bool true:=⟨_,rfl⟩
 obtain ⟨C2,-⟩:∃ c:List Value,c=C:=⟨_,rfl⟩
 go_enter Tryd.func29,Tryd.ntmps29
 refine RG.var1 (v0:=.slice q n cap) (n:=33) (by kernel_rfl) (by kernel_rfl) (by kernel_rfl) ?_
 intro a0 sl0 f0
 have hS0:=RG.St.begin w
 have M0:RG.M w w.heap.size [] 33 [] [] [(0,(.v (.slice q n cap)))] a0 _:=⟨hS0,sl0,⟨f0,trivial⟩⟩
 repeat refine wp_seq ?_
 refine M0.u [.x 2 [] (.slice none 0 0),.x 3 [] (.int .i64 0)] [(0,(.v (.slice q n cap))),(2,(.v (.slice none 0 0))),(3,(.v (.int .i64 0)))] ⟨RG.st,RG.st,trivial⟩ ?_
 intro a1 w1 M1
 repeat refine wp_seq ?_
 refine M1.t [.x 9 [] (.slice q n cap),.x 10 [(9,0)] (.int .i64 n),⟨some 11,[(10,1)],(.s 0 n n),.make 0⟩,.s 4 [(11,2)] (.s 0 n n)] [(2,C)] [] [C] [(0,(.v (.slice q n cap))),(2,(.v (.slice none 0 0))),(3,(.v (.int .i64 0))),(4,(.s 0 n n))] ⟨RG.st,RG.cert_one rfl 9 (.v (.slice q n cap)) (.int .i64 n) rfl RG.sx (fun a w=>by kernel_rfl) (fun μ w=>by kernel_rfl),RG.cert_makes 0 rfl _ rfl 69 44 10 10 n rfl rfl RG.sx RG.sx (hmk),RG.st,trivial⟩ ?_
 intro j2 a2 w2 M2
 repeat refine wp_seq ?_
 refine M2.u [.x 12 [] (.slice q n cap),.x 13 [(12,0)] (.int .i64 n),.x 14 [] (.int .i64 0)] [(2,(.v (.slice none 0 0))),(3,(.v (.int .i64 0))),(4,(.s 0 n n)),(12,(.v (.slice q n cap))),(13,(.v (.int .i64 n))),(14,(.v (.int .i64 0)))] ⟨RG.st,RG.cert_one rfl 12 (.v (.slice q n cap)) (.int .i64 n) rfl RG.sx (fun a w=>by kernel_rfl) (fun μ w=>by kernel_rfl),RG.st,trivial⟩ ?_
 intro a3 w3 M3
 have f2_3:a3.tmps[2]? = some (.slice none 0 0):=M3.at (s:=(.v (.slice none 0 0)))
 have f3_3:a3.tmps[3]? = some (.int .i64 0):=M3.at (s:=(.v (.int .i64 0)))
 have f4_3:a3.tmps[4]? = some (.slice (some ⟨j2,0,none⟩) n n):=M3.at (s:=(.s 0 n n))
 have f12_3:a3.tmps[12]? = some (.slice q n cap):=M3.at (s:=(.v (.slice q n cap)))
 have f13_3:a3.tmps[13]? = some (.int .i64 n):=M3.at (s:=(.v (.int .i64 n)))
 have f14_3:a3.tmps[14]? = some (.int .i64 0):=M3.at (s:=(.v (.int .i64 0)))
 repeat refine wp_seq ?_
 refine wp_block ?_
 refine wp_loop_ghost (fun m a wr=>∃ (i:Nat) (C:List Value),i+m=n∧(∀ j,j<i→(rq N (L j)).isSome=true)∧Rows 4 n (fun j=>match rq N (L j) with|some k=>wn k|none=>[]) i C∧RG.Sl a 33∧a.tmps[4]? = some (.slice (some ⟨j2,0,none⟩) n n)∧a.tmps[12]? = some (.slice q n cap)∧a.tmps[13]? = some (.int .i64 n)∧a.tmps[14]? = some (.int .i64 i)∧RG.St w w.heap.size [] [C] [j2] wr) n ⟨0,C,by omega,fun j hj=>by omega,⟨hCl,fun j r hj=>by omega⟩,M3.sl,f4_3,f12_3,f13_3,f14_3,M3.st⟩ ?_
 intro m' a wr
 rintro ⟨i,C,him,hall,hR,sl,p4,p12,p13,p14,hSp⟩
 generalize j2=kt at p4 hSp
 by_cases hi:i<n
 ·obtain ⟨gg,hqe,hgg,hc⟩:=hA (by omega)
  rw[hqe] at p12
  obtain ⟨v,hv,harg⟩:=hc i hi
  have hcell:w.cell? ⟨gg,0+i,none⟩=some v:=by rw[Nat.zero_add];exact hv
  cases hrdv:rq N (L i) with
  | some pp =>
   obtain ⟨m,rfl⟩:∃ m,m=pp:=⟨_,rfl⟩
   have hrd:∀ w',RG.BelX w.heap.size [] w w'→Calls Tryd.prog 43 #[gv1,v] w' (Ret fun e w''=>Below w'.heap.size w' w''∧e=.tuple #[nv m,.bool true]):=fun w' hb=>by
    have:=readQ_c hG v (L i) w' (harg.below hb.below)
    rw[hrdv] at this
    exact this
   have hlen:=hR.len
   have hoff:0+4*i+(wn m).length≤C.length:=by rw[hlen];show 0+4*i+4≤4*n;omega
   obtain ⟨C2,hC2e⟩:∃ c,RG.rep C (0+4*i) (wn m)=c:=⟨_,rfl⟩
   have hC2:=hC2e ▸ RG.rep_at hoff
   have hcl:C2.length=C.length:=hC2e ▸ RG.rep_length hoff
   have hR2:Rows 4 n (fun j=>match rq N (L j) with|some k=>wn k|none=>[]) (i+1) C2:=by
    have:=hR.next hi (by show List.length (match rq N (L i) with|some p=>_|none=>_)=_;rw[hrdv];rfl)
    rw[← hC2e]
    have e:(fun j=>match rq N (L j) with|some k=>wn k|none=>[]) i=(wn m):=by show (match rq N (L i) with|some p=>_|none=>_)=_;rw[hrdv]
    rw[← e]
    exact this
   have M10:RG.M w w.heap.size [] 33 [C] [kt] [(4,(.s 0 n n)),(12,(.v (.slice (some ⟨gg,0,none⟩) n cap))),(13,(.v (.int .i64 n))),(14,(.v (.int .i64 i)))] a _:=⟨hSp,sl,⟨p4,p12,p13,p14,trivial⟩⟩
   repeat refine wp_seq ?_
   refine M10.u [.x 15 [] (.bool true)] [(4,(.s 0 n n)),(12,(.v (.slice (some ⟨gg,0,none⟩) n cap))),(13,(.v (.int .i64 n))),(14,(.v (.int .i64 i))),(15,(.v (.bool true)))] ⟨RG.cert_bin rfl .lss 3 3 14 13 (.int .i64 i) (.int .i64 n) (.bool true) rfl rfl RG.sx RG.sx (fun w=>by kernel_rfl) (lssn_t hi),trivial⟩ ?_
   intro a11 w11 M11
   repeat refine wp_seq ?_
   refine wp_cond_true M11.ev ?_
   refine wp_skip ?_
   refine wp_seq ?_
   refine wp_block ?_
   repeat refine wp_seq ?_
   refine M11.u [.x 16 [] (.int .i64 i),.x 17 [] (.pointer (some ⟨gg,(0+i),none⟩)),.x 18 [(17,1)] v,.x 5 [(16,0)] (.int .i64 i),.x 6 [(18,2)] v] [(4,(.s 0 n n)),(5,(.v (.int .i64 i))),(6,(.v v)),(12,(.v (.slice (some ⟨gg,0,none⟩) n cap))),(13,(.v (.int .i64 n))),(14,(.v (.int .i64 i)))] ⟨RG.st,RG.cert_idx rfl 24 12 14 rfl (.v (.slice (some ⟨gg,0,none⟩) n cap)) (.int .i64 i) RG.sx RG.sx (fun μ w=>at46 _ 0 _ _ i hi w),RG.cert_load1B rfl gg (0+i) hgg List.not_mem_nil 23 17 rfl v rfl RG.sx hcell u23,RG.st,RG.st,trivial⟩ ?_
   intro a12 w12 M12
   repeat refine wp_seq ?_
   refine M12.t [.c 20 [] gv1,.x 21 [] v,.c 22 [(20,0),(21,1)] (.tuple #[(nv m),(.bool true)]),.x 19 [(22,2)] (.tuple #[(nv m),(.bool true)]),.x 23 [(19,3)] (nv m),.x 24 [(19,3)] (.bool true),.m 7 [] 1,.u [(7,6),(23,4)] 1,.x 8 [(24,5)] (.bool true)] [(6,(RG.z 4))] [(1,7,(wn m))] [C,(wn m)] [(4,(.s 0 n n)),(5,(.v (.int .i64 i))),(7,(.p 1 0)),(8,(.v (.bool true))),(12,(.v (.slice (some ⟨gg,0,none⟩) n cap))),(13,(.v (.int .i64 n))),(14,(.v (.int .i64 i)))] ⟨RG.cl (Scalars_c),RG.st,RG.cert_callB2 rfl 43 20 21 gv1 v (.tuple #[(nv m),(.bool true)]) rfl (fun a w=>by kernel_rfl) RG.sx RG.sx hrd,RG.st,RG.st,RG.st,RG.mk 1 44,RG.pt i85,RG.st,trivial⟩ ?_
   intro j13 a13 w13 M13
   repeat refine wp_seq ?_
   refine M13.u [.x 25 [] (.bool true),.x 26 [(25,0)] (.bool false)] [(4,(.s 0 n n)),(5,(.v (.int .i64 i))),(7,(.p 1 0)),(12,(.v (.slice (some ⟨gg,0,none⟩) n cap))),(13,(.v (.int .i64 n))),(14,(.v (.int .i64 i))),(26,(.v (.bool false)))] ⟨RG.st,RG.st,trivial⟩ ?_
   intro a14 w14 M14
   repeat refine wp_seq ?_
   refine wp_cond_false M14.ev ?_
   refine wp_skip ?_
   repeat refine wp_seq ?_
   refine M14.tx [.s 27 [] (.s 0 n n),.x 28 [] (.int .i64 i),.x 29 [] (nv m),.s 30 [(27,0),(28,1)] (.p 0 (0+4*i)),.u [(30,3),(29,2)] 0] [] [(0,4,C2)] [C2,(wn m)] [(4,(.s 0 n n)),(12,(.v (.slice (some ⟨gg,0,none⟩) n cap))),(13,(.v (.int .i64 n))),(14,(.v (.int .i64 i)))] (by kernel_rfl) (congrArg (fun n=>[n]) hcl) ⟨RG.st,RG.st,RG.ld u85 i85,RG.cert_idx rfl 69 27 28 rfl (.s 0 n n) (.int .i64 i) RG.sx RG.sx (fun μ w=>at82 _ 0 _ _ i hi w),RG.cert_putAt 0 (0+4*i) rfl _ rfl 44 (.tmp 30) (.tmp 29) (wn m) rfl rfl RG.sx RG.sx hoff hC2 i85 rfl,trivial⟩ ?_
   intro a15 w15 M15
   repeat refine wp_seq ?_
   refine M15.u [.x 31 [] (.int .i64 ((i+1:Nat):Int)),.x 14 [(31,0)] (.int .i64 ((i+1:Nat):Int))] [(4,(.s 0 n n)),(12,(.v (.slice (some ⟨gg,0,none⟩) n cap))),(13,(.v (.int .i64 n))),(14,(.v (.int .i64 ((i+1:Nat):Int))))] ⟨RG.cert_binc rfl .add 3 3 14 (.int .i64 i) (.int .i64 1) (.int .i64 ((i+1:Nat):Int)) rfl rfl RG.sx (fun w=>by kernel_rfl) (addn i 1 (by omega) (by omega)),RG.st,trivial⟩ ?_
   intro a16 w16 M16
   have f4_16:a16.tmps[4]? = some (.slice (some ⟨kt,0,none⟩) n n):=M16.at (s:=(.s 0 n n))
   have f12_16:a16.tmps[12]? = some (.slice (some ⟨gg,0,none⟩) n cap):=M16.at (s:=(.v (.slice (some ⟨gg,0,none⟩) n cap)))
   have f13_16:a16.tmps[13]? = some (.int .i64 n):=M16.at (s:=(.v (.int .i64 n)))
   have f14_16:a16.tmps[14]? = some (.int .i64 ((i+1:Nat):Int)):=M16.at (s:=(.v (.int .i64 ((i+1:Nat):Int))))
   show ∃ n',_
   exact ⟨m'-1,by omega,i+1,C2,by omega,fun j hj=>(by
    by_cases hji:j=i
    ·rw[hji,hrdv];rfl
    ·exact hall j (by omega)),hR2,M16.sl,f4_16,(by rw[hqe];exact f12_16),f13_16,f14_16,RG.St.init (cs:=[C2]) (ks:=[kt]) M16.st⟩
  | none =>
   have hrd:∀ w',RG.BelX w.heap.size [] w w'→Calls Tryd.prog 43 #[gv1,v] w' (Ret fun e w''=>Below w'.heap.size w' w''∧e=.tuple #[nv 0,.bool false]):=fun w' hb=>by
    have:=readQ_c hG v (L i) w' (harg.below hb.below)
    rw[hrdv] at this
    exact this
   have M20:RG.M w w.heap.size [] 33 [C] [kt] [(4,(.s 0 n n)),(12,(.v (.slice (some ⟨gg,0,none⟩) n cap))),(13,(.v (.int .i64 n))),(14,(.v (.int .i64 i)))] a _:=⟨hSp,sl,⟨p4,p12,p13,p14,trivial⟩⟩
   repeat refine wp_seq ?_
   refine M20.u [.x 15 [] (.bool true)] [(12,(.v (.slice (some ⟨gg,0,none⟩) n cap))),(14,(.v (.int .i64 i))),(15,(.v (.bool true)))] ⟨RG.cert_bin rfl .lss 3 3 14 13 (.int .i64 i) (.int .i64 n) (.bool true) rfl rfl RG.sx RG.sx (fun w=>by kernel_rfl) (lssn_t hi),trivial⟩ ?_
   intro a21 w21 M21
   repeat refine wp_seq ?_
   refine wp_cond_true M21.ev ?_
   refine wp_skip ?_
   refine wp_seq ?_
   refine wp_block ?_
   repeat refine wp_seq ?_
   refine M21.u [.x 16 [] (.int .i64 i),.x 17 [] (.pointer (some ⟨gg,(0+i),none⟩)),.x 18 [(17,1)] v,.x 5 [(16,0)] (.int .i64 i),.x 6 [(18,2)] v] [(6,(.v v))] ⟨RG.st,RG.cert_idx rfl 24 12 14 rfl (.v (.slice (some ⟨gg,0,none⟩) n cap)) (.int .i64 i) RG.sx RG.sx (fun μ w=>at46 _ 0 _ _ i hi w),RG.cert_load1B rfl gg (0+i) hgg List.not_mem_nil 23 17 rfl v rfl RG.sx hcell u23,RG.st,RG.st,trivial⟩ ?_
   intro a22 w22 M22
   repeat refine wp_seq ?_
   refine M22.t [.c 20 [] gv1,.x 21 [] v,.c 22 [(20,0),(21,1)] (.tuple #[(nv 0),(.bool false)]),.x 19 [(22,2)] (.tuple #[(nv 0),(.bool false)]),.x 23 [(19,3)] (nv 0),.x 24 [(19,3)] (.bool false),.m 7 [] 1,.u [(7,6),(23,4)] 1,.x 8 [(24,5)] (.bool false)] [(6,(RG.z 4))] [(1,7,(wn 0))] [C,(wn 0)] [(8,(.v (.bool false)))] ⟨RG.cl (Scalars_c),RG.st,RG.cert_callB2 rfl 43 20 21 gv1 v (.tuple #[(nv 0),(.bool false)]) rfl (fun a w=>by kernel_rfl) RG.sx RG.sx hrd,RG.st,RG.st,RG.st,RG.mk 1 44,RG.pt i85,RG.st,trivial⟩ ?_
   intro j23 a23 w23 M23
   repeat refine wp_seq ?_
   refine M23.u [.x 25 [] (.bool false),.x 26 [(25,0)] (.bool true)] [(26,(.v (.bool true)))] ⟨RG.st,RG.st,trivial⟩ ?_
   intro a24 w24 M24
   repeat refine wp_seq ?_
   refine wp_cond_true M24.ev ?_
   repeat refine wp_seq ?_
   refine M24.u [.x 2 [] (.slice none 0 0),.x 3 [] (.int .i64 3)] [(2,(.v (.slice none 0 0))),(3,(.v (.int .i64 3)))] ⟨RG.st,RG.st,trivial⟩ ?_
   intro a25 w25 M25
   refine wp_ret ?_
   refine bodyPost_ret (v:=.tuple #[.slice none 0 0,.int .i64 3]) (RG.results_tt 2 3 rfl _ _ (M25.at (s:=(.v (.slice none 0 0)))) (M25.at (s:=(.v (.int .i64 3))))) M25.sl.defers ?_
   exact ⟨_,rfl,M25.st.bel.below,Or.inr ⟨⟨i,hi,hrdv⟩,rfl⟩⟩
 ·have hiN:i=n:=by omega
  have M30:RG.M w w.heap.size [] 33 [C] [kt] [(4,(.s 0 n n)),(12,(.v (.slice q n cap))),(13,(.v (.int .i64 n))),(14,(.v (.int .i64 i)))] a _:=⟨hSp,sl,⟨p4,p12,p13,p14,trivial⟩⟩
  repeat refine wp_seq ?_
  refine M30.u [.x 15 [] (.bool false)] [(4,(.s 0 n n)),(15,(.v (.bool false)))] ⟨RG.cert_bin rfl .lss 3 3 14 13 (.int .i64 i) (.int .i64 n) (.bool false) rfl rfl RG.sx RG.sx (fun w=>by kernel_rfl) (lssn_f hi),trivial⟩ ?_
  intro a31 w31 M31
  repeat refine wp_seq ?_
  refine wp_cond_false M31.ev ?_
  refine wp_exit ?_
  dsimp only[Exit.then,Exit.inBlock]
  rw[if_pos rfl]
  repeat refine wp_seq ?_
  refine M31.u [.s 32 [] (.s 0 n n),.s 2 [(32,0)] (.s 0 n n),.x 3 [] (.int .i64 0)] [(2,(.s 0 n n)),(3,(.v (.int .i64 0)))] ⟨RG.st,RG.st,RG.st,trivial⟩ ?_
  intro a32 w32 M32
  refine wp_ret ?_
  refine bodyPost_ret (v:=.tuple #[.slice (some ⟨kt,0,none⟩) n n,.int .i64 0]) (RG.results_tt 2 3 rfl _ _ (M32.at (s:=(.s 0 n n))) (M32.at (s:=(.v (.int .i64 0))))) M32.sl.defers ?_
  refine ⟨_,rfl,M32.st.bel.below,Or.inl ⟨kt,?_,?_,rfl,fun j hj=>?_⟩⟩
  ·exact (M32.st.has 0 C rfl).2.2.2.elim id (fun h=>absurd h List.not_mem_nil)
  ·exact (M32.st.has 0 C rfl).2.2.1
  ·obtain ⟨pp,hpp⟩:=Option.isSome_iff_exists.1 (hall j (by omega))
   refine ⟨pp,hpp,RG.range_sub (M32.st.has 0 C rfl).1 (fun r hr=>?_)⟩
   have h5:=hR.row j r (by omega) hr
   rw[h5]
   show (match rq N (L j) with|some p=>_|none=>_)[r]? = _
   rw[hpp]
end
section
open Go.RowKit Go.Sort Go.Deep
variable {P:Nat} [NeZero P] {N:Nat}
def OutE (c:Int) (e:Value):Prop:=e=.tuple #[.slice none 0 0,.int .i64 c]
def OutP (w:World) (T:Bs) (e:Value) (w':World):Prop:=∃ g cap,e=.tuple #[.slice (some ⟨g,0,none⟩) 33 cap,.int .i64 0]∧33≤cap∧w.heap.size≤g∧g<w'.heap.size∧Holds encB w' g 0 T
theorem one_args {w:World} {v:Value} {bs:Bs} (T:TypeId) (h:Arg33 w v bs):ArgsPts (w.alloc (.cells #[v] T)) (some ⟨w.heap.size,0,none⟩) 1 (fun _=>bs):=fun _ =>
 ⟨w.heap.size,rfl,by rw[World.size_alloc];omega,fun j hj=>by
  obtain rfl:j=0:=by omega
  exact ⟨v,by rw[World.cell?_alloc_new];rfl,h.below (below1 w _)⟩⟩
def ptP (s:T3 P):Fin P × Fin P:=(s.1*(EC.inv s.2.2*EC.inv s.2.2),s.2.1*(EC.inv s.2.2*EC.inv s.2.2)*EC.inv s.2.2)
theorem cell_below {w w1:World} {k j:Nat} {v:Value} (h:w.cell? ⟨k,j,none⟩=some v) (hb:Below w.heap.size w w1) (hk:k<w.heap.size):w1.cell? ⟨k,j,none⟩=some v:=by
 have h1:w.rangeAt k j [v]:=fun i u hu=>by
  cases i with
  | zero =>
   obtain rfl:v=u:=Option.some.inj hu
   exact h
  | succ i=>exact absurd hu (by simp)
 exact RG.range_below h1 hb hk 0 v rfl
theorem ArgsPts.below {w w1:World} {q:Option Addr} {n:Nat} {L:Nat→Bs} (h:ArgsPts w q n L) (hb:Below w.heap.size w w1):ArgsPts w1 q n L:=fun hn=>by
 obtain ⟨gg,hq,hlt,hc⟩:=h hn
 refine ⟨gg,hq,Nat.lt_of_lt_of_le hlt hb.size,fun j hj=>?_⟩
 obtain ⟨v,hv,ha⟩:=hc j hj
 exact ⟨v,cell_below hv hb hlt,ha.below hb⟩
theorem ArgsScs.below {w w1:World} {q:Option Addr} {n:Nat} {L:Nat→Bs} (h:ArgsScs w q n L) (hb:Below w.heap.size w w1):ArgsScs w1 q n L:=fun hn=>by
 obtain ⟨gg,hq,hlt,hc⟩:=h hn
 refine ⟨gg,hq,Nat.lt_of_lt_of_le hlt hb.size,fun j hj=>?_⟩
 obtain ⟨v,hv,ha⟩:=hc j hj
 exact ⟨v,cell_below hv hb hlt,ha.below hb⟩
def SumR (P:Nat) [NeZero P] (N:Nat) (w:World) (n a:Nat) (L M:Nat→Bs) (e:Value) (w':World):Prop:=
 (n≠a∧OutE 2 e)∨(n=a∧512<n∧OutE 1 e)∨(n=a∧n≤512∧(((∃ j,j<n∧rq N (L j)=none)∧OutE 3 e) ∨
  ∃ ns:Nat→Nat,(∀ j,j<n→rq N (L j)=some (ns j))∧(((∃ j,j<n∧rd P (M j)=none)∧OutE 4 e) ∨
   ∃ xs ys:Nat→Fin P,(∀ j,j<n→rd P (M j)=some (xs j,ys j))∧OutP w (by33 (ptP (sumJ ns xs ys n 257)).1 (ptP (sumJ ns xs ys n 257)).2) e w')))
theorem choose_nat {A:Type} [Inhabited A] {n:Nat} {p:Nat→A→Prop} (h:∀ j,j<n→∃ a,p j a):∃ f:Nat→A,∀ j,j<n→p j (f j):=
 ⟨fun j=>if hj:j<n then (h j hj).choose else default,fun j hj=>by
  show p j (if hj:j<n then (h j hj).choose else default)
  rw[dif_pos hj]
  exact (h j hj).choose_spec⟩
theorem rq_top {N:Nat} (hN:N≤top) {bs:Bs} {m:Nat} (h:rq N bs=some m):m<top:=by
 unfold rq at h
 split at h
 ·rename_i h1
  obtain rfl:beV bs.toList=m:=Option.some.inj h
  exact Nat.lt_of_lt_of_le h1.2 hN
 ·exact absurd h (by simp)
theorem gSum_c {N:Nat} (C:Fld P) (hG:Gap 4624529908474429119 4994812053365940164 1 N) (hN:N≤top) (q q':Option Addr) (n cap a cap':Nat) (L M:Nat→Bs) (w:World) (hL:ArgsScs w q n L) (hM:ArgsPts w q' a M) :
 Calls Tryd.prog 17 #[.slice q n cap,.slice q' a cap'] w (Ret fun e w'=>Below w.heap.size w w'∧SumR P N w n a L M e w'):=by
 have HL:Hid (ArgsScs w q n L):=hL
 have HM:Hid (ArgsPts w q' a M):=hM
 clear hL hM
 by_cases hna:n=a
 ·subst hna
  by_cases h512:512<n
  ·go_enter Tryd.func17,Tryd.ntmps17
   go_wp2
   go_ret2
   exact ⟨_,rfl,RowKit.Below.refl _ _,Or.inr (Or.inl ⟨rfl,h512,rfl⟩)⟩
  ·have H5:n≤512:=by omega
   go_enter Tryd.func17,Tryd.ntmps17
   go_wp2_with fail
   refine (Scs_c hG n cap H5 q L w HL.out).mono ?_
   rintro e w1 ⟨v,rfl,hb1,⟨k,hk1,hk2,rfl,hrow⟩|⟨hno,rfl⟩⟩
   ·obtain ⟨ns,hns⟩:=choose_nat hrow
    have HB:Hid (Below w.heap.size w w1):=hb1
    have HS:Hid (k<w1.heap.size∧∀ j,j<n→w1.rangeAt k (4*j) (wn (ns j))):=⟨hk2,fun j hj=>(hns j hj).2⟩
    have HN:Hid (∀ j,j<n→rq N (L j)=some (ns j)):=fun j hj=>(hns j hj).1
    clear hrow hns hk1 hk2 hb1
    go_wp2_with fail
    refine (Pts_c C n cap' H5 q' M w1 (HM.out.below HB.out)).mono ?_
    rintro e w2 ⟨v,rfl,hb2,⟨k',hk1,hk2,rfl,hrow⟩|⟨hno,rfl⟩⟩
    ·obtain ⟨ps,hps⟩:=choose_nat hrow
     have HB2:Hid (Below w.heap.size w w2):=HB.out.trans (hb2.mono HB.out.size)
     have HS2:Hid (k<w2.heap.size∧∀ j,j<n→w2.rangeAt k (4*j) (wn (ns j))):=⟨Nat.lt_of_lt_of_le HS.out.1 hb2.size,fun j hj=>RG.range_below (HS.out.2 j hj) hb2 HS.out.1⟩
     have HP:Hid (k'<w2.heap.size∧∀ j,j<n→w2.rangeAt k' (8*j) (ws (ps j).1++ws (ps j).2)):=⟨hk2,fun j hj=>(hps j hj).2⟩
     have HM2:Hid (∀ j,j<n→rd P (M j)=some ((ps j).1,(ps j).2)):=fun j hj=>(hps j hj).1
     clear hrow hps hk1 hk2 hb2
     have hBt:∀ w,Calls Tryd.prog 19 #[pv (ptP (sumJ ns (fun j=>(ps j).1) (fun j=>(ps j).2) n 257)).1 (ptP (sumJ ns (fun j=>(ps j).1) (fun j=>(ps j).2) n 257)).2] w (Ret fun e w'=>Below w.heap.size w w'∧BytesR w (by33 (ptP (sumJ ns (fun j=>(ps j).1) (fun j=>(ps j).2) n 257)).1 (ptP (sumJ ns (fun j=>(ps j).1) (fun j=>(ps j).2) n 257)).2) e w'):=bytes_c C _ _
     have hS:Calls Tryd.prog 31 #[.slice (some ⟨k,0,none⟩) n n,.slice (some ⟨k',0,none⟩) n n] w2 (Ret fun e w'=>Below w2.heap.size w2 w'∧e=pv (ptP (sumJ ns (fun j=>(ps j).1) (fun j=>(ps j).2) n 257)).1 (ptP (sumJ ns (fun j=>(ps j).1) (fun j=>(ps j).2) n 257)).2):=by
      refine (sums_c C n H5 ns (fun j=>(ps j).1) (fun j=>(ps j).2) (fun i hi=>rq_top hN (HN.out i hi)) k k' w2 HS2.out.1 HP.out.1 HS2.out.2 HP.out.2).mono ?_
      rintro e w' ⟨v,rfl,hb,s,rfl,rfl⟩
      exact ⟨_,rfl,hb,rfl⟩
     generalize hz:ptP (sumJ ns (fun j=>(ps j).1) (fun j=>(ps j).2) n 257)=z at hS hBt
     have HZ:Hid (ptP (sumJ ns (fun j=>(ps j).1) (fun j=>(ps j).2) n 257)=z):=hz
     clear hz
     generalize pv z.1 z.2=v4 at hS hBt
     go_wp2_with fail
     refine hS.mono ?_
     rintro e w3 ⟨v,rfl,hb3,rfl⟩
     have HB3:Hid (Below w.heap.size w w3):=HB2.out.trans (hb3.mono HB2.out.size)
     clear hb3
     go_wp2_with fail
     refine (hBt _).mono ?_
     rintro e w4 ⟨v,rfl,hb4,g,cap3,rfl,hc3,hg3,hlt3,hH3⟩
     have HB4:Hid (Below w.heap.size w w4):=HB3.out.trans (hb4.mono HB3.out.size)
     have HO:Hid (OutP w (by33 z.1 z.2) (.tuple #[.slice (some ⟨g,0,none⟩) 33 cap3,.int .i64 0]) w4):=⟨g,cap3,rfl,hc3,Nat.le_trans HB3.out.size hg3,hlt3,hH3⟩
     clear hb4 hH3
     go_wp2
     go_ret2
     refine ⟨_,rfl,HB4.out,Or.inr (Or.inr ⟨rfl,H5,Or.inr ⟨ns,HN.out,Or.inr ⟨_,_,HM2.out,?_⟩⟩⟩)⟩
     rw[HZ.out]
     exact HO.out
    ·have HB2:Hid (Below w.heap.size w w2):=HB.out.trans (hb2.mono HB.out.size)
     have HO:Hid (∃ j,j<n∧rd P (M j)=none):=hno
     clear hb2 hno
     go_wp2
     go_ret2
     exact ⟨_,rfl,HB2.out,Or.inr (Or.inr ⟨rfl,H5,Or.inr ⟨ns,HN.out,Or.inl ⟨HO.out,rfl⟩⟩⟩)⟩
   ·have HB:Hid (Below w.heap.size w w1):=hb1
    have HO:Hid (∃ j,j<n∧rq N (L j)=none):=hno
    clear hb1 hno
    go_wp2
    go_ret2
    exact ⟨_,rfl,HB.out,Or.inr (Or.inr ⟨rfl,H5,Or.inl ⟨HO.out,rfl⟩⟩)⟩
 ·go_enter Tryd.func17,Tryd.ntmps17
  go_wp2
  go_ret2
  exact ⟨_,rfl,RowKit.Below.refl _ _,Or.inl ⟨hna,rfl⟩⟩
theorem one_scs {w:World} {v:Value} {bs:Bs} (T:TypeId) (h:Arg w v bs):ArgsScs (w.alloc (.cells #[v] T)) (some ⟨w.heap.size,0,none⟩) 1 (fun _=>bs):=fun _ =>
 ⟨w.heap.size,rfl,by rw[World.size_alloc];omega,fun j hj=>by
  obtain rfl:j=0:=by omega
  exact ⟨v,by rw[World.cell?_alloc_new];rfl,h.below (below1 w _)⟩⟩
theorem inn_one (ns:Nat→Nat) (xs ys:Nat→Fin P) (st:T3 P) (p:Nat):inn ns xs ys st p 1=inn (fun _=>ns 0) (fun _=>xs 0) (fun _=>ys 0) st p 1:=rfl
theorem sumJ_one (ns:Nat→Nat) (xs ys:Nat→Fin P):∀ m,sumJ ns xs ys 1 m=sumJ (fun _=>ns 0) (fun _=>xs 0) (fun _=>ys 0) 1 m
 | 0=>rfl
 | m+1=>by
  unfold sumJ
  rw[sumJ_one ns xs ys m,inn_one]
def TimesR (P:Nat) [NeZero P] (N:Nat) (w:World) (az bs:Bs) (e:Value) (w':World):Prop:=match rq N az,rd P bs with
 | none,_=>OutE 3 e
 | some _,none=>OutE 4 e
 | some n,some p=>OutP w (by33 (ptP (sumJ (fun _=>n) (fun _=>p.1) (fun _=>p.2) 1 257)).1 (ptP (sumJ (fun _=>n) (fun _=>p.1) (fun _=>p.2) 1 257)).2) e w'
theorem gTimes_c {N:Nat} (C:Fld P) (hG:Gap 4624529908474429119 4994812053365940164 1 N) (hN:N≤top) (v u:Value) (az bs:Bs) (w:World) (hv:Arg w v az) (hu:Arg33 w u bs) :
 Calls Tryd.prog 6 #[v,u] w (Ret fun e w'=>Below w.heap.size w w'∧TimesR P N w az bs e w'):=by
 have HV:Hid (Arg w v az∧Arg33 w u bs):=⟨hv,hu⟩
 obtain ⟨q,n,cap,rfl,-⟩:=hv
 obtain ⟨q',n',cap',rfl,-⟩:=hu
 have HA:Hid (ArgsScs ((w.alloc (.cells #[.slice q n cap] 23)).alloc (.cells #[.slice q' n' cap'] 23)) (some ⟨w.heap.size,0,none⟩) 1 (fun _=>az)):=(one_scs _ HV.out.1).below (below1 _ _)
 have HA':Hid (ArgsPts ((w.alloc (.cells #[.slice q n cap] 23)).alloc (.cells #[.slice q' n' cap'] 23)) (some ⟨w.heap.size+1,0,none⟩) 1 (fun _=>bs)):=by
  have h:=one_args 23 (HV.out.2.below (below1 w (.cells #[.slice q n cap] 23)))
  rw[World.size_alloc] at h
  exact h
 have HW:Hid (Below w.heap.size w ((w.alloc (.cells #[.slice q n cap] 23)).alloc (.cells #[.slice q' n' cap'] 23))):=(below1 w _).trans ((below1 _ _).mono (by simp))
 go_enter Tryd.func6,Tryd.ntmps6
 go_wp2_with fail
 refine (gSum_c C hG hN _ _ 1 1 1 1 (fun _=>az) (fun _=>bs) _ HA.out HA'.out).mono ?_
 have hone:∀ m (ns:Nat→Nat) (xs ys:Nat→Fin P) W k z,m=257→Holds encB W k 0 (by33 (ptP (sumJ ns xs ys 1 m)).1 (ptP (sumJ ns xs ys 1 m)).2)→z=sumJ (fun _=>ns 0) (fun _=>xs 0) (fun _=>ys 0) 1 m→Holds encB W k 0 (by33 (ptP z).1 (ptP z).2):=by
  intro m ns xs ys W k z _ h hz
  rw[sumJ_one ns xs ys m] at h
  rw[hz]
  exact h
 rintro e w1 ⟨v,rfl,hb1,hs⟩
 have HB:Hid (Below w.heap.size w w1):=HW.out.trans (hb1.mono HW.out.size)
 have HT:Hid (TimesR P N w az bs v w1):=by
  unfold TimesR
  rcases hs with ⟨h,-⟩|⟨-,h,-⟩|⟨-,-,⟨⟨j,-,h⟩,ho⟩|⟨ns,hns,⟨⟨j,-,h⟩,ho⟩|⟨xs,ys,hp,g,cp,ho,hc,hg1,hg2,hH⟩⟩⟩
  ·exact absurd rfl h
  ·omega
  ·rw[show rq N az=none from h]
   exact ho
  ·rw[show rq N az=some (ns 0) from hns 0 (by decide),show rd P bs=none from h]
   exact ho
  ·rw[show rq N az=some (ns 0) from hns 0 (by decide),show rd P bs=some (xs 0,ys 0) from hp 0 (by decide)]
   refine ⟨g,cp,ho,hc,?_,hg2,?_⟩
   ·exact Nat.le_trans HW.out.size hg1
   ·exact hone 257 ns xs ys _ _ _ rfl hH rfl
 clear hb1 hs
 have hv2:∃ a b,v=.tuple #[a,b]:=by
  have:=HT.out
  unfold TimesR at this
  split at this
  ·exact ⟨_,_,this⟩
  ·exact ⟨_,_,this⟩
  ·obtain ⟨g,cp,ho,-⟩:=this
   exact ⟨_,_,ho⟩
 obtain ⟨a,b,rfl⟩:=hv2
 go_wp2
 go_ret2
 exact ⟨_,rfl,HB.out,HT.out⟩
def zs33:Bs:=Array.replicate 33 0
theorem sq_mod (r d:Nat):d*d%(r+d)=r*r%(r+d):=by
 have h:d*d+(r+d)*r=r*r+(r+d)*d:=by
  rw[Nat.add_mul,Nat.add_mul,Nat.mul_comm d r]
  omega
 have h1:=congrArg (· % (r+d)) h
 simp only[Nat.add_mul_mod_self_left] at h1
 exact h1
theorem rt_sq {m y:Fin P} (h:rt m=some y):y*y=m:=by
 have h0:=rt_yes h
 unfold rt at h
 rw[if_pos h0] at h
 obtain rfl:=Option.some.inj h
 have hP:=Nat.pos_of_neZero P
 have hr:m.val^(P/4+1)%P<P:=Nat.mod_lt _ hP
 generalize m.val^(P/4+1)%P=r at h0 hr
 apply Fin.ext
 rw[Fin.val_mul]
 show (even P r%P)*(even P r%P)%P=m.val
 rw[Nat.mod_eq_of_lt (even_lt hP hr),← h0]
 unfold even
 split
 ·have h2:=sq_mod r (P-r)
  rw[show r+(P-r)=P by omega] at h2
  exact h2
 ·rfl
theorem zero33_iff {bs:Bs} (hs:bs.size=33):Zero33 bs↔bs=zs33:=by
 constructor
 ·intro h
  apply Array.ext
  ·rw[hs];rfl
  ·intro i h1 h2
   have:=h i (List.mem_range.2 (by omega))
   rw[getElem!_pos bs i h1] at this
   have h3:bs[i].toNat=0:=by
    have h4:ub bs[i]=(bs[i].toNat:Int):=rfl
    rw[h4] at this
    omega
   have h5:(zs33)[i]=0:=by
    have h6:(Array.replicate 33 (0:UInt8))[i]'h2=0:=Array.getElem_replicate _
    exact h6
   rw[h5]
   exact UInt8.toNat_inj.1 h3
 ·rintro rfl i hi
  have hi:=List.mem_range.1 hi
  unfold zs33
  rw[getElem!_pos _ i (by rw[Array.size_replicate];exact hi),Array.getElem_replicate]
  rfl
theorem on_of {x y:Fin P} (h:y*y=x*x*x+7):EC.On (.some (x,y):EC.Pt P):=by
 show y^2=x^3+7
 grobner
theorem on_neg {x y:Fin P} (h:y*y=x*x*x+7):EC.On (.some (x,0-y):EC.Pt P):=by
 show (0-y)^2=x^3+7
 grobner
def wr:EC.Pt P→Bs
 | none=>zs33
 | some (x,y)=>#[mark y.val]++bx x.val
theorem by33_wr (C:Fld P) {x y:Fin P} {p:EC.Pt P} (h:EC.Pair x y p) (ho:EC.On p):by33 x y=wr p:=by
 unfold by33
 match p,h,ho with
 | none,h,_=>rw[if_pos (show x=0∧y=0 from h)];rfl
 | some (a,b),h,ho =>
  obtain ⟨rfl,rfl⟩:=h
  rw[if_neg (fun e=>C.cur.y_ne ho e.2)]
  rfl
def pt (p:Fin P × Fin P):EC.Pt P:=if p.1=0∧p.2=0 then none else some p
theorem pair_pt (C:Fld P) {x y:Fin P} {q:EC.Pt P} (h:EC.Pair x y q) (ho:EC.On q):q=pt (x,y):=by
 unfold pt
 match q,h,ho with
 | none,h,_=>rw[if_pos (show x=0∧y=0 from h)]
 | some (a,b),h,ho =>
  obtain ⟨rfl,rfl⟩:=h
  rw[if_neg (fun e=>C.cur.y_ne ho e.2)]
theorem rd_on (C:Fld P) {bs:Bs} {p:Fin P × Fin P} (h:rd P bs=some p):EC.Pair p.1 p.2 (pt p)∧EC.On (pt p):=by
 have key:∃ q:EC.Pt P,EC.Pair p.1 p.2 q∧EC.On q:=by
  unfold rd at h
  split at h
  ·split at h
   ·obtain rfl:=Option.some.inj h
    exact ⟨none,⟨rfl,rfl⟩,EC.none_on⟩
   ·split at h
    ·split at h
     ·obtain ⟨y,hr,rfl⟩:=Option.map_eq_some_iff.1 h
      have hsq:=rt_sq hr
      refine ⟨some (rdx P bs,if ub bs[0]! = 3 then 0-y else y),⟨rfl,rfl⟩,?_⟩
      split
      ·exact on_neg hsq
      ·exact on_of hsq
     ·cases h
    ·cases h
  ·cases h
 obtain ⟨q,h1,h2⟩:=key
 have:=pair_pt C h1 h2
 rw[show pt p=q from this.symm]
 exact ⟨h1,h2⟩
def TimesQ (P:Nat) [NeZero P] (N:Nat) (w:World) (az bs:Bs) (e:Value) (w':World):Prop:=match rq N az,rd P bs with
 | none,_=>OutE 3 e
 | some _,none=>OutE 4 e
 | some n,some p=>OutP w (wr (EC.mul n (pt p))) e w'
theorem TimesR.q (C:Fld P) {N:Nat} (hN:N≤top) {w w':World} {az bs:Bs} {e:Value} (h:TimesR P N w az bs e w'):TimesQ P N w az bs e w':=by
 unfold TimesR at h
 unfold TimesQ
 cases h1:rq N az with
 | none=>rw[h1] at h;exact h
 | some n =>
  cases h2:rd P bs with
  | none=>rw[h1,h2] at h;exact h
  | some p =>
   rw[h1,h2] at h
   have hp:=rd_on C h2
   have hJ:=sumJ_all C (N:=1) (ns:=fun _=>n) (xs:=fun _=>p.1) (ys:=fun _=>p.2) (p:=fun _=>pt p) (fun _ _=>rq_top hN h1) (fun _ _=>hp.1) (fun _ _=>hp.2)
   have e1:=by33_wr C (hJ.pair C) hJ.2
   have e2:EC.tot (fun _=>pt p) 1 (fun _=>(n:Int))=EC.mul n (pt p):=by
    rfl
   rw[e2] at e1
   dsimp only at h ⊢
   rw[← e1]
   exact h
omit [NeZero P] in
theorem wr_size (p:EC.Pt P):(wr p).size=33:=by
 match p with
 | none=>rfl
 | some (x,y) =>
  show (#[mark y.val]++bx x.val).size=33
  rw[Array.size_append,bx_size]
  rfl
end
section
variable {P:Nat} [NeZero P] {N:Nat}
theorem root_mod {a P:Nat} (h:NT.IsP P) (h4:P%4=3):(a*a%P)^(P/4+1)%P*((a*a%P)^(P/4+1)%P)%P=a*a%P:=by
 rw[← Nat.mul_mod,← Nat.pow_add,← Nat.pow_mod,← Nat.pow_two,← Nat.pow_mul,show 2*(P/4+1+(P/4+1))=P+1 by omega,Nat.pow_succ,Nat.mul_mod,h.fermat a,← Nat.mul_mod,Nat.pow_two]
theorem root_is {a R P:Nat} (h:NT.IsP P) (ha:a<P) (hR:R<P) (he:R*R%P=a*a%P):R=a∨R+a=P:=by
 have key:∀ x y:Nat,x<P→y<P→y≤x→x*x%P=y*y%P→x=y∨x+y=P:=by
  intro x y hx hy hxy hxe
  have hd:P ∣ x*x-y*y:=by
   refine Nat.dvd_of_mod_eq_zero ?_
   exact Nat.sub_mod_eq_zero_of_mod_eq hxe
  have hf:x*x-y*y=(x-y)*(x+y):=by
   rw[Nat.mul_comm (x-y),Nat.mul_self_sub_mul_self_eq]
  rw[hf] at hd
  rcases h.euclid hd with h1|h1
  ·left
   have:=Nat.eq_zero_of_dvd_of_lt h1 (by omega)
   omega
  ·obtain ⟨k,hk⟩:=h1
   have:k=0∨k=1∨2≤k:=by omega
   rcases this with rfl|rfl|h2
   ·left;omega
   ·right;omega
   ·have:=Nat.mul_le_mul_left P h2
    omega
 rcases Nat.le_total a R with h1|h1
 ·exact key R a hR ha h1 he
 ·rcases key a R ha hR h1 he.symm with h2|h2
  ·left;exact h2.symm
  ·right;omega
end
section
open Go.RowKit Go.Sort Go.Deep
theorem w8_be8 (x:Nat) (hx:x<18446744073709551616) :
 w8 (UInt8.ofNat (x/72057594037927936)) (UInt8.ofNat (x/281474976710656)) (UInt8.ofNat (x/1099511627776)) (UInt8.ofNat (x/4294967296)) (UInt8.ofNat (x/16777216)) (UInt8.ofNat (x/65536)) (UInt8.ofNat (x/256)) (UInt8.ofNat x)=x:=by
 unfold w8
 simp only[UInt8.toNat_ofNat']
 omega
theorem be32_list (a b c d:Nat):(be32 a b c d).toList=[UInt8.ofNat (d/72057594037927936),UInt8.ofNat (d/281474976710656),UInt8.ofNat (d/1099511627776),UInt8.ofNat (d/4294967296),UInt8.ofNat (d/16777216),UInt8.ofNat (d/65536),UInt8.ofNat (d/256),UInt8.ofNat d,UInt8.ofNat (c/72057594037927936),UInt8.ofNat (c/281474976710656),UInt8.ofNat (c/1099511627776),UInt8.ofNat (c/4294967296),UInt8.ofNat (c/16777216),UInt8.ofNat (c/65536),UInt8.ofNat (c/256),UInt8.ofNat c,UInt8.ofNat (b/72057594037927936),UInt8.ofNat (b/281474976710656),UInt8.ofNat (b/1099511627776),UInt8.ofNat (b/4294967296),UInt8.ofNat (b/16777216),UInt8.ofNat (b/65536),UInt8.ofNat (b/256),UInt8.ofNat b,UInt8.ofNat (a/72057594037927936),UInt8.ofNat (a/281474976710656),UInt8.ofNat (a/1099511627776),UInt8.ofNat (a/4294967296),UInt8.ofNat (a/16777216),UInt8.ofNat (a/65536),UInt8.ofNat (a/256),UInt8.ofNat a]:=by
 simp only[be32,be8,Array.toList_append,List.cons_append,List.nil_append]
theorem val_congr {a b c d p q r s:Nat} (h1:a=p) (h2:b=q) (h3:c=r) (h4:d=s):val a b c d=val p q r s:=by subst h1 h2 h3 h4;rfl
theorem beV_be32 (a b c d:Nat) (ha:a<18446744073709551616) (hb:b<18446744073709551616) (hc:c<18446744073709551616) (hd:d<18446744073709551616):beV (be32 a b c d).toList=val a b c d:=
 (congrArg beV (be32_list a b c d)).trans ((beV_32 _ _ _ _ _ _ _ _ _ _ _ _ _ _ _ _ _ _ _ _ _ _ _ _ _ _ _ _ _ _ _ _).trans (val_congr (w8_be8 a ha) (w8_be8 b hb) (w8_be8 c hc) (w8_be8 d hd)))
theorem bx_val {n:Nat} (hn:n<top):beV (bx n).toList=n:=by
 unfold bx
 rw[beV_be32 _ _ _ _ (by omega) (by omega) (by omega) (by omega)]
 unfold val
 unfold top at hn
 omega
variable {P:Nat} [NeZero P]
theorem rt_of (C:Fld P) {y m:Fin P} (h:y*y=m):rt m=some (if y.val%2=1 then 0-y else y):=by
 have hm:y.val*y.val%P=m.val:=by rw[← h,Fin.val_mul]
 have h1:=root_mod (a:=y.val) C.cur.pr C.p3
 rw[hm] at h1
 unfold rt
 rw[if_pos h1]
 have hP:=Nat.pos_of_neZero P
 have hr:m.val^(P/4+1)%P<P:=Nat.mod_lt _ hP
 generalize m.val^(P/4+1)%P=r at h1 hr
 have hy:=y.isLt
 have h3:=C.p3
 have hor:=root_is C.cur.pr hy hr (h1.trans hm.symm)
 congr 1
 apply Fin.ext
 show even P r%P=_
 unfold even
 have h0:(0-y:Fin P).val=(P-y.val)%P:=by rw[← sub_fin,EC.val_zero,Nat.zero_add]
 by_cases ho:y.val%2=1
 ·rw[if_pos ho,h0]
  rcases hor with e|e
  ·rw[e,if_pos ho]
  ·rw[if_neg (by omega),show P-y.val=r by omega]
 ·rw[if_neg ho]
  rcases hor with e|e
  ·rw[e,if_neg ho,Nat.mod_eq_of_lt hy]
  ·by_cases hz:y.val=0
   ·omega
   ·rw[if_pos (by omega),show P-r=y.val by omega,Nat.mod_eq_of_lt hy]
theorem ub_mark (n:Nat):ub (mark n)=if n%2=1 then 3 else 2:=by
 unfold mark
 split<;>rfl
theorem tl_mark {m:UInt8} {b:Bs} (h:b.size=32):tl33 (#[m]++b)=b:=by
 unfold tl33
 rw[Array.extract_append]
 have h1:(#[m]:Bs).extract 1 33=#[]:=by rfl
 rw[h1]
 simp[h]
theorem mark_0 (m:UInt8) (b:Bs):(#[m]++b)[0]! = m:=by
 rw[getElem!_pos _ 0 (by rw[Array.size_append];simp;omega),Array.getElem_append_left (by simp)]
 rfl
theorem rd_of (C:Fld P) {b:Bs} (hs:b.size=33) {x y:Fin P} (hm:ub b[0]! = if y.val%2=1 then 3 else 2) (hv:beV (tl33 b).toList=x.val) (h:EC.On (some (x,y):EC.Pt P)):rd P b=some (x,y):=by
 have hz:¬ Zero33 b:=fun hz=>by
  have:=hz 0 (List.mem_range.2 (by decide))
  rw[hm] at this
  split at this<;>omega
 have hx:rdx P b=x:=by
  unfold rdx
  rw[hv]
  exact Fin.ext (Nat.mod_eq_of_lt x.isLt)
 have hy:y*y=x*x*x+7:=by
  have:y^2=x^3+7:=h
  grobner
 unfold rd
 rw[if_pos hs,if_neg hz,hm,hv,if_pos x.isLt,hx,rt_of C hy]
 by_cases ho:y.val%2=1
 ·rw[if_pos ho,if_pos (Or.inr rfl),if_pos ho,Option.map_some,if_pos rfl]
  have e:0-(0-y)=y:=by grobner
  rw[e]
 ·rw[if_neg ho,if_pos (Or.inl rfl),if_neg ho,Option.map_some,if_neg (by decide)]
theorem rd_wr (C:Fld P) {X:EC.Pt P} (h:EC.On X):∃ p,rd P (wr X)=some p∧pt p=X:=by
 match X,h with
 | none,_ =>
  refine ⟨(0,0),?_,by unfold pt;rw[if_pos ⟨rfl,rfl⟩]⟩
  have h1:(wr (none:EC.Pt P)).size=33:=wr_size _
  have h2:Zero33 (wr (none:EC.Pt P)):=(zero33_iff h1).2 rfl
  generalize wr (none:EC.Pt P)=b at h1 h2
  unfold rd
  rw[if_pos h1,if_pos h2]
 | some (x,y),h =>
  have hs:=wr_size (P:=P) (some (x,y))
  have hb0:(wr (some (x,y):EC.Pt P))[0]! = mark y.val:=mark_0 _ _
  have ht:tl33 (wr (some (x,y):EC.Pt P))=bx x.val:=tl_mark (bx_size _)
  refine ⟨(x,y),rd_of C hs (by rw[hb0,ub_mark]) (by rw[ht,bx_val (C.top x)]) h,by unfold pt;rw[if_neg (fun e=>C.cur.y_ne h e.2)]⟩
end
section
open Go.RowKit Go.Sort Go.Deep
variable {P:Nat} [NeZero P] {N:Nat}
def gxl:List Value:=[.int .u64 6481385041966929816,.int .u64 188021827762530521,.int .u64 6170039885052185351,.int .u64 8772561819708210092]
def gyl:List Value:=[.int .u64 11261198710074299576,.int .u64 18237243440184513561,.int .u64 6747795201694173352,.int .u64 5204712524664259685]
def gX (P:Nat) [NeZero P]:Fin P:=Fin.ofNat P 55066263022277343669578718895168534326250603453777594175500187360389116729240
def gY (P:Nat) [NeZero P]:Fin P:=Fin.ofNat P 32670510020758816978083085130507043184471273380659243275938904335757337482424
def gG (P:Nat) [NeZero P]:EC.Pt P:=some (gX P,gY P)
theorem Fld.eq (C:Fld P):P=115792089237316195423570985008687907853269984665640564039457584007908834671663:=by
 have h:=C.gap.hP
 have e:val 4294968273 0 0 0=4294968273:=by decide
 rw[e] at h
 unfold Go.Proofs.YtgdfkblfggnnfaaDoor.top at h
 omega
theorem gX_val (C:Fld P):(gX P).val=55066263022277343669578718895168534326250603453777594175500187360389116729240:=by
 have h:=C.eq
 exact Nat.mod_eq_of_lt (by omega)
theorem gY_val (C:Fld P):(gY P).val=32670510020758816978083085130507043184471273380659243275938904335757337482424:=by
 have h:=C.eq
 exact Nat.mod_eq_of_lt (by omega)
theorem gxl_ws (C:Fld P):gxl=ws (gX P):=by
 show _=wn (gX P).val
 rw[gX_val C]
 kernel_rfl
theorem gyl_ws (C:Fld P):gyl=ws (gY P):=by
 show _=wn (gY P).val
 rw[gY_val C]
 kernel_rfl
theorem gG_on (C:Fld P):EC.On (gG P):=by
 refine on_of (Fin.ext ?_)
 have h7:(7:Fin P).val=7:=Nat.mod_eq_of_lt C.p7
 rw[Fin.val_mul,Fin.val_add,Fin.val_mul,Fin.val_mul,gX_val C,gY_val C,h7]
 have h:=C.eq
 rw[h]
theorem base_v:Gives 18 #[] (.agg (gxl++gyl).toArray):=by
 intro w
 go_enter Tryd.func18,Tryd.ntmps18
 refine RG.M.enter [] 4 (by kernel_rfl) ?_
 intro a0 M0
 repeat refine wp_seq ?_
 refine M0.t [.m 0 [] 0] [(0,RG.z 8)] [] [RG.z 8] [(0,.p 0 0)] ⟨RG.mk 0 53,trivial⟩ ?_
 intro j1 a1 w1 M1
 repeat refine wp_seq ?_
 refine M1.t [.x 1 [] (.agg gxl.toArray),.x 2 [] (.agg gyl.toArray),.x 3 [(1,0),(2,1)] (.agg (gxl++gyl).toArray),.u [(3,2)] 0] [] [(0,3,gxl++gyl)] [gxl++gyl] [(0,.p 0 0)] ⟨RG.st,RG.st,RG.st,RG.pt i109,trivial⟩ ?_
 intro a2 w2 M2
 refine wp_ret ?_
 refine bodyPost_ret (v:=.agg (gxl++gyl).toArray) (RG.results_row M2.st 0 53 rfl 0 _ rfl (M2.at (s:=.p 0 0)) u109 i109) M2.sl.defers ?_
 exact ⟨_,rfl,M2.st.bel.below,rfl⟩
theorem base_c (C:Fld P):Gives 18 #[] (pv (gX P) (gY P)):=by
 unfold pv
 rw[← gxl_ws C,← gyl_ws C]
 exact base_v
theorem gG_wr (C:Fld P):by33 (gX P) (gY P)=wr (gG P):=by33_wr C ⟨rfl,rfl⟩ (gG_on C)
theorem Base_c (C:Fld P) (w:World):Calls Tryd.prog 7 #[] w (Ret fun e w'=>Below w.heap.size w w'∧BytesR w (wr (gG P)) e w'):=by
 have HC:Hid (Fld P):=C
 clear C
 go_enter Tryd.func7,Tryd.ntmps7
 go_wp2_with fail
 refine (base_c HC.out _).mono ?_
 rintro e w1 ⟨v,rfl,hb1,rfl⟩
 go_wp2_with fail
 refine (bytes_c HC.out (gX P) (gY P) _).mono ?_
 rintro e w2 ⟨v,rfl,hb2,g,cap,rfl,h1,h2,h3,h4⟩
 rw[gG_wr HC.out] at h4
 have HB:Hid (Below w.heap.size w w2∧BytesR w (wr (gG P)) (.slice (some ⟨g,0,none⟩) 33 cap) w2):=⟨hb1.trans (hb2.mono hb1.size),g,cap,rfl,h1,Nat.le_trans hb1.size h2,h3,h4⟩
 clear hb1 hb2 h1 h2 h3 h4
 go_wp2
 go_ret
 exact ⟨_,rfl,HB.out⟩
end
section
open Go.RowKit Go.Sort Go.Deep Go.Shelf
attribute [local go_sem] Oper.semAt_some
section
variable {F:Fence} {n:Nat} {P:Program} {ops:Array Oper} {rest:List Oper} {op:Oper} {a:Act} {w:World} {Q:Exit→Act→World→Prop}
end
def Row (W:World) (k:Nat) (vs:List Value):Prop:=k<W.heap.size∧W.rangeAt k 0 vs∧W.there k 0 vs.length
theorem Row.cell {W:World} {k:Nat} {vs:List Value} (h:Row W k vs) {j:Nat} (hj:j<vs.length):W.cell? ⟨k,j,none⟩=some vs[j]:=by
 have:=h.2.1 j vs[j] (List.getElem?_eq_getElem hj)
 rwa[Nat.zero_add] at this
theorem row_own (k:Nat) (vs:List Value):Own (fun (_:Unit) W=>Row W k vs):=fun s A B row hs hg hr=>by
 refine ⟨Nat.lt_of_lt_of_le hs.1 hg.size,fun j v hj=>?_,fun j hj=>?_⟩
 ·exact cell_kept (hs.2.1 j v hj) hg hr
 ·have h1:=hs.2.1 j vs[j] (List.getElem?_eq_getElem hj)
  have h2:=cell_kept h1 hg hr
  exact ⟨by rw[h2];rfl,(frozen_kept h1 hg hr).trans (hs.2.2 j hj).2⟩
theorem Row.putObj {W:World} {k D:Nat} {vs:List Value} (h:Row W k vs) {o:Obj} (hD:W.heap[D]? = some o) (ho:o.isCells=false) (o':Obj):Row (W.putObj D o') k vs:=
 row_own k vs () W (W.putObj D o') (some D) h (grownBy_putObj' W D o') (fun r e=>by cases e;exact ⟨_,hD,ho⟩)
theorem Row.below {W W':World} {k:Nat} {vs:List Value} (h:Row W k vs) (hb:Below W.heap.size W W'):Row W' k vs:=by
 have e:=hb.block k h.1
 refine ⟨Nat.lt_of_lt_of_le h.1 hb.size,fun j v hj=>?_,fun j hj=>?_⟩
 ·exact (World.cell?_of_block e).trans (h.2.1 j v hj)
 ·have h1:=h.2.2 j hj
  exact ⟨by rw[World.cell?_of_block e];exact h1.1,(World.frozen?_of_block e).trans h1.2⟩
theorem results_cell {P:Program} {fn:Func} {tmps:Array Value} {W:World} {k:Nat} {vs:List Value} (t:Tmp) (T:TypeId) (hr:fn.results=#[.cell t T]) (h:Row W k vs) (ht:tmps[t]? = some (.pointer (some ⟨k,0,none⟩)))
 (hu:(P.underlying T).map (·.isRow)=some true) (hi:(P.info? T).map (·.size)=some vs.length):(results fn tmps).run P W=.ok (.agg vs.toArray) W:=by
 obtain ⟨d,hu,hd⟩:=Option.map_eq_some_iff.1 hu
 have h1:=run_loadVar_mid (P:=P) W k 0 T vs d h.2.1 hu hd hi
 have h2:tmps.getD t undef=.pointer (some ⟨k,0,none⟩):=by rw[Array.getD_eq_getD_getElem?,ht];rfl
 unfold results
 rw[hr]
 simp only[Array.mapM_eq_mapM_toList,List.mapM_cons,List.mapM_nil,h2,asAddr]
 simp[Sem.run_bind,h1]
theorem Row.put {W:World} {k:Nat} {vs us:List Value} (h:Row W k vs) (hl:us.length=vs.length):Row (W.setCells k 0 us) k us:=
 ⟨by rw[RG.setCells_size];exact h.1,World.rangeAt_setCells_same W k 0 us (by rw[hl];exact h.2.2),by rw[hl];exact World.there_setCells h.2.2 _ _ _⟩
theorem Row.other {W:World} {k j:Nat} {vs us:List Value} (h:Row W k vs) (hne:k≠j):Row (W.setCells j 0 us) k vs:=
 ⟨by rw[RG.setCells_size];exact h.1,World.rangeAt_setCells_apart h.2.1 j 0 us (Or.inl hne),World.there_setCells h.2.2 _ _ _⟩
variable {P:Nat} [NeZero P]
end
section
open Go.RowKit Go.Sort Go.Deep
variable {P:Nat} [NeZero P] {N:Nat}
theorem redS_of {w W:World} {k0 k1 g0 g1 g2:Nat} (h:Kept w k0 [⟨k0,0,g0,g1,g2,0⟩,⟨k1,0,0,0,0,0⟩] W):W.cell? ⟨k0,0,none⟩=some (.int .u64 g0)∧W.cell? ⟨k0,1,none⟩=some (.int .u64 g1)∧W.cell? ⟨k0,2,none⟩=some (.int .u64 g2)∧W.cell? ⟨k0,3,none⟩=some (.int .u64 0)∧Kept w k0 [⟨k0,0,g0,g1,g2,0⟩,⟨k1,0,0,0,0,0⟩] W:=⟨h.head.c0,h.head.c1,h.head.c2,h.head.c3,h⟩
theorem redS_get {w W:World} {k0 k1 g0 g1 g2:Nat} (h:W.cell? ⟨k0,0,none⟩=some (.int .u64 g0)∧W.cell? ⟨k0,1,none⟩=some (.int .u64 g1)∧W.cell? ⟨k0,2,none⟩=some (.int .u64 g2)∧W.cell? ⟨k0,3,none⟩=some (.int .u64 0)∧Kept w k0 [⟨k0,0,g0,g1,g2,0⟩,⟨k1,0,0,0,0,0⟩] W):Kept w k0 [⟨k0,0,g0,g1,g2,0⟩,⟨k1,0,0,0,0,0⟩] W:=h.2.2.2.2
theorem redS_alloc {w W:World} {k0 k1 g0 g1 g2:Nat} {o:Obj} (h:W.cell? ⟨k0,0,none⟩=some (.int .u64 g0)∧W.cell? ⟨k0,1,none⟩=some (.int .u64 g1)∧W.cell? ⟨k0,2,none⟩=some (.int .u64 g2)∧W.cell? ⟨k0,3,none⟩=some (.int .u64 0)∧Kept w k0 [⟨k0,0,g0,g1,g2,0⟩,⟨k1,0,0,0,0,0⟩] W):(W.alloc o).cell? ⟨k0,0,none⟩=some (.int .u64 g0)∧(W.alloc o).cell? ⟨k0,1,none⟩=some (.int .u64 g1)∧(W.alloc o).cell? ⟨k0,2,none⟩=some (.int .u64 g2)∧(W.alloc o).cell? ⟨k0,3,none⟩=some (.int .u64 0)∧Kept w k0 [⟨k0,0,g0,g1,g2,0⟩,⟨k1,0,0,0,0,0⟩] (W.alloc o):=redS_of ((redS_get h).alloc o)
theorem redS_allocd {w W:World} {k0 k1 g0 g1 g2:Nat} {o:Obj} (h:W.drew.cell? ⟨k0,0,none⟩=some (.int .u64 g0)∧W.drew.cell? ⟨k0,1,none⟩=some (.int .u64 g1)∧W.drew.cell? ⟨k0,2,none⟩=some (.int .u64 g2)∧W.drew.cell? ⟨k0,3,none⟩=some (.int .u64 0)∧Kept w k0 [⟨k0,0,g0,g1,g2,0⟩,⟨k1,0,0,0,0,0⟩] W.drew):(W.alloc o).drew.cell? ⟨k0,0,none⟩=some (.int .u64 g0)∧(W.alloc o).drew.cell? ⟨k0,1,none⟩=some (.int .u64 g1)∧(W.alloc o).drew.cell? ⟨k0,2,none⟩=some (.int .u64 g2)∧(W.alloc o).drew.cell? ⟨k0,3,none⟩=some (.int .u64 0)∧Kept w k0 [⟨k0,0,g0,g1,g2,0⟩,⟨k1,0,0,0,0,0⟩] (W.alloc o).drew:=redS_of (((redS_get h).undrew).alloc o).drew
theorem holds_part {w:World} {g o:Nat} {bs:Bs} (p l:Nat) (h:Holds encB w g o bs) (hp:p+l≤bs.size):Holds encB w g (o+p) (bs.extract p (p+l)):=by
 refine Holds.part h (by rw[Array.size_extract];omega) (fun j hj=>?_)
 rw[Array.size_extract] at hj
 rw[getElem!_pos (bs.extract p (p+l)) j (by rw[Array.size_extract];omega),getElem!_pos bs (p+j) (by omega),Array.getElem_extract]
theorem holds_front {w:World} {g o:Nat} {bs:Bs} (f:Nat) (h:Holds encB w g o bs) (hf:f≤bs.size):Holds encB w g o (bs.extract 0 f):=by
 have:=holds_part 0 f h (by omega)
 rwa[Nat.zero_add,Nat.add_zero] at this
def RedR (w:World) (k0 k1 g0 g1 g2 N:Nat) (s6:Value) (wx:World):Prop:=
 ∃ k6 a b c d:Nat,s6=.pointer (some ⟨k6,0,none⟩)∧Kept w k0 [⟨k6,0,a,b,c,d⟩,⟨k0,0,g0,g1,g2,0⟩,⟨k1,0,0,0,0,0⟩] wx∧k6≠k0∧k6≠k1∧k0≤k6 ∧
  Hid (Four (.agg #[.int .u64 a,.int .u64 b,.int .u64 c,.int .u64 d]) N)
theorem RedR.made {w w1:World} {k0 k1 g0 g1 g2 N a b c d:Nat} (KP:Kept w k0 [⟨k0,0,g0,g1,g2,0⟩,⟨k1,0,0,0,0,0⟩] w1) (hF:Hid (Four (.agg #[.int .u64 a,.int .u64 b,.int .u64 c,.int .u64 d]) N)) :
 RedR w k0 k1 g0 g1 g2 N (.pointer (some ⟨w1.heap.size,0,none⟩)) (w1.alloc (.cells #[.int .u64 a,.int .u64 b,.int .u64 c,.int .u64 d] 92)):=
 ⟨w1.heap.size,a,b,c,d,rfl,(KP.alloc _).cons (At4.made w1 92 a b c d rfl).blk,Nat.ne_of_gt KP.head.lt,Nat.ne_of_gt KP.tail.head.lt,KP.le,hF⟩
theorem RedR.put {w w1:World} {k0 k1 k6 g0 g1 g2 N a b c d x y z u:Nat} (KP:Kept w k0 [⟨k0,0,g0,g1,g2,0⟩,⟨k1,0,0,0,0,0⟩] w1) (T:At4 w1 k6 x y z u) (M7:k0≤k6) (N7:∀ x∈([⟨k0,0,g0,g1,g2,0⟩,⟨k1,0,0,0,0,0⟩]:List Blk),x.k<k6) (hF:Hid (Four (.agg #[.int .u64 a,.int .u64 b,.int .u64 c,.int .u64 d]) N)) :
 RedR w k0 k1 g0 g1 g2 N (.pointer (some ⟨k6,0,none⟩)) ((((w1.setCell ⟨k6,0,none⟩ (.int .u64 a)).setCell ⟨k6,1,none⟩ (.int .u64 b)).setCell ⟨k6,2,none⟩ (.int .u64 c)).setCell ⟨k6,3,none⟩ (.int .u64 d)):=
 ⟨k6,a,b,c,d,rfl,(KP.set4' M7 (fun x hx=>Nat.ne_of_gt (N7 x hx)) _ _ _ _).cons (T.self4 a b c d).blk,Nat.ne_of_gt (N7 ⟨k0,0,g0,g1,g2,0⟩ (by simp)),Nat.ne_of_gt (N7 ⟨k1,0,0,0,0,0⟩ (by simp)),M7,hF⟩
theorem red_step {P:Nat} (bs:Bs) (p:Nat) (hp:p+32≤bs.size):(beV (bs.extract p (p+32)).toList+top*(beV (bs.extract 0 p).toList%P))%P=beV (bs.extract 0 (p+32)).toList%P:=by
 have e:(bs.extract 0 (p+32)).toList=(bs.extract 0 p).toList++(bs.extract p (p+32)).toList:=by
  rw[← Array.toList_append,Array.extract_append_extract,Nat.min_eq_left (by omega),Nat.max_eq_right (by omega)]
 have l32:(bs.extract p (p+32)).toList.length=32:=by rw[Array.length_toList,Array.size_extract];omega
 have ht:256^32=top:=by unfold top;decide
 rw[e,beV_append,l32,ht,Nat.add_comm,Nat.add_mod,Nat.mul_mod,Nat.mod_mod,← Nat.mul_mod,← Nat.add_mod,Nat.mul_comm]
theorem PReduce_any (g0 g1 g2 P g o n cap : Nat) (bs : Bs) (hG : Gap g0 g1 g2 P) (w : World) (hs : bs.size = n) (hc : n ≤ cap) (hg : g < w.heap.size) (hB : Holds encB w g o bs) :
    Calls Tryd.prog 75 #[.agg #[.int .u64 (g0 : Int), .int .u64 (g1 : Int), .int .u64 (g2 : Int), .int .u64 0], .slice (some ⟨g, o, none⟩) n cap] w (Ret fun e w' => Below w.heap.size w w' ∧ Four e (beV bs.toList % P)) := by
  obtain ⟨f, hf⟩ : ∃ f, f = n % 32 := ⟨_, rfl⟩
  have hf32 : f < 32 := by omega
  have hfn : f ≤ n := by omega
  have e1 : (n : Int) % 32 = (f : Int) := by omega
  have e2 : (f : Int) ≤ (cap : Int) := by omega
  have e3 : (f : Int) ≤ (n : Int) := by omega
  have e4 : f ≤ cap := by omega
  have hsz0 : (bs.extract 0 f).size = f := by rw [Array.size_extract]; omega
  have Hf : Hid (f = n % 32) := hf
  have HS : Hid ((bs.extract 0 f).size = f) := hsz0
  have hbs : f ≤ bs.size := by omega
  have HSZ : Hid (bs.size = n) := hs
  have HG : Hid (Gap g0 g1 g2 P) := hG
  clear hf hsz0 hG
  go_enter Tryd.func75, Tryd.ntmps75
  go_upto_region 2 with fail
  rw [e1]
  clear e1
  have PR := (At4.made w 94 g0 g1 g2 0 rfl).alloc (.cells #[.int .u64 0, .int .u64 0, .int .u64 0, .int .u64 0] 44)
  have RE := At4.made (w.alloc (.cells #[.int .u64 (g0 : Int), .int .u64 (g1 : Int), .int .u64 (g2 : Int), .int .u64 0] 94)) 44 0 0 0 0 (World.size_alloc _ _)
  have KP := ((Kept.mk1 (below2 w (.cells #[.int .u64 (g0 : Int), .int .u64 (g1 : Int), .int .u64 (g2 : Int), .int .u64 0] 94) (.cells #[.int .u64 0, .int .u64 0, .int .u64 0, .int .u64 0] 44)) (below2 w (.cells #[.int .u64 (g0 : Int), .int .u64 (g1 : Int), .int .u64 (g2 : Int), .int .u64 0] 94) (.cells #[.int .u64 0, .int .u64 0, .int .u64 0, .int .u64 0] 44)).size).cons RE.blk).cons PR.blk
  clear PR RE
  generalize World.alloc _ _ = W0 at KP ⊢
  generalize h1 : w.heap.size + 1 = k1 at KP ⊢
  have Q1 : Hid (w.heap.size ≤ k1) := by unfold Hid; omega
  generalize h0 : w.heap.size = k0 at KP Q1 hg ⊢
  have n01 : k0 ≠ k1 := by omega
  have H0 : Hid (w.heap.size = k0) := h0
  have HBS : Hid (Holds encB w g o bs) := hB
  clear h0 h1 hB hs
  go_cut [6] (fun s6 wx => RedR w k0 k1 g0 g1 g2 (beV (bs.extract 0 f).toList % P) s6 wx)
  case first =>
    go_region_held3 (fun w' => w'.cell? ⟨k0, 0, none⟩ = some (.int .u64 (g0 : Int)) ∧ w'.cell? ⟨k0, 1, none⟩ = some (.int .u64 (g1 : Int)) ∧ w'.cell? ⟨k0, 2, none⟩ = some (.int .u64 (g2 : Int)) ∧ w'.cell? ⟨k0, 3, none⟩ = some (.int .u64 0) ∧ Kept w k0 [⟨k0, 0, g0, g1, g2, 0⟩, ⟨k1, 0, 0, 0, 0, 0⟩] w') (first | (with_reducible exact redS_of KP) | (with_reducible exact redS_of KP.drew) | (with_reducible exact redS_allocd (by assumption)) | (with_reducible exact redS_alloc (by assumption)) | (with_reducible exact redS_of (KP.alloc _)) | (with_reducible exact redS_of (KP.set4' M7 (fun x hx => Nat.ne_of_gt (N7 x hx)) _ _ _ _)) | (with_reducible exact redS_of (KP.alloc _).drew) | (with_reducible exact redS_of (KP.set4' M7 (fun x hx => Nat.ne_of_gt (N7 x hx)) _ _ _ _).drew) | fail) (first | (go_at_call 57; refine (fromBytes_any (some ⟨g, o, none⟩) g o f cap (bs.extract 0 f) _ (Nat.le_of_lt hf32) e4 HS.out (Or.inr ⟨rfl, holds_front f (Holds.below HBS.out (redS_get (by assumption)).bl hg) hbs⟩)).mono ?_; rintro e w1 ⟨v, rfl, hb1, hF1⟩; obtain ⟨a1, b1, c1, d1, rfl, ha1, hb1', hc1, hd1, es1⟩ := id hF1; clear es1; have HF1 : Hid (Four _ _) := hF1; clear hF1; (try (with_reducible have T1 := T.call hb1; clear T; have T := T1; clear T1)); (try (first | (with_reducible have T := (At4.made _ 92 0 0 0 0 rfl).call hb1) | (with_reducible have T := (At4.made _ 92 0 0 0 0 rfl).drew.call hb1)); have N7 := KP.lts; have M7 := KP.le); have KP1 := Kept.call (redS_get (by assumption)) hb1; clear KP; have KP := KP1; clear KP1 hb1) | (go_at_call 59; refine (four_any _ _ HF1.out _).mono ?_; rintro e w1 ⟨v, rfl, hb1, rfl⟩; (try (with_reducible have T1 := T.call hb1; clear T; have T := T1; clear T1)); (try (first | (with_reducible have T := (At4.made _ 92 0 0 0 0 rfl).call hb1) | (with_reducible have T := (At4.made _ 92 0 0 0 0 rfl).drew.call hb1)); have N7 := KP.lts; have M7 := KP.le); have KP1 := Kept.call (redS_get (by assumption)) hb1; clear KP; have KP := KP1; clear KP1 hb1) | (go_at_call 93; refine (fold_any g0 g1 g2 _ _ _ _ P HG.out.h0 HG.out.h1 HG.out.h2 HG.out.hor HG.out.hP HG.out.hP2 HF1.out (Four.mk (a := 0) (b := 0) (c := 0) (d := 0) (by decide) (by decide) (by decide) (by decide) rfl) _).mono ?_; rintro e w1 ⟨v, rfl, hb1, hF3⟩; obtain ⟨a', b', c', d', rfl, ha', hb', hc', hd', es3⟩ := id hF3; clear es3; have HF3 : Hid (Four _ _) := hF3; clear hF3; (try (with_reducible have T1 := T.call hb1; clear T; have T := T1; clear T1)); (try (first | (with_reducible have T := (At4.made _ 92 0 0 0 0 rfl).call hb1) | (with_reducible have T := (At4.made _ 92 0 0 0 0 rfl).drew.call hb1)); have N7 := KP.lts; have M7 := KP.le); have KP1 := Kept.call (redS_get (by assumption)) hb1; clear KP; have KP := KP1; clear KP1 hb1; (try (obtain ⟨tc0, tc1, tc2, tc3, tf⟩ := id T; have zt := T.lt))))
    all_goals (try go_wp2)
    all_goals (rw [show val 0 0 0 0 = 0 from rfl, Nat.mul_zero, Nat.add_zero] at HF3)
    all_goals (go_meet; first | (with_reducible exact RedR.made KP HF3) | (with_reducible exact (RedR.made KP HF3).drew) | (with_reducible exact RedR.put KP T M7 N7 HF3) | (with_reducible exact (RedR.put KP T M7 N7 HF3).drew) | fail)
  case rest =>
    clear KP
    obtain ⟨k6, a, b, c, d, rfl, KP, n60, n61, M6, HF⟩ := hcut
    have f0 : (0 : Int) ≤ (f : Int) := Int.natCast_nonneg _
    go_upto_region 3 with fail
    go_cut [1] (fun s1 wx => ∃ q : Nat, s1 = .slice (some ⟨g, q, none⟩) (n - f) (cap - f) ∧ Hid (0 < n - f → q = o + f) ∧ Kept w k0 [⟨k6, 0, a, b, c, d⟩, ⟨k0, 0, g0, g1, g2, 0⟩, ⟨k1, 0, 0, 0, 0, 0⟩] wx)
    case first =>
      by_cases ec : cap = f
      · have en : n = f := by omega
        have HEN : Hid (n = f ∧ cap = f) := ⟨en, ec⟩
        go_wp2
        go_meet
        refine ⟨o, ?_, fun h => ?_, KP⟩
        · rw [HEN.out.1, HEN.out.2]; try simp
        · have := HEN.out.1; omega
      · go_wp2
        go_meet
        exact ⟨o + f, rfl, fun _ => rfl, KP⟩
    case rest =>
    clear KP
    obtain ⟨q0, rfl, HQ0, KP⟩ := hcut
    go_wp2_with fail
    go_loopg [1] (n - f) (fun gk s1 wr => ∃ (l q lc a b c d : Nat), gk = l ∧ l ≤ n ∧ s1 = .slice (some ⟨g, q, none⟩) l lc ∧ Hid (l % 32 = 0 ∧ (0 < l → q = o + (n - l)) ∧ lc = cap - (n - l)) ∧ Kept w k0 [⟨k6, 0, a, b, c, d⟩, ⟨k0, 0, g0, g1, g2, 0⟩, ⟨k1, 0, 0, 0, 0, 0⟩] wr ∧
      Hid (Four (.agg #[.int .u64 (a : Int), .int .u64 (b : Int), .int .u64 (c : Int), .int .u64 (d : Int)]) (beV (bs.extract 0 (n - l)).toList % P)))
    case atStart =>
      refine ⟨n - f, q0, cap - f, a, b, c, d, rfl, by omega, rfl, ⟨by have := Hf.out; omega, fun h => by have := HQ0.out h; omega, by omega⟩, KP, ?_⟩
      rw [show n - (n - f) = f by omega]
      exact HF
    case round =>
      clear KP HF
      obtain ⟨l, q, lc, a, b, c, d, hgk, hln, rfl, HQ3, KP, HF⟩ := hrel
      clear e2 e3 e4 f0 hbs HS hf32 hfn HQ0
      have hlcl : l ≤ lc := by have := HQ3.out; omega
      by_cases h0 : l = 0
      · subst h0
        obtain ⟨xc0, xc1, xc2, xc3, xf⟩ := KP.head.at4
        have z7 := KP.head.lt
        go_wp2_with fail
        refine (number_any _ _ HF.out _).mono ?_
        rintro e w3 ⟨v, rfl, hb3, rfl⟩
        have KP3 := KP.call hb3
        clear hb3 xc0 xc1 xc2 xc3 xf z7 KP
        obtain ⟨rc0, rc1, rc2, rc3, rf⟩ := KP3.tail.tail.head.at4
        have z3 := KP3.tail.tail.head.lt
        go_wp2
        have RF := KP3.tail.tail.head.at4.self4 a b c d
        unfold set4 at RF
        refine bodyPost_ret (v := ?v) ?hr rfl ?hR
        case hr => simp [results, Tryd.results75, go_sem, RF.c0, RF.c1, RF.c2, RF.c3]; rfl
        refine ⟨_, rfl, ?_, ?_⟩
        · rw [H0.out]
          exact below_set4 KP3.bl Q1.out _ _ _ _
        · have := HF.out
          rw [Nat.sub_zero, ← HSZ.out, Array.extract_size] at this
          exact this
      · have h32 : 32 ≤ l := by have := HQ3.out; omega
        have HQ : Hid (o + (n - l) = q) := (HQ3.out.2.1 (by omega)).symm
        have h32c : 32 ≤ lc := by omega
        have i1 : (32 : Int) ≤ (lc : Int) := by omega
        have i2 : (32 : Int) ≤ (l : Int) := by omega
        have i3 : (0 : Int) < (l : Int) := by omega
        have HSL : Hid (n - l + 32 ≤ bs.size) := by unfold Hid; have := HSZ.out; omega
        have HS3 : Hid ((bs.extract (n - l) (n - l + 32)).size = 32) := by unfold Hid; rw [Array.size_extract]; have := HSL.out; omega
        obtain ⟨tc0, tc1, tc2, tc3, tf⟩ := KP.head.at4
        have zt := KP.head.lt
        obtain ⟨pc0, pc1, pc2, pc3, pf⟩ := KP.tail.head.at4
        have hl6 : ∀ x ∈ ([⟨k0, 0, g0, g1, g2, 0⟩, ⟨k1, 0, 0, 0, 0, 0⟩] : List Blk), k6 ≠ x.k := by simp only [List.mem_cons, List.not_mem_nil, or_false]; rintro x (rfl | rfl); exact n60; exact n61
        have HFF : Hid (_ = _) := red_step (P := P) bs (n - l) HSL.out
        go_wp2_with fail
        go_region_with (first | (go_at_call 57; refine (fromBytes_any (some ⟨g, q, none⟩) g q 32 lc (bs.extract (n - l) (n - l + 32)) _ (Nat.le_refl 32) h32c HS3.out (Or.inr ⟨rfl, HQ.out ▸ holds_part (n - l) 32 (by first | (with_reducible exact Holds.below HBS.out KP.bl hg) | (with_reducible exact Holds.below HBS.out KP.drew.bl hg) | fail) HSL.out⟩)).mono ?_; rintro e w1 ⟨v, rfl, hb1, hF1⟩; obtain ⟨a1, b1, c1, d1, rfl, ha1, hb1', hc1, hd1, es1⟩ := id hF1; clear es1; have HF1 : Hid (Four _ _) := hF1; clear hF1; (first | (with_reducible have KP1 := KP.call hb1) | (with_reducible have KP1 := KP.drew.call hb1) | fail); clear KP; have KP := KP1; clear KP1 hb1; obtain ⟨tc0, tc1, tc2, tc3, tf⟩ := KP.head.at4; have zt := KP.head.lt; obtain ⟨pc0, pc1, pc2, pc3, pf⟩ := KP.tail.head.at4) | (go_at_call 59; refine (four_any _ _ HF1.out _).mono ?_; rintro e w1 ⟨v, rfl, hb1, rfl⟩; (first | (with_reducible have KP1 := KP.call hb1) | (with_reducible have KP1 := KP.drew.call hb1) | fail); clear KP; have KP := KP1; clear KP1 hb1; obtain ⟨tc0, tc1, tc2, tc3, tf⟩ := KP.head.at4; have zt := KP.head.lt; obtain ⟨pc0, pc1, pc2, pc3, pf⟩ := KP.tail.head.at4) | (go_at_call 93; refine (fold_any g0 g1 g2 _ _ _ _ P HG.out.h0 HG.out.h1 HG.out.h2 HG.out.hor HG.out.hP HG.out.hP2 HF1.out HF.out _).mono ?_; rintro e w1 ⟨v, rfl, hb1, hF3⟩; obtain ⟨a', b', c', d', rfl, ha', hb', hc', hd', es3⟩ := id hF3; clear es3; have HF3 : Hid (Four _ _) := hF3; clear hF3; (first | (with_reducible have KP1 := KP.call hb1) | (with_reducible have KP1 := KP.drew.call hb1) | fail); clear KP; have KP := KP1; clear KP1 hb1; obtain ⟨tc0, tc1, tc2, tc3, tf⟩ := KP.head.at4; have zt := KP.head.lt; obtain ⟨pc0, pc1, pc2, pc3, pf⟩ := KP.tail.head.at4))
        all_goals (rw [HFF.out] at HF3)
        all_goals (by_cases i4 : lc = 32)
        all_goals (try go_wp2)
        all_goals
          (go_roundg (l - 32)
           case measure => omega
           case rel =>
            first
              | refine ⟨l - 32, q + 32, lc - 32, a', b', c', d', rfl, by omega, rfl, ⟨by have := HQ3.out; omega, fun _ => by have := HQ.out; omega, by have := HQ3.out; omega⟩, ?_, ?_⟩
              | refine ⟨l - 32, q, lc - 32, a', b', c', d', rfl, by omega, by first | rfl | (rw [i4]), ⟨by have := HQ3.out; omega, fun h => by omega, by have := HQ3.out; omega⟩, ?_, ?_⟩
              | fail
            · first | (with_reducible exact KP.put M6 hl6 a' b' c' d') | (with_reducible exact (KP.put M6 hl6 a' b' c' d').drew) | fail
            · rw [show n - (l - 32) = n - l + 32 by omega]; exact HF3)
def sPl (N a b:Nat):Nat:=(a+b)%N
def redu (N:Nat) (bs:Bs):Nat:=beV bs.toList%N
def FSRd_1 (v:Value) (n:Nat):List RG.It:=[.c 3 [] gv1,.x 4 [] v,.c 5 [(3,0),(4,1)] (nv n),.x 6 [(5,2)] (nv n),.u [(6,3)] 0]
theorem reduced_c (O:Ord N) (g:Nat) (bs:Bs) (hs:bs.size=64) (w:World) (hg:g<w.heap.size) (hB:Holds encB w g 0 bs):Calls Tryd.prog 51 #[.slice (some ⟨g,0,none⟩) 64 64] w (Ret fun e w'=>Below w.heap.size w w'∧e=nv (redu N bs)):=by
 have hc:∀ w',RG.BelX w.heap.size [] w w'→Calls Tryd.prog 75 #[gv1,.slice (some ⟨g,0,none⟩) 64 64] w' (Ret fun e w''=>Below w'.heap.size w' w''∧e=nv (redu N bs)):=fun w' hb =>
  (PReduce_any _ _ _ N g 0 64 64 bs O.gap w' hs (Nat.le_refl _) (Nat.lt_of_lt_of_le hg hb.below.size) (Holds.below hB hb.below hg)).mono (by rintro e w'' ⟨v,rfl,hb,hF⟩;exact ⟨_,rfl,hb,hF.nv⟩)
 go_enter Tryd.func51,Tryd.ntmps51
 refine RG.M.enter [(0,(.v (.slice (some ⟨g,0,none⟩) 64 64)))] 7 (by kernel_rfl) ?_
 intro a0 M0
 repeat refine wp_seq ?_
 refine M0.t [.m 2 [] 0] [(0,(RG.z 4))] [] [(RG.z 4)] [(0,(.v (.slice (some ⟨g,0,none⟩) 64 64))),(2,(.p 0 0))] ⟨RG.mk 0 46,trivial⟩ ?_
 intro j1 a1 w1 M1
 repeat refine wp_seq ?_
 refine M1.t (FSRd_1 (.slice (some ⟨g,0,none⟩) 64 64) (redu N bs)) [] [(0,4,(wn (redu N bs)))] [(wn (redu N bs))] [(2,(.p 0 0))] ⟨RG.cl (Scalars_c),RG.st,RG.clB (fun _ _=>by kernel_rfl) hc,RG.st,RG.pt i40,trivial⟩ ?_
 intro a2 w2 M2
 refine wp_ret ?_
 refine bodyPost_ret (v:=(nv (redu N bs))) (RG.results_row M2.st 2 46 rfl 0 _ rfl (M2.at (s:=(.p 0 0))) u40 i40) M2.sl.defers ?_
 exact ⟨_,rfl,M2.st.bel.below,rfl⟩
theorem redu_lt (O:Ord N) (bs:Bs):redu N bs<N:=Nat.mod_lt _ O.pos
theorem row_new (w:World) (c:List Value) (T:TypeId):Row (w.alloc (.cells c.toArray T)) w.heap.size c:=
 have h:=RG.Made.alloc w c T
 ⟨h.lt,h.range,h.there⟩
theorem wn_one (n:Nat):(wn n).toArray.all (·.oneCell')=true:=by kernel_rfl
theorem spread_c (O:Ord N) (r2:Nat) (T:Bs) (w:World) (hTs:T.size=32) (hT:Holds encB w r2 0 T) :
 Calls Tryd.prog 33 #[.slice (some ⟨r2,0,none⟩) 32 32] w (Ret fun e w'=>Below w.heap.size w w'∧e=nv (redu N (SP.strmL T.toList 64))):=by
 obtain ⟨S,hS⟩:∃ S,Hid (SP.strmL T.toList 64=S):=⟨_,rfl⟩
 have hSs:S.size=64:=by rw[← hS.out];exact SP.strm_size _ _
 rw[hS.out]
 obtain ⟨w1,hw1⟩:∃ w1,Hid (w.alloc (.cells #[.int .u64 0,.int .u64 0,.int .u64 0,.int .u64 0] 46)=w1):=⟨_,rfl⟩
 have K2:Hid (Row w1 w.heap.size [.int .u64 0,.int .u64 0,.int .u64 0,.int .u64 0]∧Below w.heap.size w w1∧Holds encB w1 r2 0 T):=by rw[← hw1.out];exact ⟨row_new w _ _,below1 w _,Holds.below hT (below1 w _) (Holds.lt hT (by omega))⟩
 clear hT
 go_enter Tryd.func33,Tryd.ntmps33
 go_wp2_with fail
 rw[hw1.out]
 clear hw1
 refine (SP.Stream_yes (some ⟨r2,0,none⟩) r2 0 32 32 64 T w1 (by decide) hTs (Nat.le_refl _) (by decide) (Or.inr ⟨rfl,K2.out.2.2⟩)).mono ?_
 rintro e w3 ⟨r3,rfl,h1,h2,h3⟩
 rw[hS.out] at h3
 have K3:Hid (Row w3 w.heap.size [.int .u64 0,.int .u64 0,.int .u64 0,.int .u64 0]∧Below w.heap.size w w3∧Holds encB w3 r3 0 S):=⟨K2.out.1.below h2,K2.out.2.1.trans (h2.mono K2.out.2.1.size),h3⟩
 clear h1 h2 h3 K2
 go_wp2_with fail
 refine (reduced_c O r3 S hSs w3 (Holds.lt K3.out.2.2 (by omega)) K3.out.2.2).mono ?_
 rintro e w4 ⟨v,rfl,hb4,rfl⟩
 have K4:Hid (Row w4 w.heap.size [.int .u64 0,.int .u64 0,.int .u64 0,.int .u64 0]∧Below w.heap.size w w4):=⟨K3.out.1.below hb4,K3.out.2.1.trans (hb4.mono K3.out.2.1.size)⟩
 clear hb4 K3
 obtain ⟨m,hm⟩:∃ m,Hid (redu N S=m):=⟨_,rfl⟩
 rw[hm.out]
 obtain ⟨w5,hw5⟩:∃ w5,Hid (w4.setCells w.heap.size 0 (wn m)=w5):=⟨_,rfl⟩
 have K5:Hid (Row w5 w.heap.size (wn m)∧Below w.heap.size w w5):=by rw[← hw5.out];exact ⟨K4.out.1.put rfl,RG.below_setCells (Nat.le_refl _) _ _ _ K4.out.2⟩
 obtain ⟨vm,hvm⟩:∃ vm,Hid (nv m=vm):=⟨_,rfl⟩
 rw[hvm.out]
 go_wp2_with (refine wpList_store_mid rfl 46 _ _ rfl w.heap.size 0 (wn m).toArray ?_ ?_ ?_ ?_ ?_ ?_;rfl;exact hvm.out.symm;exact K4.out.1.2.2;exact i40;exact wn_one m;rw[show (wn m).toArray.toList=wn m from rfl,hw5.out])
 refine bodyPost_ret (results_cell 2 46 rfl K5.out.1 rfl u40 i40) rfl ?_
 exact ⟨_,rfl,K5.out.2,by rw[hm.out];rfl⟩
theorem ofOne_c:Gives 52 #[.int .u64 1] (nv 1):=by
 intro w
 go_enter Tryd.func52,Tryd.ntmps52
 refine RG.M.enter [(0,.v (.int .u64 1))] 6 (by kernel_rfl) ?_
 intro a0 M0
 repeat refine wp_seq ?_
 refine M0.t [.m 2 [] 0] [(0,RG.z 4)] [] [RG.z 4] [(0,.v (.int .u64 1)),(2,.p 0 0)] ⟨RG.mk 0 46,trivial⟩ ?_
 intro k a1 w1 M1
 repeat refine wp_seq ?_
 refine M1.t [.x 3 [] (.int .u64 1),.x 4 [(3,0)] (nv 1),.x 5 [(4,1)] (nv 1),.u [(5,2)] 0] [] [(0,3,wn 1)] [wn 1] [(2,.p 0 0)] ⟨RG.st,RG.st,RG.st,RG.pt i40,trivial⟩ ?_
 intro a2 w2 M2
 refine wp_ret ?_
 refine bodyPost_ret (v:=nv 1) (RG.results_row M2.st 2 46 rfl 0 _ rfl (M2.at (s:=(.p 0 0))) u40 i40) M2.sl.defers ?_
 exact ⟨_,rfl,M2.st.bel.below,rfl⟩
def orOne (a:Nat):Nat:=if a=0 then 1 else a
theorem orOne_lt (O:Ord N) {a:Nat} (ha:a<N):orOne a<N:=by
 unfold orOne
 by_cases h:a=0
 ·rw[if_pos h];have:=O.n2;omega
 ·rw[if_neg h];exact ha
theorem orOne_c (O:Ord N) {a:Nat} (ha:a<N):Gives 34 #[nv a] (nv (orOne a)):=by
 intro w
 have hat:a<top:=Nat.lt_of_lt_of_le ha O.le
 have hq:∀ w:World,(binOp .eql 46 (nv a) (nv 0)).run Tryd.prog w=.ok (.bool (decide (a=0))) w:=fun w=>eqS hat (show 0<top by unfold top;omega) w
 obtain ⟨d,hd⟩:∃ d,Hid (decide (a=0)=d):=⟨_,rfl⟩
 rw[hd.out] at hq
 go_enter Tryd.func34,Tryd.ntmps34
 refine RG.M.enter [(0,.v (nv a))] 8 (by kernel_rfl) ?_
 intro a0 M0
 repeat refine wp_seq ?_
 refine M0.t [.m 1 [] 0,.m 2 [] 1] [(0,wn a),(1,RG.z 4)] [] [wn a,RG.z 4] [(1,.p 0 0),(2,.p 1 0)] ⟨RG.mk 0 46,RG.mk 1 46,trivial⟩ ?_
 intro j1 i1 a1 w1 M1
 repeat refine wp_seq ?_
 refine M1.u [.x 3 [] (nv a),.x 4 [] (nv 0),.x 5 [(3,0),(4,1)] (.bool d)] [(1,.p 0 0),(2,.p 1 0),(5,.v (.bool d))] ⟨RG.ld u40 i40,RG.st,RG.cert_bin rfl .eql 46 46 3 4 (nv a) (nv 0) (.bool d) rfl rfl RG.sx RG.sx (fun w=>by kernel_rfl) hq,trivial⟩ ?_
 intro a2 w2 M2
 cases d with
 | true =>
  refine wp_cond_true M2.ev ?_
  have h0:a=0:=of_decide_eq_true hd.out
  have hr:orOne a=1:=by unfold orOne;rw[if_pos h0]
  rw[hr]
  repeat refine wp_seq ?_
  refine M2.t [.c 6 [] (nv 1),.u [(6,0)] 1] [] [(1,1,wn 1)] [wn a,wn 1] [(2,.p 1 0)] ⟨RG.cl ofOne_c,RG.pt i40,trivial⟩ ?_
  intro a3 w3 M3
  refine wp_ret ?_
  refine bodyPost_ret (v:=nv 1) (RG.results_row M3.st 2 46 rfl 1 _ rfl (M3.at (s:=(.p 1 0))) u40 i40) M3.sl.defers ?_
  exact ⟨_,rfl,M3.st.bel.below,rfl⟩
 | false =>
  refine wp_cond_false M2.ev ?_
  have h0:¬ a=0:=of_decide_eq_false hd.out
  have hr:orOne a=a:=by unfold orOne;rw[if_neg h0]
  rw[hr]
  refine wp_skip ?_
  repeat refine wp_seq ?_
  refine M2.t [.x 7 [] (nv a),.u [(7,0)] 1] [] [(1,1,wn a)] [wn a,wn a] [(2,.p 1 0)] ⟨RG.ld u40 i40,RG.pt i40,trivial⟩ ?_
  intro a3 w3 M3
  refine wp_ret ?_
  refine bodyPost_ret (v:=nv a) (RG.results_row M3.st 2 46 rfl 1 _ rfl (M3.at (s:=(.p 1 0))) u40 i40) M3.sl.defers ?_
  exact ⟨_,rfl,M3.st.bel.below,rfl⟩
def kSc (N:Nat) (T:Bs):Nat:=orOne (redu N (SP.strmL T.toList 64))
theorem kSc_lt (O:Ord N) (T:Bs):kSc N T<N:=orOne_lt O (redu_lt O _)
theorem scalarOf_c (O:Ord N) (r2:Nat) (T:Bs) (w:World) (hTs:T.size=32) (hT:Holds encB w r2 0 T) :
 Calls Tryd.prog 20 #[.slice (some ⟨r2,0,none⟩) 32 32] w (Ret fun e w'=>Below w.heap.size w w'∧e=nv (kSc N T)):=by
 obtain ⟨w1,hw1⟩:∃ w1,Hid (w.alloc (.cells #[.int .u64 0,.int .u64 0,.int .u64 0,.int .u64 0] 46)=w1):=⟨_,rfl⟩
 have K2:Hid (Row w1 w.heap.size [.int .u64 0,.int .u64 0,.int .u64 0,.int .u64 0]∧Below w.heap.size w w1∧Holds encB w1 r2 0 T):=by rw[← hw1.out];exact ⟨row_new w _ _,below1 w _,Holds.below hT (below1 w _) (Holds.lt hT (by omega))⟩
 clear hT
 have hlt:=redu_lt O (SP.strmL T.toList 64)
 have HO:=orOne_c O hlt
 have hS:=spread_c O r2 T w1 hTs K2.out.2.2
 have HK:Hid (kSc N T=orOne (redu N (SP.strmL T.toList 64))):=rfl
 generalize redu N (SP.strmL T.toList 64)=m at HO hS HK hlt
 rw[HK.out]
 generalize orOne m=x at HO ⊢
 obtain ⟨vm,hvm⟩:∃ vm,Hid (nv m=vm):=⟨_,rfl⟩
 rw[hvm.out] at HO hS
 go_enter Tryd.func20,Tryd.ntmps20
 go_wp2_with fail
 rw[hw1.out]
 clear hw1
 refine hS.mono ?_
 rintro e w3 ⟨v,rfl,h2,rfl⟩
 have K3:Hid (Row w3 w.heap.size [.int .u64 0,.int .u64 0,.int .u64 0,.int .u64 0]∧Below w.heap.size w w3):=⟨K2.out.1.below h2,K2.out.2.1.trans (h2.mono K2.out.2.1.size)⟩
 clear h2 K2 hS
 go_wp2_with fail
 refine (HO w3).mono ?_
 rintro e w4 ⟨v,rfl,hb4,rfl⟩
 have K4:Hid (Row w4 w.heap.size [.int .u64 0,.int .u64 0,.int .u64 0,.int .u64 0]∧Below w.heap.size w w4):=⟨K3.out.1.below hb4,K3.out.2.trans (hb4.mono K3.out.2.size)⟩
 clear hb4 K3 HO
 obtain ⟨w5,hw5⟩:∃ w5,Hid (w4.setCells w.heap.size 0 (wn x)=w5):=⟨_,rfl⟩
 have K5:Hid (Row w5 w.heap.size (wn x)∧Below w.heap.size w w5):=by rw[← hw5.out];exact ⟨K4.out.1.put rfl,RG.below_setCells (Nat.le_refl _) _ _ _ K4.out.2⟩
 obtain ⟨vx,hvx⟩:∃ vx,Hid (nv x=vx):=⟨_,rfl⟩
 rw[hvx.out]
 go_wp2_with (refine wpList_store_mid rfl 46 _ _ rfl w.heap.size 0 (wn x).toArray ?_ ?_ ?_ ?_ ?_ ?_;rfl;exact hvx.out.symm;exact K4.out.1.2.2;exact i40;exact wn_one x;rw[show (wn x).toArray.toList=wn x from rfl,hw5.out])
 refine bodyPost_ret (results_cell 2 46 rfl K5.out.1 rfl u40 i40) rfl ?_
 exact ⟨_,rfl,K5.out.2,rfl⟩
end
section
open Go.RowKit Go.Sort Go.Deep
section
variable {P:Program} {ops:Array Oper} {rest:List Oper} {op:Oper} {a:Act} {w w':World} {v:Value} {Q:Exit→Act→World→Prop}
theorem wpList_op (hgd:op.guard=none) (X:Op) (_:op.op=X) (hr:(execOp a.eval op).run P w=.ok (.value v) w') (h:wpList P ops Q rest (a.put op.dst v) w'):wpList P ops Q (op :: rest) a w:=
 wpList_plain hgd fun K hK=>by
  unfold Oper.wp
  rw[hr]
  exact hK _ _ h
end
variable {N:Nat}
theorem Hid.mk' {p:Prop} (h:p):Hid p:=h
end
namespace SP
open Go.RowKit Go.Sort Go.Deep
end SP
section
open Go.RowKit Go.Sort Go.Deep
variable {P:Nat} [NeZero P] {N:Nat}
end
section
open Go.RowKit Go.Sort
variable {P:Nat} [NeZero P] {N:Nat}
end
section
open Go.RowKit Go.Sort Go.Deep
variable {P:Nat} [NeZero P] {N:Nat}
def n12 (P:Nat) [NeZero P]:List Value:=ws (0:Fin P)++(ws (1:Fin P)++ws (0:Fin P))
end
section
open Go.RowKit Go.Sort
variable {P:Nat} [NeZero P] {N:Nat}
end
section
open Go.RowKit Go.Sort Go.Deep
variable {P:Nat} [NeZero P] {N:Nat}
end
section
open Go.RowKit Go.Sort
variable {P:Nat} [NeZero P] {N:Nat}
end
section
open Go.RowKit Go.Sort Go.Deep
variable {P:Nat} [NeZero P] {N:Nat}
end
section
open Go.RowKit Go.Sort
variable {P:Nat} [NeZero P] {N:Nat}
end
section
open Go.RowKit Go.Sort Go.Deep
variable {P:Nat} [NeZero P] {N:Nat}
end
section
open Go.RowKit Go.Sort Go.Deep
variable {N:Nat}
variable {P:Nat} [NeZero P]
end
section
open Go.RowKit Go.Sort Go.Deep
variable {P:Nat} [NeZero P] {N:Nat}
theorem undCP:Tryd.prog.underlying 38=some (.array 33 5):=by kernel_rfl
theorem bl33_lit {b:Bs} (h:b.size=33):bl33 b=[.int .u8 (ub b[0]!),.int .u8 (ub b[1]!),.int .u8 (ub b[2]!),.int .u8 (ub b[3]!),.int .u8 (ub b[4]!),.int .u8 (ub b[5]!),.int .u8 (ub b[6]!),.int .u8 (ub b[7]!),.int .u8 (ub b[8]!),.int .u8 (ub b[9]!),.int .u8 (ub b[10]!),.int .u8 (ub b[11]!),.int .u8 (ub b[12]!),.int .u8 (ub b[13]!),.int .u8 (ub b[14]!),.int .u8 (ub b[15]!),.int .u8 (ub b[16]!),.int .u8 (ub b[17]!),.int .u8 (ub b[18]!),.int .u8 (ub b[19]!),.int .u8 (ub b[20]!),.int .u8 (ub b[21]!),.int .u8 (ub b[22]!),.int .u8 (ub b[23]!),.int .u8 (ub b[24]!),.int .u8 (ub b[25]!),.int .u8 (ub b[26]!),.int .u8 (ub b[27]!),.int .u8 (ub b[28]!),.int .u8 (ub b[29]!),.int .u8 (ub b[30]!),.int .u8 (ub b[31]!),.int .u8 (ub b[32]!)]:=by
 apply List.ext_getElem?
 intro i
 by_cases hi:i<33
 ·rw[bl33_at b i (by omega)]
  match i,hi with
  | 0,_=>rfl
  | 1,_=>rfl
  | 2,_=>rfl
  | 3,_=>rfl
  | 4,_=>rfl
  | 5,_=>rfl
  | 6,_=>rfl
  | 7,_=>rfl
  | 8,_=>rfl
  | 9,_=>rfl
  | 10,_=>rfl
  | 11,_=>rfl
  | 12,_=>rfl
  | 13,_=>rfl
  | 14,_=>rfl
  | 15,_=>rfl
  | 16,_=>rfl
  | 17,_=>rfl
  | 18,_=>rfl
  | 19,_=>rfl
  | 20,_=>rfl
  | 21,_=>rfl
  | 22,_=>rfl
  | 23,_=>rfl
  | 24,_=>rfl
  | 25,_=>rfl
  | 26,_=>rfl
  | 27,_=>rfl
  | 28,_=>rfl
  | 29,_=>rfl
  | 30,_=>rfl
  | 31,_=>rfl
  | 32,_=>rfl
  | n+33,h=>exact absurd h (by omega)
 ·rw[List.getElem?_eq_none (by rw[bl33_length h];omega),List.getElem?_eq_none (by show 33≤i;omega)]
theorem bytes_eq {a b:Bs} (ha:a.size=33) (hb:b.size=33):(∀ i∈List.range 33,ub a[i]! = ub b[i]!)↔a=b:=by
 constructor
 ·intro h
  apply Array.ext (by rw[ha,hb])
  intro i h1 h2
  have h3:=h i (List.mem_range.2 (by omega))
  rw[getElem!_pos a i h1,getElem!_pos b i h2] at h3
  have h4:a[i].toNat=b[i].toNat:=by unfold ub at h3;omega
  exact UInt8.toNat_inj.1 h4
 ·rintro rfl i _
  rfl
theorem eqCP {a b:Bs} (ha:a.size=33) (hb:b.size=33) (w:World):(Op.equal 38 (.agg (bl33 a).toArray) (.agg (bl33 b).toArray)).run Tryd.prog w=.ok (decide (a=b)) w:=by
 have hi:(Tryd.prog.info? 5).isSome=true:=by kernel_rfl
 obtain ⟨inf,hinf⟩:=Option.isSome_iff_exists.1 hi
 show (Op.equalIn 10000 38 _ _).run Tryd.prog w=_
 rw[run_equalIn_array w 9999 _ _ undCP hinf,cells5,
  eqI _ _ (fun i=>ub a[i]!) (fun i=>ub b[i]!) 9998 w (List.range 33) (fun i hi=>by
   rw[List.getElem?_toArray]
   exact bl33_at a i (by rw[ha];exact List.mem_range.1 hi)) (fun i hi=>by
   rw[List.getElem?_toArray]
   exact bl33_at b i (by rw[hb];exact List.mem_range.1 hi))]
 rw[decide_eq_decide.2 (bytes_eq ha hb)]
theorem checkCP {b:Bs} (hb:b.size=33) (e:Bool) (w:World):(Instr.checkKey e 10000 38 (.agg (bl33 b).toArray)).run Tryd.prog w=.ok () w:=by
 rw[bl33_lit hb]
 kernel_rfl
def at? (b:Bs):List Bs→Nat→Option Nat
 | [],_=>none
 | k :: r,i=>if b=k then some i else at? b r (i+1)
def ents:List Bs→Nat→List MapEntry
 | [],_=>[]
 | k :: r,i=>{ key:=.agg (bl33 k).toArray,val:=.int .i64 i,born:=i } :: ents r (i+1)
theorem find_run {b:Bs} (hb:b.size=33) (w:World):∀ (D:List Bs) (i:Nat),(∀ k∈D,k.size=33)→(Instr.findAsking 38 (.agg (bl33 b).toArray) (ents D i) i).run Tryd.prog w=.ok ((at? b D i).map fun j=>(j,.int .i64 j)) w
 | [],i,_=>rfl
 | k :: r,i,h=>by
  have ih:=find_run hb w r (i+1) (fun x hx=>h x (List.mem_cons_of_mem _ hx))
  have he:=eqCP hb (h k List.mem_cons_self) w
  unfold ents Instr.findAsking at?
  simp only[Sem.run_bind,he,Result.andThen_ok]
  by_cases hk:b=k
  ·simp only[hk,decide_true,if_true,Sem.run_pure,Option.map_some]
  ·simp only[hk,decide_false,Bool.false_eq_true,if_false,ih]
theorem key_run {b:Bs} (hb:b.size=33) (D:List Bs) (h:∀ k∈D,k.size=33) (w:World):(Instr.findKey 38 (.agg (bl33 b).toArray) (ents D 0)).run Tryd.prog w=.ok ((at? b D 0).map fun j=>(j,.int .i64 j)) w:=by
 have hu:(underlying 38).run Tryd.prog w=.ok (.array 33 5) w:=run_underlying undCP w
 unfold Instr.findKey
 rw[Sem.run_bind,hu,Result.andThen_ok]
 cases D with
 | nil=>rfl
 | cons k r =>
  have h1:Instr.findNow (.array 33 5) (.agg (bl33 b).toArray) (ents (k :: r) 0) 0=none:=rfl
  simp only[h1]
  exact find_run hb w (k :: r) 0 h
theorem at?_none {b:Bs}:∀ {D:List Bs} {i:Nat},at? b D i=none↔b ∉ D
 | [],i=>by simp[at?]
 | k :: r,i=>by
  unfold at?
  by_cases h:b=k
  ·simp[h]
  ·simp[h,at?_none (D:=r) (i:=i+1)]
end
section
open Go.RowKit Go.Sort Go.Deep
section
variable {P:Program} {ops:Array Oper} {rest:List Oper} {op:Oper} {a:Act} {w w':World} {v u:Value} {Q:Exit→Act→World→Prop}
theorem wpList_box (hgd:op.guard=none) (T:TypeId) (x:Operand) (ho:op.op=.box T x) (hx:a.eval x=u) (hr:(Instr.box T u).run P w=.ok v w') (h:wpList P ops Q rest (a.put op.dst v) w'):wpList P ops Q (op :: rest) a w:=
 wpList_plain hgd fun K hK=>by
  unfold Oper.wp execOp
  simp only[ho,hx,Sem.run_bind,hr,Result.andThen_ok,Sem.run_pure]
  exact hK _ _ h
end
variable {N:Nat}
theorem infoCP:(Tryd.prog.info? 38).map (·.size)=some 33:=by kernel_rfl
theorem uCP:(Tryd.prog.underlying 38).map (·.isRow)=some true:=by kernel_rfl
theorem boxCP {a:Bs} (ha:a.size=33) (w:World):(Instr.box 38 (.agg (bl33 a).toArray)).run Tryd.prog w=.ok (.pointer (some ⟨w.heap.size,0,none⟩)) (w.alloc (.cells (bl33 a).toArray 38)):=by
 rw[bl33_lit ha]
 kernel_rfl
theorem slCP (k:Nat) (w:World):(Instr.sliceAt 38 (.pointer (some ⟨k,0,none⟩)) none none none).run Tryd.prog w=.ok (.slice (some ⟨k,0,none⟩) 33 33) w:=by kernel_rfl
theorem row_holds {W:World} {k:Nat} {a:Bs} (h:Row W k (bl33 a)):Holds encB W k 0 a:=cb_holds h.2.1 h.2.2
end
section
open Go.RowKit Go.Sort Go.Deep
variable {P:Nat} [NeZero P] {N:Nat}
theorem arrCP (g cg:Nat) (w:World):(Instr.arrayAt 38 (.slice (some ⟨g,0,none⟩) 33 cg)).run Tryd.prog w=.ok (.pointer (some ⟨g,0,none⟩)) w:=by kernel_rfl
theorem row_cp {W:World} {k:Nat} {a:Bs} (ha:Holds encB W k 0 a) (hk:k<W.heap.size):Row W k (bl33 a):=⟨hk,(cb_range ha).1,(cb_range ha).2⟩
theorem bl33_one (a:Bs):(bl33 a).toArray.all (·.oneCell')=true:=by
 rw[Array.all_eq_true']
 intro v hv
 obtain ⟨x,-,rfl⟩:=List.mem_map.1 (List.mem_toArray.1 hv)
 rfl
def pvl (a:Bs):Value:=.agg (bl33 a).toArray
theorem gen_c (C:Fld P):Gives 9 #[] (pvl (wr (gG P))):=by
 intro w
 obtain ⟨T,hT⟩:∃ T,Hid (wr (gG P)=T):=⟨_,rfl⟩
 have hTs:T.size=33:=by rw[← hT.out];exact wr_size _
 rw[hT.out]
 obtain ⟨w1,hw1⟩:∃ w1,Hid (w.alloc (.cells z33.toArray 38)=w1):=⟨_,rfl⟩
 have K1:Hid (Row w1 w.heap.size z33∧Below w.heap.size w w1):=by rw[← hw1.out];exact ⟨row_new w _ _,below1 w _⟩
 obtain ⟨d,hd1,hd2⟩:=Option.map_eq_some_iff.1 uCP
 have HD:Hid (Tryd.prog.underlying 38=some d∧d.isRow=true):=⟨hd1,hd2⟩
 clear hd1 hd2
 go_enter Tryd.func9,Tryd.ntmps9
 go_wp2_with (refine wpList_op (v:=.pointer (some ⟨w.heap.size,0,none⟩)) (w':=w1) rfl (.alloc 38) rfl ?_ ?_;(rw[← hw1.out];kernel_rfl))
 refine (Base_c C w1).mono ?_
 rintro e w2 ⟨vv,rfl,hb2,g,cg,rfl,-,k2,k3,k4⟩
 rw[hT.out] at k4
 have K2:Hid (Row w2 w.heap.size z33∧Below w.heap.size w w2∧Row w2 g (bl33 T)):=⟨K1.out.1.below hb2,K1.out.2.trans (hb2.mono K1.out.2.size),row_cp k4 k3⟩
 clear hb2 k2 k3 k4 K1 hw1
 have harr:=arrCP g cg
 obtain ⟨w3,hw3⟩:∃ w3,Hid (w2.setCells w.heap.size 0 (bl33 T)=w3):=⟨_,rfl⟩
 have hlen:(bl33 T).length=33:=bl33_length hTs
 have K3:Hid (Row w3 w.heap.size (bl33 T)∧Below w.heap.size w w3):=by rw[← hw3.out];exact ⟨K2.out.1.put (by rw[hlen];rfl),RG.below_setCells (Nat.le_refl _) _ _ _ K2.out.2.1⟩
 obtain ⟨vt,hvt⟩:∃ vt,Hid (Value.agg (bl33 T).toArray=vt):=⟨_,rfl⟩
 have HI:Hid ((Tryd.prog.info? 38).map (·.size)=some (bl33 T).length∧w2.there w.heap.size 0 (bl33 T).toArray.size∧(Tryd.prog.info? 38).map (·.size)=some (bl33 T).toArray.size):=by
  have e:(bl33 T).toArray.size=33:=by rw[List.size_toArray];exact hlen
  refine ⟨by rw[hlen];exact infoCP,by rw[e];exact K2.out.1.2.2,by rw[e];exact infoCP⟩
 clear hlen
 go_wp2_with (first|(refine wpList_load_mid rfl 38 _ rfl g 0 ?_ (bl33 T) d ?_ ?_ ?_ ?_ ?_;rfl;exact K2.out.2.2.2.1;exact HD.out.1;exact HD.out.2;exact HI.out.1;rw[hvt.out])|(refine wpList_store_mid rfl 38 _ _ rfl w.heap.size 0 (bl33 T).toArray ?_ ?_ ?_ ?_ ?_ ?_;rfl;exact hvt.out.symm;exact HI.out.2.1;exact HI.out.2.2;exact bl33_one T;rw[show (bl33 T).toArray.toList=bl33 T from rfl,hw3.out]))
 refine bodyPost_ret (results_cell 0 38 rfl K3.out.1 rfl uCP HI.out.1) rfl ?_
 exact ⟨_,rfl,K3.out.2,rfl⟩
end
section
open Go.RowKit Go.Sort Go.Deep
section
variable {P:Program} {ops:Array Oper} {rest:List Oper} {op:Oper} {a:Act} {w w':World} {v:Value} {Q:Exit→Act→World→Prop}
theorem wpList_bld (hgd:op.guard=none) (T:TypeId) (parts:Array (Nat × Operand)) (ho:op.op=.build T parts) (vs:Array (Nat × Value)) (hx:(parts.map fun (i,x)=>(i,a.eval x))=vs) (hr:(Instr.build T vs).run P w=.ok v w') (h:wpList P ops Q rest (a.put op.dst v) w'):wpList P ops Q (op :: rest) a w:=
 wpList_plain hgd fun K hK=>by
  unfold Oper.wp execOp
  simp only[ho,hx,Sem.run_bind,hr,Result.andThen_ok,Sem.run_pure]
  exact hK _ _ h
theorem wpList_bsl (hgd:op.guard=none) (T:TypeId) (n:Nat) (parts:Array (Nat × Operand)) (ho:op.op=.buildSlice T n parts) (vs:Array (Nat × Value)) (hx:(parts.map fun (i,x)=>(i,a.eval x))=vs) (hr:(Instr.buildSlice T n vs).run P w=.ok v w') (h:wpList P ops Q rest (a.put op.dst v) w'):wpList P ops Q (op :: rest) a w:=
 wpList_plain hgd fun K hK=>by
  unfold Oper.wp execOp
  simp only[ho,hx,Sem.run_bind,hr,Result.andThen_ok,Sem.run_pure]
  exact hK _ _ h
end
theorem bldT {a:Bs} (ha:a.size=33) (n:Nat) (w:World):(Instr.build 56 #[(0,nv n),(1,pvl a)]).run Tryd.prog w=.ok (.agg (wn n++bl33 a).toArray) w:=by
 unfold pvl
 rw[bl33_lit ha]
 kernel_rfl
theorem bslT {a:Bs} (ha:a.size=33) (n:Nat) (w:World):(Instr.buildSlice 40 1 #[(0,.agg (wn n++bl33 a).toArray)]).run Tryd.prog w=.ok (.slice (some ⟨w.heap.size,0,none⟩) 1 1) (w.alloc (.cells (wn n++bl33 a).toArray 56)):=by
 rw[bl33_lit ha]
 kernel_rfl
theorem boxS (n:Nat) (w:World):(Instr.box 46 (nv n)).run Tryd.prog w=.ok (.pointer (some ⟨w.heap.size,0,none⟩)) (w.alloc (.cells (wn n).toArray 46)):=by kernel_rfl
theorem ptTimes_c (a:Bs) (ha:a.size=33) (n:Nat) (w:World):Calls Tryd.prog 10 #[pvl a,nv n] w (Ret fun e w'=>Below w.heap.size w w'∧∃ k,e=.slice (some ⟨k,0,none⟩) 1 1∧w.heap.size≤k∧Row w' k (wn n++bl33 a)):=by
 have B1:=Hid.mk' (boxCP ha w)
 obtain ⟨w1,hw1⟩:∃ w1,Hid (w.alloc (.cells (bl33 a).toArray 38)=w1):=⟨_,rfl⟩
 rw[hw1.out] at B1
 have e1:w1.heap.size=w.heap.size+1:=by rw[← hw1.out,World.size_alloc]
 have B2:=Hid.mk' (boxS n w1)
 obtain ⟨w2,hw2⟩:∃ w2,Hid (w1.alloc (.cells (wn n).toArray 46)=w2):=⟨_,rfl⟩
 rw[hw2.out,e1] at B2
 have e2:w2.heap.size=w.heap.size+2:=by rw[← hw2.out,World.size_alloc,e1]
 have B3:=Hid.mk' (bldT ha n w2)
 have B4:=Hid.mk' (bslT ha n w2)
 obtain ⟨w3,hw3⟩:∃ w3,Hid (w2.alloc (.cells (wn n++bl33 a).toArray 56)=w3):=⟨_,rfl⟩
 rw[hw3.out,e2] at B4
 have K:Hid (Row w2 w.heap.size (bl33 a)∧Row w2 (w.heap.size+1) (wn n)∧Below w.heap.size w w3∧Row w3 (w.heap.size+2) (wn n++bl33 a)):=by
  have q1:Row w1 w.heap.size (bl33 a):=by rw[← hw1.out];exact row_new w _ _
  have q2:Row w2 (w.heap.size+1) (wn n):=by rw[← hw2.out,← e1];exact row_new w1 _ _
  have q3:Row w3 (w.heap.size+2) (wn n++bl33 a):=by rw[← hw3.out,← e2];exact row_new w2 _ _
  have b1:Below w.heap.size w w1:=by rw[← hw1.out];exact below1 w _
  have b2:Below w1.heap.size w1 w2:=by rw[← hw2.out];exact below1 w1 _
  have b3:Below w2.heap.size w2 w3:=by rw[← hw3.out];exact below1 w2 _
  exact ⟨q1.below b2,q2,(b1.trans (b2.mono (by omega))).trans (b3.mono (by omega)),q3⟩
 have HL:Hid ((Tryd.prog.info? 38).map (·.size)=some (bl33 a).length):=by show _=_;rw[bl33_length ha];exact infoCP
 obtain ⟨d,hd1,hd2⟩:=Option.map_eq_some_iff.1 uCP
 obtain ⟨d',hd3,hd4⟩:=Option.map_eq_some_iff.1 u40
 have HD:Hid ((Tryd.prog.underlying 38=some d∧d.isRow=true)∧Tryd.prog.underlying 46=some d'∧d'.isRow=true):=⟨⟨hd1,hd2⟩,hd3,hd4⟩
 clear hd1 hd2 hd3 hd4 hw1 hw2 hw3 e1 e2
 obtain ⟨va,hva⟩:∃ v,Hid (pvl a=v):=⟨_,rfl⟩
 obtain ⟨vn,hvn⟩:∃ v,Hid (nv n=v):=⟨_,rfl⟩
 obtain ⟨vt,hvt⟩:∃ v,Hid (Value.agg (wn n++bl33 a).toArray=v):=⟨_,rfl⟩
 have B1':Hid ((Instr.box 38 va).run Tryd.prog w=.ok (.pointer (some ⟨w.heap.size,0,none⟩)) w1):=by rw[← hva.out];exact B1
 rw[hvn.out] at B2
 rw[hva.out,hvn.out,hvt.out] at B3
 rw[hvt.out] at B4
 rw[hva.out,hvn.out]
 clear B1
 go_enter Tryd.func10,Tryd.ntmps10
 go_wp2_with (first|(refine wpList_box (u:=va) (v:=.pointer (some ⟨w.heap.size,0,none⟩)) (w':=w1) rfl 38 (.tmp 0) rfl ?_ ?_ ?_;rfl;exact B1'.out)|(refine wpList_box (u:=vn) (v:=.pointer (some ⟨w.heap.size+1,0,none⟩)) (w':=w2) rfl 46 (.tmp 1) rfl ?_ ?_ ?_;rfl;exact B2.out)|(refine wpList_load_mid rfl 46 _ rfl (w.heap.size+1) 0 ?_ (wn n) d' ?_ ?_ ?_ ?_ ?_;rfl;exact K.out.2.1.2.1;exact HD.out.2.1;exact HD.out.2.2;exact i40;rw[show Value.agg (wn n).toArray=vn from hvn.out])|(refine wpList_load_mid rfl 38 _ rfl w.heap.size 0 ?_ (bl33 a) d ?_ ?_ ?_ ?_ ?_;rfl;exact K.out.1.2.1;exact HD.out.1.1;exact HD.out.1.2;exact HL.out;rw[show Value.agg (bl33 a).toArray=va from hva.out])|(refine wpList_bld (v:=vt) (w':=w2) rfl 56 _ rfl #[(0,vn),(1,va)] ?_ ?_ ?_;kernel_rfl;exact B3.out)|(refine wpList_bsl (v:=.slice (some ⟨w.heap.size+2,0,none⟩) 1 1) (w':=w3) rfl 40 1 _ rfl #[(0,vt)] ?_ ?_ ?_;kernel_rfl;exact B4.out))
 go_ret
 exact ⟨_,rfl,K.out.2.2.1,w.heap.size+2,rfl,by omega,K.out.2.2.2⟩
end
section
open Go.RowKit Go.Sort Go.Deep
variable {P:Nat} [NeZero P] {N:Nat}
theorem boxT {a:Bs} (ha:a.size=33) (n:Nat) (w:World):(Instr.box 56 (.agg (wn n++bl33 a).toArray)).run Tryd.prog w=.ok (.pointer (some ⟨w.heap.size,0,none⟩)) (w.alloc (.cells (wn n++bl33 a).toArray 56)):=by
 rw[bl33_lit ha]
 kernel_rfl
theorem bldS (w:World):(Instr.build 46 #[]).run Tryd.prog w=.ok (nv 0) w:=by kernel_rfl
def tvl (n:Nat) (a:Bs):Value:=.agg (wn n++bl33 a).toArray
theorem range_front {W:World} {k:Nat} {xs ys:List Value} (h:W.rangeAt k 0 (xs++ys)):W.rangeAt k 0 xs:=fun j v hj=>h j v (by rw[List.getElem?_append_left (List.getElem?_eq_some_iff.1 hj).1];exact hj)
theorem range_back {W:World} {k:Nat} {xs ys:List Value} (h:W.rangeAt k 0 (xs++ys)):W.rangeAt k xs.length ys:=fun j v hj=>by
 have:=h (xs.length+j) v (by rw[List.getElem?_append_right (Nat.le_add_right _ _),Nat.add_sub_cancel_left];exact hj)
 rwa[Nat.zero_add] at this
theorem none_c {n:Nat} (hn:n<top) {a:Bs} (ha:a.size=33):Gives 38 #[tvl n a] (.bool (decide (n=0))):=by
 intro w
 have B1:=Hid.mk' (boxT ha n w)
 obtain ⟨w1,hw1⟩:∃ w1,Hid (w.alloc (.cells (wn n++bl33 a).toArray 56)=w1):=⟨_,rfl⟩
 rw[hw1.out] at B1
 have K:Hid (Row w1 w.heap.size (wn n++bl33 a)∧Below w.heap.size w w1):=by rw[← hw1.out];exact ⟨row_new w _ _,below1 w _⟩
 obtain ⟨d',hd3,hd4⟩:=Option.map_eq_some_iff.1 u40
 have HD:Hid (Tryd.prog.underlying 46=some d'∧d'.isRow=true):=⟨hd3,hd4⟩
 clear hd3 hd4 hw1
 obtain ⟨va,hva⟩:∃ v,Hid (tvl n a=v):=⟨_,rfl⟩
 obtain ⟨vn,hvn⟩:∃ v,Hid (nv n=v):=⟨_,rfl⟩
 obtain ⟨v0,hv0⟩:∃ v,Hid (nv 0=v):=⟨_,rfl⟩
 have B1':Hid ((Instr.box 56 va).run Tryd.prog w=.ok (.pointer (some ⟨w.heap.size,0,none⟩)) w1):=by rw[← hva.out];exact B1
 have B2:Hid ((Instr.build 46 #[]).run Tryd.prog w1=.ok v0 w1):=by rw[← hv0.out];exact bldS w1
 have B3:=Hid.mk' (eqS hn (show 0<top by unfold top;omega) w1)
 rw[hvn.out,hv0.out] at B3
 have hq:=B3.out
 obtain ⟨z,hz⟩:∃ z,Hid (decide (n=0)=z):=⟨_,rfl⟩
 rw[hz.out] at hq
 have hg:(eqGuard .eql 46 (.tmp 4) (.tmp 5) vn v0).run Tryd.prog w1=.ok () w1:=by rw[← hvn.out,← hv0.out];kernel_rfl
 rw[hva.out,hz.out]
 clear B1 B3
 go_enter Tryd.func38,Tryd.ntmps38
 go_wp2_with (first|(refine wpList_box (u:=va) (v:=.pointer (some ⟨w.heap.size,0,none⟩)) (w':=w1) rfl 56 (.tmp 0) rfl ?_ ?_ ?_;rfl;exact B1'.out)|(refine wpList_load_mid rfl 46 _ rfl w.heap.size 0 ?_ (wn n) d' ?_ ?_ ?_ ?_ ?_;rfl;exact range_front K.out.1.2.1;exact HD.out.1;exact HD.out.2;exact i40;rw[show Value.agg (wn n).toArray=vn from hvn.out])|(refine wpList_bld (v:=v0) (w':=w1) rfl 46 _ rfl #[] ?_ ?_ ?_;kernel_rfl;exact B2.out))
 go_wp2
 go_ret
 exact ⟨_,rfl,K.out.2,rfl⟩
theorem uT:(Tryd.prog.underlying 56).map (·.isRow)=some true:=by kernel_rfl
theorem iT:(Tryd.prog.info? 56).map (·.size)=some 37:=by kernel_rfl
theorem atT (k o n c i:Nat) (hi:i<n) (w:World):(Instr.indexAt 40 (.slice (some ⟨k,o,none⟩) n c) (.int .i64 i)).run Tryd.prog w=.ok (.pointer (some ⟨k,o+37*i,none⟩)) w:=by
 have h1:¬ (i:Int)<0:=by omega
 have h2:(i:Int)<n:=by omega
 go_simp
def firstZ (ns:Nat→Nat):Nat→Nat→Int
 | _,0=>-1
 | i,m+1=>if ns i=0 then (i:Int) else firstZ ns (i+1) m
def FIx_2 (b:Bool):List RG.It:=[.x 9 [] (.bool b)]
def FIx_4 (g k c i n:Nat) (a:Bs) (z:Bool):List RG.It:=[.x 11 [] (.func (.func 38) #[] #[]),.x 12 [] (.slice (some ⟨g,0,none⟩) k c),.x 13 [] (.int .i64 i),.x 14 [(12,1),(13,2)] (.pointer (some ⟨g,(0+37*i),none⟩)),.x 15 [(14,3)] (tvl n a),.c 16 [(11,0),(15,4)] (.bool z)]
theorem index_c (g k c:Nat) (hk:k≤1000000) (ns:Nat→Nat) (az:Nat→Bs) (hn:∀ j,j<k→ns j<top) (ha:∀ j,j<k→(az j).size=33) (w:World) (hg:g<w.heap.size) (hr:∀ j,j<k→w.rangeAt g (37*j) (wn (ns j)++bl33 (az j))) :
 Calls Tryd.prog 54 #[(.slice (some ⟨g,0,none⟩) k c),(.func (.func 38) #[] #[])] w (Ret fun e w'=>Below w.heap.size w w'∧e=.int .i64 (firstZ ns 0 k)):=by
 obtain ⟨R,hR⟩:∃ R,firstZ ns 0 k=R:=⟨_,rfl⟩
 rw[hR]
 go_enter Tryd.func54,Tryd.ntmps54
 refine RG.M.enter [(0,.v (.slice (some ⟨g,0,none⟩) k c)),(1,.v (.func (.func 38) #[] #[]))] 19 (by kernel_rfl) ?_
 intro a0 M0
 repeat refine wp_seq ?_
 refine M0.u [.x 4 [] (.int .i64 0)] [(0,.v (.slice (some ⟨g,0,none⟩) k c)),(1,.v (.func (.func 38) #[] #[]))] ⟨RG.st,trivial⟩ ?_
 intro a1 w1 M1
 repeat refine wp_seq ?_
 refine M1.u [.x 6 [] (.slice (some ⟨g,0,none⟩) k c),.x 7 [(6,0)] (.int .i64 k),.x 8 [] (.int .i64 0)] [(0,.v (.slice (some ⟨g,0,none⟩) k c)),(1,.v (.func (.func 38) #[] #[])),(7,.v (.int .i64 k)),(8,.v (.int .i64 0))] ⟨RG.st,RG.st,RG.st,trivial⟩ ?_
 intro a2 w2 M2
 repeat refine wp_seq ?_
 refine wp_block ?_
 refine wp_loop_ghost (fun m a wr=>∃ i:Nat,i+m=k∧firstZ ns i m=R∧RG.M w w.heap.size [] 19 [] [] [(0,.v (.slice (some ⟨g,0,none⟩) k c)),(1,.v (.func (.func 38) #[] #[])),(7,.v (.int .i64 k)),(8,.v (.int .i64 i))] a wr) k ⟨0,by omega,hR,M2⟩ ?_
 intro m' a wr
 rintro ⟨i,him,hf,M20⟩
 by_cases hi:i<k
 ·obtain ⟨n,hne⟩:∃ n,ns i=n:=⟨_,rfl⟩
  obtain ⟨b,hbe⟩:∃ b,az i=b:=⟨_,rfl⟩
  have hnt:=hn i hi
  have hbs:=ha i hi
  have hri:=hr i hi
  rw[hne] at hnt hri
  rw[hbe] at hbs hri
  have hri':w.rangeAt g (0+37*i) (wn n++bl33 b):=by rw[Nat.zero_add];exact hri
  have hlen:(Tryd.prog.info? 56).map (·.size)=some (wn n++bl33 b).length:=by rw[List.length_append,bl33_length hbs];exact iT
  have hz:=none_c hnt hbs
  obtain ⟨m2,rfl⟩:∃ m2,m'=m2+1:=⟨m'-1,by omega⟩
  unfold firstZ at hf
  rw[hne] at hf
  repeat refine wp_seq ?_
  refine M20.u (FIx_2 true) [(0,.v (.slice (some ⟨g,0,none⟩) k c)),(1,.v (.func (.func 38) #[] #[])),(7,.v (.int .i64 k)),(8,.v (.int .i64 i)),(9,.v (.bool true))] ⟨RG.cert_bin rfl .lss 3 3 8 7 (.int .i64 i) (.int .i64 k) (.bool true) rfl rfl RG.sx RG.sx (fun w=>by kernel_rfl) (lssn_t hi),trivial⟩ ?_
  intro a21 w21 M21
  repeat refine wp_seq ?_
  refine wp_cond_true M21.ev ?_
  refine wp_skip ?_
  refine wp_seq ?_
  refine wp_block ?_
  repeat refine wp_seq ?_
  refine M21.u [.x 10 [] (.int .i64 i),.x 5 [(10,0)] (.int .i64 i)] [(0,.v (.slice (some ⟨g,0,none⟩) k c)),(1,.v (.func (.func 38) #[] #[])),(7,.v (.int .i64 k)),(8,.v (.int .i64 i)),(5,.v (.int .i64 i))] ⟨RG.st,RG.st,trivial⟩ ?_
  intro a22 w22 M22
  repeat refine wp_seq ?_
  by_cases h0:n=0
  ·rw[decide_eq_true h0] at hz
   rw[if_pos h0] at hf
   refine M22.u (FIx_4 g k c i n b true) [(0,.v (.slice (some ⟨g,0,none⟩) k c)),(1,.v (.func (.func 38) #[] #[])),(7,.v (.int .i64 k)),(8,.v (.int .i64 i)),(5,.v (.int .i64 i)),(16,.v (.bool true))] ⟨RG.st,RG.st,RG.st,RG.cert_idx rfl 40 12 13 rfl (.v (.slice (some ⟨g,0,none⟩) k c)) (.int .i64 i) RG.sx RG.sx (fun μ w=>atT _ 0 _ _ i hi w),RG.cert_loadB rfl g (0+37*i) hg List.not_mem_nil 56 14 rfl (wn n++bl33 b) rfl RG.sx hri' uT hlen,RG.clB (fun _ _=>by kernel_rfl) (fun w' _=>hz w'),trivial⟩ ?_
   intro a23 w23 M23
   repeat refine wp_seq ?_
   refine wp_cond_true M23.ev ?_
   repeat refine wp_seq ?_
   refine M23.u [.x 17 [] (.int .i64 i),.x 4 [(17,0)] (.int .i64 i)] [(4,.v (.int .i64 i))] ⟨RG.st,RG.st,trivial⟩ ?_
   intro a24 w24 M24
   refine wp_ret ?_
   refine bodyPost_ret (v:=.int .i64 i) (RG.results_t 4 rfl (.int .i64 i) M24.av) M24.sl.defers ?_
   exact ⟨_,rfl,M24.st.bel.below,by rw[hf]⟩
  ·rw[decide_eq_false h0] at hz
   rw[if_neg h0] at hf
   refine M22.u (FIx_4 g k c i n b false) [(0,.v (.slice (some ⟨g,0,none⟩) k c)),(1,.v (.func (.func 38) #[] #[])),(7,.v (.int .i64 k)),(8,.v (.int .i64 i)),(16,.v (.bool false))] ⟨RG.st,RG.st,RG.st,RG.cert_idx rfl 40 12 13 rfl (.v (.slice (some ⟨g,0,none⟩) k c)) (.int .i64 i) RG.sx RG.sx (fun μ w=>atT _ 0 _ _ i hi w),RG.cert_loadB rfl g (0+37*i) hg List.not_mem_nil 56 14 rfl (wn n++bl33 b) rfl RG.sx hri' uT hlen,RG.clB (fun _ _=>by kernel_rfl) (fun w' _=>hz w'),trivial⟩ ?_
   intro a23 w23 M23
   repeat refine wp_seq ?_
   refine wp_cond_false M23.ev ?_
   refine wp_skip ?_
   repeat refine wp_seq ?_
   refine M23.u [.x 18 [] (.int .i64 ((i+1:Nat):Int)),.x 8 [(18,0)] (.int .i64 ((i+1:Nat):Int))] [(0,.v (.slice (some ⟨g,0,none⟩) k c)),(1,.v (.func (.func 38) #[] #[])),(7,.v (.int .i64 k)),(8,.v (.int .i64 ((i+1:Nat):Int)))] ⟨RG.cert_binc rfl .add 3 3 8 (.int .i64 i) (.int .i64 1) (.int .i64 ((i+1:Nat):Int)) rfl rfl RG.sx (fun w=>by kernel_rfl) (addn i 1 (by omega) (by omega)),RG.st,trivial⟩ ?_
   intro a24 w24 M24
   show ∃ n',_
   exact ⟨m2,by omega,i+1,by omega,hf,M24⟩
 ·have hik:m'=0:=by omega
  rw[hik] at hf
  unfold firstZ at hf
  repeat refine wp_seq ?_
  refine M20.u (FIx_2 false) [(9,.v (.bool false))] ⟨RG.cert_bin rfl .lss 3 3 8 7 (.int .i64 i) (.int .i64 k) (.bool false) rfl rfl RG.sx RG.sx (fun w=>by kernel_rfl) (lssn_f hi),trivial⟩ ?_
  intro a21 w21 M21
  repeat refine wp_seq ?_
  refine wp_cond_false M21.ev ?_
  refine wp_exit ?_
  dsimp only[Exit.then,Exit.inBlock]
  rw[if_pos rfl]
  repeat refine wp_seq ?_
  refine M21.u [.x 4 [] (.int .i64 (-1))] [(4,.v (.int .i64 (-1)))] ⟨RG.st,trivial⟩ ?_
  intro a22 w22 M22
  refine wp_ret ?_
  refine bodyPost_ret (v:=.int .i64 (-1)) (RG.results_t 4 rfl (.int .i64 (-1)) M22.av) M22.sl.defers ?_
  exact ⟨_,rfl,M22.st.bel.below,by rw[← hf]⟩
theorem firstZ_none {ns:Nat→Nat}:∀ (m i:Nat),(∀ j,i≤j→j<i+m→ns j≠0)→firstZ ns i m = -1
 | 0,_,_=>rfl
 | m+1,i,h=>by
  unfold firstZ
  rw[if_neg (h i (Nat.le_refl _) (by omega))]
  exact firstZ_none m (i+1) (fun j h1 h2=>h j (by omega) (by omega))
theorem delete_none (g k c:Nat) (hk:k≤1000000) (ns:Nat→Nat) (az:Nat→Bs) (hn:∀ j,j<k→ns j<top) (hn0:∀ j,j<k→ns j≠0) (ha:∀ j,j<k→(az j).size=33) (w:World) (hg:g<w.heap.size) (hr:∀ j,j<k→w.rangeAt g (37*j) (wn (ns j)++bl33 (az j))) :
 Calls Tryd.prog 37 #[(.slice (some ⟨g,0,none⟩) k c),(.func (.func 38) #[] #[])] w (Ret fun e w'=>Below w.heap.size w w'∧e=(.slice (some ⟨g,0,none⟩) k c)):=by
 have hI:∀ w',RG.BelX w.heap.size [] w w'→Calls Tryd.prog 54 #[(.slice (some ⟨g,0,none⟩) k c),(.func (.func 38) #[] #[])] w' (Ret fun e w''=>Below w'.heap.size w' w''∧e=.int .i64 (-1)):=fun w' hb=>by
  have h:=index_c g k c hk ns az hn ha w' (Nat.lt_of_lt_of_le hg hb.below.size) (fun j hj=>RG.range_below (hr j hj) hb.below hg)
  rw[firstZ_none k 0 (fun j _ h2=>hn0 j (by omega))] at h
  exact h
 go_enter Tryd.func37,Tryd.ntmps37
 refine RG.M.enter [(0,.v (.slice (some ⟨g,0,none⟩) k c)),(1,.v (.func (.func 38) #[] #[]))] 42 (by kernel_rfl) ?_
 intro a0 M0
 repeat refine wp_seq ?_
 refine M0.u [.x 4 [] (.slice none 0 0)] [(0,.v (.slice (some ⟨g,0,none⟩) k c)),(1,.v (.func (.func 38) #[] #[]))] ⟨RG.st,trivial⟩ ?_
 intro a1 w1 M1
 repeat refine wp_seq ?_
 refine M1.u [.x 8 [] (.slice (some ⟨g,0,none⟩) k c),.x 9 [] (.func (.func 38) #[] #[]),.c 10 [(8,0),(9,1)] (.int .i64 (-1)),.x 5 [(10,2)] (.int .i64 (-1))] [(0,.v (.slice (some ⟨g,0,none⟩) k c)),(5,.v (.int .i64 (-1)))] ⟨RG.st,RG.st,RG.clB (fun _ _=>by kernel_rfl) hI,RG.st,trivial⟩ ?_
 intro a2 w2 M2
 repeat refine wp_seq ?_
 refine M2.u [.x 11 [] (.int .i64 (-1)),.x 12 [(11,0)] (.bool true)] [(0,.v (.slice (some ⟨g,0,none⟩) k c)),(12,.v (.bool true))] ⟨RG.st,RG.st,trivial⟩ ?_
 intro a3 w3 M3
 repeat refine wp_seq ?_
 refine wp_cond_true M3.ev ?_
 repeat refine wp_seq ?_
 refine M3.u [.x 13 [] (.slice (some ⟨g,0,none⟩) k c),.x 4 [(13,0)] (.slice (some ⟨g,0,none⟩) k c)] [(4,.v (.slice (some ⟨g,0,none⟩) k c))] ⟨RG.st,RG.st,trivial⟩ ?_
 intro a4 w4 M4
 refine wp_ret ?_
 refine bodyPost_ret (v:=(.slice (some ⟨g,0,none⟩) k c)) (RG.results_t 4 rfl _ M4.av) M4.sl.defers ?_
 exact ⟨_,rfl,M4.st.bel.below,rfl⟩
theorem undM:Tryd.prog.underlying 80=some (.map 38 3):=by kernel_rfl
theorem zero3 (w:World):(zeroValue 3).run Tryd.prog w=.ok (.int .i64 0) w:=by kernel_rfl
theorem ents_snoc (b:Bs):∀ (D:List Bs) (i:Nat),ents (D++[b]) i=ents D i++[{ key:=.agg (bl33 b).toArray,val:=.int .i64 ((i+D.length:Nat):Int),born:=i+D.length }]
 | [],i=>rfl
 | k :: r,i=>by
  rw[List.cons_append]
  unfold ents
  rw[ents_snoc b r (i+1),List.length_cons,show i+1+r.length=i+(r.length+1) by omega]
  rfl
theorem look_run {b:Bs} (hb:b.size=33) (D:List Bs) (hD:∀ k∈D,k.size=33) (m clock:Nat) (w:World) (hm:w.heap[m]? = some (.map (ents D 0).toArray clock)) :
 (Instr.lookup 80 (.map (some m)) (.agg (bl33 b).toArray) true).run Tryd.prog w=.ok (.tuple #[.int .i64 (((at? b D 0).getD 0:Nat):Int),.bool (at? b D 0).isSome]) w:=by
 have h1:=run_underlying undM w
 have h2:=fun e=>checkCP hb e w
 have h3:=key_run hb D hD w
 have h4:(getObj m).run Tryd.prog w=.ok (.map (ents D 0).toArray clock) w:=by
  simp[getObj,Sem.run,hm]
 unfold Instr.lookup
 simp only[Sem.run_bind,h1,Result.andThen_ok,h4,Sem.run_pure,h2,h3]
 cases h:at? b D 0 with
 | none=>simp[Sem.run_bind,zero3]
 | some j=>simp
theorem upd_run {b:Bs} (hb:b.size=33) (D:List Bs) (hD:∀ k∈D,k.size=33) (m:Nat) (w:World) (hm:w.heap[m]? = some (.map (ents D 0).toArray D.length)) (hn:at? b D 0=none) :
 (Instr.mapUpdate 80 (.map (some m)) (.agg (bl33 b).toArray) (.int .i64 (D.length:Int))).run Tryd.prog w=.ok () (w.putObj m (.map (ents (D++[b]) 0).toArray (D.length+1))):=by
 have h1:=run_underlying undM w
 have h2:=fun e=>checkCP hb e w
 have h3:=key_run hb D hD w
 rw[hn] at h3
 have h4:(getObj m).run Tryd.prog w=.ok (.map (ents D 0).toArray D.length) w:=by
  simp[getObj,Sem.run,hm]
 unfold Instr.mapUpdate
 simp only[Sem.run_bind,h1,Result.andThen_ok,h4,Sem.run_pure,h2,h3]
 rw[ents_snoc,Nat.zero_add]
 simp[setObj,Sem.run,hm,World.putObj]
theorem undS:Tryd.prog.underlying 40=some (.slice 56):=by kernel_rfl
theorem infoT:(Tryd.prog.info? 56).map (fun i=>(i.size,i.bytes,i.zero.map fun z=>z.cells.size))=some (37,72,some 37):=by kernel_rfl
theorem cells_one (n:Nat) (a:Bs):∀ u∈wn n++bl33 a,u.oneCell'=true:=by
 intro u hu
 rcases List.mem_append.1 hu with h|h
 ·unfold wn at h
  simp only[List.mem_cons,List.not_mem_nil,or_false] at h
  rcases h with rfl|rfl|rfl|rfl<;>rfl
 ·obtain ⟨x,-,rfl⟩:=List.mem_map.1 h
  rfl
theorem app_term {base k g n:Nat} {v:Value} {xs:List Value} {a:Bs} (ha:a.size=33) {W:World} (hown:W.ownsRow base 56 37 v k xs) (hR:Row W g (wn n++bl33 a)) (hk:k≤1000000) (hb:base≤W.heap.size) :
 ∃ v' W',(Builtin.append_ #[40,40] 40 #[v,.slice (some ⟨g,0,none⟩) 1 1]).run Tryd.prog W=.ok v' W'∧W'.ownsRow base 56 37 v' (k+1) (xs++(wn n++bl33 a))∧W.grownBy W' v.ownBlock:=by
 obtain ⟨i,hi,he⟩:=Option.map_eq_some_iff.1 infoT
 simp only[Prod.mk.injEq] at he
 obtain ⟨h1,h2,h3⟩:=he
 obtain ⟨z,hz,hz2⟩:=Option.map_eq_some_iff.1 h3
 obtain ⟨v',W',r1,r2,r3,-⟩:=run_append_own (P:=Tryd.prog) W base 40 40 56 i z 37 72 undS hi hz h1 h2 hz2 (by decide) v k xs hown ⟨g,0,none⟩ 1 1 (wn n++bl33 a) (by rw[List.length_append,bl33_length ha];rfl)
  (fun j u hj=>by
   have:=hR.2.1 j u hj
   rw[Nat.zero_add] at this
   rw[show (⟨g,0,none⟩:Addr).add j=⟨g,j,none⟩ by unfold Addr.add;split<;>simp_all]
   exact this) (cells_one n a) (by unfold maxLen;omega) (by omega) hb
 exact ⟨v',W',r1,r2,r3⟩
def addT (N:Nat):List (Nat × Bs)→Nat→Bs→List (Nat × Bs)
 | [],n,p=>[(n,p)]
 | (s,q) :: r,n,p=>if p=q then (sPl N s n,q) :: r else (s,q) :: addT N r n p
def mrg (N:Nat) (ns:Nat→Nat) (az:Nat→Bs):Nat→List (Nat × Bs)
 | 0=>[]
 | i+1=>addT N (mrg N ns az i) (ns i) (az i)
def cellsT (l:List (Nat × Bs)):List Value:=l.flatMap fun x=>wn x.1++bl33 x.2
theorem addT_new {N n:Nat} {p:Bs}:∀ {l:List (Nat × Bs)},at? p (l.map (·.2)) 0=none→addT N l n p=l++[(n,p)]
 | [],_=>rfl
 | (s,q) :: r,h=>by
  have h2:=at?_none.1 h
  rw[List.map_cons,List.mem_cons,not_or] at h2
  unfold addT
  rw[if_neg h2.1,addT_new (l:=r) (at?_none.2 h2.2)]
  rfl
theorem cellsT_snoc (l:List (Nat × Bs)) (n:Nat) (p:Bs):cellsT (l++[(n,p)])=cellsT l++(wn n++bl33 p):=by
 unfold cellsT
 rw[List.flatMap_append]
 simp
structure Mx (w W:World) (m:Nat) (l:List (Nat × Bs)) (v:Value):Prop where
 bl:Below w.heap.size w W
 mp:W.heap[m]? = some (.map (ents (l.map (·.2)) 0).toArray l.length)
 lm:w.heap.size≤m
 ow:W.ownsRow w.heap.size 56 37 v l.length (cellsT l)
theorem Mx.own_ne {w W:World} {m:Nat} {l:List (Nat × Bs)} {v:Value} (h:Mx w W m l v) {g:Nat} (hg:v.ownBlock=some g):g≠m∧w.heap.size≤g∧g<W.heap.size:=by
 rcases h.ow.2 with ⟨rfl,-⟩|⟨g',cap,cur,rfl,h1,h2,-⟩
 ·cases hg
 ·obtain rfl:g'=g:=by simpa[Value.ownBlock] using hg
  refine ⟨fun e=>?_,h1,(Array.getElem?_eq_some_iff.1 h2).1⟩
  have:=h.mp
  rw[← e,h2] at this
  cases this
theorem owns_kept {W W':World} {base k:Nat} {e:TypeId} {s:Nat} {v:Value} {xs:List Value} (h:W.ownsRow base e s v k xs) (hk:∀ g,v.ownBlock=some g→W'.heap[g]? = W.heap[g]?):W'.ownsRow base e s v k xs:=by
 refine ⟨h.1,?_⟩
 rcases h.2 with h2|⟨g,cap,cur,rfl,h1,h2,h3⟩
 ·exact Or.inl h2
 ·exact Or.inr ⟨g,cap,cur,rfl,h1,by rw[hk g rfl];exact h2,h3⟩
theorem Mx.kept {w W W':World} {m:Nat} {l:List (Nat × Bs)} {v:Value} (h:Mx w W m l v) (hb:Below W.heap.size W W'):Mx w W' m l v:=
 ⟨h.bl.trans (hb.mono h.bl.size),by rw[hb.block m (Array.getElem?_eq_some_iff.1 h.mp).1];exact h.mp,h.lm,owns_kept h.ow fun g hg=>hb.block g (h.own_ne hg).2.2⟩
theorem ents_map (l:List (Nat × Bs)) (n:Nat) (p:Bs):(l++[(n,p)]).map (·.2)=l.map (·.2)++[p]:=by simp
theorem Mx.push {w W:World} {m:Nat} {l:List (Nat × Bs)} {v:Value} (h:Mx w W m l v) {p:Bs} (hp:p.size=33) (hk:l.length≤1000000) (n:Nat) :
 ∃ v' W5x,(Builtin.append_ #[40,40] 40 #[v,.slice (some ⟨W.heap.size,0,none⟩) 1 1]).run Tryd.prog ((W.putObj m (.map (ents (l.map (·.2)++[p]) 0).toArray (l.length+1))).alloc (.cells (wn n++bl33 p).toArray 56))=.ok v' W5x∧Mx w W5x m (l++[(n,p)]) v'∧W.heap.size<W5x.heap.size∧∀ j,j<W.heap.size→w.heap.size≤j→j≠m→some j≠v.ownBlock→W5x.heap[j]? = W.heap[j]?:=by
 obtain ⟨W3,h3⟩:∃ W3,W.putObj m (.map (ents (l.map (·.2)++[p]) 0).toArray (l.length+1))=W3:=⟨_,rfl⟩
 have s3:W3.heap.size=W.heap.size:=by rw[← h3];simp[World.putObj]
 have hmW:m<W.heap.size:=(Array.getElem?_eq_some_iff.1 h.mp).1
 have o3:∀ j,j≠m→W3.heap[j]? = W.heap[j]?:=fun j hj=>by rw[← h3];exact World.putObj_heap_other hj
 have b3:Below w.heap.size w W3:=h.bl.trans ⟨by rw[← h3];rfl,by rw[← h3];rfl,by rw[← h3];rfl,by omega,fun j hj=>o3 j (by have:=h.lm;omega)⟩
 have w3:W3.ownsRow w.heap.size 56 37 v l.length (cellsT l):=owns_kept h.ow fun g hg=>o3 g (h.own_ne hg).1
 have m3:W3.heap[m]? = some (.map (ents (l.map (·.2)++[p]) 0).toArray (l.length+1)):=by rw[← h3];exact World.putObj_heap_same hmW
 rw[h3]
 have R4:=row_new W3 (wn n++bl33 p) 56
 have b4:=below1 W3 (.cells (wn n++bl33 p).toArray 56)
 have s4:(W3.alloc (.cells (wn n++bl33 p).toArray 56)).heap.size=W.heap.size+1:=by rw[World.size_alloc,s3]
 generalize W3.alloc (.cells (wn n++bl33 p).toArray 56)=W4 at R4 b4 s4 ⊢
 have w4:W4.ownsRow w.heap.size 56 37 v l.length (cellsT l):=owns_kept w3 fun g hg=>b4.block g (by have:=(h.own_ne hg).2.2;omega)
 rw[s3] at R4
 obtain ⟨v',W5x,r1,r2,r3⟩:=app_term hp w4 R4 hk (by have:=b3.size;omega)
 have hm5:some m≠v.ownBlock:=fun e=>(h.own_ne e.symm).1 rfl
 refine ⟨v',W5x,r1,⟨?_,?_,h.lm,?_⟩,by have:=r3.size;omega,fun j hj _ hjm hjo=>?_⟩
 ·exact (b3.trans (b4.mono b3.size)).grown r3 (by have:=b3.size;omega) (fun k e=>(h.own_ne e).2.1)
 ·rw[r3.block m (by omega) hm5,b4.block m (by omega),m3,ents_map,List.length_append]
  rfl
 ·rw[cellsT_snoc,List.length_append]
  exact r2
 ·rw[r3.block j (by omega) hjo,b4.block j (by omega),o3 j hjm]
end
end Go.Proofs.YtgdfkblfggnnfaaDoor
