import Derived.Deep.RegionHeld3
import Derived.Deep.LoopGhost
import Derived.Great.BuildSlice
import Derived.Lib.AppendZeros
import Derived.ChangeOld
import Derived.Below
import Derived.WalkKit
import Derived.ProofKit
import Derived.OpenShut
import Derived.ShutString
import Derived.SliceStrings
import Derived.SizedLaws
import Derived.Test.YtbimbalfdmffaabW6
set_option linter.unusedVariables false
set_option linter.unusedSimpArgs false
namespace Go.Proofs.Ytbimbalfdmffaab
open Go.RowKit Go.Sort Go.Deep
variable {P : Nat} [NeZero P]
def F31d2_5 (m : Nat) (bs : Bs) (x : Fin P) : List RG.It := [.c 27 [] rv0, .x 28 [] (.string ⟨bs⟩), .x 29 [(28, 1)] (.string ⟨tl33 bs⟩), .c 30 [(27, 0), (29, 2)] (.tuple #[(nv m), (.bool false)]), .x 26 [(30, 3)] (.tuple #[(nv m), (.bool false)]), .x 31 [(26, 4)] (nv m), .x 32 [(26, 4)] (.bool false), .m 4 [] 1, .u [(4, 7), (31, 5)] 1, .x 5 [(32, 6)] (.bool false)]
def F31d2_6 (x : Fin P) : List RG.It := [.x 33 [] (.bool false), .x 34 [(33, 0)] (.bool true)]
def F31d2_7 (x : Fin P) : List RG.It := [.x 35 [] (rv (0 : Fin P) (0 : Fin P) (0 : Fin P)), .u [(35, 0)] 0, .x 3 [] (.bool false)]
set_option maxHeartbeats 4000000 in
set_option maxRecDepth 100000 in
theorem rr_num2 (C : Fl3 P) (m : Nat) (bs : Bs) (x y y2 : Fin P) (w : World) (hs : bs.size = 33) (hz : ¬ bs = zs33) (hm : ub bs[0]! = 2) (hnum : Gives 17 #[rv0, .string ⟨tl33 bs⟩] (.tuple #[nv m, .bool false])) : Calls Try.prog 31 #[.string ⟨bs⟩] w (Ret fun e w' => Below w.heap.size w w' ∧ e = .tuple #[rv (0 : Fin P) 0 0, .bool false]) := by
  have hmk := mk33
  have hcv := conv33 w
  have hse := str_ne3 hz
  unfold W5 z12 at hcv
  have hs2 : (⟨bs⟩ : ByteArray).size = 33 := hs
  have hix := ixS bs hs 2 hm
  have hS0 := W5_st w
  unfold W5 z12 at hS0
  go_enter Try.func31, Try.ntmps31
  go_wp2_with fail
  rename_i hK
  clear hmk hcv hse hs2 hix
  generalize (w.alloc _).alloc _ = w0 at hS0 ⊢
  refine RG.mid3 (v0 := .string ⟨bs⟩) (v1 := .pointer (some ⟨w.heap.size, 0, none⟩)) (v2 := .bool false) (n := 48) 0 2 3 rfl rfl rfl rfl rfl ?_
  intro a0 sl0 f0 f2 f3
  have M0 : RG.M w w.heap.size [] 48 [(RG.z 12)] [w.heap.size] [(0, (.v (.string ⟨bs⟩))), (2, (.p 0 0)), (3, (.v (.bool false)))] a0 _ := ⟨hS0, sl0, ⟨f0, f2, f3, trivial⟩⟩
  repeat refine wp_seq ?_
  refine M0.dr (by kernel_rfl) (F31d2_5 m bs x) [(7, (RG.z 4))] [(1, 8, (wn m))] [(RG.z 12), (wn m)] [(2, (.p 0 0)), (3, (.v (.bool false))), (5, (.v (.bool false)))] (by kernel_rfl) (by kernel_rfl) ⟨RG.cl (F3_c) fun _ _ => by kernel_rfl, RG.st fun _ _ => by kernel_rfl, RG.cert_slice1 rfl 9 28 (.int .i64 1) (.string ⟨bs⟩) (.string ⟨tl33 bs⟩) rfl rfl (RG.sx fun _ => by kernel_rfl) (slS bs hs), RG.cl (hnum) fun _ _ => by kernel_rfl, RG.st fun _ _ => by kernel_rfl, RG.st fun _ _ => by kernel_rfl, RG.st fun _ _ => by kernel_rfl, RG.mk 1 33 fun _ _ => by kernel_rfl, RG.pt i33 (by kernel_rfl), RG.st fun _ _ => by kernel_rfl, trivial⟩ ?_
  intro j1 a1 w1 M1
  refine hK _ _ ?_
  repeat refine wp_seq ?_
  refine M1.tx0 (F31d2_6 x) [(2, (.p 0 0)), (3, (.v (.bool false))), (34, (.v (.bool true)))] (by kernel_rfl) ⟨RG.st fun _ _ => by kernel_rfl, RG.st fun _ _ => by kernel_rfl, trivial⟩ ?_
  intro a2 w2 M2
  repeat refine wp_seq ?_
  refine wp_cond_true (M2.ev (by kernel_rfl)) ?_
  repeat refine wp_seq ?_
  refine M2.tx (F31d2_7 x) [] [(0, 1, (ws (0 : Fin P) ++ (ws (0 : Fin P) ++ (ws (0 : Fin P)))))] [(ws (0 : Fin P) ++ (ws (0 : Fin P) ++ (ws (0 : Fin P)))), (wn m)] [(2, (.p 0 0)), (3, (.v (.bool false)))] (by kernel_rfl) (by kernel_rfl) ⟨RG.se (zero_rv (P := P)) fun _ _ => by kernel_rfl, RG.pt i56 (by kernel_rfl), RG.st fun _ _ => by kernel_rfl, trivial⟩ ?_
  intro a3 w3 M3
  have hS3 : RG.St w w.heap.size [] [(ws (0 : Fin P) ++ (ws (0 : Fin P) ++ (ws (0 : Fin P)))), (wn m)] [w.heap.size, j1] _ := M3.st
  have sl3 := M3.sl
  have f2_3 : a3.tmps[2]? = some (.pointer (some ⟨w.heap.size, 0, none⟩)) := M3.at (s := (.p 0 0)) (by kernel_rfl)
  have f3_3 : a3.tmps[3]? = some (.bool false) := M3.at (s := (.v (.bool false))) (by kernel_rfl)
  refine wp_ret ?_
  refine bodyPost_ret (v := (.tuple #[(rv (0 : Fin P) (0 : Fin P) (0 : Fin P)), (.bool false)])) (RG.results_rt hS3 2 3 56 rfl 0 _ rfl f2_3 _ f3_3 u56 i56) sl3.defers ?_
  exact ⟨_, rfl, hS3.bel.below, rfl⟩
def F31e2_5 (m : Nat) (bs : Bs) (x : Fin P) : List RG.It := [.c 27 [] rv0, .x 28 [] (.string ⟨bs⟩), .x 29 [(28, 1)] (.string ⟨tl33 bs⟩), .c 30 [(27, 0), (29, 2)] (.tuple #[(fv x), (.bool true)]), .x 26 [(30, 3)] (.tuple #[(fv x), (.bool true)]), .x 31 [(26, 4)] (fv x), .x 32 [(26, 4)] (.bool true), .m 4 [] 1, .u [(4, 7), (31, 5)] 1, .x 5 [(32, 6)] (.bool true)]
def F31e2_6 (x : Fin P) : List RG.It := [.x 33 [] (.bool true), .x 34 [(33, 0)] (.bool false)]
def F31e2_8 (m : Nat) (x : Fin P) : List RG.It := [.x 37 [] (fv x), .c 38 [(37, 0)] (.tuple #[(rv x (0 : Fin P) (1 : Fin P)), (.bool false)]), .x 36 [(38, 1)] (.tuple #[(rv x (0 : Fin P) (1 : Fin P)), (.bool false)]), .x 39 [(36, 2)] (rv x (0 : Fin P) (1 : Fin P)), .x 40 [(36, 2)] (.bool false), .m 6 [] 2, .u [(6, 5), (39, 3)] 2, .x 5 [(40, 4)] (.bool false)]
def F31e2_9 (bs : Bs) (x : Fin P) : List RG.It := [.x 41 [] (.string ⟨bs⟩), .x 42 [(41, 0)] (.int .u8 2), .x 43 [(42, 1)] (.bool false)]
def F31e2_11 (x : Fin P) : List RG.It := [.x 46 [] (rv x (0 : Fin P) (1 : Fin P)), .x 47 [] (.bool false), .u [(46, 0)] 0, .x 3 [(47, 1)] (.bool false)]
set_option maxHeartbeats 4000000 in
set_option maxRecDepth 100000 in
theorem rr_none2 (C : Fl3 P) (m : Nat) (bs : Bs) (x y y2 : Fin P) (w : World) (hs : bs.size = 33) (hz : ¬ bs = zs33) (hm : ub bs[0]! = 2) (hx : beV (tl33 bs).toList = x.val) (hr : rt (x * x * x + 7) = none) : Calls Try.prog 31 #[.string ⟨bs⟩] w (Ret fun e w' => Below w.heap.size w w' ∧ e = .tuple #[rv x 0 1, .bool false]) := by
  have hmk := mk33
  have hcv := conv33 w
  have hse := str_ne3 hz
  unfold W5 z12 at hcv
  have hs2 : (⟨bs⟩ : ByteArray).size = 33 := hs
  have hix := ixS bs hs 2 hm
  have hS0 := W5_st w
  unfold W5 z12 at hS0
  go_enter Try.func31, Try.ntmps31
  go_wp2_with fail
  rename_i hK
  clear hmk hcv hse hs2 hix
  generalize (w.alloc _).alloc _ = w0 at hS0 ⊢
  refine RG.mid3 (v0 := .string ⟨bs⟩) (v1 := .pointer (some ⟨w.heap.size, 0, none⟩)) (v2 := .bool false) (n := 48) 0 2 3 rfl rfl rfl rfl rfl ?_
  intro a0 sl0 f0 f2 f3
  have M0 : RG.M w w.heap.size [] 48 [(RG.z 12)] [w.heap.size] [(0, (.v (.string ⟨bs⟩))), (2, (.p 0 0)), (3, (.v (.bool false)))] a0 _ := ⟨hS0, sl0, ⟨f0, f2, f3, trivial⟩⟩
  repeat refine wp_seq ?_
  refine M0.dr (by kernel_rfl) (F31e2_5 m bs x) [(7, (RG.z 4))] [(1, 8, (ws x))] [(RG.z 12), (ws x)] [(0, (.v (.string ⟨bs⟩))), (2, (.p 0 0)), (3, (.v (.bool false))), (4, (.p 1 0)), (5, (.v (.bool true)))] (by kernel_rfl) (by kernel_rfl) ⟨RG.cl (F3_c) fun _ _ => by kernel_rfl, RG.st fun _ _ => by kernel_rfl, RG.cert_slice1 rfl 9 28 (.int .i64 1) (.string ⟨bs⟩) (.string ⟨tl33 bs⟩) rfl rfl (RG.sx fun _ => by kernel_rfl) (slS bs hs), RG.cl (rNumber_y C (tl33 bs) (tl33_size hs) hx) fun _ _ => by kernel_rfl, RG.st fun _ _ => by kernel_rfl, RG.st fun _ _ => by kernel_rfl, RG.st fun _ _ => by kernel_rfl, RG.mk 1 33 fun _ _ => by kernel_rfl, RG.pt i33 (by kernel_rfl), RG.st fun _ _ => by kernel_rfl, trivial⟩ ?_
  intro j1 a1 w1 M1
  refine hK _ _ ?_
  repeat refine wp_seq ?_
  refine M1.tx0 (F31e2_6 x) [(0, (.v (.string ⟨bs⟩))), (2, (.p 0 0)), (3, (.v (.bool false))), (4, (.p 1 0)), (5, (.v (.bool true))), (34, (.v (.bool false)))] (by kernel_rfl) ⟨RG.st fun _ _ => by kernel_rfl, RG.st fun _ _ => by kernel_rfl, trivial⟩ ?_
  intro a2 w2 M2
  repeat refine wp_seq ?_
  refine wp_cond_false (M2.ev (by kernel_rfl)) ?_
  refine wp_skip ?_
  repeat refine wp_seq ?_
  refine M2.tx (F31e2_8 m x) [(5, (RG.z 12))] [(2, 6, (ws x ++ (ws (0 : Fin P) ++ (ws (1 : Fin P)))))] [(RG.z 12), (ws x), (ws x ++ (ws (0 : Fin P) ++ (ws (1 : Fin P))))] [(0, (.v (.string ⟨bs⟩))), (2, (.p 0 0)), (3, (.v (.bool false))), (5, (.v (.bool false))), (6, (.p 2 0))] (by kernel_rfl) (by kernel_rfl) ⟨RG.ld u33 i33 (by kernel_rfl), RG.cl (rat_n_c C x hr) fun _ _ => by kernel_rfl, RG.st fun _ _ => by kernel_rfl, RG.st fun _ _ => by kernel_rfl, RG.st fun _ _ => by kernel_rfl, RG.mk 2 56 fun _ _ => by kernel_rfl, RG.pt i56 (by kernel_rfl), RG.st fun _ _ => by kernel_rfl, trivial⟩ ?_
  intro j3 a3 w3 M3
  repeat refine wp_seq ?_
  refine M3.tx0 (F31e2_9 bs x) [(2, (.p 0 0)), (3, (.v (.bool false))), (5, (.v (.bool false))), (6, (.p 2 0)), (43, (.v (.bool false)))] (by kernel_rfl) ⟨RG.st fun _ _ => by kernel_rfl, RG.cert_index rfl 9 41 (.int .i64 0) (.string ⟨bs⟩) (.int .u8 2) rfl rfl (RG.sx fun _ => by kernel_rfl) (ixS bs hs 2 hm), RG.st fun _ _ => by kernel_rfl, trivial⟩ ?_
  intro a4 w4 M4
  repeat refine wp_seq ?_
  refine wp_cond_false (M4.ev (by kernel_rfl)) ?_
  refine wp_skip ?_
  repeat refine wp_seq ?_
  refine M4.tx (F31e2_11 x) [] [(0, 2, (ws x ++ (ws (0 : Fin P) ++ (ws (1 : Fin P)))))] [(ws x ++ (ws (0 : Fin P) ++ (ws (1 : Fin P)))), (ws x), (ws x ++ (ws (0 : Fin P) ++ (ws (1 : Fin P))))] [(2, (.p 0 0)), (3, (.v (.bool false)))] (by kernel_rfl) (by kernel_rfl) ⟨RG.ld u56 i56 (by kernel_rfl), RG.st fun _ _ => by kernel_rfl, RG.pt i56 (by kernel_rfl), RG.st fun _ _ => by kernel_rfl, trivial⟩ ?_
  intro a5 w5 M5
  have hS5 : RG.St w w.heap.size [] [(ws x ++ (ws (0 : Fin P) ++ (ws (1 : Fin P)))), (ws x), (ws x ++ (ws (0 : Fin P) ++ (ws (1 : Fin P))))] [w.heap.size, j1, j3] _ := M5.st
  have sl5 := M5.sl
  have f2_5 : a5.tmps[2]? = some (.pointer (some ⟨w.heap.size, 0, none⟩)) := M5.at (s := (.p 0 0)) (by kernel_rfl)
  have f3_5 : a5.tmps[3]? = some (.bool false) := M5.at (s := (.v (.bool false))) (by kernel_rfl)
  refine wp_ret ?_
  refine bodyPost_ret (v := (.tuple #[(rv x (0 : Fin P) (1 : Fin P)), (.bool false)])) (RG.results_rt hS5 2 3 56 rfl 0 _ rfl f2_5 _ f3_5 u56 i56) sl5.defers ?_
  exact ⟨_, rfl, hS5.bel.below, rfl⟩
def F31f2_5 (m : Nat) (bs : Bs) (x : Fin P) : List RG.It := [.c 27 [] rv0, .x 28 [] (.string ⟨bs⟩), .x 29 [(28, 1)] (.string ⟨tl33 bs⟩), .c 30 [(27, 0), (29, 2)] (.tuple #[(fv x), (.bool true)]), .x 26 [(30, 3)] (.tuple #[(fv x), (.bool true)]), .x 31 [(26, 4)] (fv x), .x 32 [(26, 4)] (.bool true), .m 4 [] 1, .u [(4, 7), (31, 5)] 1, .x 5 [(32, 6)] (.bool true)]
def F31f2_6 (x : Fin P) : List RG.It := [.x 33 [] (.bool true), .x 34 [(33, 0)] (.bool false)]
def F31f2_8 (m : Nat) (x y : Fin P) : List RG.It := [.x 37 [] (fv x), .c 38 [(37, 0)] (.tuple #[(rv x y (1 : Fin P)), (.bool true)]), .x 36 [(38, 1)] (.tuple #[(rv x y (1 : Fin P)), (.bool true)]), .x 39 [(36, 2)] (rv x y (1 : Fin P)), .x 40 [(36, 2)] (.bool true), .m 6 [] 2, .u [(6, 5), (39, 3)] 2, .x 5 [(40, 4)] (.bool true)]
def F31f2_9 (bs : Bs) (x : Fin P) : List RG.It := [.x 41 [] (.string ⟨bs⟩), .x 42 [(41, 0)] (.int .u8 2), .x 43 [(42, 1)] (.bool false)]
def F31f2_11 (x y : Fin P) : List RG.It := [.x 46 [] (rv x y (1 : Fin P)), .x 47 [] (.bool true), .u [(46, 0)] 0, .x 3 [(47, 1)] (.bool true)]
set_option maxHeartbeats 4000000 in
set_option maxRecDepth 100000 in
theorem rr_some2 (C : Fl3 P) (m : Nat) (bs : Bs) (x y y2 : Fin P) (w : World) (hs : bs.size = 33) (hz : ¬ bs = zs33) (hm : ub bs[0]! = 2) (hx : beV (tl33 bs).toList = x.val) (hr : rt (x * x * x + 7) = some y) : Calls Try.prog 31 #[.string ⟨bs⟩] w (Ret fun e w' => Below w.heap.size w w' ∧ e = .tuple #[rv x y 1, .bool true]) := by
  have hmk := mk33
  have hcv := conv33 w
  have hse := str_ne3 hz
  unfold W5 z12 at hcv
  have hs2 : (⟨bs⟩ : ByteArray).size = 33 := hs
  have hix := ixS bs hs 2 hm
  have hS0 := W5_st w
  unfold W5 z12 at hS0
  go_enter Try.func31, Try.ntmps31
  go_wp2_with fail
  rename_i hK
  clear hmk hcv hse hs2 hix
  generalize (w.alloc _).alloc _ = w0 at hS0 ⊢
  refine RG.mid3 (v0 := .string ⟨bs⟩) (v1 := .pointer (some ⟨w.heap.size, 0, none⟩)) (v2 := .bool false) (n := 48) 0 2 3 rfl rfl rfl rfl rfl ?_
  intro a0 sl0 f0 f2 f3
  have M0 : RG.M w w.heap.size [] 48 [(RG.z 12)] [w.heap.size] [(0, (.v (.string ⟨bs⟩))), (2, (.p 0 0)), (3, (.v (.bool false)))] a0 _ := ⟨hS0, sl0, ⟨f0, f2, f3, trivial⟩⟩
  repeat refine wp_seq ?_
  refine M0.dr (by kernel_rfl) (F31f2_5 m bs x) [(7, (RG.z 4))] [(1, 8, (ws x))] [(RG.z 12), (ws x)] [(0, (.v (.string ⟨bs⟩))), (2, (.p 0 0)), (3, (.v (.bool false))), (4, (.p 1 0)), (5, (.v (.bool true)))] (by kernel_rfl) (by kernel_rfl) ⟨RG.cl (F3_c) fun _ _ => by kernel_rfl, RG.st fun _ _ => by kernel_rfl, RG.cert_slice1 rfl 9 28 (.int .i64 1) (.string ⟨bs⟩) (.string ⟨tl33 bs⟩) rfl rfl (RG.sx fun _ => by kernel_rfl) (slS bs hs), RG.cl (rNumber_y C (tl33 bs) (tl33_size hs) hx) fun _ _ => by kernel_rfl, RG.st fun _ _ => by kernel_rfl, RG.st fun _ _ => by kernel_rfl, RG.st fun _ _ => by kernel_rfl, RG.mk 1 33 fun _ _ => by kernel_rfl, RG.pt i33 (by kernel_rfl), RG.st fun _ _ => by kernel_rfl, trivial⟩ ?_
  intro j1 a1 w1 M1
  refine hK _ _ ?_
  repeat refine wp_seq ?_
  refine M1.tx0 (F31f2_6 x) [(0, (.v (.string ⟨bs⟩))), (2, (.p 0 0)), (3, (.v (.bool false))), (4, (.p 1 0)), (5, (.v (.bool true))), (34, (.v (.bool false)))] (by kernel_rfl) ⟨RG.st fun _ _ => by kernel_rfl, RG.st fun _ _ => by kernel_rfl, trivial⟩ ?_
  intro a2 w2 M2
  repeat refine wp_seq ?_
  refine wp_cond_false (M2.ev (by kernel_rfl)) ?_
  refine wp_skip ?_
  repeat refine wp_seq ?_
  refine M2.tx (F31f2_8 m x y) [(5, (RG.z 12))] [(2, 6, (ws x ++ (ws y ++ (ws (1 : Fin P)))))] [(RG.z 12), (ws x), (ws x ++ (ws y ++ (ws (1 : Fin P))))] [(0, (.v (.string ⟨bs⟩))), (2, (.p 0 0)), (3, (.v (.bool false))), (5, (.v (.bool true))), (6, (.p 2 0))] (by kernel_rfl) (by kernel_rfl) ⟨RG.ld u33 i33 (by kernel_rfl), RG.cl (rat_y_c C x y hr) fun _ _ => by kernel_rfl, RG.st fun _ _ => by kernel_rfl, RG.st fun _ _ => by kernel_rfl, RG.st fun _ _ => by kernel_rfl, RG.mk 2 56 fun _ _ => by kernel_rfl, RG.pt i56 (by kernel_rfl), RG.st fun _ _ => by kernel_rfl, trivial⟩ ?_
  intro j3 a3 w3 M3
  repeat refine wp_seq ?_
  refine M3.tx0 (F31f2_9 bs x) [(2, (.p 0 0)), (3, (.v (.bool false))), (5, (.v (.bool true))), (6, (.p 2 0)), (43, (.v (.bool false)))] (by kernel_rfl) ⟨RG.st fun _ _ => by kernel_rfl, RG.cert_index rfl 9 41 (.int .i64 0) (.string ⟨bs⟩) (.int .u8 2) rfl rfl (RG.sx fun _ => by kernel_rfl) (ixS bs hs 2 hm), RG.st fun _ _ => by kernel_rfl, trivial⟩ ?_
  intro a4 w4 M4
  repeat refine wp_seq ?_
  refine wp_cond_false (M4.ev (by kernel_rfl)) ?_
  refine wp_skip ?_
  repeat refine wp_seq ?_
  refine M4.tx (F31f2_11 x y) [] [(0, 2, (ws x ++ (ws y ++ (ws (1 : Fin P)))))] [(ws x ++ (ws y ++ (ws (1 : Fin P)))), (ws x), (ws x ++ (ws y ++ (ws (1 : Fin P))))] [(2, (.p 0 0)), (3, (.v (.bool true)))] (by kernel_rfl) (by kernel_rfl) ⟨RG.ld u56 i56 (by kernel_rfl), RG.st fun _ _ => by kernel_rfl, RG.pt i56 (by kernel_rfl), RG.st fun _ _ => by kernel_rfl, trivial⟩ ?_
  intro a5 w5 M5
  have hS5 : RG.St w w.heap.size [] [(ws x ++ (ws y ++ (ws (1 : Fin P)))), (ws x), (ws x ++ (ws y ++ (ws (1 : Fin P))))] [w.heap.size, j1, j3] _ := M5.st
  have sl5 := M5.sl
  have f2_5 : a5.tmps[2]? = some (.pointer (some ⟨w.heap.size, 0, none⟩)) := M5.at (s := (.p 0 0)) (by kernel_rfl)
  have f3_5 : a5.tmps[3]? = some (.bool true) := M5.at (s := (.v (.bool true))) (by kernel_rfl)
  refine wp_ret ?_
  refine bodyPost_ret (v := (.tuple #[(rv x y (1 : Fin P)), (.bool true)])) (RG.results_rt hS5 2 3 56 rfl 0 _ rfl f2_5 _ f3_5 u56 i56) sl5.defers ?_
  exact ⟨_, rfl, hS5.bel.below, rfl⟩
def F31d3_5 (m : Nat) (bs : Bs) (x : Fin P) : List RG.It := [.c 27 [] rv0, .x 28 [] (.string ⟨bs⟩), .x 29 [(28, 1)] (.string ⟨tl33 bs⟩), .c 30 [(27, 0), (29, 2)] (.tuple #[(nv m), (.bool false)]), .x 26 [(30, 3)] (.tuple #[(nv m), (.bool false)]), .x 31 [(26, 4)] (nv m), .x 32 [(26, 4)] (.bool false), .m 4 [] 1, .u [(4, 7), (31, 5)] 1, .x 5 [(32, 6)] (.bool false)]
def F31d3_6 (x : Fin P) : List RG.It := [.x 33 [] (.bool false), .x 34 [(33, 0)] (.bool true)]
def F31d3_7 (x : Fin P) : List RG.It := [.x 35 [] (rv (0 : Fin P) (0 : Fin P) (0 : Fin P)), .u [(35, 0)] 0, .x 3 [] (.bool false)]
set_option maxHeartbeats 4000000 in
set_option maxRecDepth 100000 in
theorem rr_num3 (C : Fl3 P) (m : Nat) (bs : Bs) (x y y2 : Fin P) (w : World) (hs : bs.size = 33) (hz : ¬ bs = zs33) (hm : ub bs[0]! = 3) (hnum : Gives 17 #[rv0, .string ⟨tl33 bs⟩] (.tuple #[nv m, .bool false])) : Calls Try.prog 31 #[.string ⟨bs⟩] w (Ret fun e w' => Below w.heap.size w w' ∧ e = .tuple #[rv (0 : Fin P) 0 0, .bool false]) := by
  have hmk := mk33
  have hcv := conv33 w
  have hse := str_ne3 hz
  unfold W5 z12 at hcv
  have hs2 : (⟨bs⟩ : ByteArray).size = 33 := hs
  have hix := ixS bs hs 3 hm
  have hS0 := W5_st w
  unfold W5 z12 at hS0
  go_enter Try.func31, Try.ntmps31
  go_wp2_with fail
  rename_i hK
  clear hmk hcv hse hs2 hix
  generalize (w.alloc _).alloc _ = w0 at hS0 ⊢
  refine RG.mid3 (v0 := .string ⟨bs⟩) (v1 := .pointer (some ⟨w.heap.size, 0, none⟩)) (v2 := .bool false) (n := 48) 0 2 3 rfl rfl rfl rfl rfl ?_
  intro a0 sl0 f0 f2 f3
  have M0 : RG.M w w.heap.size [] 48 [(RG.z 12)] [w.heap.size] [(0, (.v (.string ⟨bs⟩))), (2, (.p 0 0)), (3, (.v (.bool false)))] a0 _ := ⟨hS0, sl0, ⟨f0, f2, f3, trivial⟩⟩
  repeat refine wp_seq ?_
  refine M0.dr (by kernel_rfl) (F31d3_5 m bs x) [(7, (RG.z 4))] [(1, 8, (wn m))] [(RG.z 12), (wn m)] [(2, (.p 0 0)), (3, (.v (.bool false))), (5, (.v (.bool false)))] (by kernel_rfl) (by kernel_rfl) ⟨RG.cl (F3_c) fun _ _ => by kernel_rfl, RG.st fun _ _ => by kernel_rfl, RG.cert_slice1 rfl 9 28 (.int .i64 1) (.string ⟨bs⟩) (.string ⟨tl33 bs⟩) rfl rfl (RG.sx fun _ => by kernel_rfl) (slS bs hs), RG.cl (hnum) fun _ _ => by kernel_rfl, RG.st fun _ _ => by kernel_rfl, RG.st fun _ _ => by kernel_rfl, RG.st fun _ _ => by kernel_rfl, RG.mk 1 33 fun _ _ => by kernel_rfl, RG.pt i33 (by kernel_rfl), RG.st fun _ _ => by kernel_rfl, trivial⟩ ?_
  intro j1 a1 w1 M1
  refine hK _ _ ?_
  repeat refine wp_seq ?_
  refine M1.tx0 (F31d3_6 x) [(2, (.p 0 0)), (3, (.v (.bool false))), (34, (.v (.bool true)))] (by kernel_rfl) ⟨RG.st fun _ _ => by kernel_rfl, RG.st fun _ _ => by kernel_rfl, trivial⟩ ?_
  intro a2 w2 M2
  repeat refine wp_seq ?_
  refine wp_cond_true (M2.ev (by kernel_rfl)) ?_
  repeat refine wp_seq ?_
  refine M2.tx (F31d3_7 x) [] [(0, 1, (ws (0 : Fin P) ++ (ws (0 : Fin P) ++ (ws (0 : Fin P)))))] [(ws (0 : Fin P) ++ (ws (0 : Fin P) ++ (ws (0 : Fin P)))), (wn m)] [(2, (.p 0 0)), (3, (.v (.bool false)))] (by kernel_rfl) (by kernel_rfl) ⟨RG.se (zero_rv (P := P)) fun _ _ => by kernel_rfl, RG.pt i56 (by kernel_rfl), RG.st fun _ _ => by kernel_rfl, trivial⟩ ?_
  intro a3 w3 M3
  have hS3 : RG.St w w.heap.size [] [(ws (0 : Fin P) ++ (ws (0 : Fin P) ++ (ws (0 : Fin P)))), (wn m)] [w.heap.size, j1] _ := M3.st
  have sl3 := M3.sl
  have f2_3 : a3.tmps[2]? = some (.pointer (some ⟨w.heap.size, 0, none⟩)) := M3.at (s := (.p 0 0)) (by kernel_rfl)
  have f3_3 : a3.tmps[3]? = some (.bool false) := M3.at (s := (.v (.bool false))) (by kernel_rfl)
  refine wp_ret ?_
  refine bodyPost_ret (v := (.tuple #[(rv (0 : Fin P) (0 : Fin P) (0 : Fin P)), (.bool false)])) (RG.results_rt hS3 2 3 56 rfl 0 _ rfl f2_3 _ f3_3 u56 i56) sl3.defers ?_
  exact ⟨_, rfl, hS3.bel.below, rfl⟩
def F31e3_5 (m : Nat) (bs : Bs) (x : Fin P) : List RG.It := [.c 27 [] rv0, .x 28 [] (.string ⟨bs⟩), .x 29 [(28, 1)] (.string ⟨tl33 bs⟩), .c 30 [(27, 0), (29, 2)] (.tuple #[(fv x), (.bool true)]), .x 26 [(30, 3)] (.tuple #[(fv x), (.bool true)]), .x 31 [(26, 4)] (fv x), .x 32 [(26, 4)] (.bool true), .m 4 [] 1, .u [(4, 7), (31, 5)] 1, .x 5 [(32, 6)] (.bool true)]
def F31e3_6 (x : Fin P) : List RG.It := [.x 33 [] (.bool true), .x 34 [(33, 0)] (.bool false)]
def F31e3_8 (m : Nat) (x : Fin P) : List RG.It := [.x 37 [] (fv x), .c 38 [(37, 0)] (.tuple #[(rv x (0 : Fin P) (1 : Fin P)), (.bool false)]), .x 36 [(38, 1)] (.tuple #[(rv x (0 : Fin P) (1 : Fin P)), (.bool false)]), .x 39 [(36, 2)] (rv x (0 : Fin P) (1 : Fin P)), .x 40 [(36, 2)] (.bool false), .m 6 [] 2, .u [(6, 5), (39, 3)] 2, .x 5 [(40, 4)] (.bool false)]
def F31e3_9 (bs : Bs) (x : Fin P) : List RG.It := [.x 41 [] (.string ⟨bs⟩), .x 42 [(41, 0)] (.int .u8 3), .x 43 [(42, 1)] (.bool true)]
def F31e3_10 (x y2 : Fin P) : List RG.It := [.x 44 [] (rv x (0 : Fin P) (1 : Fin P)), .c 45 [(44, 0)] (rv x y2 (1 : Fin P)), .u [(45, 1)] 2]
def F31e3_11 (x y2 : Fin P) : List RG.It := [.x 46 [] (rv x y2 (1 : Fin P)), .x 47 [] (.bool false), .u [(46, 0)] 0, .x 3 [(47, 1)] (.bool false)]
set_option maxHeartbeats 4000000 in
set_option maxRecDepth 100000 in
theorem rr_none3 (C : Fl3 P) (m : Nat) (bs : Bs) (x y y2 : Fin P) (w : World) (hs : bs.size = 33) (hz : ¬ bs = zs33) (hm : ub bs[0]! = 3) (hx : beV (tl33 bs).toList = x.val) (hr : rt (x * x * x + 7) = none) (hy2 : 0 - (0 : Fin P) = y2) : Calls Try.prog 31 #[.string ⟨bs⟩] w (Ret fun e w' => Below w.heap.size w w' ∧ e = .tuple #[rv x y2 1, .bool false]) := by
  have hmk := mk33
  have hcv := conv33 w
  have hse := str_ne3 hz
  unfold W5 z12 at hcv
  have hs2 : (⟨bs⟩ : ByteArray).size = 33 := hs
  have hix := ixS bs hs 3 hm
  have hS0 := W5_st w
  unfold W5 z12 at hS0
  go_enter Try.func31, Try.ntmps31
  go_wp2_with fail
  rename_i hK
  clear hmk hcv hse hs2 hix
  generalize (w.alloc _).alloc _ = w0 at hS0 ⊢
  refine RG.mid3 (v0 := .string ⟨bs⟩) (v1 := .pointer (some ⟨w.heap.size, 0, none⟩)) (v2 := .bool false) (n := 48) 0 2 3 rfl rfl rfl rfl rfl ?_
  intro a0 sl0 f0 f2 f3
  have M0 : RG.M w w.heap.size [] 48 [(RG.z 12)] [w.heap.size] [(0, (.v (.string ⟨bs⟩))), (2, (.p 0 0)), (3, (.v (.bool false)))] a0 _ := ⟨hS0, sl0, ⟨f0, f2, f3, trivial⟩⟩
  repeat refine wp_seq ?_
  refine M0.dr (by kernel_rfl) (F31e3_5 m bs x) [(7, (RG.z 4))] [(1, 8, (ws x))] [(RG.z 12), (ws x)] [(0, (.v (.string ⟨bs⟩))), (2, (.p 0 0)), (3, (.v (.bool false))), (4, (.p 1 0)), (5, (.v (.bool true)))] (by kernel_rfl) (by kernel_rfl) ⟨RG.cl (F3_c) fun _ _ => by kernel_rfl, RG.st fun _ _ => by kernel_rfl, RG.cert_slice1 rfl 9 28 (.int .i64 1) (.string ⟨bs⟩) (.string ⟨tl33 bs⟩) rfl rfl (RG.sx fun _ => by kernel_rfl) (slS bs hs), RG.cl (rNumber_y C (tl33 bs) (tl33_size hs) hx) fun _ _ => by kernel_rfl, RG.st fun _ _ => by kernel_rfl, RG.st fun _ _ => by kernel_rfl, RG.st fun _ _ => by kernel_rfl, RG.mk 1 33 fun _ _ => by kernel_rfl, RG.pt i33 (by kernel_rfl), RG.st fun _ _ => by kernel_rfl, trivial⟩ ?_
  intro j1 a1 w1 M1
  refine hK _ _ ?_
  repeat refine wp_seq ?_
  refine M1.tx0 (F31e3_6 x) [(0, (.v (.string ⟨bs⟩))), (2, (.p 0 0)), (3, (.v (.bool false))), (4, (.p 1 0)), (5, (.v (.bool true))), (34, (.v (.bool false)))] (by kernel_rfl) ⟨RG.st fun _ _ => by kernel_rfl, RG.st fun _ _ => by kernel_rfl, trivial⟩ ?_
  intro a2 w2 M2
  repeat refine wp_seq ?_
  refine wp_cond_false (M2.ev (by kernel_rfl)) ?_
  refine wp_skip ?_
  repeat refine wp_seq ?_
  refine M2.tx (F31e3_8 m x) [(5, (RG.z 12))] [(2, 6, (ws x ++ (ws (0 : Fin P) ++ (ws (1 : Fin P)))))] [(RG.z 12), (ws x), (ws x ++ (ws (0 : Fin P) ++ (ws (1 : Fin P))))] [(0, (.v (.string ⟨bs⟩))), (2, (.p 0 0)), (3, (.v (.bool false))), (5, (.v (.bool false))), (6, (.p 2 0))] (by kernel_rfl) (by kernel_rfl) ⟨RG.ld u33 i33 (by kernel_rfl), RG.cl (rat_n_c C x hr) fun _ _ => by kernel_rfl, RG.st fun _ _ => by kernel_rfl, RG.st fun _ _ => by kernel_rfl, RG.st fun _ _ => by kernel_rfl, RG.mk 2 56 fun _ _ => by kernel_rfl, RG.pt i56 (by kernel_rfl), RG.st fun _ _ => by kernel_rfl, trivial⟩ ?_
  intro j3 a3 w3 M3
  repeat refine wp_seq ?_
  refine M3.tx0 (F31e3_9 bs x) [(2, (.p 0 0)), (3, (.v (.bool false))), (5, (.v (.bool false))), (6, (.p 2 0)), (43, (.v (.bool true)))] (by kernel_rfl) ⟨RG.st fun _ _ => by kernel_rfl, RG.cert_index rfl 9 41 (.int .i64 0) (.string ⟨bs⟩) (.int .u8 3) rfl rfl (RG.sx fun _ => by kernel_rfl) (ixS bs hs 3 hm), RG.st fun _ _ => by kernel_rfl, trivial⟩ ?_
  intro a4 w4 M4
  repeat refine wp_seq ?_
  refine wp_cond_true (M4.ev (by kernel_rfl)) ?_
  repeat refine wp_seq ?_
  refine M4.tx (F31e3_10 x y2) [] [(2, 2, (ws x ++ (ws y2 ++ (ws (1 : Fin P)))))] [(RG.z 12), (ws x), (ws x ++ (ws y2 ++ (ws (1 : Fin P))))] [(2, (.p 0 0)), (3, (.v (.bool false))), (5, (.v (.bool false))), (6, (.p 2 0))] (by kernel_rfl) (by kernel_rfl) ⟨RG.ld u56 i56 (by kernel_rfl), RG.cl (f := 37) (args := #[(rv x (0 : Fin P) (1 : Fin P))]) (v := (rv x y2 (1 : Fin P))) (hy2 ▸ rNeg3_c C x (0 : Fin P) 1) fun _ _ => by kernel_rfl, RG.pt i56 (by kernel_rfl), trivial⟩ ?_
  intro a5 w5 M5
  repeat refine wp_seq ?_
  refine M5.tx (F31e3_11 x y2) [] [(0, 2, (ws x ++ (ws y2 ++ (ws (1 : Fin P)))))] [(ws x ++ (ws y2 ++ (ws (1 : Fin P)))), (ws x), (ws x ++ (ws y2 ++ (ws (1 : Fin P))))] [(2, (.p 0 0)), (3, (.v (.bool false)))] (by kernel_rfl) (by kernel_rfl) ⟨RG.ld u56 i56 (by kernel_rfl), RG.st fun _ _ => by kernel_rfl, RG.pt i56 (by kernel_rfl), RG.st fun _ _ => by kernel_rfl, trivial⟩ ?_
  intro a6 w6 M6
  have hS6 : RG.St w w.heap.size [] [(ws x ++ (ws y2 ++ (ws (1 : Fin P)))), (ws x), (ws x ++ (ws y2 ++ (ws (1 : Fin P))))] [w.heap.size, j1, j3] _ := M6.st
  have sl6 := M6.sl
  have f2_6 : a6.tmps[2]? = some (.pointer (some ⟨w.heap.size, 0, none⟩)) := M6.at (s := (.p 0 0)) (by kernel_rfl)
  have f3_6 : a6.tmps[3]? = some (.bool false) := M6.at (s := (.v (.bool false))) (by kernel_rfl)
  refine wp_ret ?_
  refine bodyPost_ret (v := (.tuple #[(rv x y2 (1 : Fin P)), (.bool false)])) (RG.results_rt hS6 2 3 56 rfl 0 _ rfl f2_6 _ f3_6 u56 i56) sl6.defers ?_
  exact ⟨_, rfl, hS6.bel.below, rfl⟩
def F31f3_5 (m : Nat) (bs : Bs) (x : Fin P) : List RG.It := [.c 27 [] rv0, .x 28 [] (.string ⟨bs⟩), .x 29 [(28, 1)] (.string ⟨tl33 bs⟩), .c 30 [(27, 0), (29, 2)] (.tuple #[(fv x), (.bool true)]), .x 26 [(30, 3)] (.tuple #[(fv x), (.bool true)]), .x 31 [(26, 4)] (fv x), .x 32 [(26, 4)] (.bool true), .m 4 [] 1, .u [(4, 7), (31, 5)] 1, .x 5 [(32, 6)] (.bool true)]
def F31f3_6 (x : Fin P) : List RG.It := [.x 33 [] (.bool true), .x 34 [(33, 0)] (.bool false)]
def F31f3_8 (m : Nat) (x y : Fin P) : List RG.It := [.x 37 [] (fv x), .c 38 [(37, 0)] (.tuple #[(rv x y (1 : Fin P)), (.bool true)]), .x 36 [(38, 1)] (.tuple #[(rv x y (1 : Fin P)), (.bool true)]), .x 39 [(36, 2)] (rv x y (1 : Fin P)), .x 40 [(36, 2)] (.bool true), .m 6 [] 2, .u [(6, 5), (39, 3)] 2, .x 5 [(40, 4)] (.bool true)]
def F31f3_9 (bs : Bs) (x : Fin P) : List RG.It := [.x 41 [] (.string ⟨bs⟩), .x 42 [(41, 0)] (.int .u8 3), .x 43 [(42, 1)] (.bool true)]
def F31f3_10 (x y y2 : Fin P) : List RG.It := [.x 44 [] (rv x y (1 : Fin P)), .c 45 [(44, 0)] (rv x y2 (1 : Fin P)), .u [(45, 1)] 2]
def F31f3_11 (x y2 : Fin P) : List RG.It := [.x 46 [] (rv x y2 (1 : Fin P)), .x 47 [] (.bool true), .u [(46, 0)] 0, .x 3 [(47, 1)] (.bool true)]
set_option maxHeartbeats 4000000 in
set_option maxRecDepth 100000 in
theorem rr_some3 (C : Fl3 P) (m : Nat) (bs : Bs) (x y y2 : Fin P) (w : World) (hs : bs.size = 33) (hz : ¬ bs = zs33) (hm : ub bs[0]! = 3) (hx : beV (tl33 bs).toList = x.val) (hr : rt (x * x * x + 7) = some y) (hy2 : 0 - y = y2) : Calls Try.prog 31 #[.string ⟨bs⟩] w (Ret fun e w' => Below w.heap.size w w' ∧ e = .tuple #[rv x y2 1, .bool true]) := by
  have hmk := mk33
  have hcv := conv33 w
  have hse := str_ne3 hz
  unfold W5 z12 at hcv
  have hs2 : (⟨bs⟩ : ByteArray).size = 33 := hs
  have hix := ixS bs hs 3 hm
  have hS0 := W5_st w
  unfold W5 z12 at hS0
  go_enter Try.func31, Try.ntmps31
  go_wp2_with fail
  rename_i hK
  clear hmk hcv hse hs2 hix
  generalize (w.alloc _).alloc _ = w0 at hS0 ⊢
  refine RG.mid3 (v0 := .string ⟨bs⟩) (v1 := .pointer (some ⟨w.heap.size, 0, none⟩)) (v2 := .bool false) (n := 48) 0 2 3 rfl rfl rfl rfl rfl ?_
  intro a0 sl0 f0 f2 f3
  have M0 : RG.M w w.heap.size [] 48 [(RG.z 12)] [w.heap.size] [(0, (.v (.string ⟨bs⟩))), (2, (.p 0 0)), (3, (.v (.bool false)))] a0 _ := ⟨hS0, sl0, ⟨f0, f2, f3, trivial⟩⟩
  repeat refine wp_seq ?_
  refine M0.dr (by kernel_rfl) (F31f3_5 m bs x) [(7, (RG.z 4))] [(1, 8, (ws x))] [(RG.z 12), (ws x)] [(0, (.v (.string ⟨bs⟩))), (2, (.p 0 0)), (3, (.v (.bool false))), (4, (.p 1 0)), (5, (.v (.bool true)))] (by kernel_rfl) (by kernel_rfl) ⟨RG.cl (F3_c) fun _ _ => by kernel_rfl, RG.st fun _ _ => by kernel_rfl, RG.cert_slice1 rfl 9 28 (.int .i64 1) (.string ⟨bs⟩) (.string ⟨tl33 bs⟩) rfl rfl (RG.sx fun _ => by kernel_rfl) (slS bs hs), RG.cl (rNumber_y C (tl33 bs) (tl33_size hs) hx) fun _ _ => by kernel_rfl, RG.st fun _ _ => by kernel_rfl, RG.st fun _ _ => by kernel_rfl, RG.st fun _ _ => by kernel_rfl, RG.mk 1 33 fun _ _ => by kernel_rfl, RG.pt i33 (by kernel_rfl), RG.st fun _ _ => by kernel_rfl, trivial⟩ ?_
  intro j1 a1 w1 M1
  refine hK _ _ ?_
  repeat refine wp_seq ?_
  refine M1.tx0 (F31f3_6 x) [(0, (.v (.string ⟨bs⟩))), (2, (.p 0 0)), (3, (.v (.bool false))), (4, (.p 1 0)), (5, (.v (.bool true))), (34, (.v (.bool false)))] (by kernel_rfl) ⟨RG.st fun _ _ => by kernel_rfl, RG.st fun _ _ => by kernel_rfl, trivial⟩ ?_
  intro a2 w2 M2
  repeat refine wp_seq ?_
  refine wp_cond_false (M2.ev (by kernel_rfl)) ?_
  refine wp_skip ?_
  repeat refine wp_seq ?_
  refine M2.tx (F31f3_8 m x y) [(5, (RG.z 12))] [(2, 6, (ws x ++ (ws y ++ (ws (1 : Fin P)))))] [(RG.z 12), (ws x), (ws x ++ (ws y ++ (ws (1 : Fin P))))] [(0, (.v (.string ⟨bs⟩))), (2, (.p 0 0)), (3, (.v (.bool false))), (5, (.v (.bool true))), (6, (.p 2 0))] (by kernel_rfl) (by kernel_rfl) ⟨RG.ld u33 i33 (by kernel_rfl), RG.cl (rat_y_c C x y hr) fun _ _ => by kernel_rfl, RG.st fun _ _ => by kernel_rfl, RG.st fun _ _ => by kernel_rfl, RG.st fun _ _ => by kernel_rfl, RG.mk 2 56 fun _ _ => by kernel_rfl, RG.pt i56 (by kernel_rfl), RG.st fun _ _ => by kernel_rfl, trivial⟩ ?_
  intro j3 a3 w3 M3
  repeat refine wp_seq ?_
  refine M3.tx0 (F31f3_9 bs x) [(2, (.p 0 0)), (3, (.v (.bool false))), (5, (.v (.bool true))), (6, (.p 2 0)), (43, (.v (.bool true)))] (by kernel_rfl) ⟨RG.st fun _ _ => by kernel_rfl, RG.cert_index rfl 9 41 (.int .i64 0) (.string ⟨bs⟩) (.int .u8 3) rfl rfl (RG.sx fun _ => by kernel_rfl) (ixS bs hs 3 hm), RG.st fun _ _ => by kernel_rfl, trivial⟩ ?_
  intro a4 w4 M4
  repeat refine wp_seq ?_
  refine wp_cond_true (M4.ev (by kernel_rfl)) ?_
  repeat refine wp_seq ?_
  refine M4.tx (F31f3_10 x y y2) [] [(2, 2, (ws x ++ (ws y2 ++ (ws (1 : Fin P)))))] [(RG.z 12), (ws x), (ws x ++ (ws y2 ++ (ws (1 : Fin P))))] [(2, (.p 0 0)), (3, (.v (.bool false))), (5, (.v (.bool true))), (6, (.p 2 0))] (by kernel_rfl) (by kernel_rfl) ⟨RG.ld u56 i56 (by kernel_rfl), RG.cl (f := 37) (args := #[(rv x y (1 : Fin P))]) (v := (rv x y2 (1 : Fin P))) (hy2 ▸ rNeg3_c C x y 1) fun _ _ => by kernel_rfl, RG.pt i56 (by kernel_rfl), trivial⟩ ?_
  intro a5 w5 M5
  repeat refine wp_seq ?_
  refine M5.tx (F31f3_11 x y2) [] [(0, 2, (ws x ++ (ws y2 ++ (ws (1 : Fin P)))))] [(ws x ++ (ws y2 ++ (ws (1 : Fin P)))), (ws x), (ws x ++ (ws y2 ++ (ws (1 : Fin P))))] [(2, (.p 0 0)), (3, (.v (.bool true)))] (by kernel_rfl) (by kernel_rfl) ⟨RG.ld u56 i56 (by kernel_rfl), RG.st fun _ _ => by kernel_rfl, RG.pt i56 (by kernel_rfl), RG.st fun _ _ => by kernel_rfl, trivial⟩ ?_
  intro a6 w6 M6
  have hS6 : RG.St w w.heap.size [] [(ws x ++ (ws y2 ++ (ws (1 : Fin P)))), (ws x), (ws x ++ (ws y2 ++ (ws (1 : Fin P))))] [w.heap.size, j1, j3] _ := M6.st
  have sl6 := M6.sl
  have f2_6 : a6.tmps[2]? = some (.pointer (some ⟨w.heap.size, 0, none⟩)) := M6.at (s := (.p 0 0)) (by kernel_rfl)
  have f3_6 : a6.tmps[3]? = some (.bool true) := M6.at (s := (.v (.bool true))) (by kernel_rfl)
  refine wp_ret ?_
  refine bodyPost_ret (v := (.tuple #[(rv x y2 (1 : Fin P)), (.bool true)])) (RG.results_rt hS6 2 3 56 rfl 0 _ rfl f2_6 _ f3_6 u56 i56) sl6.defers ?_
  exact ⟨_, rfl, hS6.bel.below, rfl⟩
end Go.Proofs.Ytbimbalfdmffaab
namespace Go.Proofs.Ytbimbalfdmffaab
open Go.RowKit Go.Sort
variable {P : Nat} [NeZero P]
theorem sq_mod (r d : Nat) : d * d % (r + d) = r * r % (r + d) := by
  have h : d * d + (r + d) * r = r * r + (r + d) * d := by
    rw [Nat.add_mul, Nat.add_mul, Nat.mul_comm d r]
    omega
  have h1 := congrArg (· % (r + d)) h
  simp only [Nat.add_mul_mod_self_left] at h1
  exact h1
theorem rt_sq {m y : Fin P} (h : rt m = some y) : y * y = m := by
  have h0 := rt_yes h
  unfold rt at h
  rw [if_pos h0] at h
  obtain rfl := Option.some.inj h
  have hP := Nat.pos_of_neZero P
  have hr : m.val ^ (P / 4 + 1) % P < P := Nat.mod_lt _ hP
  generalize m.val ^ (P / 4 + 1) % P = r at h0 hr
  apply Fin.ext
  rw [Fin.val_mul]
  show (even P r % P) * (even P r % P) % P = m.val
  rw [Nat.mod_eq_of_lt (even_lt hP hr), ← h0]
  unfold even
  split
  · have h2 := sq_mod r (P - r)
    rw [show r + (P - r) = P by omega] at h2
    exact h2
  · rfl
theorem zero33_iff {bs : Bs} (hs : bs.size = 33) : Zero33 bs ↔ bs = zs33 := by
  constructor
  · intro h
    apply Array.ext
    · rw [hs]; rfl
    · intro i h1 h2
      have := h i (List.mem_range.2 (by omega))
      rw [getElem!_pos bs i h1] at this
      have h3 : bs[i].toNat = 0 := by
        have h4 : ub bs[i] = (bs[i].toNat : Int) := rfl
        rw [h4] at this
        omega
      have h5 : (zs33)[i] = 0 := by
        have h6 : (Array.replicate 33 (0 : UInt8))[i]'h2 = 0 := Array.getElem_replicate _
        exact h6
      rw [h5]
      exact UInt8.toNat_inj.1 h3
  · rintro rfl i hi
    have hi := List.mem_range.1 hi
    unfold zs33
    rw [getElem!_pos _ i (by rw [Array.size_replicate]; exact hi), Array.getElem_replicate]
    rfl
theorem on_of {x y : Fin P} (h : y * y = x * x * x + 7) : EC.On (.some (x, y) : EC.Pt P) := by
  show y ^ 2 = x ^ 3 + 7
  grobner
theorem on_neg {x y : Fin P} (h : y * y = x * x * x + 7) : EC.On (.some (x, 0 - y) : EC.Pt P) := by
  show (0 - y) ^ 2 = x ^ 3 + 7
  grobner
theorem frac_one (C : Fld P) (x y : Fin P) : EC.Frac x y 1 (.some (x, y) : EC.Pt P) := ⟨fun h => C.cur.two (by grobner), by grobner, by grobner⟩
/-- What the reference's Read answers. -/
def RReadR (P : Nat) [NeZero P] (bs : Bs) (e : Value) : Prop := match rd P bs with
  | none => ∃ t : T3 P, e = .tuple #[tv t, .bool false]
  | some p => ∃ (t : T3 P) (q : EC.Pt P), e = .tuple #[tv t, .bool true] ∧ EC.Pair p.1 p.2 q ∧ FracT t q
theorem rRead_c (C : Fl3 P) (bs : Bs) (w : World) : Calls Try.prog 31 #[.string ⟨bs⟩] w (Ret fun e w' => Below w.heap.size w w' ∧ RReadR P bs e) := by
  unfold RReadR rd
  by_cases hs : bs.size = 33
  · rw [if_pos hs]
    by_cases hz : Zero33 bs
    · rw [if_pos hz]
      obtain rfl := (zero33_iff hs).1 hz
      refine (rr_zero C w).mono ?_
      rintro e w' ⟨v, rfl, hb, rfl⟩
      exact ⟨_, rfl, hb, (0, 1, 0), .none, rfl, ⟨rfl, rfl⟩, FracT.none⟩
    · rw [if_neg hz]
      have hz' : ¬ bs = zs33 := fun h => hz ((zero33_iff hs).2 h)
      by_cases hm : ub bs[0]! = 2 ∨ ub bs[0]! = 3
      · rw [if_pos hm]
        by_cases hx : beV (tl33 bs).toList < P
        · rw [if_pos hx]
          have hx' : beV (tl33 bs).toList = (rdx P bs).val := (Nat.mod_eq_of_lt hx).symm
          cases hr : rt (rdx P bs * rdx P bs * rdx P bs + 7) with
          | none =>
            rcases hm with hm | hm
            · refine (rr_none2 C 0 bs (rdx P bs) 0 0 w hs hz' hm hx' hr).mono ?_
              rintro e w' ⟨v, rfl, hb, rfl⟩
              exact ⟨_, rfl, hb, (rdx P bs, 0, 1), rfl⟩
            · refine (rr_none3 C 0 bs (rdx P bs) 0 (0 - 0) w hs hz' hm hx' hr rfl).mono ?_
              rintro e w' ⟨v, rfl, hb, rfl⟩
              exact ⟨_, rfl, hb, (rdx P bs, 0 - 0, 1), rfl⟩
          | some y =>
            have hsq := rt_sq hr
            rcases hm with hm | hm
            · rw [Option.map_some, if_neg (by rw [hm]; decide)]
              refine (rr_some2 C 0 bs (rdx P bs) y 0 w hs hz' hm hx' hr).mono ?_
              rintro e w' ⟨v, rfl, hb, rfl⟩
              exact ⟨_, rfl, hb, (rdx P bs, y, 1), .some (rdx P bs, y), rfl, ⟨rfl, rfl⟩, frac_one C.toFld _ _, on_of hsq⟩
            · rw [Option.map_some, if_pos hm]
              refine (rr_some3 C 0 bs (rdx P bs) y (0 - y) w hs hz' hm hx' hr rfl).mono ?_
              rintro e w' ⟨v, rfl, hb, rfl⟩
              exact ⟨_, rfl, hb, (rdx P bs, 0 - y, 1), .some (rdx P bs, 0 - y), rfl, ⟨rfl, rfl⟩, frac_one C.toFld _ _, on_neg hsq⟩
        · rw [if_neg hx]
          have hn := rNumber_n C (tl33 bs) (tl33_size hs) hx
          rcases hm with hm | hm
          · refine (rr_num2 C _ bs 0 0 0 w hs hz' hm hn).mono ?_
            rintro e w' ⟨v, rfl, hb, rfl⟩
            exact ⟨_, rfl, hb, (0, 0, 0), rfl⟩
          · refine (rr_num3 C _ bs 0 0 0 w hs hz' hm hn).mono ?_
            rintro e w' ⟨v, rfl, hb, rfl⟩
            exact ⟨_, rfl, hb, (0, 0, 0), rfl⟩
      · rw [if_neg hm]
        refine (rr_mark C bs hs hz' _ rfl (fun h => hm (Or.inl h)) (fun h => hm (Or.inr h)) w).mono ?_
        rintro e w' ⟨v, rfl, hb, rfl⟩
        exact ⟨_, rfl, hb, (0, 0, 0), rfl⟩
  · rw [if_neg hs]
    refine (rr_len C bs hs w).mono ?_
    rintro e w' ⟨v, rfl, hb, rfl⟩
    exact ⟨_, rfl, hb, (0, 0, 0), rfl⟩
end Go.Proofs.Ytbimbalfdmffaab
namespace Go.Proofs.Ytbimbalfdmffaab
open Go.RowKit Go.Sort Go.Deep
/-- Bytes of a number, one by one, as the reference lays them. -/
def bytesTo (T : Bs) : Nat → Bs
  | 0 => Array.replicate 32 0
  | k + 1 => (bytesTo T k).setIfInBounds k T[k]!
theorem bytesTo_size (T : Bs) (k : Nat) : (bytesTo T k).size = 32 := by
  induction k with
  | zero => simp [bytesTo]
  | succ k ih => simp [bytesTo, ih]
theorem bytesTo_at (T : Bs) (k j : Nat) (hk : k ≤ 32) (hj : j < k) : (bytesTo T k)[j]! = T[j]! := by
  induction k with
  | zero => omega
  | succ k ih =>
    by_cases h : j = k
    · subst h
      exact getElem!_set_same _ _ _ (by rw [bytesTo_size]; omega)
    · rw [bytesTo, getElem!_set_other _ _ _ _ h]
      exact ih (by omega) (by omega)
theorem bytesTo_all {w : World} {g : Nat} {T : Bs} (hT : T.size = 32) (h : Holds encB w g 0 (bytesTo T 32)) : Holds encB w g 0 T := by
  intro j hj
  rw [← bytesTo_at T 32 j (Nat.le_refl _) (by omega)]
  exact h j (by rw [bytesTo_size]; omega)
/-- The word in which a byte lies. -/
def wordOf (a b c d k : Nat) : Nat := if k < 8 then a else if k < 16 then b else if k < 24 then c else d
theorem be8_at (x j : Nat) (hj : j < 8) : (be8 x)[j]! = UInt8.ofNat (x / 2 ^ (8 * (7 - j))) := by
  match j, hj with
  | 0, _ => rfl
  | 1, _ => rfl
  | 2, _ => rfl
  | 3, _ => rfl
  | 4, _ => rfl
  | 5, _ => rfl
  | 6, _ => rfl
  | 7, _ =>
    show UInt8.ofNat x = UInt8.ofNat (x / 2 ^ (8 * (7 - 7)))
    rw [Nat.sub_self, Nat.mul_zero, Nat.pow_zero, Nat.div_one]
theorem be32_at (a b c d i : Nat) (hi : i < 32) : (be32 a b c d)[i]! = UInt8.ofNat (wordOf a b c d (31 - i) / 2 ^ (8 * ((31 - i) % 8))) := by
  have e : be32 a b c d = be8 d ++ be8 c ++ be8 b ++ be8 a := rfl
  have s1 : (be8 d ++ be8 c).size = 16 := by simp only [Array.size_append, be8_size]
  have s2 : (be8 d ++ be8 c ++ be8 b).size = 24 := by simp only [Array.size_append, be8_size]
  unfold wordOf
  by_cases k1 : i < 8
  · rw [if_neg (by omega), if_neg (by omega), if_neg (by omega), show (31 - i) % 8 = 7 - i by omega, ← be8_at d i k1,
      e, app_front _ _ i (by omega), ← getElem!_pos (be8 d ++ be8 c ++ be8 b) i (by omega), app_front _ _ i (by omega), ← getElem!_pos (be8 d ++ be8 c) i (by omega), app_front _ _ i (by rw [be8_size]; exact k1), ← getElem!_pos (be8 d) i (by rw [be8_size]; exact k1)]
  · by_cases k2 : i < 16
    · rw [if_neg (by omega), if_neg (by omega), if_pos (by omega), show (31 - i) % 8 = 7 - (i - 8) by omega, ← be8_at c (i - 8) (by omega),
        e, app_front _ _ i (by omega), ← getElem!_pos (be8 d ++ be8 c ++ be8 b) i (by omega), app_front _ _ i (by omega), ← getElem!_pos (be8 d ++ be8 c) i (by omega), app_back _ _ i (by rw [be8_size]; omega) (by rw [be8_size, be8_size]; omega), be8_size]
    · by_cases k3 : i < 24
      · rw [if_neg (by omega), if_pos (by omega), show (31 - i) % 8 = 7 - (i - 16) by omega, ← be8_at b (i - 16) (by omega),
          e, app_front _ _ i (by omega), ← getElem!_pos (be8 d ++ be8 c ++ be8 b) i (by omega), app_back _ _ i (by omega) (by rw [s1, be8_size]; omega), s1]
      · rw [if_pos (by omega), show (31 - i) % 8 = 7 - (i - 24) by omega, ← be8_at a (i - 24) (by omega),
          e, app_back _ _ i (by omega) (by rw [s2, be8_size]; omega), s2]
theorem wordOf_lt {a b c d : Nat} (k : Nat) (ha : a < 18446744073709551616) (hb : b < 18446744073709551616) (hc : c < 18446744073709551616) (hd : d < 18446744073709551616) : wordOf a b c d k < 18446744073709551616 := by
  unfold wordOf; split; exact ha; split; exact hb; split; exact hc; exact hd
theorem At4.word {w : World} {k a b c d : Nat} (h : At4 w k a b c d) (i : Nat) (hi : i < 32) : w.cell? ⟨k, i / 8, none⟩ = some (.int .u64 (wordOf a b c d i : Int)) := by
  unfold wordOf
  by_cases h1 : i < 8
  · rw [if_pos h1, show i / 8 = 0 by omega]; exact h.c0
  · rw [if_neg h1]
    by_cases h2 : i < 16
    · rw [if_pos h2, show i / 8 = 1 by omega]; exact h.c1
    · rw [if_neg h2]
      by_cases h3 : i < 24
      · rw [if_pos h3, show i / 8 = 2 by omega]; exact h.c2
      · rw [if_neg h3, show i / 8 = 3 by omega]; exact h.c3
set_option maxHeartbeats 2000000 in
set_option maxRecDepth 100000 in
theorem rBytes_any (x : Value) (m : Nat) (w : World) (hx : Four x m) :
    Calls Try.prog 61 #[x] w (Ret fun e w' => Below w.heap.size w w' ∧ ∃ a b c d : Nat, x = .agg #[.int .u64 (a : Int), .int .u64 (b : Int), .int .u64 (c : Int), .int .u64 (d : Int)] ∧ e = .string ⟨be32 a b c d⟩) := by
  obtain ⟨a, b, c, d, rfl, ha, hb, hc, hd, em⟩ := hx
  clear em
  have hmk : ∀ w : World, (Instr.makeSlice 23 (.int .i64 32) (.int .i64 32)).run Try.prog w = .ok (.slice (some ⟨w.heap.size, 0, none⟩) 32 32) (w.alloc (.cells (madeCells #[.int .u8 0] 32) 5)) :=
    run_make_row' (P := Try.prog) 23 5 (.int .u8 0) 1 slice22 info5 rfl .i64 .i64 32 (by omega) (by omega)
  go_enter Try.func61, Try.ntmps61
  go_wp2
  have hH0 : Holds encB (((w.alloc (.cells #[.int .u64 (a : Int), .int .u64 (b : Int), .int .u64 (c : Int), .int .u64 (d : Int)] 33)).alloc (.cells (madeCells #[.int .u8 0] 32) 5))) (w.heap.size + 1) 0 (Array.replicate 32 0) := by
    have := Holds.made (enc := encB) (w.alloc (.cells #[.int .u64 (a : Int), .int .u64 (b : Int), .int .u64 (c : Int), .int .u64 (d : Int)] 33)) 5 32 0
    rw [World.size_alloc] at this
    exact this
  have hb0 := below2 w (.cells #[.int .u64 (a : Int), .int .u64 (b : Int), .int .u64 (c : Int), .int .u64 (d : Int)] 33) (.cells (madeCells #[.int .u8 0] 32) 5)
  have X := (At4.made w 33 a b c d rfl).alloc (.cells (madeCells #[.int .u8 0] 32) 5)
  generalize World.alloc _ _ = W at hH0 hb0 X ⊢
  have HBW : Hid (Below w.heap.size w W) := hb0
  clear hb0 hmk
  go_loopg [4] 32 (fun gk s4 wr => ∃ (k : Nat), k + gk = 32 ∧ s4 = .int .i64 (k : Int) ∧ Holds encB wr (w.heap.size + 1) 0 (bytesTo (be32 a b c d) k) ∧ At4 wr w.heap.size a b c d ∧ Hid (Below w.heap.size w wr))
  case atStart => exact ⟨0, rfl, rfl, hH0, X, HBW⟩
  case round =>
    obtain ⟨k, hk, rfl, hB, X', HB⟩ := hrel
    by_cases hlt : k < 32
    · obtain ⟨c0, f0⟩ := hB k (by rw [bytesTo_size]; omega)
      rw [Nat.zero_add] at c0 f0
      have xw := X'.word (31 - k) (by omega)
      have hwl := wordOf_lt (31 - k) ha hb hc hd
      have hbyte := be32_at a b c d k hlt
      obtain ⟨q, hq⟩ : ∃ q, 31 - k = q := ⟨_, rfl⟩
      rw [hq] at xw hwl hbyte
      generalize wordOf a b c d q = v at xw hwl hbyte
      have i1 : (31 : Int) - (k : Int) = (q : Int) := by omega
      have i2 : (q : Int).tdiv 8 = ((q / 8 : Nat) : Int) := by rw [Int.tdiv_eq_ediv_of_nonneg (by omega)]; omega
      have i3 : (q : Int).tmod 8 = ((q % 8 : Nat) : Int) := by rw [Int.tmod_eq_emod_of_nonneg (by omega)]; omega
      have i4 : (q / 8 : Nat) < 4 := by omega
      have hlt' : (k : Int) < 32 := by omega
      have hs1 : (8 : Int) * ((q % 8 : Nat) : Int) = ((8 * (q % 8) : Nat) : Int) := by omega
      have hv : (Value.int .u8 ((v : Int) / 2 ^ (8 * (q % 8)) % 256)) = encB (be32 a b c d)[k]! := by
        rw [hbyte, ← byte_at v (2 ^ (8 * (q % 8))), Int.natCast_pow]
        rfl
      have Hv : Hid (_ = _) := hv
      clear hv hbyte hq
      go_wp2
      rw [Hv.out]
      go_roundg (gk - 1)
      case measure => omega
      case rel =>
        refine ⟨k + 1, by omega, rfl, ?_, X'.other (by omega) _, HB.out.setCell (p := ⟨w.heap.size + 1, k, none⟩) (Nat.le_succ _) _⟩
        have := Holds.set hB (i := k) (by rw [bytesTo_size]; omega) (be32 a b c d)[k]!
        rw [Nat.zero_add] at this
        exact this
    · have hk32 : k = 32 := by omega
      subst hk32
      have hT := bytesTo_all (be32_size a b c d) hB
      have kc := conv_str Try.prog 23 9 5 slice22 int5 str9 wr (w.heap.size + 1) 0 32 32 _ hT (be32_size a b c d)
      clear hB hT
      go_wp2
      go_ret
      exact ⟨_, rfl, HB.out, a, b, c, d, rfl, rfl⟩
end Go.Proofs.Ytbimbalfdmffaab
namespace Go.Proofs.Ytbimbalfdmffaab
open Go.RowKit Go.Sort Go.Deep
variable {P : Nat} [NeZero P]
theorem rBytes_c (C : Fld P) (x : Fin P) : Gives 61 #[fv x] (.string ⟨bx x.val⟩) := fun w =>
  (rBytes_any _ _ w (C.four x)).mono (by
    rintro e w' ⟨v, rfl, hb, a, b, c, d, he, rfl⟩
    refine ⟨_, rfl, hb, ?_⟩
    have h2 : fv x = .agg #[.int .u64 ((x.val % 18446744073709551616 : Nat) : Int), .int .u64 ((x.val / 18446744073709551616 % 18446744073709551616 : Nat) : Int), .int .u64 ((x.val / 340282366920938463463374607431768211456 % 18446744073709551616 : Nat) : Int), .int .u64 ((x.val / 6277101735386680763835789423207666416102355444464034512896 % 18446744073709551616 : Nat) : Int)] := rfl
    rw [h2] at he
    simp only [Value.agg.injEq, Array.mk.injEq, List.cons.injEq, Value.int.injEq, true_and, and_true, Int.ofNat_inj] at he
    obtain ⟨rfl, rfl, rfl, rfl⟩ := he
    rfl)
theorem u31 : (Try.prog.underlying 31).map (·.isRow) = some false := by kernel_rfl
theorem and1 (n r : Nat) (hr : n % 2 = r) (w : World) : (binOp .and 31 (.int .u64 ((n % 18446744073709551616 : Nat) : Int)) (.int .u64 1)).run Try.prog w = .ok (.int .u64 (r : Int)) w := by
  have h := and_one (n % 18446744073709551616) (Nat.mod_lt _ (by decide))
  rw [show n % 18446744073709551616 % 2 = r by omega] at h
  generalize n % 18446744073709551616 = k at h ⊢
  go_simp
theorem cat (m : UInt8) (n : Nat) (w : World) : (binOp .add 9 (.string ⟨#[m]⟩) (.string ⟨bx n⟩)).run Try.prog w = .ok (.string ⟨#[m] ++ bx n⟩) w := by
  have h := bx_size n
  generalize bx n = b at h ⊢
  have h2 : (⟨#[m]⟩ : ByteArray) ++ ⟨b⟩ = ⟨#[m] ++ b⟩ := by
    have h3 : ((⟨#[m]⟩ : ByteArray) ++ ⟨b⟩).data = #[m] ++ b := ByteArray.data_append
    rw [← h3]
  go_simp
theorem bs1 (m : Int) (w : World) : (Instr.buildSlice 23 1 #[(0, .int .u8 m)]).run Try.prog w = .ok (.slice (some ⟨w.heap.size, 0, none⟩) 1 1) (w.alloc (.cells #[.int .u8 m] 5)) := by
  obtain ⟨ie, hie, he⟩ := Option.map_eq_some_iff.1 info5b
  simp only [Prod.mk.injEq] at he
  obtain ⟨h1, h2, -⟩ := he
  exact run_buildSlice w 23 5 1 _ #[.int .u8 m] ie (.int .u8 0) und23 hie h1 (by rw [h2]; omega) (by rw [h2]; omega) (by rw [h2]; kernel_rfl)
theorem str1 (m : UInt8) (w : World) (k : Nat) (h : w.rangeAt k 0 [.int .u8 (ub m)]) : (convert 23 9 (.slice (some ⟨k, 0, none⟩) 1 1)).run Try.prog w = .ok (.string ⟨#[m]⟩) w := by
  have h2 := run_convert_bytes_back (P := Try.prog) w 23 9 5 ⟨k, 0, none⟩ 1 [m] slice22 int5 str9 (fun j hj => by
    obtain rfl : j = 0 := by simpa using hj
    have h3 := h 0 _ rfl
    have e1 : (⟨k, 0, none⟩ : Addr).add 0 = ⟨k, 0, none⟩ := rfl
    rw [e1, h3]
    simp [ub])
  simpa using h2
omit [NeZero P] in
theorem words3 (x y z : Fin P) : ∃ a1 b1 c1 d1 a2 b2 c2 d2 a3 b3 c3 d3 : Nat, rv x y z = .agg #[.int .u64 (a1 : Int), .int .u64 (b1 : Int), .int .u64 (c1 : Int), .int .u64 (d1 : Int), .int .u64 (a2 : Int), .int .u64 (b2 : Int), .int .u64 (c2 : Int), .int .u64 (d2 : Int), .int .u64 (a3 : Int), .int .u64 (b3 : Int), .int .u64 (c3 : Int), .int .u64 (d3 : Int)] :=
  ⟨_, _, _, _, _, _, _, _, _, _, _, _, rfl⟩
set_option maxHeartbeats 2000000 in
set_option maxRecDepth 100000 in
theorem rWr_z (C : Fl3 P) (x y z : Fin P) (hz : z = 0) : Gives 38 #[rv x y z] (.string ⟨zs33⟩) := by
  intro w
  have hI := Is_t_c C x y z hz
  obtain ⟨a1, b1, c1, d1, a2, b2, c2, d2, a3, b3, c3, d3, e⟩ := words3 x y z
  rw [e] at hI ⊢
  have hmk := mk33
  go_enter Try.func38, Try.ntmps38
  go_wp2_with fail
  refine (hI _).mono ?_
  rintro e w1 ⟨v, rfl, hb1, rfl⟩
  have HB : Hid (Below w.heap.size w w1) := (below1 w _).trans (hb1.mono (by simp))
  have hcv : (convert 23 9 (.slice (some ⟨w1.heap.size, 0, none⟩) 33 33)).run Try.prog (w1.alloc (.cells (madeCells #[.int .u8 0] 33) 5)) = .ok (.string ⟨zs33⟩) (w1.alloc (.cells (madeCells #[.int .u8 0] 33) 5)) :=
    conv_str Try.prog 23 9 5 slice22 int5 str9 _ _ 0 33 33 _ (Holds.made (enc := encB) w1 5 33 (0 : UInt8)) (by decide)
  clear hb1 hI
  go_wp2
  go_ret
  exact ⟨_, rfl, HB.out.trans ((below1 w1 _).mono HB.out.size), rfl⟩
end Go.Proofs.Ytbimbalfdmffaab
namespace Go.Proofs.Ytbimbalfdmffaab
open Go.RowKit Go.Sort Go.Deep
variable {P : Nat} [NeZero P]
def F380_0 (x : Fin P) : List RG.It := [.m 1 [] 0, .x 2 [] (.string ⟨#[]⟩)]
def F380_1 (x y z : Fin P) : List RG.It := [.x 7 [] (rv x y z), .c 8 [(7, 0)] (.bool false), .x 3 [(8, 1)] (.bool false)]
def F380_2 (x : Fin P) : List RG.It := [.x 9 [] (.bool false)]
def F380_4 (x z c1 : Fin P) : List RG.It := [.c 12 [] rv0, .s 13 [] (.p 0 8), .x 14 [(13, 1)] (fv z), .c 15 [(12, 0), (14, 2)] (fv c1), .m 4 [] 1, .u [(4, 4), (15, 3)] 1]
def F380_5 (x c1 c2 : Fin P) : List RG.It := [.c 16 [] rv0, .s 17 [] (.p 0 0), .x 18 [(17, 1)] (fv x), .x 19 [] (fv c1), .c 20 [(16, 0), (18, 2), (19, 3)] (fv c2), .m 5 [] 2, .u [(5, 5), (20, 4)] 2]
def F380_6 (x y c1 c3 : Fin P) : List RG.It := [.c 21 [] rv0, .s 22 [] (.p 0 4), .x 23 [(22, 1)] (fv y), .x 24 [] (fv c1), .c 25 [(21, 0), (23, 2), (24, 3)] (fv c3), .m 6 [] 3, .u [(6, 5), (25, 4)] 3]
def F380_7 (x c2 c3 : Fin P) : List RG.It := [.s 26 [] (.p 3 0), .x 27 [(26, 0)] (.int .u64 ((c3.val % 18446744073709551616 : Nat) : Int)), .x 28 [(27, 1)] (.int .u64 0), .x 29 [(28, 2)] (.int .u8 0), .x 30 [(29, 3)] (.int .u8 2), ⟨some 31, [(30, 4)], (.s 4 1 1), .make 4⟩, .x 32 [(31, 5)] (.string ⟨#[2]⟩), .x 33 [] (fv c2), .c 34 [(33, 7)] (.string ⟨bx c2.val⟩), .x 35 [(32, 6), (34, 8)] (.string ⟨#[2] ++ bx c2.val⟩), .x 2 [(35, 9)] (.string ⟨#[2] ++ bx c2.val⟩)]
set_option maxHeartbeats 2000000 in
set_option maxRecDepth 100000 in
theorem rWr_0_c (C : Fl3 P) (x y z : Fin P)(hz : ¬ z = 0) (hpar : (y * EC.inv z).val % 2 = 0)  : Gives 38 #[(rv x y z)] (.string ⟨#[2] ++ bx (x * EC.inv z).val⟩) := by
  intro w
  obtain ⟨c1, hc1⟩ : ∃ c, c = EC.inv z := ⟨_, rfl⟩
  obtain ⟨c2, hc2⟩ : ∃ c, c = x * c1 := ⟨_, rfl⟩
  obtain ⟨c3, hc3⟩ : ∃ c, c = y * c1 := ⟨_, rfl⟩
  have hfin : ((.string ⟨#[2] ++ bx c2.val⟩) : Value) = (.string ⟨#[2] ++ bx (x * EC.inv z).val⟩) := by
    subst_vars; rfl
  rw [← hfin]
  go_enter Try.func38, Try.ntmps38
  refine RG.M.enter [(0, (.v (rv x y z)))] 36 (by kernel_rfl) ?_
  intro a0 M0
  repeat refine wp_seq ?_
  refine M0.tx (F380_0 x) [(0, (ws x ++ (ws y ++ (ws z))))] [] [(ws x ++ (ws y ++ (ws z)))] [(1, (.p 0 0)), (2, (.v (.string ⟨#[]⟩)))] (by kernel_rfl) (by kernel_rfl) ⟨RG.mk 0 56 fun _ _ => by kernel_rfl, RG.st fun _ _ => by kernel_rfl, trivial⟩ ?_
  intro j1 a1 w1 M1
  repeat refine wp_seq ?_
  refine M1.tx0 (F380_1 x y z) [(1, (.p 0 0)), (2, (.v (.string ⟨#[]⟩))), (3, (.v (.bool false)))] (by kernel_rfl) ⟨RG.ld u56 i56 (by kernel_rfl), RG.cl (Is_f_c C x y z hz) fun _ _ => by kernel_rfl, RG.st fun _ _ => by kernel_rfl, trivial⟩ ?_
  intro a2 w2 M2
  repeat refine wp_seq ?_
  refine M2.tx0 (F380_2 x) [(1, (.p 0 0)), (2, (.v (.string ⟨#[]⟩))), (9, (.v (.bool false)))] (by kernel_rfl) ⟨RG.st fun _ _ => by kernel_rfl, trivial⟩ ?_
  intro a3 w3 M3
  repeat refine wp_seq ?_
  refine wp_cond_false (M3.ev (by kernel_rfl)) ?_
  refine wp_skip ?_
  repeat refine wp_seq ?_
  refine M3.dr (by kernel_rfl) (F380_4 x z c1) [(4, (RG.z 4))] [(1, 5, (ws c1))] [(ws x ++ (ws y ++ (ws z))), (ws c1)] [(1, (.p 0 0)), (2, (.v (.string ⟨#[]⟩))), (4, (.p 1 0))] (by kernel_rfl) (by kernel_rfl) ⟨RG.cl (F3_c) fun _ _ => by kernel_rfl, RG.st fun _ _ => by kernel_rfl, RG.ld u33 i33 (by kernel_rfl), RG.cl ((rInv_c C z).e hc1) fun _ _ => by kernel_rfl, RG.mk 1 33 fun _ _ => by kernel_rfl, RG.pt i33 (by kernel_rfl), trivial⟩ ?_
  intro j4 a4 w4 M4
  repeat refine wp_seq ?_
  refine M4.dr (by kernel_rfl) (F380_5 x c1 c2) [(5, (RG.z 4))] [(2, 6, (ws c2))] [(ws x ++ (ws y ++ (ws z))), (ws c1), (ws c2)] [(1, (.p 0 0)), (2, (.v (.string ⟨#[]⟩))), (4, (.p 1 0)), (5, (.p 2 0))] (by kernel_rfl) (by kernel_rfl) ⟨RG.cl (F3_c) fun _ _ => by kernel_rfl, RG.st fun _ _ => by kernel_rfl, RG.ld u33 i33 (by kernel_rfl), RG.ld u33 i33 (by kernel_rfl), RG.cl ((rMul_c C x c1).e hc2) fun _ _ => by kernel_rfl, RG.mk 2 33 fun _ _ => by kernel_rfl, RG.pt i33 (by kernel_rfl), trivial⟩ ?_
  intro j5 a5 w5 M5
  repeat refine wp_seq ?_
  refine M5.dr (by kernel_rfl) (F380_6 x y c1 c3) [(5, (RG.z 4))] [(3, 6, (ws c3))] [(ws x ++ (ws y ++ (ws z))), (ws c1), (ws c2), (ws c3)] [(2, (.v (.string ⟨#[]⟩))), (5, (.p 2 0)), (6, (.p 3 0))] (by kernel_rfl) (by kernel_rfl) ⟨RG.cl (F3_c) fun _ _ => by kernel_rfl, RG.st fun _ _ => by kernel_rfl, RG.ld u33 i33 (by kernel_rfl), RG.ld u33 i33 (by kernel_rfl), RG.cl ((rMul_c C y c1).e hc3) fun _ _ => by kernel_rfl, RG.mk 3 33 fun _ _ => by kernel_rfl, RG.pt i33 (by kernel_rfl), trivial⟩ ?_
  intro j6 a6 w6 M6
  repeat refine wp_seq ?_
  refine M6.dr (by kernel_rfl) (F380_7 x c2 c3) [(5, [(.int .u8 2)])] [] [(ws x ++ (ws y ++ (ws z))), (ws c1), (ws c2), (ws c3), [(.int .u8 2)]] [(2, (.v (.string ⟨#[2] ++ bx c2.val⟩)))] (by kernel_rfl) (by kernel_rfl) ⟨RG.cert_idxc rfl 33 6 (.int .i64 0) rfl (.p 3 0) (RG.sx fun _ => by kernel_rfl) (fun μ w => by kernel_rfl), RG.cert_load1 rfl 3 0 _ rfl rfl (by kernel_rfl) 31 26 rfl (.int .u64 ((c3.val % 18446744073709551616 : Nat) : Int)) rfl (RG.sx fun _ => by kernel_rfl) rfl u31, RG.cert_binc rfl .and 31 31 27 (.int .u64 ((c3.val % 18446744073709551616 : Nat) : Int)) (.int .u64 1) (.int .u64 0) rfl rfl (RG.sx fun _ => by kernel_rfl) (fun w => by kernel_rfl) (and1 c3.val 0 (by subst_vars; exact hpar)), RG.cert_conv rfl 31 5 28 (.int .u64 0) (.int .u8 0) rfl rfl (RG.sx fun _ => by kernel_rfl) (fun w => by kernel_rfl), RG.st fun _ _ => by kernel_rfl, RG.cert_bs1 4 rfl _ rfl 23 5 30 (.int .u8 2) rfl rfl (RG.sx fun _ => by kernel_rfl) (bs1 2), RG.cert_str rfl 4 5 _ rfl _ rfl rfl (by kernel_rfl) (by kernel_rfl) 23 9 31 1 (.string ⟨#[2]⟩) rfl rfl (RG.sx fun _ => by kernel_rfl) (fun w k h => str1 2 w k h), RG.ld u33 i33 (by kernel_rfl), RG.cl (rBytes_c C.toFld c2) fun _ _ => by kernel_rfl, RG.cert_bin rfl .add 9 9 32 34 (.string ⟨#[2]⟩) (.string ⟨bx c2.val⟩) (.string ⟨#[2] ++ bx c2.val⟩) rfl rfl (RG.sx fun _ => by kernel_rfl) (RG.sx fun _ => by kernel_rfl) (fun w => by kernel_rfl) (cat 2 _), RG.st fun _ _ => by kernel_rfl, trivial⟩ ?_
  intro j7 a7 w7 M7
  refine wp_ret ?_
  refine bodyPost_ret (v := (.string ⟨#[2] ++ bx c2.val⟩)) (RG.results_t 2 rfl _ (M7.at (s := (.v (.string ⟨#[2] ++ bx c2.val⟩))) (by kernel_rfl))) M7.sl.defers ?_
  exact ⟨_, rfl, M7.st.bel.below, rfl⟩
def F381_0 (x : Fin P) : List RG.It := [.m 1 [] 0, .x 2 [] (.string ⟨#[]⟩)]
def F381_1 (x y z : Fin P) : List RG.It := [.x 7 [] (rv x y z), .c 8 [(7, 0)] (.bool false), .x 3 [(8, 1)] (.bool false)]
def F381_2 (x : Fin P) : List RG.It := [.x 9 [] (.bool false)]
def F381_4 (x z c1 : Fin P) : List RG.It := [.c 12 [] rv0, .s 13 [] (.p 0 8), .x 14 [(13, 1)] (fv z), .c 15 [(12, 0), (14, 2)] (fv c1), .m 4 [] 1, .u [(4, 4), (15, 3)] 1]
def F381_5 (x c1 c2 : Fin P) : List RG.It := [.c 16 [] rv0, .s 17 [] (.p 0 0), .x 18 [(17, 1)] (fv x), .x 19 [] (fv c1), .c 20 [(16, 0), (18, 2), (19, 3)] (fv c2), .m 5 [] 2, .u [(5, 5), (20, 4)] 2]
def F381_6 (x y c1 c3 : Fin P) : List RG.It := [.c 21 [] rv0, .s 22 [] (.p 0 4), .x 23 [(22, 1)] (fv y), .x 24 [] (fv c1), .c 25 [(21, 0), (23, 2), (24, 3)] (fv c3), .m 6 [] 3, .u [(6, 5), (25, 4)] 3]
def F381_7 (x c2 c3 : Fin P) : List RG.It := [.s 26 [] (.p 3 0), .x 27 [(26, 0)] (.int .u64 ((c3.val % 18446744073709551616 : Nat) : Int)), .x 28 [(27, 1)] (.int .u64 1), .x 29 [(28, 2)] (.int .u8 1), .x 30 [(29, 3)] (.int .u8 3), ⟨some 31, [(30, 4)], (.s 4 1 1), .make 4⟩, .x 32 [(31, 5)] (.string ⟨#[3]⟩), .x 33 [] (fv c2), .c 34 [(33, 7)] (.string ⟨bx c2.val⟩), .x 35 [(32, 6), (34, 8)] (.string ⟨#[3] ++ bx c2.val⟩), .x 2 [(35, 9)] (.string ⟨#[3] ++ bx c2.val⟩)]
set_option maxHeartbeats 2000000 in
set_option maxRecDepth 100000 in
theorem rWr_1_c (C : Fl3 P) (x y z : Fin P)(hz : ¬ z = 0) (hpar : (y * EC.inv z).val % 2 = 1)  : Gives 38 #[(rv x y z)] (.string ⟨#[3] ++ bx (x * EC.inv z).val⟩) := by
  intro w
  obtain ⟨c1, hc1⟩ : ∃ c, c = EC.inv z := ⟨_, rfl⟩
  obtain ⟨c2, hc2⟩ : ∃ c, c = x * c1 := ⟨_, rfl⟩
  obtain ⟨c3, hc3⟩ : ∃ c, c = y * c1 := ⟨_, rfl⟩
  have hfin : ((.string ⟨#[3] ++ bx c2.val⟩) : Value) = (.string ⟨#[3] ++ bx (x * EC.inv z).val⟩) := by
    subst_vars; rfl
  rw [← hfin]
  go_enter Try.func38, Try.ntmps38
  refine RG.M.enter [(0, (.v (rv x y z)))] 36 (by kernel_rfl) ?_
  intro a0 M0
  repeat refine wp_seq ?_
  refine M0.tx (F381_0 x) [(0, (ws x ++ (ws y ++ (ws z))))] [] [(ws x ++ (ws y ++ (ws z)))] [(1, (.p 0 0)), (2, (.v (.string ⟨#[]⟩)))] (by kernel_rfl) (by kernel_rfl) ⟨RG.mk 0 56 fun _ _ => by kernel_rfl, RG.st fun _ _ => by kernel_rfl, trivial⟩ ?_
  intro j1 a1 w1 M1
  repeat refine wp_seq ?_
  refine M1.tx0 (F381_1 x y z) [(1, (.p 0 0)), (2, (.v (.string ⟨#[]⟩))), (3, (.v (.bool false)))] (by kernel_rfl) ⟨RG.ld u56 i56 (by kernel_rfl), RG.cl (Is_f_c C x y z hz) fun _ _ => by kernel_rfl, RG.st fun _ _ => by kernel_rfl, trivial⟩ ?_
  intro a2 w2 M2
  repeat refine wp_seq ?_
  refine M2.tx0 (F381_2 x) [(1, (.p 0 0)), (2, (.v (.string ⟨#[]⟩))), (9, (.v (.bool false)))] (by kernel_rfl) ⟨RG.st fun _ _ => by kernel_rfl, trivial⟩ ?_
  intro a3 w3 M3
  repeat refine wp_seq ?_
  refine wp_cond_false (M3.ev (by kernel_rfl)) ?_
  refine wp_skip ?_
  repeat refine wp_seq ?_
  refine M3.dr (by kernel_rfl) (F381_4 x z c1) [(4, (RG.z 4))] [(1, 5, (ws c1))] [(ws x ++ (ws y ++ (ws z))), (ws c1)] [(1, (.p 0 0)), (2, (.v (.string ⟨#[]⟩))), (4, (.p 1 0))] (by kernel_rfl) (by kernel_rfl) ⟨RG.cl (F3_c) fun _ _ => by kernel_rfl, RG.st fun _ _ => by kernel_rfl, RG.ld u33 i33 (by kernel_rfl), RG.cl ((rInv_c C z).e hc1) fun _ _ => by kernel_rfl, RG.mk 1 33 fun _ _ => by kernel_rfl, RG.pt i33 (by kernel_rfl), trivial⟩ ?_
  intro j4 a4 w4 M4
  repeat refine wp_seq ?_
  refine M4.dr (by kernel_rfl) (F381_5 x c1 c2) [(5, (RG.z 4))] [(2, 6, (ws c2))] [(ws x ++ (ws y ++ (ws z))), (ws c1), (ws c2)] [(1, (.p 0 0)), (2, (.v (.string ⟨#[]⟩))), (4, (.p 1 0)), (5, (.p 2 0))] (by kernel_rfl) (by kernel_rfl) ⟨RG.cl (F3_c) fun _ _ => by kernel_rfl, RG.st fun _ _ => by kernel_rfl, RG.ld u33 i33 (by kernel_rfl), RG.ld u33 i33 (by kernel_rfl), RG.cl ((rMul_c C x c1).e hc2) fun _ _ => by kernel_rfl, RG.mk 2 33 fun _ _ => by kernel_rfl, RG.pt i33 (by kernel_rfl), trivial⟩ ?_
  intro j5 a5 w5 M5
  repeat refine wp_seq ?_
  refine M5.dr (by kernel_rfl) (F381_6 x y c1 c3) [(5, (RG.z 4))] [(3, 6, (ws c3))] [(ws x ++ (ws y ++ (ws z))), (ws c1), (ws c2), (ws c3)] [(2, (.v (.string ⟨#[]⟩))), (5, (.p 2 0)), (6, (.p 3 0))] (by kernel_rfl) (by kernel_rfl) ⟨RG.cl (F3_c) fun _ _ => by kernel_rfl, RG.st fun _ _ => by kernel_rfl, RG.ld u33 i33 (by kernel_rfl), RG.ld u33 i33 (by kernel_rfl), RG.cl ((rMul_c C y c1).e hc3) fun _ _ => by kernel_rfl, RG.mk 3 33 fun _ _ => by kernel_rfl, RG.pt i33 (by kernel_rfl), trivial⟩ ?_
  intro j6 a6 w6 M6
  repeat refine wp_seq ?_
  refine M6.dr (by kernel_rfl) (F381_7 x c2 c3) [(5, [(.int .u8 3)])] [] [(ws x ++ (ws y ++ (ws z))), (ws c1), (ws c2), (ws c3), [(.int .u8 3)]] [(2, (.v (.string ⟨#[3] ++ bx c2.val⟩)))] (by kernel_rfl) (by kernel_rfl) ⟨RG.cert_idxc rfl 33 6 (.int .i64 0) rfl (.p 3 0) (RG.sx fun _ => by kernel_rfl) (fun μ w => by kernel_rfl), RG.cert_load1 rfl 3 0 _ rfl rfl (by kernel_rfl) 31 26 rfl (.int .u64 ((c3.val % 18446744073709551616 : Nat) : Int)) rfl (RG.sx fun _ => by kernel_rfl) rfl u31, RG.cert_binc rfl .and 31 31 27 (.int .u64 ((c3.val % 18446744073709551616 : Nat) : Int)) (.int .u64 1) (.int .u64 1) rfl rfl (RG.sx fun _ => by kernel_rfl) (fun w => by kernel_rfl) (and1 c3.val 1 (by subst_vars; exact hpar)), RG.cert_conv rfl 31 5 28 (.int .u64 1) (.int .u8 1) rfl rfl (RG.sx fun _ => by kernel_rfl) (fun w => by kernel_rfl), RG.st fun _ _ => by kernel_rfl, RG.cert_bs1 4 rfl _ rfl 23 5 30 (.int .u8 3) rfl rfl (RG.sx fun _ => by kernel_rfl) (bs1 3), RG.cert_str rfl 4 5 _ rfl _ rfl rfl (by kernel_rfl) (by kernel_rfl) 23 9 31 1 (.string ⟨#[3]⟩) rfl rfl (RG.sx fun _ => by kernel_rfl) (fun w k h => str1 3 w k h), RG.ld u33 i33 (by kernel_rfl), RG.cl (rBytes_c C.toFld c2) fun _ _ => by kernel_rfl, RG.cert_bin rfl .add 9 9 32 34 (.string ⟨#[3]⟩) (.string ⟨bx c2.val⟩) (.string ⟨#[3] ++ bx c2.val⟩) rfl rfl (RG.sx fun _ => by kernel_rfl) (RG.sx fun _ => by kernel_rfl) (fun w => by kernel_rfl) (cat 3 _), RG.st fun _ _ => by kernel_rfl, trivial⟩ ?_
  intro j7 a7 w7 M7
  refine wp_ret ?_
  refine bodyPost_ret (v := (.string ⟨#[3] ++ bx c2.val⟩)) (RG.results_t 2 rfl _ (M7.at (s := (.v (.string ⟨#[3] ++ bx c2.val⟩))) (by kernel_rfl))) M7.sl.defers ?_
  exact ⟨_, rfl, M7.st.bel.below, rfl⟩
end Go.Proofs.Ytbimbalfdmffaab
namespace Go.Proofs.Ytbimbalfdmffaab
open Go.RowKit Go.Sort
variable {P : Nat} [NeZero P]
/-- A point's bytes. -/
def wr : EC.Pt P → Bs
  | none => zs33
  | some (x, y) => #[mark y.val] ++ bx x.val
theorem by33_wr (C : Fld P) {x y : Fin P} {p : EC.Pt P} (h : EC.Pair x y p) (ho : EC.On p) : by33 x y = wr p := by
  unfold by33
  match p, h, ho with
  | none, h, _ => rw [if_pos (show x = 0 ∧ y = 0 from h)]; rfl
  | some (a, b), h, ho =>
    obtain ⟨rfl, rfl⟩ := h
    rw [if_neg (fun e => C.cur.y_ne ho e.2)]
    rfl
theorem rWritten_c (C : Fl3 P) {t : T3 P} {p : EC.Pt P} (h : FracT t p) : Gives 38 #[tv t] (.string ⟨wr p⟩) := by
  obtain ⟨x, y, z⟩ := t
  match p, h with
  | none, h => exact rWr_z C x y z h.1
  | some (a, b), h =>
    obtain ⟨⟨hz, hx, hy⟩, ho⟩ := h
    have hi := EC.inv_mul C.toFld.cur.pr hz
    have e1 : x * EC.inv z = a := by
      have hx : x = a * z := hx
      rw [hx]
      grobner
    have e2 : y * EC.inv z = b := by
      have hy : y = b * z := hy
      rw [hy]
      grobner
    show Gives _ #[rv x y z] (.string ⟨#[mark b.val] ++ bx a.val⟩)
    rw [← e1, ← e2]
    unfold mark
    by_cases hp : (y * EC.inv z).val % 2 = 1
    · rw [if_pos hp]
      exact rWr_1_c C x y z hz hp
    · rw [if_neg hp]
      exact rWr_0_c C x y z hz (by omega)
end Go.Proofs.Ytbimbalfdmffaab
namespace Go.Proofs.Ytbimbalfdmffaab
open Go.RowKit Go.Sort
variable {P : Nat} [NeZero P]
def rl1 : List Value := [.int .u64 13822214165235122497, .int .u64 13451932020343611451, .int .u64 18446744073709551614, .int .u64 18446744073709551615, .int .u64 4624529908474429119, .int .u64 4994812053365940164, .int .u64 1, .int .u64 0]
def rv1 : Value := .agg rl1.toArray
theorem rMake1_c : Gives 16 #[.int .i64 1] rv1 := fun w => (rMake1 w).mono (by rintro e w' ⟨v, rfl, hb, rfl⟩; exact ⟨_, rfl, hb, rfl⟩)
def F32_0 : List RG.It := [.m 0 [] 0]
def F32_1 : List RG.It := [.c 1 [] rv1, .u [(1, 0)] 0]
set_option maxHeartbeats 2000000 in
set_option maxRecDepth 100000 in
theorem Q3_c  : Gives 32 #[] rv1 := by
  intro w
  go_enter Try.func32, Try.ntmps32
  refine RG.M.enter [] 2 (by kernel_rfl) ?_
  intro a0 M0
  repeat refine wp_seq ?_
  refine M0.tx F32_0 [(0, (RG.z 8))] [] [(RG.z 8)] [(0, (.p 0 0))] (by kernel_rfl) (by kernel_rfl) ⟨RG.mk 0 35 fun _ _ => by kernel_rfl, trivial⟩ ?_
  intro j1 a1 w1 M1
  repeat refine wp_seq ?_
  refine M1.tx F32_1 [] [(0, 1, rl1)] [rl1] [(0, (.p 0 0))] (by kernel_rfl) (by kernel_rfl) ⟨RG.cl (rMake1_c) fun _ _ => by kernel_rfl, RG.pt i35 (by kernel_rfl), trivial⟩ ?_
  intro a2 w2 M2
  refine wp_ret ?_
  refine bodyPost_ret (v := rv1) (RG.results_row M2.st 0 35 rfl 0 _ rfl (M2.at (s := (.p 0 0)) (by kernel_rfl)) u35 i35) M2.sl.defers ?_
  exact ⟨_, rfl, M2.st.bel.below, rfl⟩
end Go.Proofs.Ytbimbalfdmffaab
namespace Go.Proofs.Ytbimbalfdmffaab
open Go.RowKit Go.Sort
variable {P : Nat} [NeZero P]
theorem geq0 (i : Nat) (w : World) : (binOp .geq 3 (.int .i64 (i : Int)) (.int .i64 0)).run Try.prog w = .ok (.bool true) w := by
  go_simp
theorem sub1 (i : Nat) (hi : i < 1000) (w : World) : (binOp .sub 3 (.int .i64 (i : Int)) (.int .i64 1)).run Try.prog w = .ok (.int .i64 ((i : Int) - 1)) w := by
  have h := IntWalk.i64_in ((i : Int) - 1) (by omega)
  go_simp
theorem rBit_1 {n i : Nat} (hn : n < top) (hi : i < 256) (h : n / 2 ^ i % 2 = 1) : Gives 65 #[nv n, .int .i64 (i : Int)] (.int .u64 1) := fun w =>
  (rBit_any _ n i (four_nv hn) hi w).mono (by rintro e w' ⟨v, rfl, hb, t, rfl, ht⟩; exact ⟨_, rfl, hb, by rw [ht, h]; rfl⟩)
theorem rBit_0 {n i : Nat} (hn : n < top) (hi : i < 256) (h : ¬ n / 2 ^ i % 2 = 1) : Gives 65 #[nv n, .int .i64 (i : Int)] (.int .u64 0) := fun w =>
  (rBit_any _ n i (four_nv hn) hi w).mono (by rintro e w' ⟨v, rfl, hb, t, rfl, ht⟩; exact ⟨_, rfl, hb, by rw [ht, show n / 2 ^ i % 2 = 0 by omega]; rfl⟩)
def F40_0 : List RG.It := [.m 2 [] 0, .m 3 [] 1, .m 4 [] 2]
def F40_1 : List RG.It := [.c 7 [] (tv ((0, 1, 0) : T3 P)), .m 5 [] 3, .u [(5, 1), (7, 0)] 3]
def F40_2 : List RG.It := [.x 6 [] (.int .i64 255)]
def F40a_3 (i : Nat) : List RG.It := [.x 8 [] (.int .i64 (i : Int)), .x 9 [(8, 0)] (.bool true)]
def F40a_5 (s s2 : T3 P) : List RG.It := [.x 12 [] (tv s), .x 13 [] (tv s), .c 14 [(12, 0), (13, 1)] (tv s2), .u [(14, 2)] 3]
def F40a_6 (n i : Nat) : List RG.It := [.x 15 [] (nv n), .x 16 [] (.int .i64 (i : Int)), .c 17 [(15, 0), (16, 1)] (.int .u64 1), .x 18 [(17, 2)] (.bool true)]
def F40a_7 (t s2 s3 : T3 P) : List RG.It := [.x 19 [] (tv s2), .x 20 [] (tv t), .c 21 [(19, 0), (20, 1)] (tv s3), .u [(21, 2)] 3]
def F40a_4 (i : Nat) : List RG.It := [.x 10 [] (.int .i64 (i : Int)), .x 11 [(10, 0)] (.int .i64 ((i : Int) - 1)), .x 6 [(11, 1)] (.int .i64 ((i : Int) - 1))]
def F40b_3 (i : Nat) : List RG.It := [.x 8 [] (.int .i64 (i : Int)), .x 9 [(8, 0)] (.bool true)]
def F40b_5 (s s2 : T3 P) : List RG.It := [.x 12 [] (tv s), .x 13 [] (tv s), .c 14 [(12, 0), (13, 1)] (tv s2), .u [(14, 2)] 3]
def F40b_6 (n i : Nat) : List RG.It := [.x 15 [] (nv n), .x 16 [] (.int .i64 (i : Int)), .c 17 [(15, 0), (16, 1)] (.int .u64 0), .x 18 [(17, 2)] (.bool false)]
def F40b_4 (i : Nat) : List RG.It := [.x 10 [] (.int .i64 (i : Int)), .x 11 [(10, 0)] (.int .i64 ((i : Int) - 1)), .x 6 [(11, 1)] (.int .i64 ((i : Int) - 1))]
def F40c_3 : List RG.It := [.x 8 [] (.int .i64 (-1)), .x 9 [(8, 0)] (.bool false)]
def F40c_8 (s : T3 P) : List RG.It := [.x 22 [] (tv s), .u [(22, 0)] 2]
set_option maxHeartbeats 2000000 in
set_option maxRecDepth 100000 in
theorem rTimes_c (C : Fl3 P) (n : Nat) (hn : n < top) (t : T3 P) {p : EC.Pt P} (h : FracT t p) : Gives 40 #[nv n, tv t] (tv (tmF n t 256)) := by
  intro w
  go_enter Try.func40, Try.ntmps40
  refine RG.var2 (v0 := nv n) (v1 := tv t) (n := 23) (by kernel_rfl) (by kernel_rfl) (by kernel_rfl) (by kernel_rfl) ?_
  intro a0 sl0 f0 f1
  have hS0 := RG.St.begin w
  have M0 : RG.M w w.heap.size [] 23 [] [] [(0, (.v (nv n))), (1, (.v (tv t)))] a0 _ := ⟨hS0, sl0, ⟨f0, f1, trivial⟩⟩
  repeat refine wp_seq ?_
  refine M0.tx F40_0 [(0, (wn n)), (1, (tw t)), (2, (RG.z 12))] [] [(wn n), (tw t), (RG.z 12)] [(2, (.p 0 0)), (3, (.p 1 0)), (4, (.p 2 0))] (by kernel_rfl) (by kernel_rfl) ⟨RG.mk 0 33 fun _ _ => by kernel_rfl, RG.mk 1 56 fun _ _ => by kernel_rfl, RG.mk 2 56 fun _ _ => by kernel_rfl, trivial⟩ ?_
  intro j1 i1 m1 a1 w1 M1
  repeat refine wp_seq ?_
  refine M1.tx (F40_1 (P := P)) [(1, (RG.z 12))] [(3, 2, (tw ((0, 1, 0) : T3 P)))] [(wn n), (tw t), (RG.z 12), (tw ((0, 1, 0) : T3 P))] [(2, (.p 0 0)), (3, (.p 1 0)), (4, (.p 2 0)), (5, (.p 3 0))] (by kernel_rfl) (by kernel_rfl) ⟨RG.cl (None_c C) fun _ _ => by kernel_rfl, RG.mk 3 56 fun _ _ => by kernel_rfl, RG.pt i56 (by kernel_rfl), trivial⟩ ?_
  intro j2 a2 w2 M2
  repeat refine wp_seq ?_
  refine M2.tx0 F40_2 [(2, (.p 0 0)), (3, (.p 1 0)), (4, (.p 2 0)), (5, (.p 3 0)), (6, (.v (.int .i64 255)))] (by kernel_rfl) ⟨RG.st fun _ _ => by kernel_rfl, trivial⟩ ?_
  intro a3 w3 M3
  have hS3 : RG.St w w.heap.size [] [(wn n), (tw t), (RG.z 12), (tw ((0, 1, 0) : T3 P))] [j1, i1, m1, j2] _ := M3.st
  have sl3 := M3.sl
  have f2_3 : a3.tmps[2]? = some (.pointer (some ⟨j1, 0, none⟩)) := M3.at (s := (.p 0 0)) (by kernel_rfl)
  have f3_3 : a3.tmps[3]? = some (.pointer (some ⟨i1, 0, none⟩)) := M3.at (s := (.p 1 0)) (by kernel_rfl)
  have f4_3 : a3.tmps[4]? = some (.pointer (some ⟨m1, 0, none⟩)) := M3.at (s := (.p 2 0)) (by kernel_rfl)
  have f5_3 : a3.tmps[5]? = some (.pointer (some ⟨j2, 0, none⟩)) := M3.at (s := (.p 3 0)) (by kernel_rfl)
  have f6_3 : a3.tmps[6]? = some (.int .i64 255) := M3.at (s := (.v (.int .i64 255))) (by kernel_rfl)
  repeat refine wp_seq ?_
  refine wp_block ?_
  refine wp_loop_ghost (fun m a wr => m ≤ 256 ∧ RG.Sl a 23 ∧ a.tmps[2]? = some (.pointer (some ⟨j1, 0, none⟩)) ∧ a.tmps[3]? = some (.pointer (some ⟨i1, 0, none⟩)) ∧ a.tmps[4]? = some (.pointer (some ⟨m1, 0, none⟩)) ∧ a.tmps[5]? = some (.pointer (some ⟨j2, 0, none⟩)) ∧ a.tmps[6]? = some (.int .i64 ((m : Int) - 1)) ∧ RG.St w w.heap.size [] [wn n, tw t, [.int .u64 0, .int .u64 0, .int .u64 0, .int .u64 0, .int .u64 0, .int .u64 0, .int .u64 0, .int .u64 0, .int .u64 0, .int .u64 0, .int .u64 0, .int .u64 0], tw (tmF n t (256 - m))] [j1, i1, m1, j2] wr) 256 ⟨Nat.le_refl _, sl3, f2_3, f3_3, f4_3, f5_3, f6_3, ?_⟩ ?_
  · rw [Nat.sub_self, tmF]
    exact hS3
  intro m a wr
  rintro ⟨hm, sl, f2, f3, f4, f5, f6, hS⟩
  have hn2 : n < 2 ^ 256 := hn
  generalize j1 = k2 at f2 f3 f4 f5 hS
  generalize i1 = k3 at f2 f3 f4 f5 hS
  generalize m1 = k4 at f2 f3 f4 f5 hS
  generalize j2 = k5 at f2 f3 f4 f5 hS
  by_cases hz : m = 0
  · subst hz
    have e256 : tmF n t (256 - 0) = tmF n t 256 := rfl
    rw [e256] at hS
    obtain ⟨s, hs⟩ : ∃ s, tmF n t 256 = s := ⟨_, rfl⟩
    rw [hs] at hS ⊢
    have M0 : RG.M w w.heap.size [] 23 [(wn n), (tw t), (RG.z 12), (tw s)] [k2, k3, k4, k5] [(2, (.p 0 0)), (3, (.p 1 0)), (4, (.p 2 0)), (5, (.p 3 0)), (6, (.v (.int .i64 (-1))))] a _ := ⟨hS, sl, ⟨f2, f3, f4, f5, f6, trivial⟩⟩
    repeat refine wp_seq ?_
    refine M0.tx0 F40c_3 [(4, (.p 2 0)), (5, (.p 3 0)), (9, (.v (.bool false)))] (by kernel_rfl) ⟨RG.st fun _ _ => by kernel_rfl, RG.st fun _ _ => by kernel_rfl, trivial⟩ ?_
    intro a1 w1 M1
    repeat refine wp_seq ?_
    refine wp_cond_false (M1.ev (by kernel_rfl)) ?_
    refine wp_exit ?_
    dsimp only [Exit.then, Exit.inBlock]
    rw [if_pos rfl]
    repeat refine wp_seq ?_
    refine M1.tx (F40c_8 s) [] [(2, 1, (tw s))] [(wn n), (tw t), (tw s), (tw s)] [(4, (.p 2 0))] (by kernel_rfl) (by kernel_rfl) ⟨RG.ld u56 i56 (by kernel_rfl), RG.pt i56 (by kernel_rfl), trivial⟩ ?_
    intro a2 w2 M2
    have hS2 : RG.St w w.heap.size [] [(wn n), (tw t), (tw s), (tw s)] [k2, k3, k4, k5] _ := M2.st
    have sl2 := M2.sl
    have f4_2 : a2.tmps[4]? = some (.pointer (some ⟨k4, 0, none⟩)) := M2.at (s := (.p 2 0)) (by kernel_rfl)
    refine wp_ret ?_
    refine bodyPost_ret (v := tv s) (RG.results_row hS2 4 56 rfl 2 _ rfl f4_2 u56 i56) sl2.defers ?_
    exact ⟨_, rfl, hS2.bel.below, rfl⟩
  · obtain ⟨i, rfl⟩ : ∃ i, m = i + 1 := ⟨m - 1, by omega⟩
    have hi : i < 256 := by omega
    replace f6 : a.tmps[6]? = some (.int .i64 (i : Int)) := by rw [f6]; congr 2; omega
    have ih := tmF_F C hn2 h (256 - (i + 1)) (by omega)
    obtain ⟨s, hs⟩ : ∃ s, tmF n t (256 - (i + 1)) = s := ⟨_, rfl⟩
    rw [hs] at hS ih
    obtain ⟨s2, hs2⟩ : ∃ s2, s2 = plF s s := ⟨_, rfl⟩
    have hp1 := (ih.plus C ih).1
    have ih2 := (ih.plus C ih).2
    rw [← hs2] at hp1 ih2
    obtain ⟨s3, hs3⟩ : ∃ s3, s3 = plF s2 t := ⟨_, rfl⟩
    have hp2 := (ih2.plus C h).1
    rw [← hs3] at hp2
    have hstep : tmF n t (256 - i) = if n / 2 ^ i % 2 = 1 then s3 else s2 := by
      rw [show 256 - i = 256 - (i + 1) + 1 by omega]
      show (if n / 2 ^ (255 - (256 - (i + 1))) % 2 = 1 then plF (plF (tmF n t (256 - (i + 1))) (tmF n t (256 - (i + 1)))) t else plF (tmF n t (256 - (i + 1))) (tmF n t (256 - (i + 1)))) = _
      rw [show 255 - (256 - (i + 1)) = i by omega, hs, ← hs2, ← hs3]
    by_cases hb : n / 2 ^ i % 2 = 1
    · rw [if_pos hb] at hstep
      have M0 : RG.M w w.heap.size [] 23 [(wn n), (tw t), (RG.z 12), (tw s)] [k2, k3, k4, k5] [(2, (.p 0 0)), (3, (.p 1 0)), (4, (.p 2 0)), (5, (.p 3 0)), (6, (.v (.int .i64 (i : Int))))] a _ := ⟨hS, sl, ⟨f2, f3, f4, f5, f6, trivial⟩⟩
      repeat refine wp_seq ?_
      refine M0.tx0 (F40a_3 i) [(2, (.p 0 0)), (3, (.p 1 0)), (4, (.p 2 0)), (5, (.p 3 0)), (6, (.v (.int .i64 (i : Int)))), (9, (.v (.bool true)))] (by kernel_rfl) ⟨RG.st fun _ _ => by kernel_rfl, RG.cert_binc rfl .geq 3 3 8 (.int .i64 (i : Int)) (.int .i64 0) (.bool true) rfl rfl (RG.sx fun _ => by kernel_rfl) (fun w => by kernel_rfl) (geq0 i), trivial⟩ ?_
      intro a1 w1 M1
      repeat refine wp_seq ?_
      refine wp_cond_true (M1.ev (by kernel_rfl)) ?_
      refine wp_skip ?_
      refine wp_seq ?_
      refine wp_block ?_
      repeat refine wp_seq ?_
      refine M1.tx (F40a_5 s s2) [] [(3, 3, (tw s2))] [(wn n), (tw t), (RG.z 12), (tw s2)] [(2, (.p 0 0)), (3, (.p 1 0)), (4, (.p 2 0)), (5, (.p 3 0)), (6, (.v (.int .i64 (i : Int))))] (by kernel_rfl) (by kernel_rfl) ⟨RG.ld u56 i56 (by kernel_rfl), RG.ld u56 i56 (by kernel_rfl), RG.cl (hp1) fun _ _ => by kernel_rfl, RG.pt i56 (by kernel_rfl), trivial⟩ ?_
      intro a2 w2 M2
      repeat refine wp_seq ?_
      refine M2.tx0 (F40a_6 n i) [(2, (.p 0 0)), (3, (.p 1 0)), (4, (.p 2 0)), (5, (.p 3 0)), (6, (.v (.int .i64 (i : Int)))), (18, (.v (.bool true)))] (by kernel_rfl) ⟨RG.ld u33 i33 (by kernel_rfl), RG.st fun _ _ => by kernel_rfl, RG.cl (rBit_1 hn hi hb) fun _ _ => by kernel_rfl, RG.st fun _ _ => by kernel_rfl, trivial⟩ ?_
      intro a3 w3 M3
      repeat refine wp_seq ?_
      refine wp_cond_true (M3.ev (by kernel_rfl)) ?_
      repeat refine wp_seq ?_
      refine M3.tx (F40a_7 t s2 s3) [] [(3, 3, (tw s3))] [(wn n), (tw t), (RG.z 12), (tw s3)] [(2, (.p 0 0)), (3, (.p 1 0)), (4, (.p 2 0)), (5, (.p 3 0)), (6, (.v (.int .i64 (i : Int))))] (by kernel_rfl) (by kernel_rfl) ⟨RG.ld u56 i56 (by kernel_rfl), RG.ld u56 i56 (by kernel_rfl), RG.cl (hp2) fun _ _ => by kernel_rfl, RG.pt i56 (by kernel_rfl), trivial⟩ ?_
      intro a4 w4 M4
      repeat refine wp_seq ?_
      refine M4.tx0 (F40a_4 i) [(2, (.p 0 0)), (3, (.p 1 0)), (4, (.p 2 0)), (5, (.p 3 0)), (6, (.v (.int .i64 ((i : Int) - 1))))] (by kernel_rfl) ⟨RG.st fun _ _ => by kernel_rfl, RG.cert_binc rfl .sub 3 3 10 (.int .i64 (i : Int)) (.int .i64 1) (.int .i64 ((i : Int) - 1)) rfl rfl (RG.sx fun _ => by kernel_rfl) (fun w => by kernel_rfl) (sub1 i (by omega)), RG.st fun _ _ => by kernel_rfl, trivial⟩ ?_
      intro a5 w5 M5
      have hS5 : RG.St w w.heap.size [] [(wn n), (tw t), (RG.z 12), (tw s3)] [k2, k3, k4, k5] _ := M5.st
      have sl5 := M5.sl
      have f2_5 : a5.tmps[2]? = some (.pointer (some ⟨k2, 0, none⟩)) := M5.at (s := (.p 0 0)) (by kernel_rfl)
      have f3_5 : a5.tmps[3]? = some (.pointer (some ⟨k3, 0, none⟩)) := M5.at (s := (.p 1 0)) (by kernel_rfl)
      have f4_5 : a5.tmps[4]? = some (.pointer (some ⟨k4, 0, none⟩)) := M5.at (s := (.p 2 0)) (by kernel_rfl)
      have f5_5 : a5.tmps[5]? = some (.pointer (some ⟨k5, 0, none⟩)) := M5.at (s := (.p 3 0)) (by kernel_rfl)
      have f6_5 : a5.tmps[6]? = some (.int .i64 ((i : Int) - 1)) := M5.at (s := (.v (.int .i64 ((i : Int) - 1)))) (by kernel_rfl)
      show ∃ n', _
      exact ⟨i, Nat.lt_succ_self i, by omega, sl5, f2_5, f3_5, f4_5, f5_5, f6_5, by rw [hstep]; exact hS5⟩
    · rw [if_neg hb] at hstep
      have M0 : RG.M w w.heap.size [] 23 [(wn n), (tw t), (RG.z 12), (tw s)] [k2, k3, k4, k5] [(2, (.p 0 0)), (3, (.p 1 0)), (4, (.p 2 0)), (5, (.p 3 0)), (6, (.v (.int .i64 (i : Int))))] a _ := ⟨hS, sl, ⟨f2, f3, f4, f5, f6, trivial⟩⟩
      repeat refine wp_seq ?_
      refine M0.tx0 (F40b_3 i) [(2, (.p 0 0)), (3, (.p 1 0)), (4, (.p 2 0)), (5, (.p 3 0)), (6, (.v (.int .i64 (i : Int)))), (9, (.v (.bool true)))] (by kernel_rfl) ⟨RG.st fun _ _ => by kernel_rfl, RG.cert_binc rfl .geq 3 3 8 (.int .i64 (i : Int)) (.int .i64 0) (.bool true) rfl rfl (RG.sx fun _ => by kernel_rfl) (fun w => by kernel_rfl) (geq0 i), trivial⟩ ?_
      intro a1 w1 M1
      repeat refine wp_seq ?_
      refine wp_cond_true (M1.ev (by kernel_rfl)) ?_
      refine wp_skip ?_
      refine wp_seq ?_
      refine wp_block ?_
      repeat refine wp_seq ?_
      refine M1.tx (F40b_5 s s2) [] [(3, 3, (tw s2))] [(wn n), (tw t), (RG.z 12), (tw s2)] [(2, (.p 0 0)), (3, (.p 1 0)), (4, (.p 2 0)), (5, (.p 3 0)), (6, (.v (.int .i64 (i : Int))))] (by kernel_rfl) (by kernel_rfl) ⟨RG.ld u56 i56 (by kernel_rfl), RG.ld u56 i56 (by kernel_rfl), RG.cl (hp1) fun _ _ => by kernel_rfl, RG.pt i56 (by kernel_rfl), trivial⟩ ?_
      intro a2 w2 M2
      repeat refine wp_seq ?_
      refine M2.tx0 (F40b_6 n i) [(2, (.p 0 0)), (3, (.p 1 0)), (4, (.p 2 0)), (5, (.p 3 0)), (6, (.v (.int .i64 (i : Int)))), (18, (.v (.bool false)))] (by kernel_rfl) ⟨RG.ld u33 i33 (by kernel_rfl), RG.st fun _ _ => by kernel_rfl, RG.cl (rBit_0 hn hi hb) fun _ _ => by kernel_rfl, RG.st fun _ _ => by kernel_rfl, trivial⟩ ?_
      intro a3 w3 M3
      repeat refine wp_seq ?_
      refine wp_cond_false (M3.ev (by kernel_rfl)) ?_
      refine wp_skip ?_
      repeat refine wp_seq ?_
      refine M3.tx0 (F40b_4 i) [(2, (.p 0 0)), (3, (.p 1 0)), (4, (.p 2 0)), (5, (.p 3 0)), (6, (.v (.int .i64 ((i : Int) - 1))))] (by kernel_rfl) ⟨RG.st fun _ _ => by kernel_rfl, RG.cert_binc rfl .sub 3 3 10 (.int .i64 (i : Int)) (.int .i64 1) (.int .i64 ((i : Int) - 1)) rfl rfl (RG.sx fun _ => by kernel_rfl) (fun w => by kernel_rfl) (sub1 i (by omega)), RG.st fun _ _ => by kernel_rfl, trivial⟩ ?_
      intro a4 w4 M4
      have hS4 : RG.St w w.heap.size [] [(wn n), (tw t), (RG.z 12), (tw s2)] [k2, k3, k4, k5] _ := M4.st
      have sl4 := M4.sl
      have f2_4 : a4.tmps[2]? = some (.pointer (some ⟨k2, 0, none⟩)) := M4.at (s := (.p 0 0)) (by kernel_rfl)
      have f3_4 : a4.tmps[3]? = some (.pointer (some ⟨k3, 0, none⟩)) := M4.at (s := (.p 1 0)) (by kernel_rfl)
      have f4_4 : a4.tmps[4]? = some (.pointer (some ⟨k4, 0, none⟩)) := M4.at (s := (.p 2 0)) (by kernel_rfl)
      have f5_4 : a4.tmps[5]? = some (.pointer (some ⟨k5, 0, none⟩)) := M4.at (s := (.p 3 0)) (by kernel_rfl)
      have f6_4 : a4.tmps[6]? = some (.int .i64 ((i : Int) - 1)) := M4.at (s := (.v (.int .i64 ((i : Int) - 1)))) (by kernel_rfl)
      show ∃ n', _
      exact ⟨i, Nat.lt_succ_self i, by omega, sl4, f2_4, f3_4, f4_4, f5_4, f6_4, by rw [hstep]; exact hS4⟩
end Go.Proofs.Ytbimbalfdmffaab
namespace Go.Proofs.Ytbimbalfdmffaab
open Go.RowKit Go.Sort Go.Deep
variable {P : Nat} [NeZero P]
/-- The point that a pair is. -/
def pt (p : Fin P × Fin P) : EC.Pt P := if p.1 = 0 ∧ p.2 = 0 then none else some p
theorem pair_pt (C : Fld P) {x y : Fin P} {q : EC.Pt P} (h : EC.Pair x y q) (ho : EC.On q) : q = pt (x, y) := by
  unfold pt
  match q, h, ho with
  | none, h, _ => rw [if_pos (show x = 0 ∧ y = 0 from h)]
  | some (a, b), h, ho =>
    obtain ⟨rfl, rfl⟩ := h
    rw [if_neg (fun e => C.cur.y_ne ho e.2)]
theorem rd_on (C : Fld P) {bs : Bs} {p : Fin P × Fin P} (h : rd P bs = some p) : EC.Pair p.1 p.2 (pt p) ∧ EC.On (pt p) := by
  have key : ∃ q : EC.Pt P, EC.Pair p.1 p.2 q ∧ EC.On q := by
    unfold rd at h
    split at h
    · split at h
      · obtain rfl := Option.some.inj h
        exact ⟨none, ⟨rfl, rfl⟩, EC.none_on⟩
      · split at h
        · split at h
          · obtain ⟨y, hr, rfl⟩ := Option.map_eq_some_iff.1 h
            have hsq := rt_sq hr
            refine ⟨some (rdx P bs, if ub bs[0]! = 3 then 0 - y else y), ⟨rfl, rfl⟩, ?_⟩
            split
            · exact on_neg hsq
            · exact on_of hsq
          · cases h
        · cases h
    · cases h
  obtain ⟨q, h1, h2⟩ := key
  have := pair_pt C h1 h2
  rw [show pt p = q from this.symm]
  exact ⟨h1, h2⟩
/-- What Plus answers, by the points. -/
def PlusQ (P : Nat) [NeZero P] (w : World) (az bs : Bs) (e : Value) (w' : World) : Prop := match rd P az, rd P bs with
  | some p, some q => OutP w (wr (EC.add (pt p) (pt q))) e w'
  | _, _ => OutE 4 e
theorem PlusR.q (C : Fld P) {w w' : World} {az bs : Bs} {e : Value} (h : PlusR P w az bs e w') : PlusQ P w az bs e w' := by
  unfold PlusR at h
  unfold PlusQ
  cases h1 : rd P az with
  | none => rw [h1] at h; exact h
  | some p =>
    cases h2 : rd P bs with
    | none => rw [h1, h2] at h; exact h
    | some q =>
      rw [h1, h2] at h
      have hp := rd_on C h1
      have hq := rd_on C h2
      have hJ := (raJ_J C hp.1 hp.2).plus C (raJ_J C hq.1 hq.2)
      have e1 := by33_wr C (hJ.pair C) hJ.2
      dsimp only at h ⊢
      rw [← e1]
      exact h
def MinusQ (P : Nat) [NeZero P] (w : World) (bs : Bs) (e : Value) (w' : World) : Prop := match rd P bs with
  | some p => OutP w (wr (EC.neg (pt p))) e w'
  | none => OutE 4 e
theorem MinusR.q (C : Fld P) {w w' : World} {bs : Bs} {e : Value} (h : MinusR P w bs e w') : MinusQ P w bs e w' := by
  unfold MinusR at h
  unfold MinusQ
  cases h1 : rd P bs with
  | none => rw [h1] at h; exact h
  | some p =>
    rw [h1] at h
    have hp := rd_on C h1
    have hn : EC.Pair p.1 (0 - p.2) (EC.neg (pt p)) := by
      generalize pt p = q at hp
      match q, hp.1 with
      | none, h => exact ⟨h.1, by rw [show p.2 = 0 from h.2]; grobner⟩
      | some (a, b), h => exact ⟨h.1, by rw [show p.2 = b from h.2]; grobner⟩
    have e1 := by33_wr C hn (EC.neg_on hp.2)
    dsimp only at h ⊢
    rw [← e1]
    exact h
def TimesQ (P : Nat) [NeZero P] (N : Nat) (w : World) (az bs : Bs) (e : Value) (w' : World) : Prop := match rq N az, rd P bs with
  | none, _ => OutE 3 e
  | some _, none => OutE 4 e
  | some n, some p => OutP w (wr (EC.mul n (pt p))) e w'
theorem TimesR.q (C : Fld P) {N : Nat} (hN : N ≤ top) {w w' : World} {az bs : Bs} {e : Value} (h : TimesR P N w az bs e w') : TimesQ P N w az bs e w' := by
  unfold TimesR at h
  unfold TimesQ
  cases h1 : rq N az with
  | none => rw [h1] at h; exact h
  | some n =>
    cases h2 : rd P bs with
    | none => rw [h1, h2] at h; exact h
    | some p =>
      rw [h1, h2] at h
      have hp := rd_on C h2
      have hJ := sumJ_all C (N := 1) (ns := fun _ => n) (xs := fun _ => p.1) (ys := fun _ => p.2) (p := fun _ => pt p) (fun _ _ => rq_top hN h1) (fun _ _ => hp.1) (fun _ _ => hp.2)
      have e1 := by33_wr C (hJ.pair C) hJ.2
      have e2 : EC.tot (fun _ => pt p) 1 (fun _ => (n : Int)) = EC.mul n (pt p) := by
        rfl
      rw [e2] at e1
      dsimp only at h ⊢
      rw [← e1]
      exact h
/-- What the reference's Number answers, modulo the order. -/
def NumQR (N : Nat) (bs : Bs) (e : Value) : Prop := match rq N bs with
  | some n => e = .tuple #[nv n, .bool true]
  | none => ∃ m, e = .tuple #[nv m, .bool false]
theorem rNumQ {N : Nat} (hR : RefP 13822214165235122497 13451932020343611451 18446744073709551614 18446744073709551615 4624529908474429119 4994812053365940164 1 0 N) (bs : Bs) (w : World) : Calls Try.prog 17 #[rv1, .string ⟨bs⟩] w (Ret fun e w' => Below w.heap.size w w' ∧ NumQR N bs e) :=
  (rNumber_any _ _ _ _ _ _ _ _ N ⟨bs⟩ hR w).mono (by
    rintro e w' ⟨v, rfl, hb, a, b, c, d, ok, rfl, h1, h2, h3, h4⟩
    refine ⟨_, rfl, hb, ?_⟩
    unfold NumQR rq
    cases ok with
    | true =>
      obtain ⟨hi, hF⟩ := h1 rfl
      rw [if_pos (show bs.size = 32 ∧ beV bs.toList < N from hi)]
      dsimp only
      rw [hF.nv]
    | false =>
      rw [if_neg (show ¬ (bs.size = 32 ∧ beV bs.toList < N) from h2 rfl)]
      by_cases hs : bs.size = 32
      · exact ⟨_, by rw [(h3 hs).nv]⟩
      · obtain ⟨rfl, rfl, rfl, rfl⟩ := h4 hs
        exact ⟨0, rfl⟩)
set_option maxHeartbeats 1000000 in
theorem told3_err (c : Int) (s : ByteArray) (hc : ¬ c = 0) (w : World) :
    Calls Try.prog 41 #[.slice none 0 0, .int .i64 c, .int .i64 c, .string s] w (Ret fun e w' => Below w.heap.size w w' ∧ e = .bool true) := by
  go_enter Try.func41, Try.ntmps41
  go_wp2
  go_ret
  exact ⟨_, rfl, Below.refl _ _, by simp⟩
set_option maxHeartbeats 1000000 in
theorem told3_ok (g cap : Nat) (T : Bs) (w : World) (hT : T.size = 33) (hH : Holds encB w g 0 T) :
    Calls Try.prog 41 #[.slice (some ⟨g, 0, none⟩) 33 cap, .int .i64 0, .int .i64 0, .string ⟨T⟩] w (Ret fun e w' => Below w.heap.size w w' ∧ e = .bool true) := by
  have hcv := conv_str Try.prog 23 9 5 slice22 int5 str9 w g 0 33 cap T hH hT
  have hse := str_eq T
  go_enter Try.func41, Try.ntmps41
  go_wp2
  go_ret
  exact ⟨_, rfl, Below.refl _ _, by simp⟩
omit [NeZero P] in
theorem wr_size (p : EC.Pt P) : (wr p).size = 33 := by
  match p with
  | none => rfl
  | some (x, y) =>
    show (#[mark y.val] ++ bx x.val).size = 33
    rw [Array.size_append, bx_size]
    rfl
end Go.Proofs.Ytbimbalfdmffaab
namespace Go.Proofs.Ytbimbalfdmffaab
open Go.RowKit Go.Sort Go.Deep
variable {P : Nat} [NeZero P]
/-- What the reference's Number answers, modulo the order. -/
def nuV (bs : Bs) : Nat := if bs.size = 32 then beV bs.toList else 0
theorem rNum_v {N : Nat} (hR : RefP 13822214165235122497 13451932020343611451 18446744073709551614 18446744073709551615 4624529908474429119 4994812053365940164 1 0 N) (s : ByteArray) : Gives 17 #[rv1, .string s] (.tuple #[nv (nuV s.data), .bool (rq N s.data).isSome]) := fun w =>
  (rNumber_any _ _ _ _ _ _ _ _ N s hR w).mono (by
    rintro e w' ⟨v, rfl, hb, a, b, c, d, ok, rfl, h1, h2, h3, h4⟩
    refine ⟨_, rfl, hb, ?_⟩
    unfold nuV rq
    cases ok with
    | true =>
      obtain ⟨hi, hF⟩ := h1 rfl
      rw [if_pos (show s.data.size = 32 ∧ beV s.data.toList < N from hi), if_pos (show s.data.size = 32 from hi.1), hF.nv]
      rfl
    | false =>
      rw [if_neg (show ¬ (s.data.size = 32 ∧ beV s.data.toList < N) from h2 rfl)]
      by_cases hs : s.data.size = 32
      · rw [if_pos hs, (h3 hs).nv]
        rfl
      · rw [if_neg hs]
        obtain ⟨rfl, rfl, rfl, rfl⟩ := h4 hs
        rfl)
theorem rq_nu {N : Nat} {bs : Bs} {n : Nat} (h : rq N bs = some n) : n = nuV bs := by
  unfold rq at h
  split at h
  · rename_i hc
    unfold nuV
    rw [if_pos hc.1]
    exact (Option.some.inj h).symm
  · cases h
theorem nuV_top {bs : Bs} {N : Nat} (hN : N ≤ top) {n : Nat} (h : rq N bs = some n) : nuV bs < top := rq_nu h ▸ rq_top hN h
/-- What the reference's Read answers. -/
def rdT (P : Nat) [NeZero P] (bs : Bs) : T3 P :=
  if bs.size = 33 then if Zero33 bs then (0, 1, 0) else if ub bs[0]! = 2 ∨ ub bs[0]! = 3 then if beV (tl33 bs).toList < P then
    (rdx P bs, if ub bs[0]! = 3 then 0 - (rt (rdx P bs * rdx P bs * rdx P bs + 7)).getD 0 else (rt (rdx P bs * rdx P bs * rdx P bs + 7)).getD 0, 1) else (0, 0, 0) else (0, 0, 0) else (0, 0, 0)
theorem rRead_v (C : Fl3 P) (bs : Bs) : Gives 31 #[.string ⟨bs⟩] (.tuple #[tv (rdT P bs), .bool (rd P bs).isSome]) := by
  intro w
  unfold rdT rd
  by_cases hs : bs.size = 33
  · rw [if_pos hs, if_pos hs]
    by_cases hz : Zero33 bs
    · rw [if_pos hz, if_pos hz]
      obtain rfl := (zero33_iff hs).1 hz
      exact rr_zero C w
    · rw [if_neg hz, if_neg hz]
      have hz' : ¬ bs = zs33 := fun h => hz ((zero33_iff hs).2 h)
      by_cases hm : ub bs[0]! = 2 ∨ ub bs[0]! = 3
      · rw [if_pos hm, if_pos hm]
        by_cases hx : beV (tl33 bs).toList < P
        · rw [if_pos hx, if_pos hx]
          have hx' : beV (tl33 bs).toList = (rdx P bs).val := (Nat.mod_eq_of_lt hx).symm
          cases hr : rt (rdx P bs * rdx P bs * rdx P bs + 7) with
          | none =>
            rcases hm with hm | hm
            · rw [if_neg (by rw [hm]; decide)]
              exact rr_none2 C 0 bs (rdx P bs) 0 0 w hs hz' hm hx' hr
            · rw [if_pos hm]
              exact rr_none3 C 0 bs (rdx P bs) 0 (0 - 0) w hs hz' hm hx' hr rfl
          | some y =>
            rcases hm with hm | hm
            · rw [Option.map_some, if_neg (by rw [hm]; decide), if_neg (by rw [hm]; decide)]
              exact rr_some2 C 0 bs (rdx P bs) y 0 w hs hz' hm hx' hr
            · rw [Option.map_some, if_pos hm, if_pos hm]
              exact rr_some3 C 0 bs (rdx P bs) y (0 - y) w hs hz' hm hx' hr rfl
        · rw [if_neg hx, if_neg hx]
          have hn := rNumber_n C (tl33 bs) (tl33_size hs) hx
          rcases hm with hm | hm
          · exact rr_num2 C _ bs 0 0 0 w hs hz' hm hn
          · exact rr_num3 C _ bs 0 0 0 w hs hz' hm hn
      · rw [if_neg hm, if_neg hm]
        exact rr_mark C bs hs hz' _ rfl (fun h => hm (Or.inl h)) (fun h => hm (Or.inr h)) w
  · rw [if_neg hs, if_neg hs]
    exact rr_len C bs hs w
/-- The point that bytes are; nothing, where they are none. -/
def ptOf (P : Nat) [NeZero P] (bs : Bs) : EC.Pt P := match rd P bs with | some p => pt p | none => none
theorem ptOf_of {bs : Bs} {p : Fin P × Fin P} (h : rd P bs = some p) : ptOf P bs = pt p := by unfold ptOf; rw [h]
theorem rdT_frac (C : Fl3 P) {bs : Bs} (h : (rd P bs).isSome = true) : FracT (rdT P bs) (ptOf P bs) := by
  obtain ⟨p, hp⟩ := Option.isSome_iff_exists.1 h
  rw [ptOf_of hp]
  have hp0 := hp
  unfold rdT
  unfold rd at hp
  split at hp
  · rename_i hs
    rw [if_pos hs]
    split at hp
    · rename_i hz
      rw [if_pos hz]
      obtain rfl := Option.some.inj hp
      unfold pt
      rw [if_pos ⟨rfl, rfl⟩]
      exact FracT.none
    · rename_i hz
      rw [if_neg hz]
      split at hp
      · rename_i hm
        rw [if_pos hm]
        split at hp
        · rename_i hx
          rw [if_pos hx]
          obtain ⟨y, hr, hpe⟩ := Option.map_eq_some_iff.1 hp
          have hsq := rt_sq hr
          have hon := rd_on C.toFld hp0
          rw [hr]
          show FracT (rdx P bs, (if ub bs[0]! = 3 then 0 - y else y), 1) (pt p)
          have hb : p = (rdx P bs, if ub bs[0]! = 3 then 0 - y else y) := hpe.symm
          have hpt : pt p = some p := by
            unfold pt
            rw [if_neg]
            rintro ⟨-, h2⟩
            rw [hb] at h2
            dsimp only at h2
            split at h2
            · exact C.toFld.cur.y_ne (on_neg hsq) h2
            · exact C.toFld.cur.y_ne (on_of hsq) h2
          rw [hpt, hb]
          split
          · exact ⟨frac_one C.toFld _ _, on_neg hsq⟩
          · exact ⟨frac_one C.toFld _ _, on_of hsq⟩
        · cases hp
      · cases hp
  · cases hp
/-- Blocks that nobody asks for any more. -/
theorem RG.M.drop {w0 w : World} {k0 n : Nat} {X : List Nat} {cs cs2 : List (List Value)} {ks ks2 : List Nat} {os : List (Tmp × RG.SV)} {a : Act} (h : RG.M w0 k0 X n (cs ++ cs2) (ks ++ ks2) os a w) (hl : ks.length = cs.length)
    (ho : os.all (fun x => match x.2.blk with | none => true | some b => b.blt cs.length) = true) : RG.M w0 k0 X n cs ks os a w := by
  have had : ∀ b, b < cs.length → RG.ad (ks ++ ks2) b = RG.ad ks b := fun b hb => by
    unfold RG.ad
    rw [List.getD_eq_getElem?_getD, List.getD_eq_getElem?_getD, List.getElem?_append_left (by omega)]
  refine ⟨⟨h.st.bel, h.st.le, hl, fun b c hb => ?_, fun b c hb hc hne => ?_⟩, h.sl, RG.Olds.mk' fun x hx => ?_⟩
  · have hlt := (List.getElem?_eq_some_iff.1 hb).1
    have := h.st.has b c (by rw [List.getElem?_append_left hlt]; exact hb)
    rwa [had b hlt] at this
  · have := h.st.inj b c (by rw [List.length_append]; omega) (by rw [List.length_append]; omega) hne
    rwa [had b hb, had c hc] at this
  · rw [h.os.get x.1 x.2 hx]
    congr 1
    refine RG.SV.at_congr fun b hb => ?_
    have h1 := List.all_eq_true.1 ho x hx
    rw [hb] at h1
    exact had b (Nat.lt_of_succ_le (Nat.le_of_ble_eq_true h1))
end Go.Proofs.Ytbimbalfdmffaab
namespace Go.Proofs.Ytbimbalfdmffaab
open Go.RowKit Go.Sort
variable {P : Nat} [NeZero P]
theorem u9 : (Try.prog.underlying 9).map (·.isRow) = some false := by kernel_rfl
theorem at45 (k o n c i : Nat) (hi : i < n) (w : World) : (Instr.indexAt 45 (.slice (some ⟨k, o, none⟩) n c) (.int .i64 (i : Int))).run Try.prog w = .ok (.pointer (some ⟨k, o + i, none⟩)) w := by
  have h1 : ¬ (i : Int) < 0 := by omega
  have h2 : (i : Int) < n := by omega
  go_simp
theorem nen_t {i n : Nat} (e : ¬ i = n) (w : World) : (binOp .neq 3 (.int .i64 (i : Int)) (.int .i64 (n : Int))).run Try.prog w = .ok (.bool true) w := by
  have h : ¬ (i : Int) = (n : Int) := by omega
  go_simp
theorem nen_f (n : Nat) (w : World) : (binOp .neq 3 (.int .i64 (n : Int)) (.int .i64 (n : Int))).run Try.prog w = .ok (.bool false) w := by
  go_simp
theorem gtc_t {n c : Nat} (e : c < n) (w : World) : (binOp .gtr 3 (.int .i64 (n : Int)) (.int .i64 (c : Int))).run Try.prog w = .ok (.bool true) w := by
  have h : (c : Int) < (n : Int) := by omega
  go_simp
theorem gtc_f {n c : Nat} (e : ¬ c < n) (w : World) : (binOp .gtr 3 (.int .i64 (n : Int)) (.int .i64 (c : Int))).run Try.prog w = .ok (.bool false) w := by
  have h : ¬ (c : Int) < (n : Int) := by omega
  go_simp
def F43a_0 : List RG.It := [.x 4 [] (.int .i64 0), .x 5 [] (.string ⟨#[]⟩)]
def F43a_1 (q q2 : Option Addr) (n a c c2 : Nat) : List RG.It := [.x 17 [] (.slice q n c), .x 18 [(17, 0)] (.int .i64 (n : Int)), .x 19 [] (.slice q2 a c2), .x 20 [(19, 2)] (.int .i64 (a : Int)), .x 21 [(18, 1), (20, 3)] (.bool true), .x 16 [(21, 4)] (.bool true)]
def F43a_2 : List RG.It := [.x 4 [] (.int .i64 2), .x 5 [] (.string ⟨#[]⟩)]
def F43b_0 : List RG.It := [.x 4 [] (.int .i64 0), .x 5 [] (.string ⟨#[]⟩)]
def F43b_1 (q q2 : Option Addr) (n c c2 : Nat) : List RG.It := [.x 17 [] (.slice q n c), .x 18 [(17, 0)] (.int .i64 (n : Int)), .x 19 [] (.slice q2 n c2), .x 20 [(19, 2)] (.int .i64 (n : Int)), .x 21 [(18, 1), (20, 3)] (.bool false), .x 16 [(21, 4)] (.bool false)]
def F43b_3 (q : Option Addr) (n c : Nat) : List RG.It := [.x 23 [] (.slice q n c), .x 24 [(23, 0)] (.int .i64 (n : Int)), .x 25 [(24, 1)] (.bool true), .x 22 [(25, 2)] (.bool true)]
def F43b_4 : List RG.It := [.x 4 [] (.int .i64 1), .x 5 [] (.string ⟨#[]⟩)]
def F43c_0 : List RG.It := [.x 4 [] (.int .i64 0), .x 5 [] (.string ⟨#[]⟩)]
def F43c_1 (q q2 : Option Addr) (n c c2 : Nat) : List RG.It := [.x 17 [] (.slice q n c), .x 18 [(17, 0)] (.int .i64 (n : Int)), .x 19 [] (.slice q2 n c2), .x 20 [(19, 2)] (.int .i64 (n : Int)), .x 21 [(18, 1), (20, 3)] (.bool false), .x 16 [(21, 4)] (.bool false)]
def F43c_3 (q : Option Addr) (n c : Nat) : List RG.It := [.x 23 [] (.slice q n c), .x 24 [(23, 0)] (.int .i64 (n : Int)), .x 25 [(24, 1)] (.bool false), .x 22 [(25, 2)] (.bool false)]
def F43c_5 : List RG.It := [.c 26 [] rv1, .m 6 [] 0, .u [(6, 1), (26, 0)] 0]
def F43c_6 : List RG.It := [.x 7 [] (.int .i64 0)]
def F43d_7 (n c i gl ol : Nat) : List RG.It := [.x 27 [] (.int .i64 (i : Int)), .x 28 [] (.slice (some ⟨gl, ol, none⟩) n c), .x 29 [(28, 1)] (.int .i64 (n : Int)), .x 30 [(27, 0), (29, 2)] (.bool true)]
def F43d_9 (n c i m gl ol : Nat) (sx : ByteArray) : List RG.It := [.x 34 [] rv1, .x 35 [] (.slice (some ⟨gl, ol, none⟩) n c), .x 36 [] (.int .i64 (i : Int)), .x 37 [(35, 1), (36, 2)] (.pointer (some ⟨gl, ol + i, none⟩)), .x 38 [(37, 3)] (.string sx), .c 39 [(34, 0), (38, 4)] (.tuple #[(nv m), (.bool true)]), .x 33 [(39, 5)] (.tuple #[(nv m), (.bool true)]), .x 40 [(33, 6)] (nv m), .x 41 [(33, 6)] (.bool true), .m 8 [] 1, .u [(8, 9), (40, 7)] 1, .x 9 [(41, 8)] (.bool true)]
def F43d_10 : List RG.It := [.x 42 [] (.bool true), .x 43 [(42, 0)] (.bool false)]
def F43d_8 (i : Nat) : List RG.It := [.x 31 [] (.int .i64 (i : Int)), .x 32 [(31, 0)] (.int .i64 ((i + 1 : Nat) : Int)), .x 7 [(32, 1)] (.int .i64 ((i + 1 : Nat) : Int))]
def F43e_7 (n c i gl ol : Nat) : List RG.It := [.x 27 [] (.int .i64 (i : Int)), .x 28 [] (.slice (some ⟨gl, ol, none⟩) n c), .x 29 [(28, 1)] (.int .i64 (n : Int)), .x 30 [(27, 0), (29, 2)] (.bool true)]
def F43e_9 (n c i m gl ol : Nat) (sx : ByteArray) : List RG.It := [.x 34 [] rv1, .x 35 [] (.slice (some ⟨gl, ol, none⟩) n c), .x 36 [] (.int .i64 (i : Int)), .x 37 [(35, 1), (36, 2)] (.pointer (some ⟨gl, ol + i, none⟩)), .x 38 [(37, 3)] (.string sx), .c 39 [(34, 0), (38, 4)] (.tuple #[(nv m), (.bool false)]), .x 33 [(39, 5)] (.tuple #[(nv m), (.bool false)]), .x 40 [(33, 6)] (nv m), .x 41 [(33, 6)] (.bool false), .m 8 [] 1, .u [(8, 9), (40, 7)] 1, .x 9 [(41, 8)] (.bool false)]
def F43e_10 : List RG.It := [.x 42 [] (.bool false), .x 43 [(42, 0)] (.bool true)]
def F43e_11 : List RG.It := [.x 4 [] (.int .i64 3), .x 5 [] (.string ⟨#[]⟩)]
def F43f_7 (q : Option Addr) (n c i : Nat) : List RG.It := [.x 27 [] (.int .i64 (i : Int)), .x 28 [] (.slice q n c), .x 29 [(28, 1)] (.int .i64 (n : Int)), .x 30 [(27, 0), (29, 2)] (.bool false)]
def F43f_12 : List RG.It := [.c 44 [] (tv ((0, 1, 0) : T3 P)), .m 10 [] 1, .u [(10, 1), (44, 0)] 1]
def F43f_13 : List RG.It := [.x 11 [] (.int .i64 0)]
def F43g_14 (n c2 l gm om : Nat) : List RG.It := [.x 45 [] (.int .i64 (l : Int)), .x 46 [] (.slice (some ⟨gm, om, none⟩) n c2), .x 47 [(46, 1)] (.int .i64 (n : Int)), .x 48 [(45, 0), (47, 2)] (.bool true)]
def F43g_16 (n c2 l gm om : Nat) (sy : ByteArray) (t : T3 P) : List RG.It := [.x 52 [] (.slice (some ⟨gm, om, none⟩) n c2), .x 53 [] (.int .i64 (l : Int)), .x 54 [(52, 0), (53, 1)] (.pointer (some ⟨gm, om + l, none⟩)), .x 55 [(54, 2)] (.string sy), .c 56 [(55, 3)] (.tuple #[(tv t), (.bool true)]), .x 51 [(56, 4)] (.tuple #[(tv t), (.bool true)]), .x 57 [(51, 5)] (tv t), .x 58 [(51, 5)] (.bool true), .m 12 [] 2, .u [(12, 8), (57, 6)] 2, .x 13 [(58, 7)] (.bool true)]
def F43g_17 : List RG.It := [.x 59 [] (.bool true), .x 60 [(59, 0)] (.bool false)]
def F43g_19 (n c l m gl ol : Nat) (sx : ByteArray) : List RG.It := [.x 62 [] rv1, .x 63 [] (.slice (some ⟨gl, ol, none⟩) n c), .x 64 [] (.int .i64 (l : Int)), .x 65 [(63, 1), (64, 2)] (.pointer (some ⟨gl, ol + l, none⟩)), .x 66 [(65, 3)] (.string sx), .c 67 [(62, 0), (66, 4)] (.tuple #[(nv m), (.bool true)]), .x 61 [(67, 5)] (.tuple #[(nv m), (.bool true)]), .x 68 [(61, 6)] (nv m), .x 69 [(61, 6)] (.bool true), .m 14 [] 3, .u [(14, 9), (68, 7)] 3, .x 15 [(69, 8)] (.bool true)]
def F43g_20 (m : Nat) (s t t2 t3 : T3 P) : List RG.It := [.x 70 [] (tv s), .x 71 [] (nv m), .x 72 [] (tv t), .c 73 [(71, 1), (72, 2)] (tv t2), .c 74 [(70, 0), (73, 3)] (tv t3), .u [(74, 4)] 1]
def F43g_15 (l : Nat) : List RG.It := [.x 49 [] (.int .i64 (l : Int)), .x 50 [(49, 0)] (.int .i64 ((l + 1 : Nat) : Int)), .x 11 [(50, 1)] (.int .i64 ((l + 1 : Nat) : Int))]
def F43h_14 (n c2 l gm om : Nat) : List RG.It := [.x 45 [] (.int .i64 (l : Int)), .x 46 [] (.slice (some ⟨gm, om, none⟩) n c2), .x 47 [(46, 1)] (.int .i64 (n : Int)), .x 48 [(45, 0), (47, 2)] (.bool true)]
def F43h_16 (n c2 l gm om : Nat) (sy : ByteArray) (t : T3 P) : List RG.It := [.x 52 [] (.slice (some ⟨gm, om, none⟩) n c2), .x 53 [] (.int .i64 (l : Int)), .x 54 [(52, 0), (53, 1)] (.pointer (some ⟨gm, om + l, none⟩)), .x 55 [(54, 2)] (.string sy), .c 56 [(55, 3)] (.tuple #[(tv t), (.bool false)]), .x 51 [(56, 4)] (.tuple #[(tv t), (.bool false)]), .x 57 [(51, 5)] (tv t), .x 58 [(51, 5)] (.bool false), .m 12 [] 2, .u [(12, 8), (57, 6)] 2, .x 13 [(58, 7)] (.bool false)]
def F43h_17 : List RG.It := [.x 59 [] (.bool false), .x 60 [(59, 0)] (.bool true)]
def F43h_18 : List RG.It := [.x 4 [] (.int .i64 4), .x 5 [] (.string ⟨#[]⟩)]
def F43i_14 (q2 : Option Addr) (n c2 l : Nat) : List RG.It := [.x 45 [] (.int .i64 (l : Int)), .x 46 [] (.slice q2 n c2), .x 47 [(46, 1)] (.int .i64 (n : Int)), .x 48 [(45, 0), (47, 2)] (.bool false)]
def F43i_21 (s : T3 P) (po : EC.Pt P) : List RG.It := [.x 75 [] (tv s), .c 76 [(75, 0)] (.string ⟨wr po⟩), .x 4 [] (.int .i64 0), .x 5 [(76, 1)] (.string ⟨wr po⟩)]
/-- What the law's own sum answers. -/
def LSum (P : Nat) [NeZero P] (N n a : Nat) (S T : Nat → ByteArray) (e : Value) : Prop :=
  (¬ n = a ∧ e = .tuple #[.int .i64 2, .string ⟨#[]⟩]) ∨ (n = a ∧ 512 < n ∧ e = .tuple #[.int .i64 1, .string ⟨#[]⟩]) ∨ (n = a ∧ ¬ 512 < n ∧ (((∃ j, j < n ∧ rq N (S j).data = none) ∧ e = .tuple #[.int .i64 3, .string ⟨#[]⟩]) ∨
    ((∀ j, j < n → (rq N (S j).data).isSome = true) ∧ (((∃ j, j < n ∧ rd P (T j).data = none) ∧ e = .tuple #[.int .i64 4, .string ⟨#[]⟩]) ∨
      ((∀ j, j < n → (rd P (T j).data).isSome = true) ∧ e = .tuple #[.int .i64 0, .string ⟨wr (EC.tot (fun j => ptOf P (T j).data) n (fun j => (nuV (S j).data : Int)))⟩])))))
set_option maxHeartbeats 4000000 in
set_option maxRecDepth 100000 in
theorem lsum_c {N : Nat} (C : Fl3 P) (hN : N ≤ top) (hR : RefP 13822214165235122497 13451932020343611451 18446744073709551614 18446744073709551615 4624529908474429119 4994812053365940164 1 0 N) (q q2 : Option Addr) (n a c c2 : Nat) (S T : Nat → ByteArray) (w : World) (hS : Texts w q n S) (hT : Texts w q2 a T) :
    Calls Try.prog 43 #[(.slice q n c), (.slice q2 a c2)] w (Ret fun e w' => Below w.heap.size w w' ∧ LSum P N n a S T e) := by
  go_enter Try.func43, Try.ntmps43
  refine RG.M.enter [(0, (.v (.slice q n c))), (1, (.v (.slice q2 a c2)))] 77 (by kernel_rfl) ?_
  intro a0 M0
  by_cases hna : n = a
  · subst hna
    by_cases h512 : 512 < n
    · skip
      repeat refine wp_seq ?_
      refine M0.tx0 F43b_0 [(0, (.v (.slice q n c))), (1, (.v (.slice q2 n c2))), (4, (.v (.int .i64 0))), (5, (.v (.string ⟨#[]⟩)))] (by kernel_rfl) ⟨RG.st fun _ _ => by kernel_rfl, RG.st fun _ _ => by kernel_rfl, trivial⟩ ?_
      intro a1 w1 M1
      refine wp_seq ?_
      refine wp_block ?_
      repeat refine wp_seq ?_
      refine M1.tx0 (F43b_1 q q2 n c c2) [(0, (.v (.slice q n c))), (4, (.v (.int .i64 0))), (5, (.v (.string ⟨#[]⟩))), (16, (.v (.bool false)))] (by kernel_rfl) ⟨RG.st fun _ _ => by kernel_rfl, RG.st fun _ _ => by kernel_rfl, RG.st fun _ _ => by kernel_rfl, RG.st fun _ _ => by kernel_rfl, RG.cert_bin rfl .neq 3 3 18 20 (.int .i64 (n : Int)) (.int .i64 (n : Int)) (.bool false) rfl rfl (RG.sx fun _ => by kernel_rfl) (RG.sx fun _ => by kernel_rfl) (fun w => by kernel_rfl) (nen_f n), RG.st fun _ _ => by kernel_rfl, trivial⟩ ?_
      intro a2 w2 M2
      repeat refine wp_seq ?_
      refine wp_cond_false (M2.ev (by kernel_rfl)) ?_
      repeat refine wp_seq ?_
      refine M2.tx0 (F43b_3 q n c) [(4, (.v (.int .i64 0))), (5, (.v (.string ⟨#[]⟩))), (22, (.v (.bool true)))] (by kernel_rfl) ⟨RG.st fun _ _ => by kernel_rfl, RG.st fun _ _ => by kernel_rfl, RG.cert_binc rfl .gtr 3 3 24 (.int .i64 (n : Int)) (.int .i64 512) (.bool true) rfl rfl (RG.sx fun _ => by kernel_rfl) (fun w => by kernel_rfl) (gtc_t (c := 512) h512), RG.st fun _ _ => by kernel_rfl, trivial⟩ ?_
      intro a3 w3 M3
      repeat refine wp_seq ?_
      refine wp_cond_true (M3.ev (by kernel_rfl)) ?_
      repeat refine wp_seq ?_
      refine M3.tx0 F43b_4 [(4, (.v (.int .i64 1))), (5, (.v (.string ⟨#[]⟩)))] (by kernel_rfl) ⟨RG.st fun _ _ => by kernel_rfl, RG.st fun _ _ => by kernel_rfl, trivial⟩ ?_
      intro a4 w4 M4
      refine wp_ret ?_
      refine bodyPost_ret (v := .tuple #[.int .i64 1, (.string ⟨#[]⟩)]) (RG.results_tt 4 5 rfl (.int .i64 1) (.string ⟨#[]⟩) (M4.av (by kernel_rfl)) (M4.av (by kernel_rfl))) M4.sl.defers ?_
      exact ⟨_, rfl, M4.st.bel.below, Or.inr (Or.inl ⟨rfl, h512, rfl⟩)⟩
    · skip
      repeat refine wp_seq ?_
      refine M0.tx0 F43c_0 [(0, (.v (.slice q n c))), (1, (.v (.slice q2 n c2)))] (by kernel_rfl) ⟨RG.st fun _ _ => by kernel_rfl, RG.st fun _ _ => by kernel_rfl, trivial⟩ ?_
      intro a1 w1 M1
      refine wp_seq ?_
      refine wp_block ?_
      repeat refine wp_seq ?_
      refine M1.tx0 (F43c_1 q q2 n c c2) [(0, (.v (.slice q n c))), (1, (.v (.slice q2 n c2))), (16, (.v (.bool false)))] (by kernel_rfl) ⟨RG.st fun _ _ => by kernel_rfl, RG.st fun _ _ => by kernel_rfl, RG.st fun _ _ => by kernel_rfl, RG.st fun _ _ => by kernel_rfl, RG.cert_bin rfl .neq 3 3 18 20 (.int .i64 (n : Int)) (.int .i64 (n : Int)) (.bool false) rfl rfl (RG.sx fun _ => by kernel_rfl) (RG.sx fun _ => by kernel_rfl) (fun w => by kernel_rfl) (nen_f n), RG.st fun _ _ => by kernel_rfl, trivial⟩ ?_
      intro a2 w2 M2
      repeat refine wp_seq ?_
      refine wp_cond_false (M2.ev (by kernel_rfl)) ?_
      repeat refine wp_seq ?_
      refine M2.tx0 (F43c_3 q n c) [(0, (.v (.slice q n c))), (1, (.v (.slice q2 n c2))), (22, (.v (.bool false)))] (by kernel_rfl) ⟨RG.st fun _ _ => by kernel_rfl, RG.st fun _ _ => by kernel_rfl, RG.cert_binc rfl .gtr 3 3 24 (.int .i64 (n : Int)) (.int .i64 512) (.bool false) rfl rfl (RG.sx fun _ => by kernel_rfl) (fun w => by kernel_rfl) (gtc_f (c := 512) h512), RG.st fun _ _ => by kernel_rfl, trivial⟩ ?_
      intro a3 w3 M3
      repeat refine wp_seq ?_
      refine wp_cond_false (M3.ev (by kernel_rfl)) ?_
      refine wp_skip ?_
      repeat refine wp_seq ?_
      refine M3.tx F43c_5 [(1, (RG.z 8))] [(0, 2, rl1)] [rl1] [(0, (.v (.slice q n c))), (1, (.v (.slice q2 n c2))), (6, (.p 0 0))] (by kernel_rfl) (by kernel_rfl) ⟨RG.cl (Q3_c) fun _ _ => by kernel_rfl, RG.mk 0 35 fun _ _ => by kernel_rfl, RG.pt i35 (by kernel_rfl), trivial⟩ ?_
      intro j4 a4 w4 M4
      repeat refine wp_seq ?_
      refine M4.tx0 F43c_6 [(0, (.v (.slice q n c))), (1, (.v (.slice q2 n c2))), (6, (.p 0 0)), (7, (.v (.int .i64 0)))] (by kernel_rfl) ⟨RG.st fun _ _ => by kernel_rfl, trivial⟩ ?_
      intro a5 w5 M5
      repeat refine wp_seq ?_
      refine wp_block ?_
      refine wp_loop_ghost (fun m a wr => ∃ (i k6 : Nat), i + m = n ∧ (∀ j, j < i → (rq N (S j).data).isSome = true) ∧ RG.M w w.heap.size [] 77 [rl1] [k6] [(0, .v (.slice q n c)), (1, .v (.slice q2 n c2)), (6, .p 0 0), (7, .v (.int .i64 (i : Int)))] a wr) n ⟨0, _, by omega, fun j hj => absurd hj (by omega), M5⟩ ?_
      intro mm a wv
      rintro ⟨i, k6, hin, hok, M20⟩
      by_cases hi : i < n
      · obtain ⟨gl, ol, rfl, hgl, hcl⟩ := hS (by omega)
        obtain ⟨sx, hsx⟩ : ∃ s, s = S i := ⟨_, rfl⟩
        have hcx := hcl i hi
        rw [← hsx] at hcx
        obtain ⟨m, hm⟩ : ∃ m, m = nuV sx.data := ⟨_, rfl⟩
        have hnum := rNum_v hR sx
        rw [← hm] at hnum
        cases hrq : (rq N sx.data).isSome with
        | true =>
          rw [hrq] at hnum
          repeat refine wp_seq ?_
          refine M20.tx0 (F43d_7 n c i gl ol) [(0, (.v (.slice (some ⟨gl, ol, none⟩) n c))), (1, (.v (.slice q2 n c2))), (6, (.p 0 0)), (7, (.v (.int .i64 (i : Int)))), (30, (.v (.bool true)))] (by kernel_rfl) ⟨RG.st fun _ _ => by kernel_rfl, RG.st fun _ _ => by kernel_rfl, RG.st fun _ _ => by kernel_rfl, RG.cert_bin rfl .lss 3 3 27 29 (.int .i64 (i : Int)) (.int .i64 (n : Int)) (.bool true) rfl rfl (RG.sx fun _ => by kernel_rfl) (RG.sx fun _ => by kernel_rfl) (fun w => by kernel_rfl) (lssn_t hi), trivial⟩ ?_
          intro a21 w21 M21
          repeat refine wp_seq ?_
          refine wp_cond_true (M21.ev (by kernel_rfl)) ?_
          refine wp_skip ?_
          refine wp_seq ?_
          refine wp_block ?_
          repeat refine wp_seq ?_
          refine M21.dr (by kernel_rfl) (F43d_9 n c i m gl ol sx) [(9, (RG.z 4))] [(1, 10, (wn m))] [rl1, (wn m)] [(0, (.v (.slice (some ⟨gl, ol, none⟩) n c))), (1, (.v (.slice q2 n c2))), (6, (.p 0 0)), (7, (.v (.int .i64 (i : Int)))), (9, (.v (.bool true)))] (by kernel_rfl) (by kernel_rfl) ⟨RG.ld u35 i35 (by kernel_rfl), RG.st fun _ _ => by kernel_rfl, RG.st fun _ _ => by kernel_rfl, RG.cert_idx rfl 45 35 36 rfl (.v (.slice (some ⟨gl, ol, none⟩) n c)) (.int .i64 (i : Int)) (RG.sx fun _ => by kernel_rfl) (RG.sx fun _ => by kernel_rfl) (fun μ w => at45 gl ol _ _ i hi w), RG.cert_load1B rfl gl (ol + i) hgl List.not_mem_nil 9 37 rfl (.string sx) rfl (RG.sx fun _ => by kernel_rfl) hcx u9, RG.cl (hnum) fun _ _ => by kernel_rfl, RG.st fun _ _ => by kernel_rfl, RG.st fun _ _ => by kernel_rfl, RG.st fun _ _ => by kernel_rfl, RG.mk 1 33 fun _ _ => by kernel_rfl, RG.pt i33 (by kernel_rfl), RG.st fun _ _ => by kernel_rfl, trivial⟩ ?_
          intro j22 a22 w22 M22
          repeat refine wp_seq ?_
          refine M22.tx0 F43d_10 [(0, (.v (.slice (some ⟨gl, ol, none⟩) n c))), (1, (.v (.slice q2 n c2))), (6, (.p 0 0)), (7, (.v (.int .i64 (i : Int)))), (43, (.v (.bool false)))] (by kernel_rfl) ⟨RG.st fun _ _ => by kernel_rfl, RG.st fun _ _ => by kernel_rfl, trivial⟩ ?_
          intro a23 w23 M23
          repeat refine wp_seq ?_
          refine wp_cond_false (M23.ev (by kernel_rfl)) ?_
          refine wp_skip ?_
          repeat refine wp_seq ?_
          refine M23.tx0 (F43d_8 i) [(0, (.v (.slice (some ⟨gl, ol, none⟩) n c))), (1, (.v (.slice q2 n c2))), (6, (.p 0 0)), (7, (.v (.int .i64 ((i + 1 : Nat) : Int))))] (by kernel_rfl) ⟨RG.st fun _ _ => by kernel_rfl, RG.cert_binc rfl .add 3 3 31 (.int .i64 (i : Int)) (.int .i64 1) (.int .i64 ((i + 1 : Nat) : Int)) rfl rfl (RG.sx fun _ => by kernel_rfl) (fun w => by kernel_rfl) (addn i 1 (by omega) (by omega)), RG.st fun _ _ => by kernel_rfl, trivial⟩ ?_
          intro a24 w24 M24
          show ∃ n', _
          exact ⟨mm - 1, by omega, i + 1, k6, by omega, fun j hj => by
            by_cases hj2 : j = i
            · rw [hj2, ← hsx]; exact hrq
            · exact hok j (by omega), RG.M.drop (cs := [rl1]) (cs2 := [_]) (ks := [k6]) (ks2 := [_]) M24 rfl rfl⟩
        | false =>
          rw [hrq] at hnum
          repeat refine wp_seq ?_
          refine M20.tx0 (F43e_7 n c i gl ol) [(0, (.v (.slice (some ⟨gl, ol, none⟩) n c))), (6, (.p 0 0)), (7, (.v (.int .i64 (i : Int)))), (30, (.v (.bool true)))] (by kernel_rfl) ⟨RG.st fun _ _ => by kernel_rfl, RG.st fun _ _ => by kernel_rfl, RG.st fun _ _ => by kernel_rfl, RG.cert_bin rfl .lss 3 3 27 29 (.int .i64 (i : Int)) (.int .i64 (n : Int)) (.bool true) rfl rfl (RG.sx fun _ => by kernel_rfl) (RG.sx fun _ => by kernel_rfl) (fun w => by kernel_rfl) (lssn_t hi), trivial⟩ ?_
          intro a21 w21 M21
          repeat refine wp_seq ?_
          refine wp_cond_true (M21.ev (by kernel_rfl)) ?_
          refine wp_skip ?_
          refine wp_seq ?_
          refine wp_block ?_
          repeat refine wp_seq ?_
          refine M21.dr (by kernel_rfl) (F43e_9 n c i m gl ol sx) [(9, (RG.z 4))] [(1, 10, (wn m))] [rl1, (wn m)] [(9, (.v (.bool false)))] (by kernel_rfl) (by kernel_rfl) ⟨RG.ld u35 i35 (by kernel_rfl), RG.st fun _ _ => by kernel_rfl, RG.st fun _ _ => by kernel_rfl, RG.cert_idx rfl 45 35 36 rfl (.v (.slice (some ⟨gl, ol, none⟩) n c)) (.int .i64 (i : Int)) (RG.sx fun _ => by kernel_rfl) (RG.sx fun _ => by kernel_rfl) (fun μ w => at45 gl ol _ _ i hi w), RG.cert_load1B rfl gl (ol + i) hgl List.not_mem_nil 9 37 rfl (.string sx) rfl (RG.sx fun _ => by kernel_rfl) hcx u9, RG.cl (hnum) fun _ _ => by kernel_rfl, RG.st fun _ _ => by kernel_rfl, RG.st fun _ _ => by kernel_rfl, RG.st fun _ _ => by kernel_rfl, RG.mk 1 33 fun _ _ => by kernel_rfl, RG.pt i33 (by kernel_rfl), RG.st fun _ _ => by kernel_rfl, trivial⟩ ?_
          intro j22 a22 w22 M22
          repeat refine wp_seq ?_
          refine M22.tx0 F43e_10 [(43, (.v (.bool true)))] (by kernel_rfl) ⟨RG.st fun _ _ => by kernel_rfl, RG.st fun _ _ => by kernel_rfl, trivial⟩ ?_
          intro a23 w23 M23
          repeat refine wp_seq ?_
          refine wp_cond_true (M23.ev (by kernel_rfl)) ?_
          repeat refine wp_seq ?_
          refine M23.tx0 F43e_11 [(4, (.v (.int .i64 3))), (5, (.v (.string ⟨#[]⟩)))] (by kernel_rfl) ⟨RG.st fun _ _ => by kernel_rfl, RG.st fun _ _ => by kernel_rfl, trivial⟩ ?_
          intro a24 w24 M24
          refine wp_ret ?_
          refine bodyPost_ret (v := .tuple #[.int .i64 3, (.string ⟨#[]⟩)]) (RG.results_tt 4 5 rfl (.int .i64 3) (.string ⟨#[]⟩) (M24.av (by kernel_rfl)) (M24.av (by kernel_rfl))) M24.sl.defers ?_
          exact ⟨_, rfl, M24.st.bel.below, Or.inr (Or.inr ⟨rfl, h512, Or.inl ⟨⟨i, hi, by rw [← hsx]; simpa using hrq⟩, rfl⟩⟩)⟩
      · have hin2 : i = n := by omega
        rw [hin2] at hok
        repeat refine wp_seq ?_
        refine M20.tx0 (F43f_7 q n c i) [(0, (.v (.slice q n c))), (1, (.v (.slice q2 n c2))), (6, (.p 0 0)), (30, (.v (.bool false)))] (by kernel_rfl) ⟨RG.st fun _ _ => by kernel_rfl, RG.st fun _ _ => by kernel_rfl, RG.st fun _ _ => by kernel_rfl, RG.cert_bin rfl .lss 3 3 27 29 (.int .i64 (i : Int)) (.int .i64 (n : Int)) (.bool false) rfl rfl (RG.sx fun _ => by kernel_rfl) (RG.sx fun _ => by kernel_rfl) (fun w => by kernel_rfl) (lssn_f hi), trivial⟩ ?_
        intro a21 w21 M21
        repeat refine wp_seq ?_
        refine wp_cond_false (M21.ev (by kernel_rfl)) ?_
        refine wp_exit ?_
        dsimp only [Exit.then, Exit.inBlock]
        rw [if_pos rfl]
        repeat refine wp_seq ?_
        refine M21.tx (F43f_12 (P := P)) [(1, (RG.z 12))] [(1, 2, (tw ((0, 1, 0) : T3 P)))] [rl1, (tw ((0, 1, 0) : T3 P))] [(0, (.v (.slice q n c))), (1, (.v (.slice q2 n c2))), (6, (.p 0 0)), (10, (.p 1 0))] (by kernel_rfl) (by kernel_rfl) ⟨RG.cl (None_c C) fun _ _ => by kernel_rfl, RG.mk 1 56 fun _ _ => by kernel_rfl, RG.pt i56 (by kernel_rfl), trivial⟩ ?_
        intro j22 a22 w22 M22
        repeat refine wp_seq ?_
        refine M22.tx0 F43f_13 [(0, (.v (.slice q n c))), (1, (.v (.slice q2 n c2))), (6, (.p 0 0)), (10, (.p 1 0)), (11, (.v (.int .i64 0)))] (by kernel_rfl) ⟨RG.st fun _ _ => by kernel_rfl, trivial⟩ ?_
        intro a23 w23 M23
        repeat refine wp_seq ?_
        refine wp_block ?_
        refine wp_loop_ghost (fun m a wr => ∃ (l k7 k8 : Nat) (s : T3 P), l + m = n ∧ (∀ j, j < l → (rd P (T j).data).isSome = true) ∧ FracT s (EC.tot (fun j => ptOf P (T j).data) l (fun j => (nuV (S j).data : Int))) ∧ RG.M w w.heap.size [] 77 [rl1, tw s] [k7, k8] [(0, .v (.slice q n c)), (1, .v (.slice q2 n c2)), (6, .p 0 0), (10, .p 1 0), (11, .v (.int .i64 (l : Int)))] a wr) n ⟨0, _, _, _, by omega, fun j hj => absurd hj (by omega), FracT.none, M23⟩ ?_
        intro mm2 a wv
        rintro ⟨l, k7, k8, s, hln, hok2, hF, M40⟩
        by_cases hl : l < n
        · obtain ⟨gm, om, rfl, hgm, hcm⟩ := hT (by omega)
          obtain ⟨sy, hsy⟩ : ∃ s, s = T l := ⟨_, rfl⟩
          have hcy := hcm l hl
          rw [← hsy] at hcy
          obtain ⟨t, ht⟩ : ∃ t, t = rdT P sy.data := ⟨_, rfl⟩
          have hrd := rRead_v C sy.data
          rw [← ht] at hrd
          cases hrs : (rd P sy.data).isSome with
          | true =>
            rw [hrs] at hrd
            obtain ⟨gl, ol, rfl, hgl, hcl⟩ := hS (by omega)
            obtain ⟨sx, hsx⟩ : ∃ s, s = S l := ⟨_, rfl⟩
            have hcx := hcl l hl
            rw [← hsx] at hcx
            obtain ⟨m, hm⟩ : ∃ m, m = nuV sx.data := ⟨_, rfl⟩
            have hnum := rNum_v hR sx
            have hrq := hok l hl
            rw [← hsx] at hrq
            rw [← hm, hrq] at hnum
            obtain ⟨nn, hnn⟩ := Option.isSome_iff_exists.1 hrq
            have hmt : m < top := hm ▸ nuV_top hN hnn
            have hft := rdT_frac C hrs
            rw [← ht] at hft
            obtain ⟨t2, ht2⟩ : ∃ t2, t2 = tmF m t 256 := ⟨_, rfl⟩
            have htm := rTimes_c C m hmt t hft
            have hf2 := tmF_F C (show m < 2 ^ 256 from hmt) hft 256 (Nat.le_refl _)
            rw [Nat.sub_self, Nat.pow_zero, Nat.div_one, ← ht2] at hf2
            rw [← ht2] at htm
            obtain ⟨t3, ht3⟩ : ∃ t3, t3 = plF s t2 := ⟨_, rfl⟩
            have hpl := (hF.plus C hf2).1
            have hf3 := (hF.plus C hf2).2
            rw [← ht3] at hpl hf3
            repeat refine wp_seq ?_
            refine M40.tx0 (F43g_14 n c2 l gm om) [(0, (.v (.slice (some ⟨gl, ol, none⟩) n c))), (1, (.v (.slice (some ⟨gm, om, none⟩) n c2))), (6, (.p 0 0)), (10, (.p 1 0)), (11, (.v (.int .i64 (l : Int)))), (48, (.v (.bool true)))] (by kernel_rfl) ⟨RG.st fun _ _ => by kernel_rfl, RG.st fun _ _ => by kernel_rfl, RG.st fun _ _ => by kernel_rfl, RG.cert_bin rfl .lss 3 3 45 47 (.int .i64 (l : Int)) (.int .i64 (n : Int)) (.bool true) rfl rfl (RG.sx fun _ => by kernel_rfl) (RG.sx fun _ => by kernel_rfl) (fun w => by kernel_rfl) (lssn_t hl), trivial⟩ ?_
            intro a41 w41 M41
            repeat refine wp_seq ?_
            refine wp_cond_true (M41.ev (by kernel_rfl)) ?_
            refine wp_skip ?_
            refine wp_seq ?_
            refine wp_block ?_
            repeat refine wp_seq ?_
            refine M41.tx (F43g_16 n c2 l gm om sy t) [(8, (RG.z 12))] [(2, 9, (tw t))] [rl1, (tw s), (tw t)] [(0, (.v (.slice (some ⟨gl, ol, none⟩) n c))), (1, (.v (.slice (some ⟨gm, om, none⟩) n c2))), (6, (.p 0 0)), (10, (.p 1 0)), (11, (.v (.int .i64 (l : Int)))), (12, (.p 2 0)), (13, (.v (.bool true)))] (by kernel_rfl) (by kernel_rfl) ⟨RG.st fun _ _ => by kernel_rfl, RG.st fun _ _ => by kernel_rfl, RG.cert_idx rfl 45 52 53 rfl (.v (.slice (some ⟨gm, om, none⟩) n c2)) (.int .i64 (l : Int)) (RG.sx fun _ => by kernel_rfl) (RG.sx fun _ => by kernel_rfl) (fun μ w => at45 gm om _ _ l hl w), RG.cert_load1B rfl gm (om + l) hgm List.not_mem_nil 9 54 rfl (.string sy) rfl (RG.sx fun _ => by kernel_rfl) hcy u9, RG.cl (hrd) fun _ _ => by kernel_rfl, RG.st fun _ _ => by kernel_rfl, RG.st fun _ _ => by kernel_rfl, RG.st fun _ _ => by kernel_rfl, RG.mk 2 56 fun _ _ => by kernel_rfl, RG.pt i56 (by kernel_rfl), RG.st fun _ _ => by kernel_rfl, trivial⟩ ?_
            intro j42 a42 w42 M42
            repeat refine wp_seq ?_
            refine M42.tx0 F43g_17 [(0, (.v (.slice (some ⟨gl, ol, none⟩) n c))), (1, (.v (.slice (some ⟨gm, om, none⟩) n c2))), (6, (.p 0 0)), (10, (.p 1 0)), (11, (.v (.int .i64 (l : Int)))), (12, (.p 2 0)), (60, (.v (.bool false)))] (by kernel_rfl) ⟨RG.st fun _ _ => by kernel_rfl, RG.st fun _ _ => by kernel_rfl, trivial⟩ ?_
            intro a43 w43 M43
            repeat refine wp_seq ?_
            refine wp_cond_false (M43.ev (by kernel_rfl)) ?_
            refine wp_skip ?_
            repeat refine wp_seq ?_
            refine M43.dr (by kernel_rfl) (F43g_19 n c l m gl ol sx) [(9, (RG.z 4))] [(3, 10, (wn m))] [rl1, (tw s), (tw t), (wn m)] [(0, (.v (.slice (some ⟨gl, ol, none⟩) n c))), (1, (.v (.slice (some ⟨gm, om, none⟩) n c2))), (6, (.p 0 0)), (10, (.p 1 0)), (11, (.v (.int .i64 (l : Int)))), (12, (.p 2 0)), (14, (.p 3 0))] (by kernel_rfl) (by kernel_rfl) ⟨RG.ld u35 i35 (by kernel_rfl), RG.st fun _ _ => by kernel_rfl, RG.st fun _ _ => by kernel_rfl, RG.cert_idx rfl 45 63 64 rfl (.v (.slice (some ⟨gl, ol, none⟩) n c)) (.int .i64 (l : Int)) (RG.sx fun _ => by kernel_rfl) (RG.sx fun _ => by kernel_rfl) (fun μ w => at45 gl ol _ _ l hl w), RG.cert_load1B rfl gl (ol + l) hgl List.not_mem_nil 9 65 rfl (.string sx) rfl (RG.sx fun _ => by kernel_rfl) hcx u9, RG.cl (hnum) fun _ _ => by kernel_rfl, RG.st fun _ _ => by kernel_rfl, RG.st fun _ _ => by kernel_rfl, RG.st fun _ _ => by kernel_rfl, RG.mk 3 33 fun _ _ => by kernel_rfl, RG.pt i33 (by kernel_rfl), RG.st fun _ _ => by kernel_rfl, trivial⟩ ?_
            intro j44 a44 w44 M44
            repeat refine wp_seq ?_
            refine M44.dr (by kernel_rfl) (F43g_20 m s t t2 t3) [] [(1, 5, (tw t3))] [rl1, (tw t3), (tw t), (wn m)] [(0, (.v (.slice (some ⟨gl, ol, none⟩) n c))), (1, (.v (.slice (some ⟨gm, om, none⟩) n c2))), (6, (.p 0 0)), (10, (.p 1 0)), (11, (.v (.int .i64 (l : Int))))] (by kernel_rfl) (by kernel_rfl) ⟨RG.ld u56 i56 (by kernel_rfl), RG.ld u33 i33 (by kernel_rfl), RG.ld u56 i56 (by kernel_rfl), RG.cl (htm) fun _ _ => by kernel_rfl, RG.cl (hpl) fun _ _ => by kernel_rfl, RG.pt i56 (by kernel_rfl), trivial⟩ ?_
            intro a45 w45 M45
            repeat refine wp_seq ?_
            refine M45.tx0 (F43g_15 l) [(0, (.v (.slice (some ⟨gl, ol, none⟩) n c))), (1, (.v (.slice (some ⟨gm, om, none⟩) n c2))), (6, (.p 0 0)), (10, (.p 1 0)), (11, (.v (.int .i64 ((l + 1 : Nat) : Int))))] (by kernel_rfl) ⟨RG.st fun _ _ => by kernel_rfl, RG.cert_binc rfl .add 3 3 49 (.int .i64 (l : Int)) (.int .i64 1) (.int .i64 ((l + 1 : Nat) : Int)) rfl rfl (RG.sx fun _ => by kernel_rfl) (fun w => by kernel_rfl) (addn l 1 (by omega) (by omega)), RG.st fun _ _ => by kernel_rfl, trivial⟩ ?_
            intro a46 w46 M46
            show ∃ n', _
            refine ⟨mm2 - 1, by omega, l + 1, k7, k8, t3, by omega, fun j hj => ?_, ?_, RG.M.drop (cs := [rl1, tw t3]) (cs2 := [_, _]) (ks := [k7, k8]) (ks2 := [_, _]) M46 rfl rfl⟩
            · by_cases hj2 : j = l
              · rw [hj2, ← hsy]; exact hrs
              · exact hok2 j (by omega)
            · show FracT t3 (EC.add (EC.tot _ l _) (EC.zmul (nuV (S l).data : Int) (ptOf P (T l).data)))
              rw [← hsx, ← hsy, ← hm]
              exact hf3
          | false =>
            rw [hrs] at hrd
            repeat refine wp_seq ?_
            refine M40.tx0 (F43h_14 n c2 l gm om) [(1, (.v (.slice (some ⟨gm, om, none⟩) n c2))), (11, (.v (.int .i64 (l : Int)))), (48, (.v (.bool true)))] (by kernel_rfl) ⟨RG.st fun _ _ => by kernel_rfl, RG.st fun _ _ => by kernel_rfl, RG.st fun _ _ => by kernel_rfl, RG.cert_bin rfl .lss 3 3 45 47 (.int .i64 (l : Int)) (.int .i64 (n : Int)) (.bool true) rfl rfl (RG.sx fun _ => by kernel_rfl) (RG.sx fun _ => by kernel_rfl) (fun w => by kernel_rfl) (lssn_t hl), trivial⟩ ?_
            intro a41 w41 M41
            repeat refine wp_seq ?_
            refine wp_cond_true (M41.ev (by kernel_rfl)) ?_
            refine wp_skip ?_
            refine wp_seq ?_
            refine wp_block ?_
            repeat refine wp_seq ?_
            refine M41.tx (F43h_16 n c2 l gm om sy t) [(8, (RG.z 12))] [(2, 9, (tw t))] [rl1, (tw s), (tw t)] [(13, (.v (.bool false)))] (by kernel_rfl) (by kernel_rfl) ⟨RG.st fun _ _ => by kernel_rfl, RG.st fun _ _ => by kernel_rfl, RG.cert_idx rfl 45 52 53 rfl (.v (.slice (some ⟨gm, om, none⟩) n c2)) (.int .i64 (l : Int)) (RG.sx fun _ => by kernel_rfl) (RG.sx fun _ => by kernel_rfl) (fun μ w => at45 gm om _ _ l hl w), RG.cert_load1B rfl gm (om + l) hgm List.not_mem_nil 9 54 rfl (.string sy) rfl (RG.sx fun _ => by kernel_rfl) hcy u9, RG.cl (hrd) fun _ _ => by kernel_rfl, RG.st fun _ _ => by kernel_rfl, RG.st fun _ _ => by kernel_rfl, RG.st fun _ _ => by kernel_rfl, RG.mk 2 56 fun _ _ => by kernel_rfl, RG.pt i56 (by kernel_rfl), RG.st fun _ _ => by kernel_rfl, trivial⟩ ?_
            intro j42 a42 w42 M42
            repeat refine wp_seq ?_
            refine M42.tx0 F43h_17 [(60, (.v (.bool true)))] (by kernel_rfl) ⟨RG.st fun _ _ => by kernel_rfl, RG.st fun _ _ => by kernel_rfl, trivial⟩ ?_
            intro a43 w43 M43
            repeat refine wp_seq ?_
            refine wp_cond_true (M43.ev (by kernel_rfl)) ?_
            repeat refine wp_seq ?_
            refine M43.tx0 F43h_18 [(4, (.v (.int .i64 4))), (5, (.v (.string ⟨#[]⟩)))] (by kernel_rfl) ⟨RG.st fun _ _ => by kernel_rfl, RG.st fun _ _ => by kernel_rfl, trivial⟩ ?_
            intro a44 w44 M44
            refine wp_ret ?_
            refine bodyPost_ret (v := .tuple #[.int .i64 4, (.string ⟨#[]⟩)]) (RG.results_tt 4 5 rfl (.int .i64 4) (.string ⟨#[]⟩) (M44.av (by kernel_rfl)) (M44.av (by kernel_rfl))) M44.sl.defers ?_
            exact ⟨_, rfl, M44.st.bel.below, Or.inr (Or.inr ⟨rfl, h512, Or.inr ⟨hok, Or.inl ⟨⟨l, hl, by rw [← hsy]; simpa using hrs⟩, rfl⟩⟩⟩)⟩
        · have hln2 : l = n := by omega
          rw [hln2] at hok2
          obtain ⟨po, hpo⟩ : ∃ p, p = EC.tot (fun j => ptOf P (T j).data) l (fun j => (nuV (S j).data : Int)) := ⟨_, rfl⟩
          rw [← hpo] at hF
          have hwr := rWritten_c C hF
          repeat refine wp_seq ?_
          refine M40.tx0 (F43i_14 q2 n c2 l) [(10, (.p 1 0)), (48, (.v (.bool false)))] (by kernel_rfl) ⟨RG.st fun _ _ => by kernel_rfl, RG.st fun _ _ => by kernel_rfl, RG.st fun _ _ => by kernel_rfl, RG.cert_bin rfl .lss 3 3 45 47 (.int .i64 (l : Int)) (.int .i64 (n : Int)) (.bool false) rfl rfl (RG.sx fun _ => by kernel_rfl) (RG.sx fun _ => by kernel_rfl) (fun w => by kernel_rfl) (lssn_f hl), trivial⟩ ?_
          intro a41 w41 M41
          repeat refine wp_seq ?_
          refine wp_cond_false (M41.ev (by kernel_rfl)) ?_
          refine wp_exit ?_
          dsimp only [Exit.then, Exit.inBlock]
          rw [if_pos rfl]
          repeat refine wp_seq ?_
          refine M41.tx0 (F43i_21 s po) [(4, (.v (.int .i64 0))), (5, (.v (.string ⟨wr po⟩)))] (by kernel_rfl) ⟨RG.ld u56 i56 (by kernel_rfl), RG.cl (hwr) fun _ _ => by kernel_rfl, RG.st fun _ _ => by kernel_rfl, RG.st fun _ _ => by kernel_rfl, trivial⟩ ?_
          intro a42 w42 M42
          refine wp_ret ?_
          refine bodyPost_ret (v := .tuple #[.int .i64 0, (.string ⟨wr po⟩)]) (RG.results_tt 4 5 rfl (.int .i64 0) (.string ⟨wr po⟩) (M42.av (by kernel_rfl)) (M42.av (by kernel_rfl))) M42.sl.defers ?_
          exact ⟨_, rfl, M42.st.bel.below, Or.inr (Or.inr ⟨rfl, h512, Or.inr ⟨hok, Or.inr ⟨hok2, by rw [hpo, hln2]⟩⟩⟩)⟩
  · skip
    repeat refine wp_seq ?_
    refine M0.tx0 F43a_0 [(0, (.v (.slice q n c))), (1, (.v (.slice q2 a c2))), (4, (.v (.int .i64 0))), (5, (.v (.string ⟨#[]⟩)))] (by kernel_rfl) ⟨RG.st fun _ _ => by kernel_rfl, RG.st fun _ _ => by kernel_rfl, trivial⟩ ?_
    intro a1 w1 M1
    refine wp_seq ?_
    refine wp_block ?_
    repeat refine wp_seq ?_
    refine M1.tx0 (F43a_1 q q2 n a c c2) [(4, (.v (.int .i64 0))), (5, (.v (.string ⟨#[]⟩))), (16, (.v (.bool true)))] (by kernel_rfl) ⟨RG.st fun _ _ => by kernel_rfl, RG.st fun _ _ => by kernel_rfl, RG.st fun _ _ => by kernel_rfl, RG.st fun _ _ => by kernel_rfl, RG.cert_bin rfl .neq 3 3 18 20 (.int .i64 (n : Int)) (.int .i64 (a : Int)) (.bool true) rfl rfl (RG.sx fun _ => by kernel_rfl) (RG.sx fun _ => by kernel_rfl) (fun w => by kernel_rfl) (nen_t hna), RG.st fun _ _ => by kernel_rfl, trivial⟩ ?_
    intro a2 w2 M2
    repeat refine wp_seq ?_
    refine wp_cond_true (M2.ev (by kernel_rfl)) ?_
    repeat refine wp_seq ?_
    refine M2.tx0 F43a_2 [(4, (.v (.int .i64 2))), (5, (.v (.string ⟨#[]⟩)))] (by kernel_rfl) ⟨RG.st fun _ _ => by kernel_rfl, RG.st fun _ _ => by kernel_rfl, trivial⟩ ?_
    intro a3 w3 M3
    refine wp_ret ?_
    refine bodyPost_ret (v := .tuple #[.int .i64 2, (.string ⟨#[]⟩)]) (RG.results_tt 4 5 rfl (.int .i64 2) (.string ⟨#[]⟩) (M3.av (by kernel_rfl)) (M3.av (by kernel_rfl))) M3.sl.defers ?_
    exact ⟨_, rfl, M3.st.bel.below, Or.inl ⟨hna, rfl⟩⟩
end Go.Proofs.Ytbimbalfdmffaab
namespace Go.Proofs.Ytbimbalfdmffaab
open Go.RowKit Go.Sort Go.Deep
/-- An answer: bytes and no errno, or no bytes and an errno. -/
def Ans3 (W : World) (T : Bs) (c : Int) (q : Option Addr) (n cap : Nat) (ep : Int) : Prop :=
  (∃ g, q = some ⟨g, 0, none⟩ ∧ n = 33 ∧ ep = 0 ∧ c = 0 ∧ T.size = 33 ∧ g < W.heap.size ∧ Holds encB W g 0 T) ∨ (q = none ∧ n = 0 ∧ cap = 0 ∧ ep = c ∧ ¬ c = 0)
theorem Ans3.call {W W' : World} {T : Bs} {c : Int} {q : Option Addr} {n cap : Nat} {ep : Int} (h : Ans3 W T c q n cap ep) (hb : Below W.heap.size W W') : Ans3 W' T c q n cap ep := by
  rcases h with ⟨g, h1, h2, h3, h4, h5, h6, h7⟩ | h
  · exact Or.inl ⟨g, h1, h2, h3, h4, h5, Nat.lt_of_lt_of_le h6 hb.size, Holds.below h7 hb h6⟩
  · exact Or.inr h
theorem Ans3.told {W : World} {T : Bs} {c : Int} {q : Option Addr} {n cap : Nat} {ep : Int} (h : Ans3 W T c q n cap ep) : Calls Try.prog 41 #[.slice q n cap, .int .i64 ep, .int .i64 c, .string ⟨T⟩] W (Ret fun e w' => Below W.heap.size W w' ∧ e = .bool true) := by
  rcases h with ⟨g, rfl, rfl, rfl, rfl, h5, h6, h7⟩ | ⟨rfl, rfl, rfl, rfl, h5⟩
  · exact told3_ok g cap T W h5 h7
  · exact told3_err _ _ h5 W
theorem OutP.ans {w w' : World} {T : Bs} {e : Value} (h : OutP w T e w') (hT : T.size = 33) : ∃ q n cap ep, e = .tuple #[.slice q n cap, .int .i64 ep] ∧ Ans3 w' T 0 q n cap ep := by
  obtain ⟨g, cap, rfl, h1, h2, h3, h4⟩ := h
  exact ⟨_, _, _, _, rfl, Or.inl ⟨g, rfl, rfl, rfl, rfl, hT, h3, h4⟩⟩
theorem OutE.ans {w' : World} {c : Int} {e : Value} (h : OutE c e) (hc : ¬ c = 0) : ∃ q n cap ep, e = .tuple #[.slice q n cap, .int .i64 ep] ∧ Ans3 w' #[] c q n cap ep :=
  ⟨_, _, _, _, h, Or.inr ⟨rfl, rfl, rfl, rfl, hc⟩⟩
end Go.Proofs.Ytbimbalfdmffaab
namespace Go.Proofs.Ytbimbalfdmffaab
open Go.RowKit Go.Sort Go.Deep
variable {P : Nat} [NeZero P]
theorem ListAt.cell {W : World} {g cap : Nat} {vs : List Value} {cur : Array Value} (h : ListAt W g cap vs cur) {j : Nat} (hj : j < vs.length) : W.cell? ⟨g, j, none⟩ = some vs[j]! := by
  have := (h.holds j (by rw [h.size]; have := h.fits; omega)).1
  rw [h.front j hj, Nat.zero_add] at this
  exact this
theorem AL.scs {W : World} {B k : Nat} {v : Value} {S : Nat → ByteArray} (h : AL W B k v S) : ∃ q c, v = .slice q k c ∧ ArgsScs W q k (fun j => (S j).data) := by
  rcases h with ⟨h0, h1⟩ | ⟨g, cap, vs, cur, h1, h2, h3, h4, h5, h6⟩
  · exact ⟨none, 0, by rw [h1, h0], fun h => absurd h (by omega)⟩
  · refine ⟨_, cap, h1, fun _ => ⟨g, rfl, h5.lt, fun j hj => ?_⟩⟩
    obtain ⟨gx, c, e1, e2, e3, e4, e5⟩ := h6 j hj
    exact ⟨_, h5.cell (by omega), by rw [e1]; exact ⟨_, _, _, rfl, rfl, fun h => ⟨gx, 0, rfl, by omega, e4, e5⟩⟩⟩
theorem AL.pts {W : World} {B k : Nat} {v : Value} {S : Nat → ByteArray} (h : AL W B k v S) : ∃ q c, v = .slice q k c ∧ ArgsPts W q k (fun j => (S j).data) := by
  rcases h with ⟨h0, h1⟩ | ⟨g, cap, vs, cur, h1, h2, h3, h4, h5, h6⟩
  · exact ⟨none, 0, by rw [h1, h0], fun h => absurd h (by omega)⟩
  · refine ⟨_, cap, h1, fun _ => ⟨g, rfl, h5.lt, fun j hj => ?_⟩⟩
    obtain ⟨gx, c, e1, e2, e3, e4, e5⟩ := h6 j hj
    exact ⟨_, h5.cell (by omega), by rw [e1]; exact ⟨_, _, _, rfl, rfl, fun h => ⟨gx, 0, rfl, by omega, e4, e5⟩⟩⟩
open Classical in
/-- What is asked of Sum. -/
noncomputable def lsT (P : Nat) [NeZero P] (N n a : Nat) (S T : Nat → ByteArray) : Bs × Int :=
  if n = a then if 512 < n then (#[], 1) else if ∀ j, j < n → (rq N (S j).data).isSome = true then
    if ∀ j, j < n → (rd P (T j).data).isSome = true then (wr (EC.tot (fun j => ptOf P (T j).data) n (fun j => (nuV (S j).data : Int))), 0) else (#[], 4) else (#[], 3) else (#[], 2)
theorem LSum.eq {N n a : Nat} {S T : Nat → ByteArray} {e : Value} (h : LSum P N n a S T e) : e = .tuple #[.int .i64 (lsT P N n a S T).2, .string ⟨(lsT P N n a S T).1⟩] := by
  unfold lsT
  rcases h with ⟨h1, rfl⟩ | ⟨h1, h2, rfl⟩ | ⟨h1, h2, ⟨⟨j, hj, hn⟩, rfl⟩ | ⟨h3, ⟨⟨j, hj, hn⟩, rfl⟩ | ⟨h4, rfl⟩⟩⟩
  · rw [if_neg h1]
  · rw [if_pos h1, if_pos h2]
  · rw [if_pos h1, if_neg h2, if_neg (fun h => by have := h j hj; rw [hn] at this; cases this)]
  · rw [if_pos h1, if_neg h2, if_pos h3, if_neg (fun h => by have := h j hj; rw [hn] at this; cases this)]
  · rw [if_pos h1, if_neg h2, if_pos h3, if_pos h4]
theorem SumR.ans (C : Fld P) {N : Nat} (hN : N ≤ top) {w w' : World} {n a : Nat} {S T : Nat → ByteArray} {e : Value} (h : SumR P N w n a (fun j => (S j).data) (fun j => (T j).data) e w') :
    ∃ q l cap ep, e = .tuple #[.slice q l cap, .int .i64 ep] ∧ Ans3 w' (lsT P N n a S T).1 (lsT P N n a S T).2 q l cap ep := by
  unfold lsT
  rcases h with ⟨h1, h⟩ | ⟨h1, h2, h⟩ | ⟨h1, h2, ⟨⟨j, hj, hn⟩, h⟩ | ⟨ns, h3, ⟨⟨j, hj, hn⟩, h⟩ | ⟨xs, ys, h4, h⟩⟩⟩
  · rw [if_neg h1]; exact h.ans (by decide)
  · rw [if_pos h1, if_pos h2]; exact h.ans (by decide)
  · rw [if_pos h1, if_neg (by omega), if_neg (fun h => by have := h j hj; rw [hn] at this; cases this)]; exact h.ans (by decide)
  · rw [if_pos h1, if_neg (by omega), if_pos (fun j hj => by rw [h3 j hj]; rfl), if_neg (fun h => by have := h j hj; rw [hn] at this; cases this)]; exact h.ans (by decide)
  · rw [if_pos h1, if_neg (by omega), if_pos (fun j hj => by rw [h3 j hj]; rfl), if_pos (fun j hj => by rw [h4 j hj]; rfl)]
    have hJ := sumJ_all C (N := n) (ns := ns) (xs := xs) (ys := ys) (p := fun j => ptOf P (T j).data) (fun j hj => rq_top hN (h3 j hj)) (fun j hj => by rw [ptOf_of (h4 j hj)]; exact (rd_on C (h4 j hj)).1) (fun j hj => by rw [ptOf_of (h4 j hj)]; exact (rd_on C (h4 j hj)).2)
    have e1 := by33_wr C (hJ.pair C) hJ.2
    have e2 : EC.tot (fun j => ptOf P (T j).data) n (fun j => (ns j : Int)) = EC.tot (fun j => ptOf P (T j).data) n (fun j => (nuV (S j).data : Int)) := EC.tot_congr n fun j hj => by rw [rq_nu (h3 j hj)]
    rw [e2] at e1
    have h' : OutP w (by33 (ptP (sumJ ns xs ys n 257)).1 (ptP (sumJ ns xs ys n 257)).2) e w' := h
    rw [show by33 (ptP (sumJ ns xs ys n 257)).1 (ptP (sumJ ns xs ys n 257)).2 = wr (EC.tot (fun j => ptOf P (T j).data) n (fun j => (nuV (S j).data : Int))) from e1] at h'
    exact h'.ans (wr_size _)
set_option maxHeartbeats 8000000 in
set_option maxRecDepth 100000 in
theorem sums_few {N : Nat} (C : Fl3 P) (hG : Gap 4624529908474429119 4994812053365940164 1 N) (hN : N ≤ top) (hR : RefP 13822214165235122497 13451932020343611451 18446744073709551614 18446744073709551615 4624529908474429119 4994812053365940164 1 0 N) (ql qm : Option Addr) (nl nm cl cm : Nat) (S T : Nat → ByteArray) (w0 : World) (hl : nl ≤ 600) (hm : nm ≤ 600) (hS : Texts w0 ql nl S) (hT : Texts w0 qm nm T) (hSs : ∀ j, j < nl → (S j).size ≤ 140737488355328) (hTs : ∀ j, j < nm → (T j).size ≤ 140737488355328) :
    Calls Try.prog 8 #[.slice ql nl cl, .slice qm nm cm] w0 fun e w' => e = .returned (.bool true) ∧ Below w0.heap.size w0 w' := by
  have HS : Hid (Texts w0 ql nl S) := hS
  have HT : Hid (Texts w0 qm nm T) := hT
  have HSZ : Hid (∀ j, j < nl → (S j).size ≤ 140737488355328) := hSs
  have HC : Hid (Fl3 P ∧ Gap 4624529908474429119 4994812053365940164 1 N ∧ N ≤ top ∧ RefP 13822214165235122497 13451932020343611451 18446744073709551614 18446744073709551615 4624529908474429119 4994812053365940164 1 0 N) := ⟨C, hG, hN, hR⟩
  clear C hG hN hR
  have HTZ : Hid (∀ j, j < nm → (T j).size ≤ 140737488355328) := hTs
  have h2 : ¬ (600 : Int) < (nl : Int) := by omega
  have h3 : ¬ (600 : Int) < (nm : Int) := by omega
  clear hS hT hSs hTs
  go_enter Try.func8, Try.ntmps8
  go_wp2
  clear h2 h3
  go_loopg [5, 7] nl (fun gk s5 s7 wr => ∃ (i : Nat) (va : Value), i + gk = nl ∧ va = s5 ∧ s7 = .int .i64 (i : Int) ∧ Below w0.heap.size w0 wr ∧ Hid (AL wr w0.heap.size i va S))
  case atStart => exact ⟨0, _, Nat.zero_add _, rfl, rfl, Below.refl _ _, Or.inl ⟨rfl, rfl⟩⟩
  case round =>
    obtain ⟨i, va, hi, rfl, rfl, hb, HAL⟩ := hrel
    by_cases hlt : i < nl
    · have hlt' : (i : Int) < (nl : Int) := by omega
      obtain ⟨gl, ol, rfl, hgl, hcl⟩ := HS.out (by omega)
      have hc : wr.cell? ⟨gl, ol + i, none⟩ = some (.string (S i)) := by rw [hb.cell (p := ⟨gl, ol + i, none⟩) hgl]; exact hcl i hlt
      have hsz := HSZ.out i hlt
      obtain ⟨t, ht⟩ : ∃ t, t = S i := ⟨_, rfl⟩
      rw [← ht] at hc hsz
      clear hcl
      by_cases h64 : (64 : Int) < (t.size : Int)
      · clear ht
        go_wp2
        go_ret
        exact ⟨by simp, hb⟩
      · obtain ⟨cap, W1, hcv, hcap, hbc, hH, hltc⟩ := conv_of t wr
        obtain ⟨v', w3, hap, hL3, hb3⟩ := AL.push HAL.out hb.size (by omega) hbc hltc hcap hH ht
        have hc1 : W1.cell? ⟨gl, ol + i, none⟩ = some (.string t) := by rw [hbc.cell (p := ⟨gl, ol + i, none⟩) (Nat.lt_of_lt_of_le hgl hb.size)]; exact hc
        have HL3 : Hid _ := hL3
        clear hL3 ht hH hcap hltc hbc
        go_wp2_with (at_builtin; refine Lib.wpList_append_run _ rfl _ _ 46 46 rfl _ _ rfl rfl _ _ hap ?_)
        go_roundg (gk - 1)
        case measure => omega
        case rel => exact ⟨i + 1, _, by omega, rfl, rfl, hb.trans hb3, HL3.out⟩
    · have hge : ¬ (i : Int) < (nl : Int) := by omega
      have hin : i = nl := by omega
      subst hin
      clear hlt hi
      go_wp2
      clear hge
      generalize wr = w2 at hb HAL ⊢
      go_loopg [6, 8] nm (fun gk s6 s8 wr => ∃ (j : Nat) (vb : Value), j + gk = nm ∧ vb = s6 ∧ s8 = .int .i64 (j : Int) ∧ Below w2.heap.size w2 wr ∧ Hid (AL wr w2.heap.size j vb T))
      case atStart => exact ⟨0, _, Nat.zero_add _, rfl, rfl, Below.refl _ _, Or.inl ⟨rfl, rfl⟩⟩
      case round =>
        obtain ⟨j, vb, hj, rfl, rfl, hb2, HBL⟩ := hrel
        have hbb : Below w0.heap.size w0 wr := hb.trans (hb2.mono hb.size)
        by_cases hlt : j < nm
        · have hlt' : (j : Int) < (nm : Int) := by omega
          obtain ⟨gl, ol, rfl, hgl, hcl⟩ := HT.out (by omega)
          have hc : wr.cell? ⟨gl, ol + j, none⟩ = some (.string (T j)) := by rw [hbb.cell (p := ⟨gl, ol + j, none⟩) hgl]; exact hcl j hlt
          have hsz := HTZ.out j hlt
          obtain ⟨t, ht⟩ : ∃ t, t = T j := ⟨_, rfl⟩
          rw [← ht] at hc hsz
          clear hcl
          by_cases h64 : (64 : Int) < (t.size : Int)
          · clear ht
            go_wp2
            go_ret
            exact ⟨by simp, hbb⟩
          · obtain ⟨cap, W1, hcv, hcap, hbc, hH, hltc⟩ := conv_of t wr
            obtain ⟨v', w3, hap, hL3, hb3⟩ := AL.push HBL.out hb2.size (by omega) hbc hltc hcap hH ht
            have HL3 : Hid _ := hL3
            clear hL3 ht hH hcap hltc hbc
            go_wp2_with (at_builtin; refine Lib.wpList_append_run _ rfl _ _ 46 46 rfl _ _ rfl rfl _ _ hap ?_)
            go_roundg (gk - 1)
            case measure => omega
            case rel => exact ⟨j + 1, _, by omega, rfl, rfl, hb2.trans hb3, HL3.out⟩
        · have hge : ¬ (j : Int) < (nm : Int) := by omega
          have hin : j = nm := by omega
          subst hin
          clear hlt hj
          obtain ⟨qa, ca, rfl, hA⟩ := (HAL.out.below hb2).scs
          obtain ⟨qb, cb, rfl, hB⟩ := HBL.out.pts
          have HA : Hid (ArgsScs wr qa i (fun j => (S j).data)) := hA
          have HB : Hid (ArgsPts wr qb j (fun j => (T j).data)) := hB
          have HBC : Hid (Below w0.heap.size w0 wr) := hbb
          clear hA hB HAL HBL hb2 hb hbb
          go_wp2_with fail
          clear hge
          refine (gSum_c HC.out.1.toFld HC.out.2.1 HC.out.2.2.1 qa qb i ca j cb _ _ _ HA.out HB.out).mono ?_
          rintro e w5 ⟨v, rfl, hb5, hans0⟩
          obtain ⟨q5, l5, e5, ep5, rfl, hans⟩ := SumR.ans HC.out.1.toFld HC.out.2.2.1 hans0
          have HAN : Hid (Ans3 w5 (lsT P N i j S T).1 (lsT P N i j S T).2 q5 l5 e5 ep5) := hans
          have HC5 : Hid (Below w0.heap.size w0 w5) := HBC.out.trans (hb5.mono HBC.out.size)
          clear hans hans0 hb5 HA HB HBC
          go_wp2_with fail
          refine (lsum_c HC.out.1 HC.out.2.2.1 HC.out.2.2.2 ql qm i j cl cm S T _ (HS.out.below HC5.out) (HT.out.below HC5.out)).mono ?_
          rintro e w6 ⟨v, rfl, hb6, hls⟩
          obtain rfl := hls.eq
          have HAN6 := Ans3.call HAN.out hb6
          have HC6 : Hid (Below w0.heap.size w0 w6) := HC5.out.trans (hb6.mono HC5.out.size)
          clear hls hb6 HAN HC5 HS HT HSZ HTZ
          obtain ⟨tx, htx⟩ : ∃ t, t = (lsT P N i j S T).1 := ⟨_, rfl⟩
          obtain ⟨cd, hcd⟩ : ∃ t, t = (lsT P N i j S T).2 := ⟨_, rfl⟩
          rw [← htx, ← hcd] at HAN6
          rw [← htx, ← hcd]
          have HAN7 : Hid (Ans3 w6 tx cd q5 l5 e5 ep5) := HAN6
          clear HAN6 htx hcd
          go_wp2_with fail
          refine (Ans3.told HAN7.out).mono ?_
          rintro e w7 ⟨v, rfl, hb7, rfl⟩
          have HBF : Hid (Below w0.heap.size w0 w7) := HC6.out.trans (hb7.mono HC6.out.size)
          clear hb7 HC6 HAN7
          go_wp2
          go_ret
          exact ⟨by simp, HBF.out⟩
set_option maxHeartbeats 2000000 in
set_option maxRecDepth 100000 in
theorem sums_any {N : Nat} (C : Fl3 P) (hG : Gap 4624529908474429119 4994812053365940164 1 N) (hN : N ≤ top) (hR : RefP 13822214165235122497 13451932020343611451 18446744073709551614 18446744073709551615 4624529908474429119 4994812053365940164 1 0 N) (ql qm : Option Addr) (nl nm cl cm : Nat) (S T : Nat → ByteArray) (w0 : World) (hnl : nl ≤ 140737488355328) (hnm : nm ≤ 140737488355328) (hS : Texts w0 ql nl S) (hT : Texts w0 qm nm T) (hSs : ∀ j, j < nl → (S j).size ≤ 140737488355328) (hTs : ∀ j, j < nm → (T j).size ≤ 140737488355328) :
    Calls Try.prog 8 #[.slice ql nl cl, .slice qm nm cm] w0 fun e w' => e = .returned (.bool true) ∧ Below w0.heap.size w0 w' := by
  by_cases hl : nl ≤ 600
  · have h2 : ¬ (600 : Int) < (nl : Int) := by omega
    by_cases hm : nm ≤ 600
    · exact sums_few C hG hN hR ql qm nl nm cl cm S T w0 hl hm hS hT hSs hTs
    · have h3 : (600 : Int) < (nm : Int) := by omega
      clear hS hT hSs hTs C hG hN hR
      go_enter Try.func8, Try.ntmps8
      go_wp2
      go_ret
      exact ⟨by simp, Below.refl _ _⟩
  · have h2 : (600 : Int) < (nl : Int) := by omega
    clear hS hT hSs hTs C hG hN hR
    go_enter Try.func8, Try.ntmps8
    go_wp2
    go_ret
    exact ⟨by simp, Below.refl _ _⟩
end Go.Proofs.Ytbimbalfdmffaab
namespace Go.Proofs.Ytbimbalfdmffaab
open Go.RowKit Go.Sort Go.Deep
theorem fl3 : ∃ (P : Nat) (_ : NeZero P), Fl3 P := by
  obtain ⟨P, hz, hP, hc⟩ := EC.cur
  have h0 : P = Go.Proofs.Ytbimbalfdmffaab.p0 := by rw [hP]; decide +kernel
  have hg := gap0
  have hr := refP0
  have h2 : 2 ≤ Go.Proofs.Ytbimbalfdmffaab.p0 % 18446744073709551616 := by decide +kernel
  have h4 : Go.Proofs.Ytbimbalfdmffaab.p0 / 4 % 18446744073709551616 < 18446744073709551615 := by decide +kernel
  have h3 : Go.Proofs.Ytbimbalfdmffaab.p0 % 4 = 3 := by decide +kernel
  have h7 : 7 < Go.Proofs.Ytbimbalfdmffaab.p0 := by decide +kernel
  rw [← h0] at hg hr h2 h4 h3 h7
  exact ⟨P, hz, ⟨⟨hg, hc, h2, h4, h3, h7⟩, hr⟩⟩
theorem p1_top : Go.Proofs.Ytbimbalfdmffaab.p1 ≤ top := by decide +kernel
end Go.Proofs.Ytbimbalfdmffaab
/-
  THE ROW OF 'GroupSums' round its walk: two slices of strings.
-/
namespace Go.Proofs.Ytbimbalfdmffaab.groupSums
open Go.ChangeShapes Go.WideShapes Go.ChangeAt Go.RowKit
open Go.ChangeMaps (open_string shut_string)
theorem own : ownKnob Try.prog.godebug = none := by kernel_rfl
theorem laidOut : laidOutB Try.prog = true := by kernel_rfl
theorem cells9 : Try.prog.cellsOf 9 = 1 := by kernel_rfl
theorem bytes9 : Try.prog.bytesOf 9 = 16 := by kernel_rfl
theorem strs_weigh {H : Type} {P : Program} {e : TypeId} {x : ByteArray} : ∀ {ss : List ByteArray}, x ∈ ss → x.size ∈ DataW.weightsAll (H := H) P e (strs ss)
  | s :: r, h => by
    show x.size ∈ DataW.weights P e (.lit (.string s.data.toList)) ++ DataW.weightsAll P e (strs r)
    rw [List.mem_append]
    rcases List.mem_cons.1 h with rfl | h
    · left
      simp [DataW.weights]
    · exact Or.inr (strs_weigh h)
theorem sized_strs {H : Type} {P : Program} {ts : List TypeId} {ds : List (DataW H)} (h : (DataW.weightsEach P ts ds).all (· ≤ reachBytes) = true) {j : Nat} {t e : TypeId} {a b : List ByteArray} (ht : ts[j]? = some t) (hd : ds[j]? = some (.slice (strs a) (strs b))) (hu : P.underlying t = some (.slice e))
    (x : ByteArray) (hx : x ∈ a) : x.size ≤ reachBytes := by
  have := List.all_eq_true.1 h _ (DataW.weights_mem_each ht hd x.size (by
    simp only [DataW.weights, hu]
    exact List.mem_cons_of_mem _ (List.mem_append_left _ (strs_weigh hx))))
  simpa using this
set_option maxRecDepth 100000 in
theorem lifted (os : Os) (started : os.Started) (H : Type) (enc : TypeId × Value → H) :
    ReturnsInHanded {} Try.checked os 8 .any (Rows.groupSumsSpec.pre6 enc Try.prog Try.f8 Rows.groupSumsRow.domain false) (Rows.groupSumsSpec.post enc Try.prog Try.f8 false true false false) := by
  refine returnsInHanded_of_change_sized (C := Try.checked) own started (by kernel_rfl) Try.func8
    (ChangeSpec.witness6 (enc := enc) (C := Try.checked) false ⟨#[], #[.slice none 0 0, .slice none 0 0], []⟩ 8 (by kernel_rfl) (by kernel_rfl) (by kernel_rfl) (by kernel_rfl)) ?_
  intro W base args ds gs before hval0 hW _ hsz0 _
  have hsz : (DataW.weightsEach Try.prog (Try.f8.params.toList ++ Rows.groupSumsSpec.plain.varTypes Try.prog) (ds ++ gs)).all (· ≤ reachBytes) = true := hsz0
  clear hsz0
  have hval : ∀ (j : Nat) t v, Try.f8.params[j]? = some t → args[j]? = some v → Value.okWide Try.prog W .any base t v := hval0
  have hW' := hW
  obtain ⟨p, q, hA0, hV, rfl, hfz, hnd⟩ := hW
  have hA : DataW.TrodAll enc Try.prog W 0 (fun _ => true) true Try.f8.params.toList args.toList ds p := hA0
  rw [Try.params8] at hA hval hsz
  obtain ⟨v0, vs0, d0, ds0, p0, q0, hargs, rfl, rfl, h0, r0⟩ := trodAll_cons hA
  obtain ⟨v1, vs1, d1, ds1, p1, q1, rfl, rfl, rfl, h1, r1⟩ := trodAll_cons r0
  obtain ⟨rfl, rfl, rfl⟩ := trodAll_nil r1
  obtain rfl : args = #[v0, v1] := by cases args; simp_all
  obtain ⟨rfl, rfl⟩ := trodVars_none hV
  obtain ⟨a3, len3, cap3, rfl⟩ := okWide_slice Try.underlying45 (hval 0 45 v0 rfl rfl)
  obtain ⟨a4, len4, cap4, rfl⟩ := okWide_slice Try.underlying45 (hval 1 45 v1 rfl rfl)
  have k3 := h0
  have k4 := h1
  have lt3 : ∀ x ∈ p0, x.block < W.heap.size := by obtain ⟨m, hm⟩ := k3; exact DataW.trod_lt m _ _ _ hm
  have lt4 : ∀ x ∈ p1, x.block < W.heap.size := by obtain ⟨m, hm⟩ := k4; exact DataW.trod_lt m _ _ _ hm
  have hx3 : ∃ S : Nat → ByteArray, Texts W a3 len3 S ∧ (∀ j, j < len3 → (S j).size ≤ 140737488355328) ∧ len3 ≤ 140737488355328 := by
    obtain ⟨fuel, hf⟩ := h0
    rcases open_strings Try.underlying45 Try.underlying9 cells9 hf with ⟨hcs, hx⟩ | ⟨a, l, c, ss, hcs, _, hl, hm, hz, hx, hcell, hws⟩
    · simp [Value.cells] at hcs
      obtain ⟨rfl, rfl, rfl⟩ := hcs
      exact ⟨fun _ => ByteArray.empty, fun h => absurd h (by omega), fun j hj => absurd hj (by omega), by omega⟩
    · simp [Value.cells] at hcs
      obtain ⟨rfl, rfl, rfl⟩ := hcs
      simp only [Prod.mk.injEq] at hx
      obtain ⟨rfl, rfl⟩ := hx
      simp only [if_true] at hz
      have hn : (ss.take len3).length = len3 := by rw [List.length_take]; omega
      have hat : ∀ j, j < len3 → (ss.take len3)[j]! = ss.getD j ByteArray.empty := fun j hj => by
        rw [getElem!_pos (ss.take len3) j (by omega), List.getElem_take, List.getD_eq_getElem?_getD, List.getElem?_eq_getElem (by omega)]
        rfl
      have hreach : len3 * 16 ≤ 140737488355328 := by
        have := sized_slice hsz (j := 0) (t := 45) (e := 9) rfl rfl Try.underlying45
        rw [bytes9] at this
        simp only [strs, List.length_map, List.length_take, List.length_drop, reachBytes] at this
        omega
      have hs : ∀ j, j < len3 → ((ss.take len3)[j]!).size ≤ 140737488355328 := fun j hj => by
        have := sized_strs hsz (j := 0) (t := 45) (e := 9) (a := ss.take len3) (b := ss.drop len3) rfl rfl Try.underlying45 (ss.take len3)[j]! (by rw [getElem!_pos (ss.take len3) j (by omega)]; exact List.getElem_mem _)
        unfold reachBytes at this
        omega
      refine ⟨fun j => (ss.take len3)[j]!, fun h00 => ?_, hs, by omega⟩
      obtain ⟨b, off, spot⟩ := a
      have hspot : spot = none := by simpa [Addr.add] using World.cell?_spot (hcell 0 (by omega))
      subst hspot
      have hP : ∀ j, j < len3 → W.cell? ⟨b, off + j, none⟩ = some (.string (ss.take len3)[j]!) := fun j hj => by
        rw [hat j hj, ← hcell j (by omega)]
        congr 1
        unfold Addr.add
        by_cases hj0 : j = 0
        · subst hj0; rfl
        · rw [if_neg hj0]
      exact ⟨b, off, rfl, World.block_lt_of_cell? _ _ (hP 0 h00), hP⟩
  have hx4 : ∃ S : Nat → ByteArray, Texts W a4 len4 S ∧ (∀ j, j < len4 → (S j).size ≤ 140737488355328) ∧ len4 ≤ 140737488355328 := by
    obtain ⟨fuel, hf⟩ := h1
    rcases open_strings Try.underlying45 Try.underlying9 cells9 hf with ⟨hcs, hx⟩ | ⟨a, l, c, ss, hcs, _, hl, hm, hz, hx, hcell, hws⟩
    · simp [Value.cells] at hcs
      obtain ⟨rfl, rfl, rfl⟩ := hcs
      exact ⟨fun _ => ByteArray.empty, fun h => absurd h (by omega), fun j hj => absurd hj (by omega), by omega⟩
    · simp [Value.cells] at hcs
      obtain ⟨rfl, rfl, rfl⟩ := hcs
      simp only [Prod.mk.injEq] at hx
      obtain ⟨rfl, rfl⟩ := hx
      simp only [if_true] at hz
      have hn : (ss.take len4).length = len4 := by rw [List.length_take]; omega
      have hat : ∀ j, j < len4 → (ss.take len4)[j]! = ss.getD j ByteArray.empty := fun j hj => by
        rw [getElem!_pos (ss.take len4) j (by omega), List.getElem_take, List.getD_eq_getElem?_getD, List.getElem?_eq_getElem (by omega)]
        rfl
      have hreach : len4 * 16 ≤ 140737488355328 := by
        have := sized_slice hsz (j := 1) (t := 45) (e := 9) rfl rfl Try.underlying45
        rw [bytes9] at this
        simp only [strs, List.length_map, List.length_take, List.length_drop, reachBytes] at this
        omega
      have hs : ∀ j, j < len4 → ((ss.take len4)[j]!).size ≤ 140737488355328 := fun j hj => by
        have := sized_strs hsz (j := 1) (t := 45) (e := 9) (a := ss.take len4) (b := ss.drop len4) rfl rfl Try.underlying45 (ss.take len4)[j]! (by rw [getElem!_pos (ss.take len4) j (by omega)]; exact List.getElem_mem _)
        unfold reachBytes at this
        omega
      refine ⟨fun j => (ss.take len4)[j]!, fun h00 => ?_, hs, by omega⟩
      obtain ⟨b, off, spot⟩ := a
      have hspot : spot = none := by simpa [Addr.add] using World.cell?_spot (hcell 0 (by omega))
      subst hspot
      have hP : ∀ j, j < len4 → W.cell? ⟨b, off + j, none⟩ = some (.string (ss.take len4)[j]!) := fun j hj => by
        rw [hat j hj, ← hcell j (by omega)]
        congr 1
        unfold Addr.add
        by_cases hj0 : j = 0
        · subst hj0; rfl
        · rw [if_neg hj0]
      exact ⟨b, off, rfl, World.block_lt_of_cell? _ _ (hP 0 h00), hP⟩
  obtain ⟨S, hS, hSs, hSl⟩ := hx3
  obtain ⟨T, hT, hTs, hTl⟩ := hx4
  clear hA0 hval0
  obtain ⟨P, hz, C⟩ := fl3
  refine (sums_any C gap1 p1_top refP1 a3 a4 len3 len4 cap3 cap4 S T W hSl hTl hS hT hSs hTs).mono fun e W' ⟨he, bel⟩ => ?_
  subst he
  exact ⟨_, rfl, _, _, _, [], _, [], hW', trodAll_mk1 (shut_bool Try.underlying4 _), (trodAll_cons_mk (Below.trod laidOut (by kernel_rfl) (of_decide_eq_true (by kernel_rfl)) k3 bel lt3) (trodAll_cons_mk (Below.trod laidOut (by kernel_rfl) (of_decide_eq_true (by kernel_rfl)) k4 bel lt4) trodAll_mk0)), rfl, bel.frame _, fun h => by cases h⟩
theorem over : Rows.groupSumsRow.holds Try.pinned (OpenSpec.ofChange Rows.groupSumsSpec) :=
  OpenClaim.holds_of_wide 8 Try.f8 rfl rfl rfl rfl rfl rfl rfl ⟨rfl, rfl, rfl, rfl, rfl⟩ rfl rfl rfl rfl rfl (by kernel_rfl) Try.func8 (by kernel_rfl)
    (of_decide_eq_true (by kernel_rfl)) (by unfold Func.isWrapper; first | (rw [if_pos (by decide +kernel)]; kernel_rfl) | (rw [if_neg (by decide +kernel)]; exact ⟨rfl, rfl⟩))
    (fun os started H enc _ => lifted os started H enc)
theorem proved : Rows.GroupSumsSaid :=
  over
end Go.Proofs.Ytbimbalfdmffaab.groupSums
namespace Go.Proofs.Ytbimbalfdmffaab
/-- THE STATEMENT. -/
theorem groupSums_holds : Rows.GroupSumsSaid := groupSums.proved
#print axioms groupSums_holds
end Go.Proofs.Ytbimbalfdmffaab
