import Derived.Deep.RegionHeld3
import Derived.Deep.LoopGhost
import Derived.Great.BuildSlice
import Derived.Lib.ConvBytes
import Derived.ChangeOld
import Derived.Below
import Derived.WalkKit
import Derived.ProofKit
import Derived.OpenShut
import Derived.ShutString
import Derived.Test.YtbimbalfdmffaabZ6
set_option linter.unusedVariables false
set_option linter.unusedSimpArgs false
namespace Go.Proofs.Ytbimbalfdmffaab
open Go.RowKit Go.Sort Go.Deep
variable {P : Nat} [NeZero P]
def F31d2_5 (m : Nat) (bs : Bs) (x : Fin P) : List RG.It := [.c 27 [] rv0, .x 28 [] (.string ⟨bs⟩), .x 29 [(28, 1)] (.string ⟨tl33 bs⟩), .c 30 [(27, 0), (29, 2)] (.tuple #[(nv m), (.bool false)]), .x 26 [(30, 3)] (.tuple #[(nv m), (.bool false)]), .x 31 [(26, 4)] (nv m), .x 32 [(26, 4)] (.bool false), .m 4 [] 1, .u [(4, 7), (31, 5)] 1, .x 5 [(32, 6)] (.bool false)]
def F31d2_6 (x : Fin P) : List RG.It := [.x 33 [] (.bool false), .x 34 [(33, 0)] (.bool true)]
def F31d2_7 (x : Fin P) : List RG.It := [.x 35 [] (rv (0 : Fin P) (0 : Fin P) (0 : Fin P)), .u [(35, 0)] 0, .x 3 [] (.bool false)]
set_option maxHeartbeats 4000000 in
set_option maxRecDepth 100000 in
theorem rr_num2 (C : Fl3 P) (m : Nat) (bs : Bs) (x y y2 : Fin P) (w : World) (hs : bs.size = 33) (hz : ¬ bs = zs33) (hm : ub bs[0]! = 2) (hnum : Gives 17 #[rv0, .string ⟨tl33 bs⟩] (.tuple #[nv m, .bool false])) : Calls Try.prog 31 #[.string ⟨bs⟩] w (Ret fun e w' => Below w.heap.size w w' ∧ e = .tuple #[rv (0 : Fin P) 0 0, .bool false]) := by
  have hmk := mk33
  have hcv := conv33 w
  have hse := str_ne3 hz
  unfold W5 z12 at hcv
  have hs2 : (⟨bs⟩ : ByteArray).size = 33 := hs
  have hix := ixS bs hs 2 hm
  have hS0 := W5_st w
  unfold W5 z12 at hS0
  go_enter Try.func31, Try.ntmps31
  go_wp2_with fail
  rename_i hK
  clear hmk hcv hse hs2 hix
  generalize (w.alloc _).alloc _ = w0 at hS0 ⊢
  refine RG.mid3 (v0 := .string ⟨bs⟩) (v1 := .pointer (some ⟨w.heap.size, 0, none⟩)) (v2 := .bool false) (n := 48) 0 2 3 rfl rfl rfl rfl rfl ?_
  intro a0 sl0 f0 f2 f3
  have M0 : RG.M w w.heap.size [] 48 [(RG.z 12)] [w.heap.size] [(0, (.v (.string ⟨bs⟩))), (2, (.p 0 0)), (3, (.v (.bool false)))] a0 _ := ⟨hS0, sl0, ⟨f0, f2, f3, trivial⟩⟩
  repeat refine wp_seq ?_
  refine M0.dr (by kernel_rfl) (F31d2_5 m bs x) [(7, (RG.z 4))] [(1, 8, (wn m))] [(RG.z 12), (wn m)] [(2, (.p 0 0)), (3, (.v (.bool false))), (5, (.v (.bool false)))] (by kernel_rfl) (by kernel_rfl) ⟨RG.cl (F3_c) fun _ _ => by kernel_rfl, RG.st fun _ _ => by kernel_rfl, RG.cert_slice1 rfl 9 28 (.int .i64 1) (.string ⟨bs⟩) (.string ⟨tl33 bs⟩) rfl rfl (RG.sx fun _ => by kernel_rfl) (slS bs hs), RG.cl (hnum) fun _ _ => by kernel_rfl, RG.st fun _ _ => by kernel_rfl, RG.st fun _ _ => by kernel_rfl, RG.st fun _ _ => by kernel_rfl, RG.mk 1 33 fun _ _ => by kernel_rfl, RG.pt i33 (by kernel_rfl), RG.st fun _ _ => by kernel_rfl, trivial⟩ ?_
  intro j1 a1 w1 M1
  refine hK _ _ ?_
  repeat refine wp_seq ?_
  refine M1.tx0 (F31d2_6 x) [(2, (.p 0 0)), (3, (.v (.bool false))), (34, (.v (.bool true)))] (by kernel_rfl) ⟨RG.st fun _ _ => by kernel_rfl, RG.st fun _ _ => by kernel_rfl, trivial⟩ ?_
  intro a2 w2 M2
  repeat refine wp_seq ?_
  refine wp_cond_true (M2.ev (by kernel_rfl)) ?_
  repeat refine wp_seq ?_
  refine M2.tx (F31d2_7 x) [] [(0, 1, (ws (0 : Fin P) ++ (ws (0 : Fin P) ++ (ws (0 : Fin P)))))] [(ws (0 : Fin P) ++ (ws (0 : Fin P) ++ (ws (0 : Fin P)))), (wn m)] [(2, (.p 0 0)), (3, (.v (.bool false)))] (by kernel_rfl) (by kernel_rfl) ⟨RG.se (zero_rv (P := P)) fun _ _ => by kernel_rfl, RG.pt i56 (by kernel_rfl), RG.st fun _ _ => by kernel_rfl, trivial⟩ ?_
  intro a3 w3 M3
  have hS3 : RG.St w w.heap.size [] [(ws (0 : Fin P) ++ (ws (0 : Fin P) ++ (ws (0 : Fin P)))), (wn m)] [w.heap.size, j1] _ := M3.st
  have sl3 := M3.sl
  have f2_3 : a3.tmps[2]? = some (.pointer (some ⟨w.heap.size, 0, none⟩)) := M3.at (s := (.p 0 0)) (by kernel_rfl)
  have f3_3 : a3.tmps[3]? = some (.bool false) := M3.at (s := (.v (.bool false))) (by kernel_rfl)
  refine wp_ret ?_
  refine bodyPost_ret (v := (.tuple #[(rv (0 : Fin P) (0 : Fin P) (0 : Fin P)), (.bool false)])) (RG.results_rt hS3 2 3 56 rfl 0 _ rfl f2_3 _ f3_3 u56 i56) sl3.defers ?_
  exact ⟨_, rfl, hS3.bel.below, rfl⟩
def F31e2_5 (m : Nat) (bs : Bs) (x : Fin P) : List RG.It := [.c 27 [] rv0, .x 28 [] (.string ⟨bs⟩), .x 29 [(28, 1)] (.string ⟨tl33 bs⟩), .c 30 [(27, 0), (29, 2)] (.tuple #[(fv x), (.bool true)]), .x 26 [(30, 3)] (.tuple #[(fv x), (.bool true)]), .x 31 [(26, 4)] (fv x), .x 32 [(26, 4)] (.bool true), .m 4 [] 1, .u [(4, 7), (31, 5)] 1, .x 5 [(32, 6)] (.bool true)]
def F31e2_6 (x : Fin P) : List RG.It := [.x 33 [] (.bool true), .x 34 [(33, 0)] (.bool false)]
def F31e2_8 (m : Nat) (x : Fin P) : List RG.It := [.x 37 [] (fv x), .c 38 [(37, 0)] (.tuple #[(rv x (0 : Fin P) (1 : Fin P)), (.bool false)]), .x 36 [(38, 1)] (.tuple #[(rv x (0 : Fin P) (1 : Fin P)), (.bool false)]), .x 39 [(36, 2)] (rv x (0 : Fin P) (1 : Fin P)), .x 40 [(36, 2)] (.bool false), .m 6 [] 2, .u [(6, 5), (39, 3)] 2, .x 5 [(40, 4)] (.bool false)]
def F31e2_9 (bs : Bs) (x : Fin P) : List RG.It := [.x 41 [] (.string ⟨bs⟩), .x 42 [(41, 0)] (.int .u8 2), .x 43 [(42, 1)] (.bool false)]
def F31e2_11 (x : Fin P) : List RG.It := [.x 46 [] (rv x (0 : Fin P) (1 : Fin P)), .x 47 [] (.bool false), .u [(46, 0)] 0, .x 3 [(47, 1)] (.bool false)]
set_option maxHeartbeats 4000000 in
set_option maxRecDepth 100000 in
theorem rr_none2 (C : Fl3 P) (m : Nat) (bs : Bs) (x y y2 : Fin P) (w : World) (hs : bs.size = 33) (hz : ¬ bs = zs33) (hm : ub bs[0]! = 2) (hx : beV (tl33 bs).toList = x.val) (hr : rt (x * x * x + 7) = none) : Calls Try.prog 31 #[.string ⟨bs⟩] w (Ret fun e w' => Below w.heap.size w w' ∧ e = .tuple #[rv x 0 1, .bool false]) := by
  have hmk := mk33
  have hcv := conv33 w
  have hse := str_ne3 hz
  unfold W5 z12 at hcv
  have hs2 : (⟨bs⟩ : ByteArray).size = 33 := hs
  have hix := ixS bs hs 2 hm
  have hS0 := W5_st w
  unfold W5 z12 at hS0
  go_enter Try.func31, Try.ntmps31
  go_wp2_with fail
  rename_i hK
  clear hmk hcv hse hs2 hix
  generalize (w.alloc _).alloc _ = w0 at hS0 ⊢
  refine RG.mid3 (v0 := .string ⟨bs⟩) (v1 := .pointer (some ⟨w.heap.size, 0, none⟩)) (v2 := .bool false) (n := 48) 0 2 3 rfl rfl rfl rfl rfl ?_
  intro a0 sl0 f0 f2 f3
  have M0 : RG.M w w.heap.size [] 48 [(RG.z 12)] [w.heap.size] [(0, (.v (.string ⟨bs⟩))), (2, (.p 0 0)), (3, (.v (.bool false)))] a0 _ := ⟨hS0, sl0, ⟨f0, f2, f3, trivial⟩⟩
  repeat refine wp_seq ?_
  refine M0.dr (by kernel_rfl) (F31e2_5 m bs x) [(7, (RG.z 4))] [(1, 8, (ws x))] [(RG.z 12), (ws x)] [(0, (.v (.string ⟨bs⟩))), (2, (.p 0 0)), (3, (.v (.bool false))), (4, (.p 1 0)), (5, (.v (.bool true)))] (by kernel_rfl) (by kernel_rfl) ⟨RG.cl (F3_c) fun _ _ => by kernel_rfl, RG.st fun _ _ => by kernel_rfl, RG.cert_slice1 rfl 9 28 (.int .i64 1) (.string ⟨bs⟩) (.string ⟨tl33 bs⟩) rfl rfl (RG.sx fun _ => by kernel_rfl) (slS bs hs), RG.cl (rNumber_y C (tl33 bs) (tl33_size hs) hx) fun _ _ => by kernel_rfl, RG.st fun _ _ => by kernel_rfl, RG.st fun _ _ => by kernel_rfl, RG.st fun _ _ => by kernel_rfl, RG.mk 1 33 fun _ _ => by kernel_rfl, RG.pt i33 (by kernel_rfl), RG.st fun _ _ => by kernel_rfl, trivial⟩ ?_
  intro j1 a1 w1 M1
  refine hK _ _ ?_
  repeat refine wp_seq ?_
  refine M1.tx0 (F31e2_6 x) [(0, (.v (.string ⟨bs⟩))), (2, (.p 0 0)), (3, (.v (.bool false))), (4, (.p 1 0)), (5, (.v (.bool true))), (34, (.v (.bool false)))] (by kernel_rfl) ⟨RG.st fun _ _ => by kernel_rfl, RG.st fun _ _ => by kernel_rfl, trivial⟩ ?_
  intro a2 w2 M2
  repeat refine wp_seq ?_
  refine wp_cond_false (M2.ev (by kernel_rfl)) ?_
  refine wp_skip ?_
  repeat refine wp_seq ?_
  refine M2.tx (F31e2_8 m x) [(5, (RG.z 12))] [(2, 6, (ws x ++ (ws (0 : Fin P) ++ (ws (1 : Fin P)))))] [(RG.z 12), (ws x), (ws x ++ (ws (0 : Fin P) ++ (ws (1 : Fin P))))] [(0, (.v (.string ⟨bs⟩))), (2, (.p 0 0)), (3, (.v (.bool false))), (5, (.v (.bool false))), (6, (.p 2 0))] (by kernel_rfl) (by kernel_rfl) ⟨RG.ld u33 i33 (by kernel_rfl), RG.cl (rat_n_c C x hr) fun _ _ => by kernel_rfl, RG.st fun _ _ => by kernel_rfl, RG.st fun _ _ => by kernel_rfl, RG.st fun _ _ => by kernel_rfl, RG.mk 2 56 fun _ _ => by kernel_rfl, RG.pt i56 (by kernel_rfl), RG.st fun _ _ => by kernel_rfl, trivial⟩ ?_
  intro j3 a3 w3 M3
  repeat refine wp_seq ?_
  refine M3.tx0 (F31e2_9 bs x) [(2, (.p 0 0)), (3, (.v (.bool false))), (5, (.v (.bool false))), (6, (.p 2 0)), (43, (.v (.bool false)))] (by kernel_rfl) ⟨RG.st fun _ _ => by kernel_rfl, RG.cert_index rfl 9 41 (.int .i64 0) (.string ⟨bs⟩) (.int .u8 2) rfl rfl (RG.sx fun _ => by kernel_rfl) (ixS bs hs 2 hm), RG.st fun _ _ => by kernel_rfl, trivial⟩ ?_
  intro a4 w4 M4
  repeat refine wp_seq ?_
  refine wp_cond_false (M4.ev (by kernel_rfl)) ?_
  refine wp_skip ?_
  repeat refine wp_seq ?_
  refine M4.tx (F31e2_11 x) [] [(0, 2, (ws x ++ (ws (0 : Fin P) ++ (ws (1 : Fin P)))))] [(ws x ++ (ws (0 : Fin P) ++ (ws (1 : Fin P)))), (ws x), (ws x ++ (ws (0 : Fin P) ++ (ws (1 : Fin P))))] [(2, (.p 0 0)), (3, (.v (.bool false)))] (by kernel_rfl) (by kernel_rfl) ⟨RG.ld u56 i56 (by kernel_rfl), RG.st fun _ _ => by kernel_rfl, RG.pt i56 (by kernel_rfl), RG.st fun _ _ => by kernel_rfl, trivial⟩ ?_
  intro a5 w5 M5
  have hS5 : RG.St w w.heap.size [] [(ws x ++ (ws (0 : Fin P) ++ (ws (1 : Fin P)))), (ws x), (ws x ++ (ws (0 : Fin P) ++ (ws (1 : Fin P))))] [w.heap.size, j1, j3] _ := M5.st
  have sl5 := M5.sl
  have f2_5 : a5.tmps[2]? = some (.pointer (some ⟨w.heap.size, 0, none⟩)) := M5.at (s := (.p 0 0)) (by kernel_rfl)
  have f3_5 : a5.tmps[3]? = some (.bool false) := M5.at (s := (.v (.bool false))) (by kernel_rfl)
  refine wp_ret ?_
  refine bodyPost_ret (v := (.tuple #[(rv x (0 : Fin P) (1 : Fin P)), (.bool false)])) (RG.results_rt hS5 2 3 56 rfl 0 _ rfl f2_5 _ f3_5 u56 i56) sl5.defers ?_
  exact ⟨_, rfl, hS5.bel.below, rfl⟩
def F31f2_5 (m : Nat) (bs : Bs) (x : Fin P) : List RG.It := [.c 27 [] rv0, .x 28 [] (.string ⟨bs⟩), .x 29 [(28, 1)] (.string ⟨tl33 bs⟩), .c 30 [(27, 0), (29, 2)] (.tuple #[(fv x), (.bool true)]), .x 26 [(30, 3)] (.tuple #[(fv x), (.bool true)]), .x 31 [(26, 4)] (fv x), .x 32 [(26, 4)] (.bool true), .m 4 [] 1, .u [(4, 7), (31, 5)] 1, .x 5 [(32, 6)] (.bool true)]
def F31f2_6 (x : Fin P) : List RG.It := [.x 33 [] (.bool true), .x 34 [(33, 0)] (.bool false)]
def F31f2_8 (m : Nat) (x y : Fin P) : List RG.It := [.x 37 [] (fv x), .c 38 [(37, 0)] (.tuple #[(rv x y (1 : Fin P)), (.bool true)]), .x 36 [(38, 1)] (.tuple #[(rv x y (1 : Fin P)), (.bool true)]), .x 39 [(36, 2)] (rv x y (1 : Fin P)), .x 40 [(36, 2)] (.bool true), .m 6 [] 2, .u [(6, 5), (39, 3)] 2, .x 5 [(40, 4)] (.bool true)]
def F31f2_9 (bs : Bs) (x : Fin P) : List RG.It := [.x 41 [] (.string ⟨bs⟩), .x 42 [(41, 0)] (.int .u8 2), .x 43 [(42, 1)] (.bool false)]
def F31f2_11 (x y : Fin P) : List RG.It := [.x 46 [] (rv x y (1 : Fin P)), .x 47 [] (.bool true), .u [(46, 0)] 0, .x 3 [(47, 1)] (.bool true)]
set_option maxHeartbeats 4000000 in
set_option maxRecDepth 100000 in
theorem rr_some2 (C : Fl3 P) (m : Nat) (bs : Bs) (x y y2 : Fin P) (w : World) (hs : bs.size = 33) (hz : ¬ bs = zs33) (hm : ub bs[0]! = 2) (hx : beV (tl33 bs).toList = x.val) (hr : rt (x * x * x + 7) = some y) : Calls Try.prog 31 #[.string ⟨bs⟩] w (Ret fun e w' => Below w.heap.size w w' ∧ e = .tuple #[rv x y 1, .bool true]) := by
  have hmk := mk33
  have hcv := conv33 w
  have hse := str_ne3 hz
  unfold W5 z12 at hcv
  have hs2 : (⟨bs⟩ : ByteArray).size = 33 := hs
  have hix := ixS bs hs 2 hm
  have hS0 := W5_st w
  unfold W5 z12 at hS0
  go_enter Try.func31, Try.ntmps31
  go_wp2_with fail
  rename_i hK
  clear hmk hcv hse hs2 hix
  generalize (w.alloc _).alloc _ = w0 at hS0 ⊢
  refine RG.mid3 (v0 := .string ⟨bs⟩) (v1 := .pointer (some ⟨w.heap.size, 0, none⟩)) (v2 := .bool false) (n := 48) 0 2 3 rfl rfl rfl rfl rfl ?_
  intro a0 sl0 f0 f2 f3
  have M0 : RG.M w w.heap.size [] 48 [(RG.z 12)] [w.heap.size] [(0, (.v (.string ⟨bs⟩))), (2, (.p 0 0)), (3, (.v (.bool false)))] a0 _ := ⟨hS0, sl0, ⟨f0, f2, f3, trivial⟩⟩
  repeat refine wp_seq ?_
  refine M0.dr (by kernel_rfl) (F31f2_5 m bs x) [(7, (RG.z 4))] [(1, 8, (ws x))] [(RG.z 12), (ws x)] [(0, (.v (.string ⟨bs⟩))), (2, (.p 0 0)), (3, (.v (.bool false))), (4, (.p 1 0)), (5, (.v (.bool true)))] (by kernel_rfl) (by kernel_rfl) ⟨RG.cl (F3_c) fun _ _ => by kernel_rfl, RG.st fun _ _ => by kernel_rfl, RG.cert_slice1 rfl 9 28 (.int .i64 1) (.string ⟨bs⟩) (.string ⟨tl33 bs⟩) rfl rfl (RG.sx fun _ => by kernel_rfl) (slS bs hs), RG.cl (rNumber_y C (tl33 bs) (tl33_size hs) hx) fun _ _ => by kernel_rfl, RG.st fun _ _ => by kernel_rfl, RG.st fun _ _ => by kernel_rfl, RG.st fun _ _ => by kernel_rfl, RG.mk 1 33 fun _ _ => by kernel_rfl, RG.pt i33 (by kernel_rfl), RG.st fun _ _ => by kernel_rfl, trivial⟩ ?_
  intro j1 a1 w1 M1
  refine hK _ _ ?_
  repeat refine wp_seq ?_
  refine M1.tx0 (F31f2_6 x) [(0, (.v (.string ⟨bs⟩))), (2, (.p 0 0)), (3, (.v (.bool false))), (4, (.p 1 0)), (5, (.v (.bool true))), (34, (.v (.bool false)))] (by kernel_rfl) ⟨RG.st fun _ _ => by kernel_rfl, RG.st fun _ _ => by kernel_rfl, trivial⟩ ?_
  intro a2 w2 M2
  repeat refine wp_seq ?_
  refine wp_cond_false (M2.ev (by kernel_rfl)) ?_
  refine wp_skip ?_
  repeat refine wp_seq ?_
  refine M2.tx (F31f2_8 m x y) [(5, (RG.z 12))] [(2, 6, (ws x ++ (ws y ++ (ws (1 : Fin P)))))] [(RG.z 12), (ws x), (ws x ++ (ws y ++ (ws (1 : Fin P))))] [(0, (.v (.string ⟨bs⟩))), (2, (.p 0 0)), (3, (.v (.bool false))), (5, (.v (.bool true))), (6, (.p 2 0))] (by kernel_rfl) (by kernel_rfl) ⟨RG.ld u33 i33 (by kernel_rfl), RG.cl (rat_y_c C x y hr) fun _ _ => by kernel_rfl, RG.st fun _ _ => by kernel_rfl, RG.st fun _ _ => by kernel_rfl, RG.st fun _ _ => by kernel_rfl, RG.mk 2 56 fun _ _ => by kernel_rfl, RG.pt i56 (by kernel_rfl), RG.st fun _ _ => by kernel_rfl, trivial⟩ ?_
  intro j3 a3 w3 M3
  repeat refine wp_seq ?_
  refine M3.tx0 (F31f2_9 bs x) [(2, (.p 0 0)), (3, (.v (.bool false))), (5, (.v (.bool true))), (6, (.p 2 0)), (43, (.v (.bool false)))] (by kernel_rfl) ⟨RG.st fun _ _ => by kernel_rfl, RG.cert_index rfl 9 41 (.int .i64 0) (.string ⟨bs⟩) (.int .u8 2) rfl rfl (RG.sx fun _ => by kernel_rfl) (ixS bs hs 2 hm), RG.st fun _ _ => by kernel_rfl, trivial⟩ ?_
  intro a4 w4 M4
  repeat refine wp_seq ?_
  refine wp_cond_false (M4.ev (by kernel_rfl)) ?_
  refine wp_skip ?_
  repeat refine wp_seq ?_
  refine M4.tx (F31f2_11 x y) [] [(0, 2, (ws x ++ (ws y ++ (ws (1 : Fin P)))))] [(ws x ++ (ws y ++ (ws (1 : Fin P)))), (ws x), (ws x ++ (ws y ++ (ws (1 : Fin P))))] [(2, (.p 0 0)), (3, (.v (.bool true)))] (by kernel_rfl) (by kernel_rfl) ⟨RG.ld u56 i56 (by kernel_rfl), RG.st fun _ _ => by kernel_rfl, RG.pt i56 (by kernel_rfl), RG.st fun _ _ => by kernel_rfl, trivial⟩ ?_
  intro a5 w5 M5
  have hS5 : RG.St w w.heap.size [] [(ws x ++ (ws y ++ (ws (1 : Fin P)))), (ws x), (ws x ++ (ws y ++ (ws (1 : Fin P))))] [w.heap.size, j1, j3] _ := M5.st
  have sl5 := M5.sl
  have f2_5 : a5.tmps[2]? = some (.pointer (some ⟨w.heap.size, 0, none⟩)) := M5.at (s := (.p 0 0)) (by kernel_rfl)
  have f3_5 : a5.tmps[3]? = some (.bool true) := M5.at (s := (.v (.bool true))) (by kernel_rfl)
  refine wp_ret ?_
  refine bodyPost_ret (v := (.tuple #[(rv x y (1 : Fin P)), (.bool true)])) (RG.results_rt hS5 2 3 56 rfl 0 _ rfl f2_5 _ f3_5 u56 i56) sl5.defers ?_
  exact ⟨_, rfl, hS5.bel.below, rfl⟩
def F31d3_5 (m : Nat) (bs : Bs) (x : Fin P) : List RG.It := [.c 27 [] rv0, .x 28 [] (.string ⟨bs⟩), .x 29 [(28, 1)] (.string ⟨tl33 bs⟩), .c 30 [(27, 0), (29, 2)] (.tuple #[(nv m), (.bool false)]), .x 26 [(30, 3)] (.tuple #[(nv m), (.bool false)]), .x 31 [(26, 4)] (nv m), .x 32 [(26, 4)] (.bool false), .m 4 [] 1, .u [(4, 7), (31, 5)] 1, .x 5 [(32, 6)] (.bool false)]
def F31d3_6 (x : Fin P) : List RG.It := [.x 33 [] (.bool false), .x 34 [(33, 0)] (.bool true)]
def F31d3_7 (x : Fin P) : List RG.It := [.x 35 [] (rv (0 : Fin P) (0 : Fin P) (0 : Fin P)), .u [(35, 0)] 0, .x 3 [] (.bool false)]
set_option maxHeartbeats 4000000 in
set_option maxRecDepth 100000 in
theorem rr_num3 (C : Fl3 P) (m : Nat) (bs : Bs) (x y y2 : Fin P) (w : World) (hs : bs.size = 33) (hz : ¬ bs = zs33) (hm : ub bs[0]! = 3) (hnum : Gives 17 #[rv0, .string ⟨tl33 bs⟩] (.tuple #[nv m, .bool false])) : Calls Try.prog 31 #[.string ⟨bs⟩] w (Ret fun e w' => Below w.heap.size w w' ∧ e = .tuple #[rv (0 : Fin P) 0 0, .bool false]) := by
  have hmk := mk33
  have hcv := conv33 w
  have hse := str_ne3 hz
  unfold W5 z12 at hcv
  have hs2 : (⟨bs⟩ : ByteArray).size = 33 := hs
  have hix := ixS bs hs 3 hm
  have hS0 := W5_st w
  unfold W5 z12 at hS0
  go_enter Try.func31, Try.ntmps31
  go_wp2_with fail
  rename_i hK
  clear hmk hcv hse hs2 hix
  generalize (w.alloc _).alloc _ = w0 at hS0 ⊢
  refine RG.mid3 (v0 := .string ⟨bs⟩) (v1 := .pointer (some ⟨w.heap.size, 0, none⟩)) (v2 := .bool false) (n := 48) 0 2 3 rfl rfl rfl rfl rfl ?_
  intro a0 sl0 f0 f2 f3
  have M0 : RG.M w w.heap.size [] 48 [(RG.z 12)] [w.heap.size] [(0, (.v (.string ⟨bs⟩))), (2, (.p 0 0)), (3, (.v (.bool false)))] a0 _ := ⟨hS0, sl0, ⟨f0, f2, f3, trivial⟩⟩
  repeat refine wp_seq ?_
  refine M0.dr (by kernel_rfl) (F31d3_5 m bs x) [(7, (RG.z 4))] [(1, 8, (wn m))] [(RG.z 12), (wn m)] [(2, (.p 0 0)), (3, (.v (.bool false))), (5, (.v (.bool false)))] (by kernel_rfl) (by kernel_rfl) ⟨RG.cl (F3_c) fun _ _ => by kernel_rfl, RG.st fun _ _ => by kernel_rfl, RG.cert_slice1 rfl 9 28 (.int .i64 1) (.string ⟨bs⟩) (.string ⟨tl33 bs⟩) rfl rfl (RG.sx fun _ => by kernel_rfl) (slS bs hs), RG.cl (hnum) fun _ _ => by kernel_rfl, RG.st fun _ _ => by kernel_rfl, RG.st fun _ _ => by kernel_rfl, RG.st fun _ _ => by kernel_rfl, RG.mk 1 33 fun _ _ => by kernel_rfl, RG.pt i33 (by kernel_rfl), RG.st fun _ _ => by kernel_rfl, trivial⟩ ?_
  intro j1 a1 w1 M1
  refine hK _ _ ?_
  repeat refine wp_seq ?_
  refine M1.tx0 (F31d3_6 x) [(2, (.p 0 0)), (3, (.v (.bool false))), (34, (.v (.bool true)))] (by kernel_rfl) ⟨RG.st fun _ _ => by kernel_rfl, RG.st fun _ _ => by kernel_rfl, trivial⟩ ?_
  intro a2 w2 M2
  repeat refine wp_seq ?_
  refine wp_cond_true (M2.ev (by kernel_rfl)) ?_
  repeat refine wp_seq ?_
  refine M2.tx (F31d3_7 x) [] [(0, 1, (ws (0 : Fin P) ++ (ws (0 : Fin P) ++ (ws (0 : Fin P)))))] [(ws (0 : Fin P) ++ (ws (0 : Fin P) ++ (ws (0 : Fin P)))), (wn m)] [(2, (.p 0 0)), (3, (.v (.bool false)))] (by kernel_rfl) (by kernel_rfl) ⟨RG.se (zero_rv (P := P)) fun _ _ => by kernel_rfl, RG.pt i56 (by kernel_rfl), RG.st fun _ _ => by kernel_rfl, trivial⟩ ?_
  intro a3 w3 M3
  have hS3 : RG.St w w.heap.size [] [(ws (0 : Fin P) ++ (ws (0 : Fin P) ++ (ws (0 : Fin P)))), (wn m)] [w.heap.size, j1] _ := M3.st
  have sl3 := M3.sl
  have f2_3 : a3.tmps[2]? = some (.pointer (some ⟨w.heap.size, 0, none⟩)) := M3.at (s := (.p 0 0)) (by kernel_rfl)
  have f3_3 : a3.tmps[3]? = some (.bool false) := M3.at (s := (.v (.bool false))) (by kernel_rfl)
  refine wp_ret ?_
  refine bodyPost_ret (v := (.tuple #[(rv (0 : Fin P) (0 : Fin P) (0 : Fin P)), (.bool false)])) (RG.results_rt hS3 2 3 56 rfl 0 _ rfl f2_3 _ f3_3 u56 i56) sl3.defers ?_
  exact ⟨_, rfl, hS3.bel.below, rfl⟩
def F31e3_5 (m : Nat) (bs : Bs) (x : Fin P) : List RG.It := [.c 27 [] rv0, .x 28 [] (.string ⟨bs⟩), .x 29 [(28, 1)] (.string ⟨tl33 bs⟩), .c 30 [(27, 0), (29, 2)] (.tuple #[(fv x), (.bool true)]), .x 26 [(30, 3)] (.tuple #[(fv x), (.bool true)]), .x 31 [(26, 4)] (fv x), .x 32 [(26, 4)] (.bool true), .m 4 [] 1, .u [(4, 7), (31, 5)] 1, .x 5 [(32, 6)] (.bool true)]
def F31e3_6 (x : Fin P) : List RG.It := [.x 33 [] (.bool true), .x 34 [(33, 0)] (.bool false)]
def F31e3_8 (m : Nat) (x : Fin P) : List RG.It := [.x 37 [] (fv x), .c 38 [(37, 0)] (.tuple #[(rv x (0 : Fin P) (1 : Fin P)), (.bool false)]), .x 36 [(38, 1)] (.tuple #[(rv x (0 : Fin P) (1 : Fin P)), (.bool false)]), .x 39 [(36, 2)] (rv x (0 : Fin P) (1 : Fin P)), .x 40 [(36, 2)] (.bool false), .m 6 [] 2, .u [(6, 5), (39, 3)] 2, .x 5 [(40, 4)] (.bool false)]
def F31e3_9 (bs : Bs) (x : Fin P) : List RG.It := [.x 41 [] (.string ⟨bs⟩), .x 42 [(41, 0)] (.int .u8 3), .x 43 [(42, 1)] (.bool true)]
def F31e3_10 (x y2 : Fin P) : List RG.It := [.x 44 [] (rv x (0 : Fin P) (1 : Fin P)), .c 45 [(44, 0)] (rv x y2 (1 : Fin P)), .u [(45, 1)] 2]
def F31e3_11 (x y2 : Fin P) : List RG.It := [.x 46 [] (rv x y2 (1 : Fin P)), .x 47 [] (.bool false), .u [(46, 0)] 0, .x 3 [(47, 1)] (.bool false)]
set_option maxHeartbeats 4000000 in
set_option maxRecDepth 100000 in
theorem rr_none3 (C : Fl3 P) (m : Nat) (bs : Bs) (x y y2 : Fin P) (w : World) (hs : bs.size = 33) (hz : ¬ bs = zs33) (hm : ub bs[0]! = 3) (hx : beV (tl33 bs).toList = x.val) (hr : rt (x * x * x + 7) = none) (hy2 : 0 - (0 : Fin P) = y2) : Calls Try.prog 31 #[.string ⟨bs⟩] w (Ret fun e w' => Below w.heap.size w w' ∧ e = .tuple #[rv x y2 1, .bool false]) := by
  have hmk := mk33
  have hcv := conv33 w
  have hse := str_ne3 hz
  unfold W5 z12 at hcv
  have hs2 : (⟨bs⟩ : ByteArray).size = 33 := hs
  have hix := ixS bs hs 3 hm
  have hS0 := W5_st w
  unfold W5 z12 at hS0
  go_enter Try.func31, Try.ntmps31
  go_wp2_with fail
  rename_i hK
  clear hmk hcv hse hs2 hix
  generalize (w.alloc _).alloc _ = w0 at hS0 ⊢
  refine RG.mid3 (v0 := .string ⟨bs⟩) (v1 := .pointer (some ⟨w.heap.size, 0, none⟩)) (v2 := .bool false) (n := 48) 0 2 3 rfl rfl rfl rfl rfl ?_
  intro a0 sl0 f0 f2 f3
  have M0 : RG.M w w.heap.size [] 48 [(RG.z 12)] [w.heap.size] [(0, (.v (.string ⟨bs⟩))), (2, (.p 0 0)), (3, (.v (.bool false)))] a0 _ := ⟨hS0, sl0, ⟨f0, f2, f3, trivial⟩⟩
  repeat refine wp_seq ?_
  refine M0.dr (by kernel_rfl) (F31e3_5 m bs x) [(7, (RG.z 4))] [(1, 8, (ws x))] [(RG.z 12), (ws x)] [(0, (.v (.string ⟨bs⟩))), (2, (.p 0 0)), (3, (.v (.bool false))), (4, (.p 1 0)), (5, (.v (.bool true)))] (by kernel_rfl) (by kernel_rfl) ⟨RG.cl (F3_c) fun _ _ => by kernel_rfl, RG.st fun _ _ => by kernel_rfl, RG.cert_slice1 rfl 9 28 (.int .i64 1) (.string ⟨bs⟩) (.string ⟨tl33 bs⟩) rfl rfl (RG.sx fun _ => by kernel_rfl) (slS bs hs), RG.cl (rNumber_y C (tl33 bs) (tl33_size hs) hx) fun _ _ => by kernel_rfl, RG.st fun _ _ => by kernel_rfl, RG.st fun _ _ => by kernel_rfl, RG.st fun _ _ => by kernel_rfl, RG.mk 1 33 fun _ _ => by kernel_rfl, RG.pt i33 (by kernel_rfl), RG.st fun _ _ => by kernel_rfl, trivial⟩ ?_
  intro j1 a1 w1 M1
  refine hK _ _ ?_
  repeat refine wp_seq ?_
  refine M1.tx0 (F31e3_6 x) [(0, (.v (.string ⟨bs⟩))), (2, (.p 0 0)), (3, (.v (.bool false))), (4, (.p 1 0)), (5, (.v (.bool true))), (34, (.v (.bool false)))] (by kernel_rfl) ⟨RG.st fun _ _ => by kernel_rfl, RG.st fun _ _ => by kernel_rfl, trivial⟩ ?_
  intro a2 w2 M2
  repeat refine wp_seq ?_
  refine wp_cond_false (M2.ev (by kernel_rfl)) ?_
  refine wp_skip ?_
  repeat refine wp_seq ?_
  refine M2.tx (F31e3_8 m x) [(5, (RG.z 12))] [(2, 6, (ws x ++ (ws (0 : Fin P) ++ (ws (1 : Fin P)))))] [(RG.z 12), (ws x), (ws x ++ (ws (0 : Fin P) ++ (ws (1 : Fin P))))] [(0, (.v (.string ⟨bs⟩))), (2, (.p 0 0)), (3, (.v (.bool false))), (5, (.v (.bool false))), (6, (.p 2 0))] (by kernel_rfl) (by kernel_rfl) ⟨RG.ld u33 i33 (by kernel_rfl), RG.cl (rat_n_c C x hr) fun _ _ => by kernel_rfl, RG.st fun _ _ => by kernel_rfl, RG.st fun _ _ => by kernel_rfl, RG.st fun _ _ => by kernel_rfl, RG.mk 2 56 fun _ _ => by kernel_rfl, RG.pt i56 (by kernel_rfl), RG.st fun _ _ => by kernel_rfl, trivial⟩ ?_
  intro j3 a3 w3 M3
  repeat refine wp_seq ?_
  refine M3.tx0 (F31e3_9 bs x) [(2, (.p 0 0)), (3, (.v (.bool false))), (5, (.v (.bool false))), (6, (.p 2 0)), (43, (.v (.bool true)))] (by kernel_rfl) ⟨RG.st fun _ _ => by kernel_rfl, RG.cert_index rfl 9 41 (.int .i64 0) (.string ⟨bs⟩) (.int .u8 3) rfl rfl (RG.sx fun _ => by kernel_rfl) (ixS bs hs 3 hm), RG.st fun _ _ => by kernel_rfl, trivial⟩ ?_
  intro a4 w4 M4
  repeat refine wp_seq ?_
  refine wp_cond_true (M4.ev (by kernel_rfl)) ?_
  repeat refine wp_seq ?_
  refine M4.tx (F31e3_10 x y2) [] [(2, 2, (ws x ++ (ws y2 ++ (ws (1 : Fin P)))))] [(RG.z 12), (ws x), (ws x ++ (ws y2 ++ (ws (1 : Fin P))))] [(2, (.p 0 0)), (3, (.v (.bool false))), (5, (.v (.bool false))), (6, (.p 2 0))] (by kernel_rfl) (by kernel_rfl) ⟨RG.ld u56 i56 (by kernel_rfl), RG.cl (f := 37) (args := #[(rv x (0 : Fin P) (1 : Fin P))]) (v := (rv x y2 (1 : Fin P))) (hy2 ▸ rNeg3_c C x (0 : Fin P) 1) fun _ _ => by kernel_rfl, RG.pt i56 (by kernel_rfl), trivial⟩ ?_
  intro a5 w5 M5
  repeat refine wp_seq ?_
  refine M5.tx (F31e3_11 x y2) [] [(0, 2, (ws x ++ (ws y2 ++ (ws (1 : Fin P)))))] [(ws x ++ (ws y2 ++ (ws (1 : Fin P)))), (ws x), (ws x ++ (ws y2 ++ (ws (1 : Fin P))))] [(2, (.p 0 0)), (3, (.v (.bool false)))] (by kernel_rfl) (by kernel_rfl) ⟨RG.ld u56 i56 (by kernel_rfl), RG.st fun _ _ => by kernel_rfl, RG.pt i56 (by kernel_rfl), RG.st fun _ _ => by kernel_rfl, trivial⟩ ?_
  intro a6 w6 M6
  have hS6 : RG.St w w.heap.size [] [(ws x ++ (ws y2 ++ (ws (1 : Fin P)))), (ws x), (ws x ++ (ws y2 ++ (ws (1 : Fin P))))] [w.heap.size, j1, j3] _ := M6.st
  have sl6 := M6.sl
  have f2_6 : a6.tmps[2]? = some (.pointer (some ⟨w.heap.size, 0, none⟩)) := M6.at (s := (.p 0 0)) (by kernel_rfl)
  have f3_6 : a6.tmps[3]? = some (.bool false) := M6.at (s := (.v (.bool false))) (by kernel_rfl)
  refine wp_ret ?_
  refine bodyPost_ret (v := (.tuple #[(rv x y2 (1 : Fin P)), (.bool false)])) (RG.results_rt hS6 2 3 56 rfl 0 _ rfl f2_6 _ f3_6 u56 i56) sl6.defers ?_
  exact ⟨_, rfl, hS6.bel.below, rfl⟩
def F31f3_5 (m : Nat) (bs : Bs) (x : Fin P) : List RG.It := [.c 27 [] rv0, .x 28 [] (.string ⟨bs⟩), .x 29 [(28, 1)] (.string ⟨tl33 bs⟩), .c 30 [(27, 0), (29, 2)] (.tuple #[(fv x), (.bool true)]), .x 26 [(30, 3)] (.tuple #[(fv x), (.bool true)]), .x 31 [(26, 4)] (fv x), .x 32 [(26, 4)] (.bool true), .m 4 [] 1, .u [(4, 7), (31, 5)] 1, .x 5 [(32, 6)] (.bool true)]
def F31f3_6 (x : Fin P) : List RG.It := [.x 33 [] (.bool true), .x 34 [(33, 0)] (.bool false)]
def F31f3_8 (m : Nat) (x y : Fin P) : List RG.It := [.x 37 [] (fv x), .c 38 [(37, 0)] (.tuple #[(rv x y (1 : Fin P)), (.bool true)]), .x 36 [(38, 1)] (.tuple #[(rv x y (1 : Fin P)), (.bool true)]), .x 39 [(36, 2)] (rv x y (1 : Fin P)), .x 40 [(36, 2)] (.bool true), .m 6 [] 2, .u [(6, 5), (39, 3)] 2, .x 5 [(40, 4)] (.bool true)]
def F31f3_9 (bs : Bs) (x : Fin P) : List RG.It := [.x 41 [] (.string ⟨bs⟩), .x 42 [(41, 0)] (.int .u8 3), .x 43 [(42, 1)] (.bool true)]
def F31f3_10 (x y y2 : Fin P) : List RG.It := [.x 44 [] (rv x y (1 : Fin P)), .c 45 [(44, 0)] (rv x y2 (1 : Fin P)), .u [(45, 1)] 2]
def F31f3_11 (x y2 : Fin P) : List RG.It := [.x 46 [] (rv x y2 (1 : Fin P)), .x 47 [] (.bool true), .u [(46, 0)] 0, .x 3 [(47, 1)] (.bool true)]
set_option maxHeartbeats 4000000 in
set_option maxRecDepth 100000 in
theorem rr_some3 (C : Fl3 P) (m : Nat) (bs : Bs) (x y y2 : Fin P) (w : World) (hs : bs.size = 33) (hz : ¬ bs = zs33) (hm : ub bs[0]! = 3) (hx : beV (tl33 bs).toList = x.val) (hr : rt (x * x * x + 7) = some y) (hy2 : 0 - y = y2) : Calls Try.prog 31 #[.string ⟨bs⟩] w (Ret fun e w' => Below w.heap.size w w' ∧ e = .tuple #[rv x y2 1, .bool true]) := by
  have hmk := mk33
  have hcv := conv33 w
  have hse := str_ne3 hz
  unfold W5 z12 at hcv
  have hs2 : (⟨bs⟩ : ByteArray).size = 33 := hs
  have hix := ixS bs hs 3 hm
  have hS0 := W5_st w
  unfold W5 z12 at hS0
  go_enter Try.func31, Try.ntmps31
  go_wp2_with fail
  rename_i hK
  clear hmk hcv hse hs2 hix
  generalize (w.alloc _).alloc _ = w0 at hS0 ⊢
  refine RG.mid3 (v0 := .string ⟨bs⟩) (v1 := .pointer (some ⟨w.heap.size, 0, none⟩)) (v2 := .bool false) (n := 48) 0 2 3 rfl rfl rfl rfl rfl ?_
  intro a0 sl0 f0 f2 f3
  have M0 : RG.M w w.heap.size [] 48 [(RG.z 12)] [w.heap.size] [(0, (.v (.string ⟨bs⟩))), (2, (.p 0 0)), (3, (.v (.bool false)))] a0 _ := ⟨hS0, sl0, ⟨f0, f2, f3, trivial⟩⟩
  repeat refine wp_seq ?_
  refine M0.dr (by kernel_rfl) (F31f3_5 m bs x) [(7, (RG.z 4))] [(1, 8, (ws x))] [(RG.z 12), (ws x)] [(0, (.v (.string ⟨bs⟩))), (2, (.p 0 0)), (3, (.v (.bool false))), (4, (.p 1 0)), (5, (.v (.bool true)))] (by kernel_rfl) (by kernel_rfl) ⟨RG.cl (F3_c) fun _ _ => by kernel_rfl, RG.st fun _ _ => by kernel_rfl, RG.cert_slice1 rfl 9 28 (.int .i64 1) (.string ⟨bs⟩) (.string ⟨tl33 bs⟩) rfl rfl (RG.sx fun _ => by kernel_rfl) (slS bs hs), RG.cl (rNumber_y C (tl33 bs) (tl33_size hs) hx) fun _ _ => by kernel_rfl, RG.st fun _ _ => by kernel_rfl, RG.st fun _ _ => by kernel_rfl, RG.st fun _ _ => by kernel_rfl, RG.mk 1 33 fun _ _ => by kernel_rfl, RG.pt i33 (by kernel_rfl), RG.st fun _ _ => by kernel_rfl, trivial⟩ ?_
  intro j1 a1 w1 M1
  refine hK _ _ ?_
  repeat refine wp_seq ?_
  refine M1.tx0 (F31f3_6 x) [(0, (.v (.string ⟨bs⟩))), (2, (.p 0 0)), (3, (.v (.bool false))), (4, (.p 1 0)), (5, (.v (.bool true))), (34, (.v (.bool false)))] (by kernel_rfl) ⟨RG.st fun _ _ => by kernel_rfl, RG.st fun _ _ => by kernel_rfl, trivial⟩ ?_
  intro a2 w2 M2
  repeat refine wp_seq ?_
  refine wp_cond_false (M2.ev (by kernel_rfl)) ?_
  refine wp_skip ?_
  repeat refine wp_seq ?_
  refine M2.tx (F31f3_8 m x y) [(5, (RG.z 12))] [(2, 6, (ws x ++ (ws y ++ (ws (1 : Fin P)))))] [(RG.z 12), (ws x), (ws x ++ (ws y ++ (ws (1 : Fin P))))] [(0, (.v (.string ⟨bs⟩))), (2, (.p 0 0)), (3, (.v (.bool false))), (5, (.v (.bool true))), (6, (.p 2 0))] (by kernel_rfl) (by kernel_rfl) ⟨RG.ld u33 i33 (by kernel_rfl), RG.cl (rat_y_c C x y hr) fun _ _ => by kernel_rfl, RG.st fun _ _ => by kernel_rfl, RG.st fun _ _ => by kernel_rfl, RG.st fun _ _ => by kernel_rfl, RG.mk 2 56 fun _ _ => by kernel_rfl, RG.pt i56 (by kernel_rfl), RG.st fun _ _ => by kernel_rfl, trivial⟩ ?_
  intro j3 a3 w3 M3
  repeat refine wp_seq ?_
  refine M3.tx0 (F31f3_9 bs x) [(2, (.p 0 0)), (3, (.v (.bool false))), (5, (.v (.bool true))), (6, (.p 2 0)), (43, (.v (.bool true)))] (by kernel_rfl) ⟨RG.st fun _ _ => by kernel_rfl, RG.cert_index rfl 9 41 (.int .i64 0) (.string ⟨bs⟩) (.int .u8 3) rfl rfl (RG.sx fun _ => by kernel_rfl) (ixS bs hs 3 hm), RG.st fun _ _ => by kernel_rfl, trivial⟩ ?_
  intro a4 w4 M4
  repeat refine wp_seq ?_
  refine wp_cond_true (M4.ev (by kernel_rfl)) ?_
  repeat refine wp_seq ?_
  refine M4.tx (F31f3_10 x y y2) [] [(2, 2, (ws x ++ (ws y2 ++ (ws (1 : Fin P)))))] [(RG.z 12), (ws x), (ws x ++ (ws y2 ++ (ws (1 : Fin P))))] [(2, (.p 0 0)), (3, (.v (.bool false))), (5, (.v (.bool true))), (6, (.p 2 0))] (by kernel_rfl) (by kernel_rfl) ⟨RG.ld u56 i56 (by kernel_rfl), RG.cl (f := 37) (args := #[(rv x y (1 : Fin P))]) (v := (rv x y2 (1 : Fin P))) (hy2 ▸ rNeg3_c C x y 1) fun _ _ => by kernel_rfl, RG.pt i56 (by kernel_rfl), trivial⟩ ?_
  intro a5 w5 M5
  repeat refine wp_seq ?_
  refine M5.tx (F31f3_11 x y2) [] [(0, 2, (ws x ++ (ws y2 ++ (ws (1 : Fin P)))))] [(ws x ++ (ws y2 ++ (ws (1 : Fin P)))), (ws x), (ws x ++ (ws y2 ++ (ws (1 : Fin P))))] [(2, (.p 0 0)), (3, (.v (.bool true)))] (by kernel_rfl) (by kernel_rfl) ⟨RG.ld u56 i56 (by kernel_rfl), RG.st fun _ _ => by kernel_rfl, RG.pt i56 (by kernel_rfl), RG.st fun _ _ => by kernel_rfl, trivial⟩ ?_
  intro a6 w6 M6
  have hS6 : RG.St w w.heap.size [] [(ws x ++ (ws y2 ++ (ws (1 : Fin P)))), (ws x), (ws x ++ (ws y2 ++ (ws (1 : Fin P))))] [w.heap.size, j1, j3] _ := M6.st
  have sl6 := M6.sl
  have f2_6 : a6.tmps[2]? = some (.pointer (some ⟨w.heap.size, 0, none⟩)) := M6.at (s := (.p 0 0)) (by kernel_rfl)
  have f3_6 : a6.tmps[3]? = some (.bool true) := M6.at (s := (.v (.bool true))) (by kernel_rfl)
  refine wp_ret ?_
  refine bodyPost_ret (v := (.tuple #[(rv x y2 (1 : Fin P)), (.bool true)])) (RG.results_rt hS6 2 3 56 rfl 0 _ rfl f2_6 _ f3_6 u56 i56) sl6.defers ?_
  exact ⟨_, rfl, hS6.bel.below, rfl⟩
end Go.Proofs.Ytbimbalfdmffaab
namespace Go.Proofs.Ytbimbalfdmffaab
open Go.RowKit Go.Sort
variable {P : Nat} [NeZero P]
theorem sq_mod (r d : Nat) : d * d % (r + d) = r * r % (r + d) := by
  have h : d * d + (r + d) * r = r * r + (r + d) * d := by
    rw [Nat.add_mul, Nat.add_mul, Nat.mul_comm d r]
    omega
  have h1 := congrArg (· % (r + d)) h
  simp only [Nat.add_mul_mod_self_left] at h1
  exact h1
theorem rt_sq {m y : Fin P} (h : rt m = some y) : y * y = m := by
  have h0 := rt_yes h
  unfold rt at h
  rw [if_pos h0] at h
  obtain rfl := Option.some.inj h
  have hP := Nat.pos_of_neZero P
  have hr : m.val ^ (P / 4 + 1) % P < P := Nat.mod_lt _ hP
  generalize m.val ^ (P / 4 + 1) % P = r at h0 hr
  apply Fin.ext
  rw [Fin.val_mul]
  show (even P r % P) * (even P r % P) % P = m.val
  rw [Nat.mod_eq_of_lt (even_lt hP hr), ← h0]
  unfold even
  split
  · have h2 := sq_mod r (P - r)
    rw [show r + (P - r) = P by omega] at h2
    exact h2
  · rfl
theorem zero33_iff {bs : Bs} (hs : bs.size = 33) : Zero33 bs ↔ bs = zs33 := by
  constructor
  · intro h
    apply Array.ext
    · rw [hs]; rfl
    · intro i h1 h2
      have := h i (List.mem_range.2 (by omega))
      rw [getElem!_pos bs i h1] at this
      have h3 : bs[i].toNat = 0 := by
        have h4 : ub bs[i] = (bs[i].toNat : Int) := rfl
        rw [h4] at this
        omega
      have h5 : (zs33)[i] = 0 := by
        have h6 : (Array.replicate 33 (0 : UInt8))[i]'h2 = 0 := Array.getElem_replicate _
        exact h6
      rw [h5]
      exact UInt8.toNat_inj.1 h3
  · rintro rfl i hi
    have hi := List.mem_range.1 hi
    unfold zs33
    rw [getElem!_pos _ i (by rw [Array.size_replicate]; exact hi), Array.getElem_replicate]
    rfl
theorem on_of {x y : Fin P} (h : y * y = x * x * x + 7) : EC.On (.some (x, y) : EC.Pt P) := by
  show y ^ 2 = x ^ 3 + 7
  grobner
theorem on_neg {x y : Fin P} (h : y * y = x * x * x + 7) : EC.On (.some (x, 0 - y) : EC.Pt P) := by
  show (0 - y) ^ 2 = x ^ 3 + 7
  grobner
theorem frac_one (C : Fld P) (x y : Fin P) : EC.Frac x y 1 (.some (x, y) : EC.Pt P) := ⟨fun h => C.cur.two (by grobner), by grobner, by grobner⟩
/-- What the reference's Read answers. -/
def RReadR (P : Nat) [NeZero P] (bs : Bs) (e : Value) : Prop := match rd P bs with
  | none => ∃ t : T3 P, e = .tuple #[tv t, .bool false]
  | some p => ∃ (t : T3 P) (q : EC.Pt P), e = .tuple #[tv t, .bool true] ∧ EC.Pair p.1 p.2 q ∧ FracT t q
theorem rRead_c (C : Fl3 P) (bs : Bs) (w : World) : Calls Try.prog 31 #[.string ⟨bs⟩] w (Ret fun e w' => Below w.heap.size w w' ∧ RReadR P bs e) := by
  unfold RReadR rd
  by_cases hs : bs.size = 33
  · rw [if_pos hs]
    by_cases hz : Zero33 bs
    · rw [if_pos hz]
      obtain rfl := (zero33_iff hs).1 hz
      refine (rr_zero C w).mono ?_
      rintro e w' ⟨v, rfl, hb, rfl⟩
      exact ⟨_, rfl, hb, (0, 1, 0), .none, rfl, ⟨rfl, rfl⟩, FracT.none⟩
    · rw [if_neg hz]
      have hz' : ¬ bs = zs33 := fun h => hz ((zero33_iff hs).2 h)
      by_cases hm : ub bs[0]! = 2 ∨ ub bs[0]! = 3
      · rw [if_pos hm]
        by_cases hx : beV (tl33 bs).toList < P
        · rw [if_pos hx]
          have hx' : beV (tl33 bs).toList = (rdx P bs).val := (Nat.mod_eq_of_lt hx).symm
          cases hr : rt (rdx P bs * rdx P bs * rdx P bs + 7) with
          | none =>
            rcases hm with hm | hm
            · refine (rr_none2 C 0 bs (rdx P bs) 0 0 w hs hz' hm hx' hr).mono ?_
              rintro e w' ⟨v, rfl, hb, rfl⟩
              exact ⟨_, rfl, hb, (rdx P bs, 0, 1), rfl⟩
            · refine (rr_none3 C 0 bs (rdx P bs) 0 (0 - 0) w hs hz' hm hx' hr rfl).mono ?_
              rintro e w' ⟨v, rfl, hb, rfl⟩
              exact ⟨_, rfl, hb, (rdx P bs, 0 - 0, 1), rfl⟩
          | some y =>
            have hsq := rt_sq hr
            rcases hm with hm | hm
            · rw [Option.map_some, if_neg (by rw [hm]; decide)]
              refine (rr_some2 C 0 bs (rdx P bs) y 0 w hs hz' hm hx' hr).mono ?_
              rintro e w' ⟨v, rfl, hb, rfl⟩
              exact ⟨_, rfl, hb, (rdx P bs, y, 1), .some (rdx P bs, y), rfl, ⟨rfl, rfl⟩, frac_one C.toFld _ _, on_of hsq⟩
            · rw [Option.map_some, if_pos hm]
              refine (rr_some3 C 0 bs (rdx P bs) y (0 - y) w hs hz' hm hx' hr rfl).mono ?_
              rintro e w' ⟨v, rfl, hb, rfl⟩
              exact ⟨_, rfl, hb, (rdx P bs, 0 - y, 1), .some (rdx P bs, 0 - y), rfl, ⟨rfl, rfl⟩, frac_one C.toFld _ _, on_neg hsq⟩
        · rw [if_neg hx]
          have hn := rNumber_n C (tl33 bs) (tl33_size hs) hx
          rcases hm with hm | hm
          · refine (rr_num2 C _ bs 0 0 0 w hs hz' hm hn).mono ?_
            rintro e w' ⟨v, rfl, hb, rfl⟩
            exact ⟨_, rfl, hb, (0, 0, 0), rfl⟩
          · refine (rr_num3 C _ bs 0 0 0 w hs hz' hm hn).mono ?_
            rintro e w' ⟨v, rfl, hb, rfl⟩
            exact ⟨_, rfl, hb, (0, 0, 0), rfl⟩
      · rw [if_neg hm]
        refine (rr_mark C bs hs hz' _ rfl (fun h => hm (Or.inl h)) (fun h => hm (Or.inr h)) w).mono ?_
        rintro e w' ⟨v, rfl, hb, rfl⟩
        exact ⟨_, rfl, hb, (0, 0, 0), rfl⟩
  · rw [if_neg hs]
    refine (rr_len C bs hs w).mono ?_
    rintro e w' ⟨v, rfl, hb, rfl⟩
    exact ⟨_, rfl, hb, (0, 0, 0), rfl⟩
end Go.Proofs.Ytbimbalfdmffaab
namespace Go.Proofs.Ytbimbalfdmffaab
open Go.RowKit Go.Sort Go.Deep
/-- Bytes of a number, one by one, as the reference lays them. -/
def bytesTo (T : Bs) : Nat → Bs
  | 0 => Array.replicate 32 0
  | k + 1 => (bytesTo T k).setIfInBounds k T[k]!
theorem bytesTo_size (T : Bs) (k : Nat) : (bytesTo T k).size = 32 := by
  induction k with
  | zero => simp [bytesTo]
  | succ k ih => simp [bytesTo, ih]
theorem bytesTo_at (T : Bs) (k j : Nat) (hk : k ≤ 32) (hj : j < k) : (bytesTo T k)[j]! = T[j]! := by
  induction k with
  | zero => omega
  | succ k ih =>
    by_cases h : j = k
    · subst h
      exact getElem!_set_same _ _ _ (by rw [bytesTo_size]; omega)
    · rw [bytesTo, getElem!_set_other _ _ _ _ h]
      exact ih (by omega) (by omega)
theorem bytesTo_all {w : World} {g : Nat} {T : Bs} (hT : T.size = 32) (h : Holds encB w g 0 (bytesTo T 32)) : Holds encB w g 0 T := by
  intro j hj
  rw [← bytesTo_at T 32 j (Nat.le_refl _) (by omega)]
  exact h j (by rw [bytesTo_size]; omega)
/-- The word in which a byte lies. -/
def wordOf (a b c d k : Nat) : Nat := if k < 8 then a else if k < 16 then b else if k < 24 then c else d
theorem be8_at (x j : Nat) (hj : j < 8) : (be8 x)[j]! = UInt8.ofNat (x / 2 ^ (8 * (7 - j))) := by
  match j, hj with
  | 0, _ => rfl
  | 1, _ => rfl
  | 2, _ => rfl
  | 3, _ => rfl
  | 4, _ => rfl
  | 5, _ => rfl
  | 6, _ => rfl
  | 7, _ =>
    show UInt8.ofNat x = UInt8.ofNat (x / 2 ^ (8 * (7 - 7)))
    rw [Nat.sub_self, Nat.mul_zero, Nat.pow_zero, Nat.div_one]
theorem be32_at (a b c d i : Nat) (hi : i < 32) : (be32 a b c d)[i]! = UInt8.ofNat (wordOf a b c d (31 - i) / 2 ^ (8 * ((31 - i) % 8))) := by
  have e : be32 a b c d = be8 d ++ be8 c ++ be8 b ++ be8 a := rfl
  have s1 : (be8 d ++ be8 c).size = 16 := by simp only [Array.size_append, be8_size]
  have s2 : (be8 d ++ be8 c ++ be8 b).size = 24 := by simp only [Array.size_append, be8_size]
  unfold wordOf
  by_cases k1 : i < 8
  · rw [if_neg (by omega), if_neg (by omega), if_neg (by omega), show (31 - i) % 8 = 7 - i by omega, ← be8_at d i k1,
      e, app_front _ _ i (by omega), ← getElem!_pos (be8 d ++ be8 c ++ be8 b) i (by omega), app_front _ _ i (by omega), ← getElem!_pos (be8 d ++ be8 c) i (by omega), app_front _ _ i (by rw [be8_size]; exact k1), ← getElem!_pos (be8 d) i (by rw [be8_size]; exact k1)]
  · by_cases k2 : i < 16
    · rw [if_neg (by omega), if_neg (by omega), if_pos (by omega), show (31 - i) % 8 = 7 - (i - 8) by omega, ← be8_at c (i - 8) (by omega),
        e, app_front _ _ i (by omega), ← getElem!_pos (be8 d ++ be8 c ++ be8 b) i (by omega), app_front _ _ i (by omega), ← getElem!_pos (be8 d ++ be8 c) i (by omega), app_back _ _ i (by rw [be8_size]; omega) (by rw [be8_size, be8_size]; omega), be8_size]
    · by_cases k3 : i < 24
      · rw [if_neg (by omega), if_pos (by omega), show (31 - i) % 8 = 7 - (i - 16) by omega, ← be8_at b (i - 16) (by omega),
          e, app_front _ _ i (by omega), ← getElem!_pos (be8 d ++ be8 c ++ be8 b) i (by omega), app_back _ _ i (by omega) (by rw [s1, be8_size]; omega), s1]
      · rw [if_pos (by omega), show (31 - i) % 8 = 7 - (i - 24) by omega, ← be8_at a (i - 24) (by omega),
          e, app_back _ _ i (by omega) (by rw [s2, be8_size]; omega), s2]
theorem wordOf_lt {a b c d : Nat} (k : Nat) (ha : a < 18446744073709551616) (hb : b < 18446744073709551616) (hc : c < 18446744073709551616) (hd : d < 18446744073709551616) : wordOf a b c d k < 18446744073709551616 := by
  unfold wordOf; split; exact ha; split; exact hb; split; exact hc; exact hd
theorem At4.word {w : World} {k a b c d : Nat} (h : At4 w k a b c d) (i : Nat) (hi : i < 32) : w.cell? ⟨k, i / 8, none⟩ = some (.int .u64 (wordOf a b c d i : Int)) := by
  unfold wordOf
  by_cases h1 : i < 8
  · rw [if_pos h1, show i / 8 = 0 by omega]; exact h.c0
  · rw [if_neg h1]
    by_cases h2 : i < 16
    · rw [if_pos h2, show i / 8 = 1 by omega]; exact h.c1
    · rw [if_neg h2]
      by_cases h3 : i < 24
      · rw [if_pos h3, show i / 8 = 2 by omega]; exact h.c2
      · rw [if_neg h3, show i / 8 = 3 by omega]; exact h.c3
set_option maxHeartbeats 2000000 in
set_option maxRecDepth 100000 in
theorem rBytes_any (x : Value) (m : Nat) (w : World) (hx : Four x m) :
    Calls Try.prog 61 #[x] w (Ret fun e w' => Below w.heap.size w w' ∧ ∃ a b c d : Nat, x = .agg #[.int .u64 (a : Int), .int .u64 (b : Int), .int .u64 (c : Int), .int .u64 (d : Int)] ∧ e = .string ⟨be32 a b c d⟩) := by
  obtain ⟨a, b, c, d, rfl, ha, hb, hc, hd, em⟩ := hx
  clear em
  have hmk : ∀ w : World, (Instr.makeSlice 23 (.int .i64 32) (.int .i64 32)).run Try.prog w = .ok (.slice (some ⟨w.heap.size, 0, none⟩) 32 32) (w.alloc (.cells (madeCells #[.int .u8 0] 32) 5)) :=
    run_make_row' (P := Try.prog) 23 5 (.int .u8 0) 1 slice22 info5 rfl .i64 .i64 32 (by omega) (by omega)
  go_enter Try.func61, Try.ntmps61
  go_wp2
  have hH0 : Holds encB (((w.alloc (.cells #[.int .u64 (a : Int), .int .u64 (b : Int), .int .u64 (c : Int), .int .u64 (d : Int)] 33)).alloc (.cells (madeCells #[.int .u8 0] 32) 5))) (w.heap.size + 1) 0 (Array.replicate 32 0) := by
    have := Holds.made (enc := encB) (w.alloc (.cells #[.int .u64 (a : Int), .int .u64 (b : Int), .int .u64 (c : Int), .int .u64 (d : Int)] 33)) 5 32 0
    rw [World.size_alloc] at this
    exact this
  have hb0 := below2 w (.cells #[.int .u64 (a : Int), .int .u64 (b : Int), .int .u64 (c : Int), .int .u64 (d : Int)] 33) (.cells (madeCells #[.int .u8 0] 32) 5)
  have X := (At4.made w 33 a b c d rfl).alloc (.cells (madeCells #[.int .u8 0] 32) 5)
  generalize World.alloc _ _ = W at hH0 hb0 X ⊢
  have HBW : Hid (Below w.heap.size w W) := hb0
  clear hb0 hmk
  go_loopg [4] 32 (fun gk s4 wr => ∃ (k : Nat), k + gk = 32 ∧ s4 = .int .i64 (k : Int) ∧ Holds encB wr (w.heap.size + 1) 0 (bytesTo (be32 a b c d) k) ∧ At4 wr w.heap.size a b c d ∧ Hid (Below w.heap.size w wr))
  case atStart => exact ⟨0, rfl, rfl, hH0, X, HBW⟩
  case round =>
    obtain ⟨k, hk, rfl, hB, X', HB⟩ := hrel
    by_cases hlt : k < 32
    · obtain ⟨c0, f0⟩ := hB k (by rw [bytesTo_size]; omega)
      rw [Nat.zero_add] at c0 f0
      have xw := X'.word (31 - k) (by omega)
      have hwl := wordOf_lt (31 - k) ha hb hc hd
      have hbyte := be32_at a b c d k hlt
      obtain ⟨q, hq⟩ : ∃ q, 31 - k = q := ⟨_, rfl⟩
      rw [hq] at xw hwl hbyte
      generalize wordOf a b c d q = v at xw hwl hbyte
      have i1 : (31 : Int) - (k : Int) = (q : Int) := by omega
      have i2 : (q : Int).tdiv 8 = ((q / 8 : Nat) : Int) := by rw [Int.tdiv_eq_ediv_of_nonneg (by omega)]; omega
      have i3 : (q : Int).tmod 8 = ((q % 8 : Nat) : Int) := by rw [Int.tmod_eq_emod_of_nonneg (by omega)]; omega
      have i4 : (q / 8 : Nat) < 4 := by omega
      have hlt' : (k : Int) < 32 := by omega
      have hs1 : (8 : Int) * ((q % 8 : Nat) : Int) = ((8 * (q % 8) : Nat) : Int) := by omega
      have hv : (Value.int .u8 ((v : Int) / 2 ^ (8 * (q % 8)) % 256)) = encB (be32 a b c d)[k]! := by
        rw [hbyte, ← byte_at v (2 ^ (8 * (q % 8))), Int.natCast_pow]
        rfl
      have Hv : Hid (_ = _) := hv
      clear hv hbyte hq
      go_wp2
      rw [Hv.out]
      go_roundg (gk - 1)
      case measure => omega
      case rel =>
        refine ⟨k + 1, by omega, rfl, ?_, X'.other (by omega) _, HB.out.setCell (p := ⟨w.heap.size + 1, k, none⟩) (Nat.le_succ _) _⟩
        have := Holds.set hB (i := k) (by rw [bytesTo_size]; omega) (be32 a b c d)[k]!
        rw [Nat.zero_add] at this
        exact this
    · have hk32 : k = 32 := by omega
      subst hk32
      have hT := bytesTo_all (be32_size a b c d) hB
      have kc := conv_str Try.prog 23 9 5 slice22 int5 str9 wr (w.heap.size + 1) 0 32 32 _ hT (be32_size a b c d)
      clear hB hT
      go_wp2
      go_ret
      exact ⟨_, rfl, HB.out, a, b, c, d, rfl, rfl⟩
end Go.Proofs.Ytbimbalfdmffaab
namespace Go.Proofs.Ytbimbalfdmffaab
open Go.RowKit Go.Sort Go.Deep
variable {P : Nat} [NeZero P]
theorem rBytes_c (C : Fld P) (x : Fin P) : Gives 61 #[fv x] (.string ⟨bx x.val⟩) := fun w =>
  (rBytes_any _ _ w (C.four x)).mono (by
    rintro e w' ⟨v, rfl, hb, a, b, c, d, he, rfl⟩
    refine ⟨_, rfl, hb, ?_⟩
    have h2 : fv x = .agg #[.int .u64 ((x.val % 18446744073709551616 : Nat) : Int), .int .u64 ((x.val / 18446744073709551616 % 18446744073709551616 : Nat) : Int), .int .u64 ((x.val / 340282366920938463463374607431768211456 % 18446744073709551616 : Nat) : Int), .int .u64 ((x.val / 6277101735386680763835789423207666416102355444464034512896 % 18446744073709551616 : Nat) : Int)] := rfl
    rw [h2] at he
    simp only [Value.agg.injEq, Array.mk.injEq, List.cons.injEq, Value.int.injEq, true_and, and_true, Int.ofNat_inj] at he
    obtain ⟨rfl, rfl, rfl, rfl⟩ := he
    rfl)
theorem u31 : (Try.prog.underlying 31).map (·.isRow) = some false := by kernel_rfl
theorem and1 (n r : Nat) (hr : n % 2 = r) (w : World) : (binOp .and 31 (.int .u64 ((n % 18446744073709551616 : Nat) : Int)) (.int .u64 1)).run Try.prog w = .ok (.int .u64 (r : Int)) w := by
  have h := and_one (n % 18446744073709551616) (Nat.mod_lt _ (by decide))
  rw [show n % 18446744073709551616 % 2 = r by omega] at h
  generalize n % 18446744073709551616 = k at h ⊢
  go_simp
theorem cat (m : UInt8) (n : Nat) (w : World) : (binOp .add 9 (.string ⟨#[m]⟩) (.string ⟨bx n⟩)).run Try.prog w = .ok (.string ⟨#[m] ++ bx n⟩) w := by
  have h := bx_size n
  generalize bx n = b at h ⊢
  have h2 : (⟨#[m]⟩ : ByteArray) ++ ⟨b⟩ = ⟨#[m] ++ b⟩ := by
    have h3 : ((⟨#[m]⟩ : ByteArray) ++ ⟨b⟩).data = #[m] ++ b := ByteArray.data_append
    rw [← h3]
  go_simp
theorem bs1 (m : Int) (w : World) : (Instr.buildSlice 23 1 #[(0, .int .u8 m)]).run Try.prog w = .ok (.slice (some ⟨w.heap.size, 0, none⟩) 1 1) (w.alloc (.cells #[.int .u8 m] 5)) := by
  obtain ⟨ie, hie, he⟩ := Option.map_eq_some_iff.1 info5b
  simp only [Prod.mk.injEq] at he
  obtain ⟨h1, h2, -⟩ := he
  exact run_buildSlice w 23 5 1 _ #[.int .u8 m] ie (.int .u8 0) und23 hie h1 (by rw [h2]; omega) (by rw [h2]; omega) (by rw [h2]; kernel_rfl)
theorem str1 (m : UInt8) (w : World) (k : Nat) (h : w.rangeAt k 0 [.int .u8 (ub m)]) : (convert 23 9 (.slice (some ⟨k, 0, none⟩) 1 1)).run Try.prog w = .ok (.string ⟨#[m]⟩) w := by
  have h2 := run_convert_bytes_back (P := Try.prog) w 23 9 5 ⟨k, 0, none⟩ 1 [m] slice22 int5 str9 (fun j hj => by
    obtain rfl : j = 0 := by simpa using hj
    have h3 := h 0 _ rfl
    have e1 : (⟨k, 0, none⟩ : Addr).add 0 = ⟨k, 0, none⟩ := rfl
    rw [e1, h3]
    simp [ub])
  simpa using h2
omit [NeZero P] in
theorem words3 (x y z : Fin P) : ∃ a1 b1 c1 d1 a2 b2 c2 d2 a3 b3 c3 d3 : Nat, rv x y z = .agg #[.int .u64 (a1 : Int), .int .u64 (b1 : Int), .int .u64 (c1 : Int), .int .u64 (d1 : Int), .int .u64 (a2 : Int), .int .u64 (b2 : Int), .int .u64 (c2 : Int), .int .u64 (d2 : Int), .int .u64 (a3 : Int), .int .u64 (b3 : Int), .int .u64 (c3 : Int), .int .u64 (d3 : Int)] :=
  ⟨_, _, _, _, _, _, _, _, _, _, _, _, rfl⟩
set_option maxHeartbeats 2000000 in
set_option maxRecDepth 100000 in
theorem rWr_z (C : Fl3 P) (x y z : Fin P) (hz : z = 0) : Gives 38 #[rv x y z] (.string ⟨zs33⟩) := by
  intro w
  have hI := Is_t_c C x y z hz
  obtain ⟨a1, b1, c1, d1, a2, b2, c2, d2, a3, b3, c3, d3, e⟩ := words3 x y z
  rw [e] at hI ⊢
  have hmk := mk33
  go_enter Try.func38, Try.ntmps38
  go_wp2_with fail
  refine (hI _).mono ?_
  rintro e w1 ⟨v, rfl, hb1, rfl⟩
  have HB : Hid (Below w.heap.size w w1) := (below1 w _).trans (hb1.mono (by simp))
  have hcv : (convert 23 9 (.slice (some ⟨w1.heap.size, 0, none⟩) 33 33)).run Try.prog (w1.alloc (.cells (madeCells #[.int .u8 0] 33) 5)) = .ok (.string ⟨zs33⟩) (w1.alloc (.cells (madeCells #[.int .u8 0] 33) 5)) :=
    conv_str Try.prog 23 9 5 slice22 int5 str9 _ _ 0 33 33 _ (Holds.made (enc := encB) w1 5 33 (0 : UInt8)) (by decide)
  clear hb1 hI
  go_wp2
  go_ret
  exact ⟨_, rfl, HB.out.trans ((below1 w1 _).mono HB.out.size), rfl⟩
end Go.Proofs.Ytbimbalfdmffaab
namespace Go.Proofs.Ytbimbalfdmffaab
open Go.RowKit Go.Sort Go.Deep
variable {P : Nat} [NeZero P]
def F380_0 (x : Fin P) : List RG.It := [.m 1 [] 0, .x 2 [] (.string ⟨#[]⟩)]
def F380_1 (x y z : Fin P) : List RG.It := [.x 7 [] (rv x y z), .c 8 [(7, 0)] (.bool false), .x 3 [(8, 1)] (.bool false)]
def F380_2 (x : Fin P) : List RG.It := [.x 9 [] (.bool false)]
def F380_4 (x z c1 : Fin P) : List RG.It := [.c 12 [] rv0, .s 13 [] (.p 0 8), .x 14 [(13, 1)] (fv z), .c 15 [(12, 0), (14, 2)] (fv c1), .m 4 [] 1, .u [(4, 4), (15, 3)] 1]
def F380_5 (x c1 c2 : Fin P) : List RG.It := [.c 16 [] rv0, .s 17 [] (.p 0 0), .x 18 [(17, 1)] (fv x), .x 19 [] (fv c1), .c 20 [(16, 0), (18, 2), (19, 3)] (fv c2), .m 5 [] 2, .u [(5, 5), (20, 4)] 2]
def F380_6 (x y c1 c3 : Fin P) : List RG.It := [.c 21 [] rv0, .s 22 [] (.p 0 4), .x 23 [(22, 1)] (fv y), .x 24 [] (fv c1), .c 25 [(21, 0), (23, 2), (24, 3)] (fv c3), .m 6 [] 3, .u [(6, 5), (25, 4)] 3]
def F380_7 (x c2 c3 : Fin P) : List RG.It := [.s 26 [] (.p 3 0), .x 27 [(26, 0)] (.int .u64 ((c3.val % 18446744073709551616 : Nat) : Int)), .x 28 [(27, 1)] (.int .u64 0), .x 29 [(28, 2)] (.int .u8 0), .x 30 [(29, 3)] (.int .u8 2), ⟨some 31, [(30, 4)], (.s 4 1 1), .make 4⟩, .x 32 [(31, 5)] (.string ⟨#[2]⟩), .x 33 [] (fv c2), .c 34 [(33, 7)] (.string ⟨bx c2.val⟩), .x 35 [(32, 6), (34, 8)] (.string ⟨#[2] ++ bx c2.val⟩), .x 2 [(35, 9)] (.string ⟨#[2] ++ bx c2.val⟩)]
set_option maxHeartbeats 2000000 in
set_option maxRecDepth 100000 in
theorem rWr_0_c (C : Fl3 P) (x y z : Fin P)(hz : ¬ z = 0) (hpar : (y * EC.inv z).val % 2 = 0)  : Gives 38 #[(rv x y z)] (.string ⟨#[2] ++ bx (x * EC.inv z).val⟩) := by
  intro w
  obtain ⟨c1, hc1⟩ : ∃ c, c = EC.inv z := ⟨_, rfl⟩
  obtain ⟨c2, hc2⟩ : ∃ c, c = x * c1 := ⟨_, rfl⟩
  obtain ⟨c3, hc3⟩ : ∃ c, c = y * c1 := ⟨_, rfl⟩
  have hfin : ((.string ⟨#[2] ++ bx c2.val⟩) : Value) = (.string ⟨#[2] ++ bx (x * EC.inv z).val⟩) := by
    subst_vars; rfl
  rw [← hfin]
  go_enter Try.func38, Try.ntmps38
  refine RG.M.enter [(0, (.v (rv x y z)))] 36 (by kernel_rfl) ?_
  intro a0 M0
  repeat refine wp_seq ?_
  refine M0.tx (F380_0 x) [(0, (ws x ++ (ws y ++ (ws z))))] [] [(ws x ++ (ws y ++ (ws z)))] [(1, (.p 0 0)), (2, (.v (.string ⟨#[]⟩)))] (by kernel_rfl) (by kernel_rfl) ⟨RG.mk 0 56 fun _ _ => by kernel_rfl, RG.st fun _ _ => by kernel_rfl, trivial⟩ ?_
  intro j1 a1 w1 M1
  repeat refine wp_seq ?_
  refine M1.tx0 (F380_1 x y z) [(1, (.p 0 0)), (2, (.v (.string ⟨#[]⟩))), (3, (.v (.bool false)))] (by kernel_rfl) ⟨RG.ld u56 i56 (by kernel_rfl), RG.cl (Is_f_c C x y z hz) fun _ _ => by kernel_rfl, RG.st fun _ _ => by kernel_rfl, trivial⟩ ?_
  intro a2 w2 M2
  repeat refine wp_seq ?_
  refine M2.tx0 (F380_2 x) [(1, (.p 0 0)), (2, (.v (.string ⟨#[]⟩))), (9, (.v (.bool false)))] (by kernel_rfl) ⟨RG.st fun _ _ => by kernel_rfl, trivial⟩ ?_
  intro a3 w3 M3
  repeat refine wp_seq ?_
  refine wp_cond_false (M3.ev (by kernel_rfl)) ?_
  refine wp_skip ?_
  repeat refine wp_seq ?_
  refine M3.dr (by kernel_rfl) (F380_4 x z c1) [(4, (RG.z 4))] [(1, 5, (ws c1))] [(ws x ++ (ws y ++ (ws z))), (ws c1)] [(1, (.p 0 0)), (2, (.v (.string ⟨#[]⟩))), (4, (.p 1 0))] (by kernel_rfl) (by kernel_rfl) ⟨RG.cl (F3_c) fun _ _ => by kernel_rfl, RG.st fun _ _ => by kernel_rfl, RG.ld u33 i33 (by kernel_rfl), RG.cl ((rInv_c C z).e hc1) fun _ _ => by kernel_rfl, RG.mk 1 33 fun _ _ => by kernel_rfl, RG.pt i33 (by kernel_rfl), trivial⟩ ?_
  intro j4 a4 w4 M4
  repeat refine wp_seq ?_
  refine M4.dr (by kernel_rfl) (F380_5 x c1 c2) [(5, (RG.z 4))] [(2, 6, (ws c2))] [(ws x ++ (ws y ++ (ws z))), (ws c1), (ws c2)] [(1, (.p 0 0)), (2, (.v (.string ⟨#[]⟩))), (4, (.p 1 0)), (5, (.p 2 0))] (by kernel_rfl) (by kernel_rfl) ⟨RG.cl (F3_c) fun _ _ => by kernel_rfl, RG.st fun _ _ => by kernel_rfl, RG.ld u33 i33 (by kernel_rfl), RG.ld u33 i33 (by kernel_rfl), RG.cl ((rMul_c C x c1).e hc2) fun _ _ => by kernel_rfl, RG.mk 2 33 fun _ _ => by kernel_rfl, RG.pt i33 (by kernel_rfl), trivial⟩ ?_
  intro j5 a5 w5 M5
  repeat refine wp_seq ?_
  refine M5.dr (by kernel_rfl) (F380_6 x y c1 c3) [(5, (RG.z 4))] [(3, 6, (ws c3))] [(ws x ++ (ws y ++ (ws z))), (ws c1), (ws c2), (ws c3)] [(2, (.v (.string ⟨#[]⟩))), (5, (.p 2 0)), (6, (.p 3 0))] (by kernel_rfl) (by kernel_rfl) ⟨RG.cl (F3_c) fun _ _ => by kernel_rfl, RG.st fun _ _ => by kernel_rfl, RG.ld u33 i33 (by kernel_rfl), RG.ld u33 i33 (by kernel_rfl), RG.cl ((rMul_c C y c1).e hc3) fun _ _ => by kernel_rfl, RG.mk 3 33 fun _ _ => by kernel_rfl, RG.pt i33 (by kernel_rfl), trivial⟩ ?_
  intro j6 a6 w6 M6
  repeat refine wp_seq ?_
  refine M6.dr (by kernel_rfl) (F380_7 x c2 c3) [(5, [(.int .u8 2)])] [] [(ws x ++ (ws y ++ (ws z))), (ws c1), (ws c2), (ws c3), [(.int .u8 2)]] [(2, (.v (.string ⟨#[2] ++ bx c2.val⟩)))] (by kernel_rfl) (by kernel_rfl) ⟨RG.cert_idxc rfl 33 6 (.int .i64 0) rfl (.p 3 0) (RG.sx fun _ => by kernel_rfl) (fun μ w => by kernel_rfl), RG.cert_load1 rfl 3 0 _ rfl rfl (by kernel_rfl) 31 26 rfl (.int .u64 ((c3.val % 18446744073709551616 : Nat) : Int)) rfl (RG.sx fun _ => by kernel_rfl) rfl u31, RG.cert_binc rfl .and 31 31 27 (.int .u64 ((c3.val % 18446744073709551616 : Nat) : Int)) (.int .u64 1) (.int .u64 0) rfl rfl (RG.sx fun _ => by kernel_rfl) (fun w => by kernel_rfl) (and1 c3.val 0 (by subst_vars; exact hpar)), RG.cert_conv rfl 31 5 28 (.int .u64 0) (.int .u8 0) rfl rfl (RG.sx fun _ => by kernel_rfl) (fun w => by kernel_rfl), RG.st fun _ _ => by kernel_rfl, RG.cert_bs1 4 rfl _ rfl 23 5 30 (.int .u8 2) rfl rfl (RG.sx fun _ => by kernel_rfl) (bs1 2), RG.cert_str rfl 4 5 _ rfl _ rfl rfl (by kernel_rfl) (by kernel_rfl) 23 9 31 1 (.string ⟨#[2]⟩) rfl rfl (RG.sx fun _ => by kernel_rfl) (fun w k h => str1 2 w k h), RG.ld u33 i33 (by kernel_rfl), RG.cl (rBytes_c C.toFld c2) fun _ _ => by kernel_rfl, RG.cert_bin rfl .add 9 9 32 34 (.string ⟨#[2]⟩) (.string ⟨bx c2.val⟩) (.string ⟨#[2] ++ bx c2.val⟩) rfl rfl (RG.sx fun _ => by kernel_rfl) (RG.sx fun _ => by kernel_rfl) (fun w => by kernel_rfl) (cat 2 _), RG.st fun _ _ => by kernel_rfl, trivial⟩ ?_
  intro j7 a7 w7 M7
  refine wp_ret ?_
  refine bodyPost_ret (v := (.string ⟨#[2] ++ bx c2.val⟩)) (RG.results_t 2 rfl _ (M7.at (s := (.v (.string ⟨#[2] ++ bx c2.val⟩))) (by kernel_rfl))) M7.sl.defers ?_
  exact ⟨_, rfl, M7.st.bel.below, rfl⟩
def F381_0 (x : Fin P) : List RG.It := [.m 1 [] 0, .x 2 [] (.string ⟨#[]⟩)]
def F381_1 (x y z : Fin P) : List RG.It := [.x 7 [] (rv x y z), .c 8 [(7, 0)] (.bool false), .x 3 [(8, 1)] (.bool false)]
def F381_2 (x : Fin P) : List RG.It := [.x 9 [] (.bool false)]
def F381_4 (x z c1 : Fin P) : List RG.It := [.c 12 [] rv0, .s 13 [] (.p 0 8), .x 14 [(13, 1)] (fv z), .c 15 [(12, 0), (14, 2)] (fv c1), .m 4 [] 1, .u [(4, 4), (15, 3)] 1]
def F381_5 (x c1 c2 : Fin P) : List RG.It := [.c 16 [] rv0, .s 17 [] (.p 0 0), .x 18 [(17, 1)] (fv x), .x 19 [] (fv c1), .c 20 [(16, 0), (18, 2), (19, 3)] (fv c2), .m 5 [] 2, .u [(5, 5), (20, 4)] 2]
def F381_6 (x y c1 c3 : Fin P) : List RG.It := [.c 21 [] rv0, .s 22 [] (.p 0 4), .x 23 [(22, 1)] (fv y), .x 24 [] (fv c1), .c 25 [(21, 0), (23, 2), (24, 3)] (fv c3), .m 6 [] 3, .u [(6, 5), (25, 4)] 3]
def F381_7 (x c2 c3 : Fin P) : List RG.It := [.s 26 [] (.p 3 0), .x 27 [(26, 0)] (.int .u64 ((c3.val % 18446744073709551616 : Nat) : Int)), .x 28 [(27, 1)] (.int .u64 1), .x 29 [(28, 2)] (.int .u8 1), .x 30 [(29, 3)] (.int .u8 3), ⟨some 31, [(30, 4)], (.s 4 1 1), .make 4⟩, .x 32 [(31, 5)] (.string ⟨#[3]⟩), .x 33 [] (fv c2), .c 34 [(33, 7)] (.string ⟨bx c2.val⟩), .x 35 [(32, 6), (34, 8)] (.string ⟨#[3] ++ bx c2.val⟩), .x 2 [(35, 9)] (.string ⟨#[3] ++ bx c2.val⟩)]
set_option maxHeartbeats 2000000 in
set_option maxRecDepth 100000 in
theorem rWr_1_c (C : Fl3 P) (x y z : Fin P)(hz : ¬ z = 0) (hpar : (y * EC.inv z).val % 2 = 1)  : Gives 38 #[(rv x y z)] (.string ⟨#[3] ++ bx (x * EC.inv z).val⟩) := by
  intro w
  obtain ⟨c1, hc1⟩ : ∃ c, c = EC.inv z := ⟨_, rfl⟩
  obtain ⟨c2, hc2⟩ : ∃ c, c = x * c1 := ⟨_, rfl⟩
  obtain ⟨c3, hc3⟩ : ∃ c, c = y * c1 := ⟨_, rfl⟩
  have hfin : ((.string ⟨#[3] ++ bx c2.val⟩) : Value) = (.string ⟨#[3] ++ bx (x * EC.inv z).val⟩) := by
    subst_vars; rfl
  rw [← hfin]
  go_enter Try.func38, Try.ntmps38
  refine RG.M.enter [(0, (.v (rv x y z)))] 36 (by kernel_rfl) ?_
  intro a0 M0
  repeat refine wp_seq ?_
  refine M0.tx (F381_0 x) [(0, (ws x ++ (ws y ++ (ws z))))] [] [(ws x ++ (ws y ++ (ws z)))] [(1, (.p 0 0)), (2, (.v (.string ⟨#[]⟩)))] (by kernel_rfl) (by kernel_rfl) ⟨RG.mk 0 56 fun _ _ => by kernel_rfl, RG.st fun _ _ => by kernel_rfl, trivial⟩ ?_
  intro j1 a1 w1 M1
  repeat refine wp_seq ?_
  refine M1.tx0 (F381_1 x y z) [(1, (.p 0 0)), (2, (.v (.string ⟨#[]⟩))), (3, (.v (.bool false)))] (by kernel_rfl) ⟨RG.ld u56 i56 (by kernel_rfl), RG.cl (Is_f_c C x y z hz) fun _ _ => by kernel_rfl, RG.st fun _ _ => by kernel_rfl, trivial⟩ ?_
  intro a2 w2 M2
  repeat refine wp_seq ?_
  refine M2.tx0 (F381_2 x) [(1, (.p 0 0)), (2, (.v (.string ⟨#[]⟩))), (9, (.v (.bool false)))] (by kernel_rfl) ⟨RG.st fun _ _ => by kernel_rfl, trivial⟩ ?_
  intro a3 w3 M3
  repeat refine wp_seq ?_
  refine wp_cond_false (M3.ev (by kernel_rfl)) ?_
  refine wp_skip ?_
  repeat refine wp_seq ?_
  refine M3.dr (by kernel_rfl) (F381_4 x z c1) [(4, (RG.z 4))] [(1, 5, (ws c1))] [(ws x ++ (ws y ++ (ws z))), (ws c1)] [(1, (.p 0 0)), (2, (.v (.string ⟨#[]⟩))), (4, (.p 1 0))] (by kernel_rfl) (by kernel_rfl) ⟨RG.cl (F3_c) fun _ _ => by kernel_rfl, RG.st fun _ _ => by kernel_rfl, RG.ld u33 i33 (by kernel_rfl), RG.cl ((rInv_c C z).e hc1) fun _ _ => by kernel_rfl, RG.mk 1 33 fun _ _ => by kernel_rfl, RG.pt i33 (by kernel_rfl), trivial⟩ ?_
  intro j4 a4 w4 M4
  repeat refine wp_seq ?_
  refine M4.dr (by kernel_rfl) (F381_5 x c1 c2) [(5, (RG.z 4))] [(2, 6, (ws c2))] [(ws x ++ (ws y ++ (ws z))), (ws c1), (ws c2)] [(1, (.p 0 0)), (2, (.v (.string ⟨#[]⟩))), (4, (.p 1 0)), (5, (.p 2 0))] (by kernel_rfl) (by kernel_rfl) ⟨RG.cl (F3_c) fun _ _ => by kernel_rfl, RG.st fun _ _ => by kernel_rfl, RG.ld u33 i33 (by kernel_rfl), RG.ld u33 i33 (by kernel_rfl), RG.cl ((rMul_c C x c1).e hc2) fun _ _ => by kernel_rfl, RG.mk 2 33 fun _ _ => by kernel_rfl, RG.pt i33 (by kernel_rfl), trivial⟩ ?_
  intro j5 a5 w5 M5
  repeat refine wp_seq ?_
  refine M5.dr (by kernel_rfl) (F381_6 x y c1 c3) [(5, (RG.z 4))] [(3, 6, (ws c3))] [(ws x ++ (ws y ++ (ws z))), (ws c1), (ws c2), (ws c3)] [(2, (.v (.string ⟨#[]⟩))), (5, (.p 2 0)), (6, (.p 3 0))] (by kernel_rfl) (by kernel_rfl) ⟨RG.cl (F3_c) fun _ _ => by kernel_rfl, RG.st fun _ _ => by kernel_rfl, RG.ld u33 i33 (by kernel_rfl), RG.ld u33 i33 (by kernel_rfl), RG.cl ((rMul_c C y c1).e hc3) fun _ _ => by kernel_rfl, RG.mk 3 33 fun _ _ => by kernel_rfl, RG.pt i33 (by kernel_rfl), trivial⟩ ?_
  intro j6 a6 w6 M6
  repeat refine wp_seq ?_
  refine M6.dr (by kernel_rfl) (F381_7 x c2 c3) [(5, [(.int .u8 3)])] [] [(ws x ++ (ws y ++ (ws z))), (ws c1), (ws c2), (ws c3), [(.int .u8 3)]] [(2, (.v (.string ⟨#[3] ++ bx c2.val⟩)))] (by kernel_rfl) (by kernel_rfl) ⟨RG.cert_idxc rfl 33 6 (.int .i64 0) rfl (.p 3 0) (RG.sx fun _ => by kernel_rfl) (fun μ w => by kernel_rfl), RG.cert_load1 rfl 3 0 _ rfl rfl (by kernel_rfl) 31 26 rfl (.int .u64 ((c3.val % 18446744073709551616 : Nat) : Int)) rfl (RG.sx fun _ => by kernel_rfl) rfl u31, RG.cert_binc rfl .and 31 31 27 (.int .u64 ((c3.val % 18446744073709551616 : Nat) : Int)) (.int .u64 1) (.int .u64 1) rfl rfl (RG.sx fun _ => by kernel_rfl) (fun w => by kernel_rfl) (and1 c3.val 1 (by subst_vars; exact hpar)), RG.cert_conv rfl 31 5 28 (.int .u64 1) (.int .u8 1) rfl rfl (RG.sx fun _ => by kernel_rfl) (fun w => by kernel_rfl), RG.st fun _ _ => by kernel_rfl, RG.cert_bs1 4 rfl _ rfl 23 5 30 (.int .u8 3) rfl rfl (RG.sx fun _ => by kernel_rfl) (bs1 3), RG.cert_str rfl 4 5 _ rfl _ rfl rfl (by kernel_rfl) (by kernel_rfl) 23 9 31 1 (.string ⟨#[3]⟩) rfl rfl (RG.sx fun _ => by kernel_rfl) (fun w k h => str1 3 w k h), RG.ld u33 i33 (by kernel_rfl), RG.cl (rBytes_c C.toFld c2) fun _ _ => by kernel_rfl, RG.cert_bin rfl .add 9 9 32 34 (.string ⟨#[3]⟩) (.string ⟨bx c2.val⟩) (.string ⟨#[3] ++ bx c2.val⟩) rfl rfl (RG.sx fun _ => by kernel_rfl) (RG.sx fun _ => by kernel_rfl) (fun w => by kernel_rfl) (cat 3 _), RG.st fun _ _ => by kernel_rfl, trivial⟩ ?_
  intro j7 a7 w7 M7
  refine wp_ret ?_
  refine bodyPost_ret (v := (.string ⟨#[3] ++ bx c2.val⟩)) (RG.results_t 2 rfl _ (M7.at (s := (.v (.string ⟨#[3] ++ bx c2.val⟩))) (by kernel_rfl))) M7.sl.defers ?_
  exact ⟨_, rfl, M7.st.bel.below, rfl⟩
end Go.Proofs.Ytbimbalfdmffaab
namespace Go.Proofs.Ytbimbalfdmffaab
open Go.RowKit Go.Sort
variable {P : Nat} [NeZero P]
/-- A point's bytes. -/
def wr : EC.Pt P → Bs
  | none => zs33
  | some (x, y) => #[mark y.val] ++ bx x.val
theorem by33_wr (C : Fld P) {x y : Fin P} {p : EC.Pt P} (h : EC.Pair x y p) (ho : EC.On p) : by33 x y = wr p := by
  unfold by33
  match p, h, ho with
  | none, h, _ => rw [if_pos (show x = 0 ∧ y = 0 from h)]; rfl
  | some (a, b), h, ho =>
    obtain ⟨rfl, rfl⟩ := h
    rw [if_neg (fun e => C.cur.y_ne ho e.2)]
    rfl
theorem rWritten_c (C : Fl3 P) {t : T3 P} {p : EC.Pt P} (h : FracT t p) : Gives 38 #[tv t] (.string ⟨wr p⟩) := by
  obtain ⟨x, y, z⟩ := t
  match p, h with
  | none, h => exact rWr_z C x y z h.1
  | some (a, b), h =>
    obtain ⟨⟨hz, hx, hy⟩, ho⟩ := h
    have hi := EC.inv_mul C.toFld.cur.pr hz
    have e1 : x * EC.inv z = a := by
      have hx : x = a * z := hx
      rw [hx]
      grobner
    have e2 : y * EC.inv z = b := by
      have hy : y = b * z := hy
      rw [hy]
      grobner
    show Gives _ #[rv x y z] (.string ⟨#[mark b.val] ++ bx a.val⟩)
    rw [← e1, ← e2]
    unfold mark
    by_cases hp : (y * EC.inv z).val % 2 = 1
    · rw [if_pos hp]
      exact rWr_1_c C x y z hz hp
    · rw [if_neg hp]
      exact rWr_0_c C x y z hz (by omega)
end Go.Proofs.Ytbimbalfdmffaab
namespace Go.Proofs.Ytbimbalfdmffaab
open Go.RowKit Go.Sort
variable {P : Nat} [NeZero P]
def rl1 : List Value := [.int .u64 13822214165235122497, .int .u64 13451932020343611451, .int .u64 18446744073709551614, .int .u64 18446744073709551615, .int .u64 4624529908474429119, .int .u64 4994812053365940164, .int .u64 1, .int .u64 0]
def rv1 : Value := .agg rl1.toArray
theorem rMake1_c : Gives 16 #[.int .i64 1] rv1 := fun w => (rMake1 w).mono (by rintro e w' ⟨v, rfl, hb, rfl⟩; exact ⟨_, rfl, hb, rfl⟩)
def F32_0 : List RG.It := [.m 0 [] 0]
def F32_1 : List RG.It := [.c 1 [] rv1, .u [(1, 0)] 0]
set_option maxHeartbeats 2000000 in
set_option maxRecDepth 100000 in
theorem Q3_c  : Gives 32 #[] rv1 := by
  intro w
  go_enter Try.func32, Try.ntmps32
  refine RG.M.enter [] 2 (by kernel_rfl) ?_
  intro a0 M0
  repeat refine wp_seq ?_
  refine M0.tx F32_0 [(0, (RG.z 8))] [] [(RG.z 8)] [(0, (.p 0 0))] (by kernel_rfl) (by kernel_rfl) ⟨RG.mk 0 35 fun _ _ => by kernel_rfl, trivial⟩ ?_
  intro j1 a1 w1 M1
  repeat refine wp_seq ?_
  refine M1.tx F32_1 [] [(0, 1, rl1)] [rl1] [(0, (.p 0 0))] (by kernel_rfl) (by kernel_rfl) ⟨RG.cl (rMake1_c) fun _ _ => by kernel_rfl, RG.pt i35 (by kernel_rfl), trivial⟩ ?_
  intro a2 w2 M2
  refine wp_ret ?_
  refine bodyPost_ret (v := rv1) (RG.results_row M2.st 0 35 rfl 0 _ rfl (M2.at (s := (.p 0 0)) (by kernel_rfl)) u35 i35) M2.sl.defers ?_
  exact ⟨_, rfl, M2.st.bel.below, rfl⟩
end Go.Proofs.Ytbimbalfdmffaab
namespace Go.Proofs.Ytbimbalfdmffaab
open Go.RowKit Go.Sort
variable {P : Nat} [NeZero P]
theorem geq0 (i : Nat) (w : World) : (binOp .geq 3 (.int .i64 (i : Int)) (.int .i64 0)).run Try.prog w = .ok (.bool true) w := by
  go_simp
theorem sub1 (i : Nat) (hi : i < 1000) (w : World) : (binOp .sub 3 (.int .i64 (i : Int)) (.int .i64 1)).run Try.prog w = .ok (.int .i64 ((i : Int) - 1)) w := by
  have h := IntWalk.i64_in ((i : Int) - 1) (by omega)
  go_simp
theorem rBit_1 {n i : Nat} (hn : n < top) (hi : i < 256) (h : n / 2 ^ i % 2 = 1) : Gives 65 #[nv n, .int .i64 (i : Int)] (.int .u64 1) := fun w =>
  (rBit_any _ n i (four_nv hn) hi w).mono (by rintro e w' ⟨v, rfl, hb, t, rfl, ht⟩; exact ⟨_, rfl, hb, by rw [ht, h]; rfl⟩)
theorem rBit_0 {n i : Nat} (hn : n < top) (hi : i < 256) (h : ¬ n / 2 ^ i % 2 = 1) : Gives 65 #[nv n, .int .i64 (i : Int)] (.int .u64 0) := fun w =>
  (rBit_any _ n i (four_nv hn) hi w).mono (by rintro e w' ⟨v, rfl, hb, t, rfl, ht⟩; exact ⟨_, rfl, hb, by rw [ht, show n / 2 ^ i % 2 = 0 by omega]; rfl⟩)
def F40_0 : List RG.It := [.m 2 [] 0, .m 3 [] 1, .m 4 [] 2]
def F40_1 : List RG.It := [.c 7 [] (tv ((0, 1, 0) : T3 P)), .m 5 [] 3, .u [(5, 1), (7, 0)] 3]
def F40_2 : List RG.It := [.x 6 [] (.int .i64 255)]
def F40a_3 (i : Nat) : List RG.It := [.x 8 [] (.int .i64 (i : Int)), .x 9 [(8, 0)] (.bool true)]
def F40a_5 (s s2 : T3 P) : List RG.It := [.x 12 [] (tv s), .x 13 [] (tv s), .c 14 [(12, 0), (13, 1)] (tv s2), .u [(14, 2)] 3]
def F40a_6 (n i : Nat) : List RG.It := [.x 15 [] (nv n), .x 16 [] (.int .i64 (i : Int)), .c 17 [(15, 0), (16, 1)] (.int .u64 1), .x 18 [(17, 2)] (.bool true)]
def F40a_7 (t s2 s3 : T3 P) : List RG.It := [.x 19 [] (tv s2), .x 20 [] (tv t), .c 21 [(19, 0), (20, 1)] (tv s3), .u [(21, 2)] 3]
def F40a_4 (i : Nat) : List RG.It := [.x 10 [] (.int .i64 (i : Int)), .x 11 [(10, 0)] (.int .i64 ((i : Int) - 1)), .x 6 [(11, 1)] (.int .i64 ((i : Int) - 1))]
def F40b_3 (i : Nat) : List RG.It := [.x 8 [] (.int .i64 (i : Int)), .x 9 [(8, 0)] (.bool true)]
def F40b_5 (s s2 : T3 P) : List RG.It := [.x 12 [] (tv s), .x 13 [] (tv s), .c 14 [(12, 0), (13, 1)] (tv s2), .u [(14, 2)] 3]
def F40b_6 (n i : Nat) : List RG.It := [.x 15 [] (nv n), .x 16 [] (.int .i64 (i : Int)), .c 17 [(15, 0), (16, 1)] (.int .u64 0), .x 18 [(17, 2)] (.bool false)]
def F40b_4 (i : Nat) : List RG.It := [.x 10 [] (.int .i64 (i : Int)), .x 11 [(10, 0)] (.int .i64 ((i : Int) - 1)), .x 6 [(11, 1)] (.int .i64 ((i : Int) - 1))]
def F40c_3 : List RG.It := [.x 8 [] (.int .i64 (-1)), .x 9 [(8, 0)] (.bool false)]
def F40c_8 (s : T3 P) : List RG.It := [.x 22 [] (tv s), .u [(22, 0)] 2]
set_option maxHeartbeats 2000000 in
set_option maxRecDepth 100000 in
theorem rTimes_c (C : Fl3 P) (n : Nat) (hn : n < top) (t : T3 P) {p : EC.Pt P} (h : FracT t p) : Gives 40 #[nv n, tv t] (tv (tmF n t 256)) := by
  intro w
  go_enter Try.func40, Try.ntmps40
  refine RG.var2 (v0 := nv n) (v1 := tv t) (n := 23) (by kernel_rfl) (by kernel_rfl) (by kernel_rfl) (by kernel_rfl) ?_
  intro a0 sl0 f0 f1
  have hS0 := RG.St.begin w
  have M0 : RG.M w w.heap.size [] 23 [] [] [(0, (.v (nv n))), (1, (.v (tv t)))] a0 _ := ⟨hS0, sl0, ⟨f0, f1, trivial⟩⟩
  repeat refine wp_seq ?_
  refine M0.tx F40_0 [(0, (wn n)), (1, (tw t)), (2, (RG.z 12))] [] [(wn n), (tw t), (RG.z 12)] [(2, (.p 0 0)), (3, (.p 1 0)), (4, (.p 2 0))] (by kernel_rfl) (by kernel_rfl) ⟨RG.mk 0 33 fun _ _ => by kernel_rfl, RG.mk 1 56 fun _ _ => by kernel_rfl, RG.mk 2 56 fun _ _ => by kernel_rfl, trivial⟩ ?_
  intro j1 i1 m1 a1 w1 M1
  repeat refine wp_seq ?_
  refine M1.tx (F40_1 (P := P)) [(1, (RG.z 12))] [(3, 2, (tw ((0, 1, 0) : T3 P)))] [(wn n), (tw t), (RG.z 12), (tw ((0, 1, 0) : T3 P))] [(2, (.p 0 0)), (3, (.p 1 0)), (4, (.p 2 0)), (5, (.p 3 0))] (by kernel_rfl) (by kernel_rfl) ⟨RG.cl (None_c C) fun _ _ => by kernel_rfl, RG.mk 3 56 fun _ _ => by kernel_rfl, RG.pt i56 (by kernel_rfl), trivial⟩ ?_
  intro j2 a2 w2 M2
  repeat refine wp_seq ?_
  refine M2.tx0 F40_2 [(2, (.p 0 0)), (3, (.p 1 0)), (4, (.p 2 0)), (5, (.p 3 0)), (6, (.v (.int .i64 255)))] (by kernel_rfl) ⟨RG.st fun _ _ => by kernel_rfl, trivial⟩ ?_
  intro a3 w3 M3
  have hS3 : RG.St w w.heap.size [] [(wn n), (tw t), (RG.z 12), (tw ((0, 1, 0) : T3 P))] [j1, i1, m1, j2] _ := M3.st
  have sl3 := M3.sl
  have f2_3 : a3.tmps[2]? = some (.pointer (some ⟨j1, 0, none⟩)) := M3.at (s := (.p 0 0)) (by kernel_rfl)
  have f3_3 : a3.tmps[3]? = some (.pointer (some ⟨i1, 0, none⟩)) := M3.at (s := (.p 1 0)) (by kernel_rfl)
  have f4_3 : a3.tmps[4]? = some (.pointer (some ⟨m1, 0, none⟩)) := M3.at (s := (.p 2 0)) (by kernel_rfl)
  have f5_3 : a3.tmps[5]? = some (.pointer (some ⟨j2, 0, none⟩)) := M3.at (s := (.p 3 0)) (by kernel_rfl)
  have f6_3 : a3.tmps[6]? = some (.int .i64 255) := M3.at (s := (.v (.int .i64 255))) (by kernel_rfl)
  repeat refine wp_seq ?_
  refine wp_block ?_
  refine wp_loop_ghost (fun m a wr => m ≤ 256 ∧ RG.Sl a 23 ∧ a.tmps[2]? = some (.pointer (some ⟨j1, 0, none⟩)) ∧ a.tmps[3]? = some (.pointer (some ⟨i1, 0, none⟩)) ∧ a.tmps[4]? = some (.pointer (some ⟨m1, 0, none⟩)) ∧ a.tmps[5]? = some (.pointer (some ⟨j2, 0, none⟩)) ∧ a.tmps[6]? = some (.int .i64 ((m : Int) - 1)) ∧ RG.St w w.heap.size [] [wn n, tw t, [.int .u64 0, .int .u64 0, .int .u64 0, .int .u64 0, .int .u64 0, .int .u64 0, .int .u64 0, .int .u64 0, .int .u64 0, .int .u64 0, .int .u64 0, .int .u64 0], tw (tmF n t (256 - m))] [j1, i1, m1, j2] wr) 256 ⟨Nat.le_refl _, sl3, f2_3, f3_3, f4_3, f5_3, f6_3, ?_⟩ ?_
  · rw [Nat.sub_self, tmF]
    exact hS3
  intro m a wr
  rintro ⟨hm, sl, f2, f3, f4, f5, f6, hS⟩
  have hn2 : n < 2 ^ 256 := hn
  generalize j1 = k2 at f2 f3 f4 f5 hS
  generalize i1 = k3 at f2 f3 f4 f5 hS
  generalize m1 = k4 at f2 f3 f4 f5 hS
  generalize j2 = k5 at f2 f3 f4 f5 hS
  by_cases hz : m = 0
  · subst hz
    have e256 : tmF n t (256 - 0) = tmF n t 256 := rfl
    rw [e256] at hS
    obtain ⟨s, hs⟩ : ∃ s, tmF n t 256 = s := ⟨_, rfl⟩
    rw [hs] at hS ⊢
    have M0 : RG.M w w.heap.size [] 23 [(wn n), (tw t), (RG.z 12), (tw s)] [k2, k3, k4, k5] [(2, (.p 0 0)), (3, (.p 1 0)), (4, (.p 2 0)), (5, (.p 3 0)), (6, (.v (.int .i64 (-1))))] a _ := ⟨hS, sl, ⟨f2, f3, f4, f5, f6, trivial⟩⟩
    repeat refine wp_seq ?_
    refine M0.tx0 F40c_3 [(4, (.p 2 0)), (5, (.p 3 0)), (9, (.v (.bool false)))] (by kernel_rfl) ⟨RG.st fun _ _ => by kernel_rfl, RG.st fun _ _ => by kernel_rfl, trivial⟩ ?_
    intro a1 w1 M1
    repeat refine wp_seq ?_
    refine wp_cond_false (M1.ev (by kernel_rfl)) ?_
    refine wp_exit ?_
    dsimp only [Exit.then, Exit.inBlock]
    rw [if_pos rfl]
    repeat refine wp_seq ?_
    refine M1.tx (F40c_8 s) [] [(2, 1, (tw s))] [(wn n), (tw t), (tw s), (tw s)] [(4, (.p 2 0))] (by kernel_rfl) (by kernel_rfl) ⟨RG.ld u56 i56 (by kernel_rfl), RG.pt i56 (by kernel_rfl), trivial⟩ ?_
    intro a2 w2 M2
    have hS2 : RG.St w w.heap.size [] [(wn n), (tw t), (tw s), (tw s)] [k2, k3, k4, k5] _ := M2.st
    have sl2 := M2.sl
    have f4_2 : a2.tmps[4]? = some (.pointer (some ⟨k4, 0, none⟩)) := M2.at (s := (.p 2 0)) (by kernel_rfl)
    refine wp_ret ?_
    refine bodyPost_ret (v := tv s) (RG.results_row hS2 4 56 rfl 2 _ rfl f4_2 u56 i56) sl2.defers ?_
    exact ⟨_, rfl, hS2.bel.below, rfl⟩
  · obtain ⟨i, rfl⟩ : ∃ i, m = i + 1 := ⟨m - 1, by omega⟩
    have hi : i < 256 := by omega
    replace f6 : a.tmps[6]? = some (.int .i64 (i : Int)) := by rw [f6]; congr 2; omega
    have ih := tmF_F C hn2 h (256 - (i + 1)) (by omega)
    obtain ⟨s, hs⟩ : ∃ s, tmF n t (256 - (i + 1)) = s := ⟨_, rfl⟩
    rw [hs] at hS ih
    obtain ⟨s2, hs2⟩ : ∃ s2, s2 = plF s s := ⟨_, rfl⟩
    have hp1 := (ih.plus C ih).1
    have ih2 := (ih.plus C ih).2
    rw [← hs2] at hp1 ih2
    obtain ⟨s3, hs3⟩ : ∃ s3, s3 = plF s2 t := ⟨_, rfl⟩
    have hp2 := (ih2.plus C h).1
    rw [← hs3] at hp2
    have hstep : tmF n t (256 - i) = if n / 2 ^ i % 2 = 1 then s3 else s2 := by
      rw [show 256 - i = 256 - (i + 1) + 1 by omega]
      show (if n / 2 ^ (255 - (256 - (i + 1))) % 2 = 1 then plF (plF (tmF n t (256 - (i + 1))) (tmF n t (256 - (i + 1)))) t else plF (tmF n t (256 - (i + 1))) (tmF n t (256 - (i + 1)))) = _
      rw [show 255 - (256 - (i + 1)) = i by omega, hs, ← hs2, ← hs3]
    by_cases hb : n / 2 ^ i % 2 = 1
    · rw [if_pos hb] at hstep
      have M0 : RG.M w w.heap.size [] 23 [(wn n), (tw t), (RG.z 12), (tw s)] [k2, k3, k4, k5] [(2, (.p 0 0)), (3, (.p 1 0)), (4, (.p 2 0)), (5, (.p 3 0)), (6, (.v (.int .i64 (i : Int))))] a _ := ⟨hS, sl, ⟨f2, f3, f4, f5, f6, trivial⟩⟩
      repeat refine wp_seq ?_
      refine M0.tx0 (F40a_3 i) [(2, (.p 0 0)), (3, (.p 1 0)), (4, (.p 2 0)), (5, (.p 3 0)), (6, (.v (.int .i64 (i : Int)))), (9, (.v (.bool true)))] (by kernel_rfl) ⟨RG.st fun _ _ => by kernel_rfl, RG.cert_binc rfl .geq 3 3 8 (.int .i64 (i : Int)) (.int .i64 0) (.bool true) rfl rfl (RG.sx fun _ => by kernel_rfl) (fun w => by kernel_rfl) (geq0 i), trivial⟩ ?_
      intro a1 w1 M1
      repeat refine wp_seq ?_
      refine wp_cond_true (M1.ev (by kernel_rfl)) ?_
      refine wp_skip ?_
      refine wp_seq ?_
      refine wp_block ?_
      repeat refine wp_seq ?_
      refine M1.tx (F40a_5 s s2) [] [(3, 3, (tw s2))] [(wn n), (tw t), (RG.z 12), (tw s2)] [(2, (.p 0 0)), (3, (.p 1 0)), (4, (.p 2 0)), (5, (.p 3 0)), (6, (.v (.int .i64 (i : Int))))] (by kernel_rfl) (by kernel_rfl) ⟨RG.ld u56 i56 (by kernel_rfl), RG.ld u56 i56 (by kernel_rfl), RG.cl (hp1) fun _ _ => by kernel_rfl, RG.pt i56 (by kernel_rfl), trivial⟩ ?_
      intro a2 w2 M2
      repeat refine wp_seq ?_
      refine M2.tx0 (F40a_6 n i) [(2, (.p 0 0)), (3, (.p 1 0)), (4, (.p 2 0)), (5, (.p 3 0)), (6, (.v (.int .i64 (i : Int)))), (18, (.v (.bool true)))] (by kernel_rfl) ⟨RG.ld u33 i33 (by kernel_rfl), RG.st fun _ _ => by kernel_rfl, RG.cl (rBit_1 hn hi hb) fun _ _ => by kernel_rfl, RG.st fun _ _ => by kernel_rfl, trivial⟩ ?_
      intro a3 w3 M3
      repeat refine wp_seq ?_
      refine wp_cond_true (M3.ev (by kernel_rfl)) ?_
      repeat refine wp_seq ?_
      refine M3.tx (F40a_7 t s2 s3) [] [(3, 3, (tw s3))] [(wn n), (tw t), (RG.z 12), (tw s3)] [(2, (.p 0 0)), (3, (.p 1 0)), (4, (.p 2 0)), (5, (.p 3 0)), (6, (.v (.int .i64 (i : Int))))] (by kernel_rfl) (by kernel_rfl) ⟨RG.ld u56 i56 (by kernel_rfl), RG.ld u56 i56 (by kernel_rfl), RG.cl (hp2) fun _ _ => by kernel_rfl, RG.pt i56 (by kernel_rfl), trivial⟩ ?_
      intro a4 w4 M4
      repeat refine wp_seq ?_
      refine M4.tx0 (F40a_4 i) [(2, (.p 0 0)), (3, (.p 1 0)), (4, (.p 2 0)), (5, (.p 3 0)), (6, (.v (.int .i64 ((i : Int) - 1))))] (by kernel_rfl) ⟨RG.st fun _ _ => by kernel_rfl, RG.cert_binc rfl .sub 3 3 10 (.int .i64 (i : Int)) (.int .i64 1) (.int .i64 ((i : Int) - 1)) rfl rfl (RG.sx fun _ => by kernel_rfl) (fun w => by kernel_rfl) (sub1 i (by omega)), RG.st fun _ _ => by kernel_rfl, trivial⟩ ?_
      intro a5 w5 M5
      have hS5 : RG.St w w.heap.size [] [(wn n), (tw t), (RG.z 12), (tw s3)] [k2, k3, k4, k5] _ := M5.st
      have sl5 := M5.sl
      have f2_5 : a5.tmps[2]? = some (.pointer (some ⟨k2, 0, none⟩)) := M5.at (s := (.p 0 0)) (by kernel_rfl)
      have f3_5 : a5.tmps[3]? = some (.pointer (some ⟨k3, 0, none⟩)) := M5.at (s := (.p 1 0)) (by kernel_rfl)
      have f4_5 : a5.tmps[4]? = some (.pointer (some ⟨k4, 0, none⟩)) := M5.at (s := (.p 2 0)) (by kernel_rfl)
      have f5_5 : a5.tmps[5]? = some (.pointer (some ⟨k5, 0, none⟩)) := M5.at (s := (.p 3 0)) (by kernel_rfl)
      have f6_5 : a5.tmps[6]? = some (.int .i64 ((i : Int) - 1)) := M5.at (s := (.v (.int .i64 ((i : Int) - 1)))) (by kernel_rfl)
      show ∃ n', _
      exact ⟨i, Nat.lt_succ_self i, by omega, sl5, f2_5, f3_5, f4_5, f5_5, f6_5, by rw [hstep]; exact hS5⟩
    · rw [if_neg hb] at hstep
      have M0 : RG.M w w.heap.size [] 23 [(wn n), (tw t), (RG.z 12), (tw s)] [k2, k3, k4, k5] [(2, (.p 0 0)), (3, (.p 1 0)), (4, (.p 2 0)), (5, (.p 3 0)), (6, (.v (.int .i64 (i : Int))))] a _ := ⟨hS, sl, ⟨f2, f3, f4, f5, f6, trivial⟩⟩
      repeat refine wp_seq ?_
      refine M0.tx0 (F40b_3 i) [(2, (.p 0 0)), (3, (.p 1 0)), (4, (.p 2 0)), (5, (.p 3 0)), (6, (.v (.int .i64 (i : Int)))), (9, (.v (.bool true)))] (by kernel_rfl) ⟨RG.st fun _ _ => by kernel_rfl, RG.cert_binc rfl .geq 3 3 8 (.int .i64 (i : Int)) (.int .i64 0) (.bool true) rfl rfl (RG.sx fun _ => by kernel_rfl) (fun w => by kernel_rfl) (geq0 i), trivial⟩ ?_
      intro a1 w1 M1
      repeat refine wp_seq ?_
      refine wp_cond_true (M1.ev (by kernel_rfl)) ?_
      refine wp_skip ?_
      refine wp_seq ?_
      refine wp_block ?_
      repeat refine wp_seq ?_
      refine M1.tx (F40b_5 s s2) [] [(3, 3, (tw s2))] [(wn n), (tw t), (RG.z 12), (tw s2)] [(2, (.p 0 0)), (3, (.p 1 0)), (4, (.p 2 0)), (5, (.p 3 0)), (6, (.v (.int .i64 (i : Int))))] (by kernel_rfl) (by kernel_rfl) ⟨RG.ld u56 i56 (by kernel_rfl), RG.ld u56 i56 (by kernel_rfl), RG.cl (hp1) fun _ _ => by kernel_rfl, RG.pt i56 (by kernel_rfl), trivial⟩ ?_
      intro a2 w2 M2
      repeat refine wp_seq ?_
      refine M2.tx0 (F40b_6 n i) [(2, (.p 0 0)), (3, (.p 1 0)), (4, (.p 2 0)), (5, (.p 3 0)), (6, (.v (.int .i64 (i : Int)))), (18, (.v (.bool false)))] (by kernel_rfl) ⟨RG.ld u33 i33 (by kernel_rfl), RG.st fun _ _ => by kernel_rfl, RG.cl (rBit_0 hn hi hb) fun _ _ => by kernel_rfl, RG.st fun _ _ => by kernel_rfl, trivial⟩ ?_
      intro a3 w3 M3
      repeat refine wp_seq ?_
      refine wp_cond_false (M3.ev (by kernel_rfl)) ?_
      refine wp_skip ?_
      repeat refine wp_seq ?_
      refine M3.tx0 (F40b_4 i) [(2, (.p 0 0)), (3, (.p 1 0)), (4, (.p 2 0)), (5, (.p 3 0)), (6, (.v (.int .i64 ((i : Int) - 1))))] (by kernel_rfl) ⟨RG.st fun _ _ => by kernel_rfl, RG.cert_binc rfl .sub 3 3 10 (.int .i64 (i : Int)) (.int .i64 1) (.int .i64 ((i : Int) - 1)) rfl rfl (RG.sx fun _ => by kernel_rfl) (fun w => by kernel_rfl) (sub1 i (by omega)), RG.st fun _ _ => by kernel_rfl, trivial⟩ ?_
      intro a4 w4 M4
      have hS4 : RG.St w w.heap.size [] [(wn n), (tw t), (RG.z 12), (tw s2)] [k2, k3, k4, k5] _ := M4.st
      have sl4 := M4.sl
      have f2_4 : a4.tmps[2]? = some (.pointer (some ⟨k2, 0, none⟩)) := M4.at (s := (.p 0 0)) (by kernel_rfl)
      have f3_4 : a4.tmps[3]? = some (.pointer (some ⟨k3, 0, none⟩)) := M4.at (s := (.p 1 0)) (by kernel_rfl)
      have f4_4 : a4.tmps[4]? = some (.pointer (some ⟨k4, 0, none⟩)) := M4.at (s := (.p 2 0)) (by kernel_rfl)
      have f5_4 : a4.tmps[5]? = some (.pointer (some ⟨k5, 0, none⟩)) := M4.at (s := (.p 3 0)) (by kernel_rfl)
      have f6_4 : a4.tmps[6]? = some (.int .i64 ((i : Int) - 1)) := M4.at (s := (.v (.int .i64 ((i : Int) - 1)))) (by kernel_rfl)
      show ∃ n', _
      exact ⟨i, Nat.lt_succ_self i, by omega, sl4, f2_4, f3_4, f4_4, f5_4, f6_4, by rw [hstep]; exact hS4⟩
end Go.Proofs.Ytbimbalfdmffaab
namespace Go.Proofs.Ytbimbalfdmffaab
open Go.RowKit Go.Sort Go.Deep
variable {P : Nat} [NeZero P]
/-- The point that a pair is. -/
def pt (p : Fin P × Fin P) : EC.Pt P := if p.1 = 0 ∧ p.2 = 0 then none else some p
theorem pair_pt (C : Fld P) {x y : Fin P} {q : EC.Pt P} (h : EC.Pair x y q) (ho : EC.On q) : q = pt (x, y) := by
  unfold pt
  match q, h, ho with
  | none, h, _ => rw [if_pos (show x = 0 ∧ y = 0 from h)]
  | some (a, b), h, ho =>
    obtain ⟨rfl, rfl⟩ := h
    rw [if_neg (fun e => C.cur.y_ne ho e.2)]
theorem rd_on (C : Fld P) {bs : Bs} {p : Fin P × Fin P} (h : rd P bs = some p) : EC.Pair p.1 p.2 (pt p) ∧ EC.On (pt p) := by
  have key : ∃ q : EC.Pt P, EC.Pair p.1 p.2 q ∧ EC.On q := by
    unfold rd at h
    split at h
    · split at h
      · obtain rfl := Option.some.inj h
        exact ⟨none, ⟨rfl, rfl⟩, EC.none_on⟩
      · split at h
        · split at h
          · obtain ⟨y, hr, rfl⟩ := Option.map_eq_some_iff.1 h
            have hsq := rt_sq hr
            refine ⟨some (rdx P bs, if ub bs[0]! = 3 then 0 - y else y), ⟨rfl, rfl⟩, ?_⟩
            split
            · exact on_neg hsq
            · exact on_of hsq
          · cases h
        · cases h
    · cases h
  obtain ⟨q, h1, h2⟩ := key
  have := pair_pt C h1 h2
  rw [show pt p = q from this.symm]
  exact ⟨h1, h2⟩
/-- What Plus answers, by the points. -/
def PlusQ (P : Nat) [NeZero P] (w : World) (az bs : Bs) (e : Value) (w' : World) : Prop := match rd P az, rd P bs with
  | some p, some q => OutP w (wr (EC.add (pt p) (pt q))) e w'
  | _, _ => OutE 4 e
theorem PlusR.q (C : Fld P) {w w' : World} {az bs : Bs} {e : Value} (h : PlusR P w az bs e w') : PlusQ P w az bs e w' := by
  unfold PlusR at h
  unfold PlusQ
  cases h1 : rd P az with
  | none => rw [h1] at h; exact h
  | some p =>
    cases h2 : rd P bs with
    | none => rw [h1, h2] at h; exact h
    | some q =>
      rw [h1, h2] at h
      have hp := rd_on C h1
      have hq := rd_on C h2
      have hJ := (raJ_J C hp.1 hp.2).plus C (raJ_J C hq.1 hq.2)
      have e1 := by33_wr C (hJ.pair C) hJ.2
      dsimp only at h ⊢
      rw [← e1]
      exact h
def MinusQ (P : Nat) [NeZero P] (w : World) (bs : Bs) (e : Value) (w' : World) : Prop := match rd P bs with
  | some p => OutP w (wr (EC.neg (pt p))) e w'
  | none => OutE 4 e
theorem MinusR.q (C : Fld P) {w w' : World} {bs : Bs} {e : Value} (h : MinusR P w bs e w') : MinusQ P w bs e w' := by
  unfold MinusR at h
  unfold MinusQ
  cases h1 : rd P bs with
  | none => rw [h1] at h; exact h
  | some p =>
    rw [h1] at h
    have hp := rd_on C h1
    have hn : EC.Pair p.1 (0 - p.2) (EC.neg (pt p)) := by
      generalize pt p = q at hp
      match q, hp.1 with
      | none, h => exact ⟨h.1, by rw [show p.2 = 0 from h.2]; grobner⟩
      | some (a, b), h => exact ⟨h.1, by rw [show p.2 = b from h.2]; grobner⟩
    have e1 := by33_wr C hn (EC.neg_on hp.2)
    dsimp only at h ⊢
    rw [← e1]
    exact h
def TimesQ (P : Nat) [NeZero P] (N : Nat) (w : World) (az bs : Bs) (e : Value) (w' : World) : Prop := match rq N az, rd P bs with
  | none, _ => OutE 3 e
  | some _, none => OutE 4 e
  | some n, some p => OutP w (wr (EC.mul n (pt p))) e w'
theorem TimesR.q (C : Fld P) {N : Nat} (hN : N ≤ top) {w w' : World} {az bs : Bs} {e : Value} (h : TimesR P N w az bs e w') : TimesQ P N w az bs e w' := by
  unfold TimesR at h
  unfold TimesQ
  cases h1 : rq N az with
  | none => rw [h1] at h; exact h
  | some n =>
    cases h2 : rd P bs with
    | none => rw [h1, h2] at h; exact h
    | some p =>
      rw [h1, h2] at h
      have hp := rd_on C h2
      have hJ := sumJ_all C (N := 1) (ns := fun _ => n) (xs := fun _ => p.1) (ys := fun _ => p.2) (p := fun _ => pt p) (fun _ _ => rq_top hN h1) (fun _ _ => hp.1) (fun _ _ => hp.2)
      have e1 := by33_wr C (hJ.pair C) hJ.2
      have e2 : EC.tot (fun _ => pt p) 1 (fun _ => (n : Int)) = EC.mul n (pt p) := by
        rfl
      rw [e2] at e1
      dsimp only at h ⊢
      rw [← e1]
      exact h
/-- What the reference's Number answers, modulo the order. -/
def NumQR (N : Nat) (bs : Bs) (e : Value) : Prop := match rq N bs with
  | some n => e = .tuple #[nv n, .bool true]
  | none => ∃ m, e = .tuple #[nv m, .bool false]
theorem rNumQ {N : Nat} (hR : RefP 13822214165235122497 13451932020343611451 18446744073709551614 18446744073709551615 4624529908474429119 4994812053365940164 1 0 N) (bs : Bs) (w : World) : Calls Try.prog 17 #[rv1, .string ⟨bs⟩] w (Ret fun e w' => Below w.heap.size w w' ∧ NumQR N bs e) :=
  (rNumber_any _ _ _ _ _ _ _ _ N ⟨bs⟩ hR w).mono (by
    rintro e w' ⟨v, rfl, hb, a, b, c, d, ok, rfl, h1, h2, h3, h4⟩
    refine ⟨_, rfl, hb, ?_⟩
    unfold NumQR rq
    cases ok with
    | true =>
      obtain ⟨hi, hF⟩ := h1 rfl
      rw [if_pos (show bs.size = 32 ∧ beV bs.toList < N from hi)]
      dsimp only
      rw [hF.nv]
    | false =>
      rw [if_neg (show ¬ (bs.size = 32 ∧ beV bs.toList < N) from h2 rfl)]
      by_cases hs : bs.size = 32
      · exact ⟨_, by rw [(h3 hs).nv]⟩
      · obtain ⟨rfl, rfl, rfl, rfl⟩ := h4 hs
        exact ⟨0, rfl⟩)
set_option maxHeartbeats 1000000 in
theorem told3_err (c : Int) (s : ByteArray) (hc : ¬ c = 0) (w : World) :
    Calls Try.prog 41 #[.slice none 0 0, .int .i64 c, .int .i64 c, .string s] w (Ret fun e w' => Below w.heap.size w w' ∧ e = .bool true) := by
  go_enter Try.func41, Try.ntmps41
  go_wp2
  go_ret
  exact ⟨_, rfl, Below.refl _ _, by simp⟩
set_option maxHeartbeats 1000000 in
theorem told3_ok (g cap : Nat) (T : Bs) (w : World) (hT : T.size = 33) (hH : Holds encB w g 0 T) :
    Calls Try.prog 41 #[.slice (some ⟨g, 0, none⟩) 33 cap, .int .i64 0, .int .i64 0, .string ⟨T⟩] w (Ret fun e w' => Below w.heap.size w w' ∧ e = .bool true) := by
  have hcv := conv_str Try.prog 23 9 5 slice22 int5 str9 w g 0 33 cap T hH hT
  have hse := str_eq T
  go_enter Try.func41, Try.ntmps41
  go_wp2
  go_ret
  exact ⟨_, rfl, Below.refl _ _, by simp⟩
omit [NeZero P] in
theorem wr_size (p : EC.Pt P) : (wr p).size = 33 := by
  match p with
  | none => rfl
  | some (x, y) =>
    show (#[mark y.val] ++ bx x.val).size = 33
    rw [Array.size_append, bx_size]
    rfl
end Go.Proofs.Ytbimbalfdmffaab
namespace Go.Proofs.Ytbimbalfdmffaab
open Go.RowKit Go.Sort Go.Deep
/-- A slice of 32 bytes of its own, from block B on: the number n. -/
def IsBytes (W : World) (B : Nat) (v : Value) (n : Nat) : Prop :=
  ∃ g a b c d : Nat, v = .slice (some ⟨g, 0, none⟩) 32 32 ∧ B ≤ g ∧ Four (.agg #[.int .u64 (a : Int), .int .u64 (b : Int), .int .u64 (c : Int), .int .u64 (d : Int)]) n ∧ Holds encB W g 0 (be32 a b c d)
theorem IsBytes.call {W w1 : World} {B n : Nat} {v : Value} (h : IsBytes W B v n) (hb : Below W.heap.size W w1) : IsBytes w1 B v n := by
  obtain ⟨g, a, b, c, d, h1, h2, h3, h4⟩ := h
  exact ⟨g, a, b, c, d, h1, h2, h3, Holds.below h4 hb (Holds.lt h4 (by rw [be32_size]; omega))⟩
theorem IsBytes.drew {W : World} {B n : Nat} {v : Value} (h : IsBytes W B v n) : IsBytes W.drew B v n := by
  obtain ⟨g, a, b, c, d, h1, h2, h3, h4⟩ := h
  exact ⟨g, a, b, c, d, h1, h2, h3, Holds.drew h4⟩
theorem IsBytes.mono {W : World} {B B' n : Nat} {v : Value} (h : IsBytes W B v n) (hb : B' ≤ B) : IsBytes W B' v n := by
  obtain ⟨g, a, b, c, d, h1, h2, h3, h4⟩ := h
  exact ⟨g, a, b, c, d, h1, Nat.le_trans hb h2, h3, h4⟩
theorem bytes_of (x : Value) (m : Nat) (w : World) (hx : Four x m) :
    Calls Try.prog 51 #[x] w (Ret fun e w' => Below w.heap.size w w' ∧ IsBytes w' w.heap.size e m) := by
  refine (Bytes_any x m w hx).mono ?_
  rintro e w' ⟨v, rfl, hb, g, a, b, c, d, rfl, hg, rfl, hH⟩
  exact ⟨_, rfl, hb, g, a, b, c, d, rfl, hg, hx, hH⟩
end Go.Proofs.Ytbimbalfdmffaab
namespace Go.Proofs.Ytbimbalfdmffaab
open Go.RowKit Go.Sort Go.Deep
theorem twoS_of {w W : World} {kp kn xa xb xc xd ya yb yc yd g0 g1 g2 : Nat} (h : Kept w w.heap.size [⟨kp, 0, g0, g1, g2, 0⟩, ⟨kn, 0, xa, xb, xc, xd⟩, ⟨kn, 4, ya, yb, yc, yd⟩] W) : W.cell? ⟨kp, 0, none⟩ = some (.int .u64 (g0 : Int)) ∧ W.cell? ⟨kp, 1, none⟩ = some (.int .u64 (g1 : Int)) ∧ W.cell? ⟨kp, 2, none⟩ = some (.int .u64 (g2 : Int)) ∧ W.cell? ⟨kp, 3, none⟩ = some (.int .u64 0) ∧ W.cell? ⟨kn, 0, none⟩ = some (.int .u64 (xa : Int)) ∧ W.cell? ⟨kn, 1, none⟩ = some (.int .u64 (xb : Int)) ∧ W.cell? ⟨kn, 2, none⟩ = some (.int .u64 (xc : Int)) ∧ W.cell? ⟨kn, 3, none⟩ = some (.int .u64 (xd : Int)) ∧ W.cell? ⟨kn, 4, none⟩ = some (.int .u64 (ya : Int)) ∧ W.cell? ⟨kn, 5, none⟩ = some (.int .u64 (yb : Int)) ∧ W.cell? ⟨kn, 6, none⟩ = some (.int .u64 (yc : Int)) ∧ W.cell? ⟨kn, 7, none⟩ = some (.int .u64 (yd : Int)) ∧ Kept w w.heap.size [⟨kp, 0, g0, g1, g2, 0⟩, ⟨kn, 0, xa, xb, xc, xd⟩, ⟨kn, 4, ya, yb, yc, yd⟩] W :=
  ⟨h.head.c0, h.head.c1, h.head.c2, h.head.c3, h.tail.head.c0, h.tail.head.c1, h.tail.head.c2, h.tail.head.c3, h.tail.tail.head.c0, h.tail.tail.head.c1, h.tail.tail.head.c2, h.tail.tail.head.c3, h⟩
theorem oneS_of {w W : World} {kp kn xa xb xc xd g0 g1 g2 : Nat} (h : Kept w w.heap.size [⟨kp, 0, g0, g1, g2, 0⟩, ⟨kn, 0, xa, xb, xc, xd⟩] W) : W.cell? ⟨kp, 0, none⟩ = some (.int .u64 (g0 : Int)) ∧ W.cell? ⟨kp, 1, none⟩ = some (.int .u64 (g1 : Int)) ∧ W.cell? ⟨kp, 2, none⟩ = some (.int .u64 (g2 : Int)) ∧ W.cell? ⟨kp, 3, none⟩ = some (.int .u64 0) ∧ W.cell? ⟨kn, 0, none⟩ = some (.int .u64 (xa : Int)) ∧ W.cell? ⟨kn, 1, none⟩ = some (.int .u64 (xb : Int)) ∧ W.cell? ⟨kn, 2, none⟩ = some (.int .u64 (xc : Int)) ∧ W.cell? ⟨kn, 3, none⟩ = some (.int .u64 (xd : Int)) ∧ Kept w w.heap.size [⟨kp, 0, g0, g1, g2, 0⟩, ⟨kn, 0, xa, xb, xc, xd⟩] W :=
  ⟨h.head.c0, h.head.c1, h.head.c2, h.head.c3, h.tail.head.c0, h.tail.head.c1, h.tail.head.c2, h.tail.head.c3, h⟩
/-- What an operation with two numbers answers. -/
def TwoR (w : World) (P : Nat) (s t : Bs) (x : Nat) (e : Value) (w' : World) : Prop :=
  (IsNum P s ∧ IsNum P t ∧ ∃ v, e = .tuple #[v, .int .i64 0] ∧ IsBytes w' w.heap.size v x) ∨ (¬ (IsNum P s ∧ IsNum P t) ∧ e = .tuple #[.slice none 0 0, .int .i64 3])
/-- What an operation with one number answers. -/
def OneR (w : World) (P : Nat) (s : Bs) (x : Nat) (e : Value) (w' : World) : Prop :=
  (IsNum P s ∧ ∃ v, e = .tuple #[v, .int .i64 0] ∧ IsBytes w' w.heap.size v x) ∨ (¬ IsNum P s ∧ e = .tuple #[.slice none 0 0, .int .i64 3])
/-- Two arguments in a list. -/
def two (s t : Bs) (j : Nat) : Bs := if j = 0 then s else t
theorem args_two {w W : World} {va vb : Value} {s t : Bs} (ha : Arg w va s) (hb : Arg w vb t) (h : Below w.heap.size w W) (ty : TypeId) : Args (W.alloc (.cells #[va, vb] ty)) (some ⟨W.heap.size, 0, none⟩) 2 (two s t) := fun _ => by
  refine ⟨W.heap.size, rfl, by simp, fun j hj => ?_⟩
  have ha' := (ha.below h).below (below1 W (.cells #[va, vb] ty))
  have hb' := (hb.below h).below (below1 W (.cells #[va, vb] ty))
  have : j = 0 ∨ j = 1 := by omega
  rcases this with rfl | rfl
  · exact ⟨va, by rw [World.cell?_alloc_new]; rfl, ha'⟩
  · exact ⟨vb, by rw [World.cell?_alloc_new]; rfl, hb'⟩
theorem args_one {w W : World} {va : Value} {s : Bs} (ha : Arg w va s) (h : Below w.heap.size w W) (ty : TypeId) : Args (W.alloc (.cells #[va] ty)) (some ⟨W.heap.size, 0, none⟩) 1 (fun _ => s) := fun _ => by
  refine ⟨W.heap.size, rfl, by simp, fun j hj => ?_⟩
  have ha' := (ha.below h).below (below1 W (.cells #[va] ty))
  obtain rfl : j = 0 := by omega
  exact ⟨va, by rw [World.cell?_alloc_new]; rfl, ha'⟩
theorem both_of {P : Nat} {s t : Bs} (h : ∀ j, j < 2 → IsNum P (two s t j)) : IsNum P s ∧ IsNum P t := ⟨h 0 (by decide), h 1 (by decide)⟩
theorem not_both {P : Nat} {s t : Bs} (h : ∃ j, j < 2 ∧ ¬ IsNum P (two s t j)) : ¬ (IsNum P s ∧ IsNum P t) := by
  obtain ⟨j, hj, hn⟩ := h
  have : j = 0 ∨ j = 1 := by omega
  rcases this with rfl | rfl
  · exact fun h => hn h.1
  · exact fun h => hn h.2
def PrimeOf (k : Int) (g0 g1 g2 : Nat) : Prop := ∀ w, Calls Try.prog 48 #[.int .i64 k] w (Ret fun e w' => Below w.heap.size w w' ∧ e = .tuple #[.agg #[.int .u64 (g0 : Int), .int .u64 (g1 : Int), .int .u64 (g2 : Int), .int .u64 0], .int .i64 0])
set_option maxHeartbeats 4000000 in
set_option maxRecDepth 100000 in
theorem ofTwo_Plus (k : Int) (g0 g1 g2 P : Nat) (va vb : Value) (s t : Bs) (hG : Gap g0 g1 g2 P) (w : World) (hp : PrimeOf k g0 g1 g2) (ha : Arg w va s) (hb : Arg w vb t) :
    Calls Try.prog 44 #[.int .i64 k, va, vb, .func (.func 45) #[] #[]] w (Ret fun e w' => Below w.heap.size w w' ∧ TwoR w P s t ((beV s.toList + beV t.toList) % P) e w') := by
  have HP : Hid (PrimeOf k g0 g1 g2) := hp
  have HA : Hid (Arg w va s) := ha
  have HB : Hid (Arg w vb t) := hb
  have HG : Hid (Gap g0 g1 g2 P) := hG
  obtain ⟨pa, na, ca, rfl, -⟩ := id ha
  obtain ⟨pb, nb, cb, rfl, -⟩ := id hb
  clear hp hG ha hb
  go_enter Try.func44, Try.ntmps44
  go_wp2_with fail
  refine (HP.out _).mono ?_
  rintro e w1 ⟨v, rfl, hb1, rfl⟩
  go_wp2_with fail
  have KP := ((Kept.mk1 hb1 hb1.size).alloc (.cells #[.int .u64 (g0 : Int), .int .u64 (g1 : Int), .int .u64 (g2 : Int), .int .u64 0] 79)).cons (At4.made w1 79 g0 g1 g2 0 rfl).blk
  have hA := args_two HA.out HB.out KP.bl 23
  rw [World.size_alloc] at hA
  replace KP := KP.alloc (.cells #[.slice pa na ca, .slice pb nb cb] 23)
  clear hb1
  generalize World.alloc _ _ = W0 at KP hA ⊢
  generalize w1.heap.size = kp at KP hA ⊢
  refine (numbers_any g0 g1 g2 P 2 2 _ (two s t) HG.out _ (by decide) hA).mono ?_
  rintro e w2 ⟨v, rfl, hb2, h2⟩
  replace KP := KP.call hb2
  clear hb2 hA
  rcases h2 with ⟨hall, kn, hkn, rfl, NM⟩ | ⟨hno, rfl⟩
  · have HBO : Hid _ := both_of hall
    clear hall hkn
    obtain ⟨xa, xb, xc, xd, X, hX⟩ := NM 0 (by decide)
    obtain ⟨ya, yb, yc, yd, Y, hY⟩ := NM 1 (by decide)
    have HX : Hid (Four _ (beV s.toList)) := hX (by decide)
    have HY : Hid (Four _ (beV t.toList)) := hY (by decide)
    replace X : (Blk.mk kn 0 xa xb xc xd).at w2 := X
    replace Y : (Blk.mk kn 4 ya yb yc yd).at w2 := Y
    replace KP : Kept w w.heap.size [⟨kp, 0, g0, g1, g2, 0⟩, ⟨kn, 0, xa, xb, xc, xd⟩, ⟨kn, 4, ya, yb, yc, yd⟩] w2 := (((Kept.mk1 KP.bl KP.le).cons Y).cons X).cons KP.head
    clear NM hX hY X Y
    obtain ⟨pc0, pc1, pc2, pc3, pf⟩ := KP.head.at4
    go_upto_region 7 with fail
    clear pc0 pc1 pc2 pc3 pf
    go_region_held3 (fun w' => w'.cell? ⟨kp, 0, none⟩ = some (.int .u64 (g0 : Int)) ∧ w'.cell? ⟨kp, 1, none⟩ = some (.int .u64 (g1 : Int)) ∧ w'.cell? ⟨kp, 2, none⟩ = some (.int .u64 (g2 : Int)) ∧ w'.cell? ⟨kp, 3, none⟩ = some (.int .u64 0) ∧ w'.cell? ⟨kn, 0, none⟩ = some (.int .u64 (xa : Int)) ∧ w'.cell? ⟨kn, 1, none⟩ = some (.int .u64 (xb : Int)) ∧ w'.cell? ⟨kn, 2, none⟩ = some (.int .u64 (xc : Int)) ∧ w'.cell? ⟨kn, 3, none⟩ = some (.int .u64 (xd : Int)) ∧ w'.cell? ⟨kn, 4, none⟩ = some (.int .u64 (ya : Int)) ∧ w'.cell? ⟨kn, 5, none⟩ = some (.int .u64 (yb : Int)) ∧ w'.cell? ⟨kn, 6, none⟩ = some (.int .u64 (yc : Int)) ∧ w'.cell? ⟨kn, 7, none⟩ = some (.int .u64 (yd : Int)) ∧ Kept w w.heap.size [⟨kp, 0, g0, g1, g2, 0⟩, ⟨kn, 0, xa, xb, xc, xd⟩, ⟨kn, 4, ya, yb, yc, yd⟩] w') (first | (with_reducible exact twoS_of KP) | (with_reducible exact twoS_of KP.drew) | fail) (first | (go_at_call 45; refine (Plus_any g0 g1 g2 P _ _ _ _ HG.out HX.out HY.out HBO.out.1.2 HBO.out.2.2 _).mono ?_; rintro e w3 ⟨v, rfl, hb1, hF3⟩; obtain ⟨a', b', c', d', rfl, ha', hb', hc', hd', es3⟩ := id hF3; clear es3; have HF3 : Hid (Four _ _) := hF3; clear hF3; (first | (with_reducible (have KP1 := KP.drew.call hb1)) | (with_reducible (have KP1 := KP.call hb1)) | fail); clear KP; have KP := KP1; clear KP1; clear hb1) | (go_at_call 51; refine (bytes_of _ _ _ HF3.out).mono ?_; rintro e w4 ⟨v, rfl, hb1, hv⟩; obtain ⟨g', x', y', z', u', rfl, h2⟩ := id hv; clear h2; have HV : Hid (IsBytes _ _ _ _) := hv; clear hv; have HL : Hid (w.heap.size ≤ _) := KP.le; (first | (with_reducible (have KP1 := KP.drew.call hb1)) | (with_reducible (have KP1 := KP.call hb1)) | fail); clear KP; have KP := KP1; clear KP1; clear hb1))
    all_goals (try go_wp2)
    all_goals go_ret2
    all_goals exact ⟨_, rfl, KP.bl, Or.inl ⟨HBO.out.1, HBO.out.2, _, rfl, HV.out.mono HL.out⟩⟩
  · have HN : Hid _ := not_both hno
    clear hno
    go_wp2
    go_ret2
    exact ⟨_, rfl, KP.bl, Or.inr ⟨HN.out, rfl⟩⟩
set_option maxHeartbeats 1000000 in
theorem Add_any (k : Int) (g0 g1 g2 P : Nat) (va vb : Value) (s t : Bs) (hG : Gap g0 g1 g2 P) (w : World) (hp : PrimeOf k g0 g1 g2) (ha : Arg w va s) (hb : Arg w vb t) :
    Calls Try.prog 10 #[.int .i64 k, va, vb] w (Ret fun e w' => Below w.heap.size w w' ∧ TwoR w P s t ((beV s.toList + beV t.toList) % P) e w') := by
  have HP : Hid (PrimeOf k g0 g1 g2) := hp
  have HA : Hid (Arg w va s) := ha
  have HB : Hid (Arg w vb t) := hb
  have HG : Hid (Gap g0 g1 g2 P) := hG
  clear hp ha hb hG
  go_enter Try.func10, Try.ntmps10
  go_wp2_with fail
  refine (ofTwo_Plus k g0 g1 g2 P va vb s t HG.out w HP.out HA.out HB.out).mono ?_
  rintro e w1 ⟨v, rfl, hb1, h1⟩
  have H1 : Hid (TwoR _ _ _ _ _ _ _) := h1
  rcases h1 with ⟨-, -, v, rfl, -⟩ | ⟨-, rfl⟩
  · go_wp2
    go_ret2
    exact ⟨_, rfl, hb1, H1.out⟩
  · go_wp2
    go_ret2
    exact ⟨_, rfl, hb1, H1.out⟩
set_option maxHeartbeats 4000000 in
set_option maxRecDepth 100000 in
theorem ofTwo_Minus (k : Int) (g0 g1 g2 P : Nat) (va vb : Value) (s t : Bs) (hG : Gap g0 g1 g2 P) (w : World) (hp : PrimeOf k g0 g1 g2) (ha : Arg w va s) (hb : Arg w vb t) :
    Calls Try.prog 44 #[.int .i64 k, va, vb, .func (.func 46) #[] #[]] w (Ret fun e w' => Below w.heap.size w w' ∧ TwoR w P s t ((beV s.toList + P - beV t.toList) % P) e w') := by
  have HP : Hid (PrimeOf k g0 g1 g2) := hp
  have HA : Hid (Arg w va s) := ha
  have HB : Hid (Arg w vb t) := hb
  have HG : Hid (Gap g0 g1 g2 P) := hG
  obtain ⟨pa, na, ca, rfl, -⟩ := id ha
  obtain ⟨pb, nb, cb, rfl, -⟩ := id hb
  clear hp hG ha hb
  go_enter Try.func44, Try.ntmps44
  go_wp2_with fail
  refine (HP.out _).mono ?_
  rintro e w1 ⟨v, rfl, hb1, rfl⟩
  go_wp2_with fail
  have KP := ((Kept.mk1 hb1 hb1.size).alloc (.cells #[.int .u64 (g0 : Int), .int .u64 (g1 : Int), .int .u64 (g2 : Int), .int .u64 0] 79)).cons (At4.made w1 79 g0 g1 g2 0 rfl).blk
  have hA := args_two HA.out HB.out KP.bl 23
  rw [World.size_alloc] at hA
  replace KP := KP.alloc (.cells #[.slice pa na ca, .slice pb nb cb] 23)
  clear hb1
  generalize World.alloc _ _ = W0 at KP hA ⊢
  generalize w1.heap.size = kp at KP hA ⊢
  refine (numbers_any g0 g1 g2 P 2 2 _ (two s t) HG.out _ (by decide) hA).mono ?_
  rintro e w2 ⟨v, rfl, hb2, h2⟩
  replace KP := KP.call hb2
  clear hb2 hA
  rcases h2 with ⟨hall, kn, hkn, rfl, NM⟩ | ⟨hno, rfl⟩
  · have HBO : Hid _ := both_of hall
    clear hall hkn
    obtain ⟨xa, xb, xc, xd, X, hX⟩ := NM 0 (by decide)
    obtain ⟨ya, yb, yc, yd, Y, hY⟩ := NM 1 (by decide)
    have HX : Hid (Four _ (beV s.toList)) := hX (by decide)
    have HY : Hid (Four _ (beV t.toList)) := hY (by decide)
    replace X : (Blk.mk kn 0 xa xb xc xd).at w2 := X
    replace Y : (Blk.mk kn 4 ya yb yc yd).at w2 := Y
    replace KP : Kept w w.heap.size [⟨kp, 0, g0, g1, g2, 0⟩, ⟨kn, 0, xa, xb, xc, xd⟩, ⟨kn, 4, ya, yb, yc, yd⟩] w2 := (((Kept.mk1 KP.bl KP.le).cons Y).cons X).cons KP.head
    clear NM hX hY X Y
    obtain ⟨pc0, pc1, pc2, pc3, pf⟩ := KP.head.at4
    go_upto_region 7 with fail
    clear pc0 pc1 pc2 pc3 pf
    go_region_held3 (fun w' => w'.cell? ⟨kp, 0, none⟩ = some (.int .u64 (g0 : Int)) ∧ w'.cell? ⟨kp, 1, none⟩ = some (.int .u64 (g1 : Int)) ∧ w'.cell? ⟨kp, 2, none⟩ = some (.int .u64 (g2 : Int)) ∧ w'.cell? ⟨kp, 3, none⟩ = some (.int .u64 0) ∧ w'.cell? ⟨kn, 0, none⟩ = some (.int .u64 (xa : Int)) ∧ w'.cell? ⟨kn, 1, none⟩ = some (.int .u64 (xb : Int)) ∧ w'.cell? ⟨kn, 2, none⟩ = some (.int .u64 (xc : Int)) ∧ w'.cell? ⟨kn, 3, none⟩ = some (.int .u64 (xd : Int)) ∧ w'.cell? ⟨kn, 4, none⟩ = some (.int .u64 (ya : Int)) ∧ w'.cell? ⟨kn, 5, none⟩ = some (.int .u64 (yb : Int)) ∧ w'.cell? ⟨kn, 6, none⟩ = some (.int .u64 (yc : Int)) ∧ w'.cell? ⟨kn, 7, none⟩ = some (.int .u64 (yd : Int)) ∧ Kept w w.heap.size [⟨kp, 0, g0, g1, g2, 0⟩, ⟨kn, 0, xa, xb, xc, xd⟩, ⟨kn, 4, ya, yb, yc, yd⟩] w') (first | (with_reducible exact twoS_of KP) | (with_reducible exact twoS_of KP.drew) | fail) (first | (go_at_call 46; refine (Minus_any g0 g1 g2 P _ _ _ _ HG.out HX.out HY.out HBO.out.1.2 HBO.out.2.2 _).mono ?_; rintro e w3 ⟨v, rfl, hb1, hF3⟩; obtain ⟨a', b', c', d', rfl, ha', hb', hc', hd', es3⟩ := id hF3; clear es3; have HF3 : Hid (Four _ _) := hF3; clear hF3; (first | (with_reducible (have KP1 := KP.drew.call hb1)) | (with_reducible (have KP1 := KP.call hb1)) | fail); clear KP; have KP := KP1; clear KP1; clear hb1) | (go_at_call 51; refine (bytes_of _ _ _ HF3.out).mono ?_; rintro e w4 ⟨v, rfl, hb1, hv⟩; obtain ⟨g', x', y', z', u', rfl, h2⟩ := id hv; clear h2; have HV : Hid (IsBytes _ _ _ _) := hv; clear hv; have HL : Hid (w.heap.size ≤ _) := KP.le; (first | (with_reducible (have KP1 := KP.drew.call hb1)) | (with_reducible (have KP1 := KP.call hb1)) | fail); clear KP; have KP := KP1; clear KP1; clear hb1))
    all_goals (try go_wp2)
    all_goals go_ret2
    all_goals exact ⟨_, rfl, KP.bl, Or.inl ⟨HBO.out.1, HBO.out.2, _, rfl, HV.out.mono HL.out⟩⟩
  · have HN : Hid _ := not_both hno
    clear hno
    go_wp2
    go_ret2
    exact ⟨_, rfl, KP.bl, Or.inr ⟨HN.out, rfl⟩⟩
set_option maxHeartbeats 1000000 in
theorem Sub_any (k : Int) (g0 g1 g2 P : Nat) (va vb : Value) (s t : Bs) (hG : Gap g0 g1 g2 P) (w : World) (hp : PrimeOf k g0 g1 g2) (ha : Arg w va s) (hb : Arg w vb t) :
    Calls Try.prog 11 #[.int .i64 k, va, vb] w (Ret fun e w' => Below w.heap.size w w' ∧ TwoR w P s t ((beV s.toList + P - beV t.toList) % P) e w') := by
  have HP : Hid (PrimeOf k g0 g1 g2) := hp
  have HA : Hid (Arg w va s) := ha
  have HB : Hid (Arg w vb t) := hb
  have HG : Hid (Gap g0 g1 g2 P) := hG
  clear hp ha hb hG
  go_enter Try.func11, Try.ntmps11
  go_wp2_with fail
  refine (ofTwo_Minus k g0 g1 g2 P va vb s t HG.out w HP.out HA.out HB.out).mono ?_
  rintro e w1 ⟨v, rfl, hb1, h1⟩
  have H1 : Hid (TwoR _ _ _ _ _ _ _) := h1
  rcases h1 with ⟨-, -, v, rfl, -⟩ | ⟨-, rfl⟩
  · go_wp2
    go_ret2
    exact ⟨_, rfl, hb1, H1.out⟩
  · go_wp2
    go_ret2
    exact ⟨_, rfl, hb1, H1.out⟩
set_option maxHeartbeats 4000000 in
set_option maxRecDepth 100000 in
theorem ofTwo_Times (k : Int) (g0 g1 g2 P : Nat) (va vb : Value) (s t : Bs) (hG : Gap g0 g1 g2 P) (w : World) (hp : PrimeOf k g0 g1 g2) (ha : Arg w va s) (hb : Arg w vb t) :
    Calls Try.prog 44 #[.int .i64 k, va, vb, .func (.func 47) #[] #[]] w (Ret fun e w' => Below w.heap.size w w' ∧ TwoR w P s t (beV s.toList * beV t.toList % P) e w') := by
  have HP : Hid (PrimeOf k g0 g1 g2) := hp
  have HA : Hid (Arg w va s) := ha
  have HB : Hid (Arg w vb t) := hb
  have HG : Hid (Gap g0 g1 g2 P) := hG
  obtain ⟨pa, na, ca, rfl, -⟩ := id ha
  obtain ⟨pb, nb, cb, rfl, -⟩ := id hb
  clear hp hG ha hb
  go_enter Try.func44, Try.ntmps44
  go_wp2_with fail
  refine (HP.out _).mono ?_
  rintro e w1 ⟨v, rfl, hb1, rfl⟩
  go_wp2_with fail
  have KP := ((Kept.mk1 hb1 hb1.size).alloc (.cells #[.int .u64 (g0 : Int), .int .u64 (g1 : Int), .int .u64 (g2 : Int), .int .u64 0] 79)).cons (At4.made w1 79 g0 g1 g2 0 rfl).blk
  have hA := args_two HA.out HB.out KP.bl 23
  rw [World.size_alloc] at hA
  replace KP := KP.alloc (.cells #[.slice pa na ca, .slice pb nb cb] 23)
  clear hb1
  generalize World.alloc _ _ = W0 at KP hA ⊢
  generalize w1.heap.size = kp at KP hA ⊢
  refine (numbers_any g0 g1 g2 P 2 2 _ (two s t) HG.out _ (by decide) hA).mono ?_
  rintro e w2 ⟨v, rfl, hb2, h2⟩
  replace KP := KP.call hb2
  clear hb2 hA
  rcases h2 with ⟨hall, kn, hkn, rfl, NM⟩ | ⟨hno, rfl⟩
  · have HBO : Hid _ := both_of hall
    clear hall hkn
    obtain ⟨xa, xb, xc, xd, X, hX⟩ := NM 0 (by decide)
    obtain ⟨ya, yb, yc, yd, Y, hY⟩ := NM 1 (by decide)
    have HX : Hid (Four _ (beV s.toList)) := hX (by decide)
    have HY : Hid (Four _ (beV t.toList)) := hY (by decide)
    replace X : (Blk.mk kn 0 xa xb xc xd).at w2 := X
    replace Y : (Blk.mk kn 4 ya yb yc yd).at w2 := Y
    replace KP : Kept w w.heap.size [⟨kp, 0, g0, g1, g2, 0⟩, ⟨kn, 0, xa, xb, xc, xd⟩, ⟨kn, 4, ya, yb, yc, yd⟩] w2 := (((Kept.mk1 KP.bl KP.le).cons Y).cons X).cons KP.head
    clear NM hX hY X Y
    obtain ⟨pc0, pc1, pc2, pc3, pf⟩ := KP.head.at4
    go_upto_region 7 with fail
    clear pc0 pc1 pc2 pc3 pf
    go_region_held3 (fun w' => w'.cell? ⟨kp, 0, none⟩ = some (.int .u64 (g0 : Int)) ∧ w'.cell? ⟨kp, 1, none⟩ = some (.int .u64 (g1 : Int)) ∧ w'.cell? ⟨kp, 2, none⟩ = some (.int .u64 (g2 : Int)) ∧ w'.cell? ⟨kp, 3, none⟩ = some (.int .u64 0) ∧ w'.cell? ⟨kn, 0, none⟩ = some (.int .u64 (xa : Int)) ∧ w'.cell? ⟨kn, 1, none⟩ = some (.int .u64 (xb : Int)) ∧ w'.cell? ⟨kn, 2, none⟩ = some (.int .u64 (xc : Int)) ∧ w'.cell? ⟨kn, 3, none⟩ = some (.int .u64 (xd : Int)) ∧ w'.cell? ⟨kn, 4, none⟩ = some (.int .u64 (ya : Int)) ∧ w'.cell? ⟨kn, 5, none⟩ = some (.int .u64 (yb : Int)) ∧ w'.cell? ⟨kn, 6, none⟩ = some (.int .u64 (yc : Int)) ∧ w'.cell? ⟨kn, 7, none⟩ = some (.int .u64 (yd : Int)) ∧ Kept w w.heap.size [⟨kp, 0, g0, g1, g2, 0⟩, ⟨kn, 0, xa, xb, xc, xd⟩, ⟨kn, 4, ya, yb, yc, yd⟩] w') (first | (with_reducible exact twoS_of KP) | (with_reducible exact twoS_of KP.drew) | fail) (first | (go_at_call 47; refine (Times_any g0 g1 g2 P _ _ _ _ HG.out HX.out HY.out _).mono ?_; rintro e w3 ⟨v, rfl, hb1, hF3⟩; obtain ⟨a', b', c', d', rfl, ha', hb', hc', hd', es3⟩ := id hF3; clear es3; have HF3 : Hid (Four _ _) := hF3; clear hF3; (first | (with_reducible (have KP1 := KP.drew.call hb1)) | (with_reducible (have KP1 := KP.call hb1)) | fail); clear KP; have KP := KP1; clear KP1; clear hb1) | (go_at_call 51; refine (bytes_of _ _ _ HF3.out).mono ?_; rintro e w4 ⟨v, rfl, hb1, hv⟩; obtain ⟨g', x', y', z', u', rfl, h2⟩ := id hv; clear h2; have HV : Hid (IsBytes _ _ _ _) := hv; clear hv; have HL : Hid (w.heap.size ≤ _) := KP.le; (first | (with_reducible (have KP1 := KP.drew.call hb1)) | (with_reducible (have KP1 := KP.call hb1)) | fail); clear KP; have KP := KP1; clear KP1; clear hb1))
    all_goals (try go_wp2)
    all_goals go_ret2
    all_goals exact ⟨_, rfl, KP.bl, Or.inl ⟨HBO.out.1, HBO.out.2, _, rfl, HV.out.mono HL.out⟩⟩
  · have HN : Hid _ := not_both hno
    clear hno
    go_wp2
    go_ret2
    exact ⟨_, rfl, KP.bl, Or.inr ⟨HN.out, rfl⟩⟩
set_option maxHeartbeats 1000000 in
theorem Mul_any (k : Int) (g0 g1 g2 P : Nat) (va vb : Value) (s t : Bs) (hG : Gap g0 g1 g2 P) (w : World) (hp : PrimeOf k g0 g1 g2) (ha : Arg w va s) (hb : Arg w vb t) :
    Calls Try.prog 12 #[.int .i64 k, va, vb] w (Ret fun e w' => Below w.heap.size w w' ∧ TwoR w P s t (beV s.toList * beV t.toList % P) e w') := by
  have HP : Hid (PrimeOf k g0 g1 g2) := hp
  have HA : Hid (Arg w va s) := ha
  have HB : Hid (Arg w vb t) := hb
  have HG : Hid (Gap g0 g1 g2 P) := hG
  clear hp ha hb hG
  go_enter Try.func12, Try.ntmps12
  go_wp2_with fail
  refine (ofTwo_Times k g0 g1 g2 P va vb s t HG.out w HP.out HA.out HB.out).mono ?_
  rintro e w1 ⟨v, rfl, hb1, h1⟩
  have H1 : Hid (TwoR _ _ _ _ _ _ _) := h1
  rcases h1 with ⟨-, -, v, rfl, -⟩ | ⟨-, rfl⟩
  · go_wp2
    go_ret2
    exact ⟨_, rfl, hb1, H1.out⟩
  · go_wp2
    go_ret2
    exact ⟨_, rfl, hb1, H1.out⟩
set_option maxHeartbeats 1000000 in
theorem ofTwo_no (k : Int) (hk : k < 0 ∨ 2 ≤ k) (va vb vf : Value) (w : World) :
    Calls Try.prog 44 #[.int .i64 k, va, vb, vf] w (Ret fun e w' => Below w.heap.size w w' ∧ e = .tuple #[.slice none 0 0, .int .i64 2]) := by
  go_enter Try.func44, Try.ntmps44
  go_wp2_with fail
  refine (primeOf_n k hk _).mono ?_
  rintro e w1 ⟨v, rfl, hb1, rfl⟩
  go_wp2
  go_ret2
  exact ⟨_, rfl, hb1.alloc hb1.size _, rfl⟩
set_option maxHeartbeats 1000000 in
theorem Add_no (k : Int) (hk : k < 0 ∨ 2 ≤ k) (va vb : Value) (w : World) :
    Calls Try.prog 10 #[.int .i64 k, va, vb] w (Ret fun e w' => Below w.heap.size w w' ∧ e = .tuple #[.slice none 0 0, .int .i64 2]) := by
  go_enter Try.func10, Try.ntmps10
  go_wp2_with fail
  refine (ofTwo_no k hk _ _ _ _).mono ?_
  rintro e w1 ⟨v, rfl, hb1, rfl⟩
  go_wp2
  go_ret2
  exact ⟨_, rfl, hb1, rfl⟩
set_option maxHeartbeats 1000000 in
theorem Sub_no (k : Int) (hk : k < 0 ∨ 2 ≤ k) (va vb : Value) (w : World) :
    Calls Try.prog 11 #[.int .i64 k, va, vb] w (Ret fun e w' => Below w.heap.size w w' ∧ e = .tuple #[.slice none 0 0, .int .i64 2]) := by
  go_enter Try.func11, Try.ntmps11
  go_wp2_with fail
  refine (ofTwo_no k hk _ _ _ _).mono ?_
  rintro e w1 ⟨v, rfl, hb1, rfl⟩
  go_wp2
  go_ret2
  exact ⟨_, rfl, hb1, rfl⟩
set_option maxHeartbeats 1000000 in
theorem Mul_no (k : Int) (hk : k < 0 ∨ 2 ≤ k) (va vb : Value) (w : World) :
    Calls Try.prog 12 #[.int .i64 k, va, vb] w (Ret fun e w' => Below w.heap.size w w' ∧ e = .tuple #[.slice none 0 0, .int .i64 2]) := by
  go_enter Try.func12, Try.ntmps12
  go_wp2_with fail
  refine (ofTwo_no k hk _ _ _ _).mono ?_
  rintro e w1 ⟨v, rfl, hb1, rfl⟩
  go_wp2
  go_ret2
  exact ⟨_, rfl, hb1, rfl⟩
end Go.Proofs.Ytbimbalfdmffaab
namespace Go.Proofs.Ytbimbalfdmffaab
open Go.RowKit Go.Sort Go.Deep
set_option maxHeartbeats 4000000 in
set_option maxRecDepth 100000 in
theorem Inv_any (k : Int) (g0 g1 g2 P : Nat) (va : Value) (s : Bs) (hG : Gap g0 g1 g2 P) (hP2 : 2 ≤ P % 18446744073709551616) (w : World) (hp : PrimeOf k g0 g1 g2) (ha : Arg w va s) :
    Calls Try.prog 13 #[.int .i64 k, va] w (Ret fun e w' => Below w.heap.size w w' ∧ OneR w P s (beV s.toList ^ (P - 2) % P) e w') := by
  have HP : Hid (PrimeOf k g0 g1 g2) := hp
  have HA : Hid (Arg w va s) := ha
  have HG : Hid (Gap g0 g1 g2 P) := hG
  have HP2 : Hid (2 ≤ P % 18446744073709551616) := hP2
  obtain ⟨pa, na, ca, rfl, -⟩ := id ha
  clear hp hG ha hP2
  go_enter Try.func13, Try.ntmps13
  go_wp2_with fail
  refine (HP.out _).mono ?_
  rintro e w1 ⟨v, rfl, hb1, rfl⟩
  go_wp2_with fail
  have KP := ((Kept.mk1 hb1 hb1.size).alloc (.cells #[.int .u64 (g0 : Int), .int .u64 (g1 : Int), .int .u64 (g2 : Int), .int .u64 0] 79)).cons (At4.made w1 79 g0 g1 g2 0 rfl).blk
  have hA := args_one HA.out KP.bl 23
  rw [World.size_alloc] at hA
  replace KP := KP.alloc (.cells #[.slice pa na ca] 23)
  clear hb1
  generalize World.alloc _ _ = W0 at KP hA ⊢
  generalize w1.heap.size = kp at KP hA ⊢
  refine (numbers_any g0 g1 g2 P 1 1 _ (fun _ => s) HG.out _ (by decide) hA).mono ?_
  rintro e w2 ⟨v, rfl, hb2, h2⟩
  replace KP := KP.call hb2
  clear hb2 hA
  rcases h2 with ⟨hall, kn, hkn, rfl, NM⟩ | ⟨hno, rfl⟩
  · have HBO : Hid (IsNum P s) := hall 0 (by decide)
    clear hall hkn
    obtain ⟨xa, xb, xc, xd, X, hX⟩ := NM 0 (by decide)
    have HX : Hid (Four _ (beV s.toList)) := hX (by decide)
    replace X : (Blk.mk kn 0 xa xb xc xd).at w2 := X
    replace KP : Kept w w.heap.size [⟨kp, 0, g0, g1, g2, 0⟩, ⟨kn, 0, xa, xb, xc, xd⟩] w2 := ((Kept.mk1 KP.bl KP.le).cons X).cons KP.head
    clear NM hX X
    obtain ⟨pc0, pc1, pc2, pc3, pf⟩ := KP.head.at4
    go_upto_region 7 with fail
    clear pc0 pc1 pc2 pc3 pf
    go_region_held3 (fun w' => w'.cell? ⟨kp, 0, none⟩ = some (.int .u64 (g0 : Int)) ∧ w'.cell? ⟨kp, 1, none⟩ = some (.int .u64 (g1 : Int)) ∧ w'.cell? ⟨kp, 2, none⟩ = some (.int .u64 (g2 : Int)) ∧ w'.cell? ⟨kp, 3, none⟩ = some (.int .u64 0) ∧ w'.cell? ⟨kn, 0, none⟩ = some (.int .u64 (xa : Int)) ∧ w'.cell? ⟨kn, 1, none⟩ = some (.int .u64 (xb : Int)) ∧ w'.cell? ⟨kn, 2, none⟩ = some (.int .u64 (xc : Int)) ∧ w'.cell? ⟨kn, 3, none⟩ = some (.int .u64 (xd : Int)) ∧ Kept w w.heap.size [⟨kp, 0, g0, g1, g2, 0⟩, ⟨kn, 0, xa, xb, xc, xd⟩] w') (first | (with_reducible exact oneS_of KP) | (with_reducible exact oneS_of KP.drew) | fail) (first | (go_at_call 50; refine (Inverse_any g0 g1 g2 P _ _ HG.out HP2.out HX.out _).mono ?_; rintro e w3 ⟨v, rfl, hb1, hF3⟩; obtain ⟨a', b', c', d', rfl, ha', hb', hc', hd', es3⟩ := id hF3; clear es3; have HF3 : Hid (Four _ _) := hF3; clear hF3; (first | (with_reducible (have KP1 := KP.drew.call hb1)) | (with_reducible (have KP1 := KP.call hb1)) | fail); clear KP; have KP := KP1; clear KP1; clear hb1) | (go_at_call 51; refine (bytes_of _ _ _ HF3.out).mono ?_; rintro e w4 ⟨v, rfl, hb1, hv⟩; obtain ⟨g', x', y', z', u', rfl, h2⟩ := id hv; clear h2; have HV : Hid (IsBytes _ _ _ _) := hv; clear hv; have HL : Hid (w.heap.size ≤ _) := KP.le; (first | (with_reducible (have KP1 := KP.drew.call hb1)) | (with_reducible (have KP1 := KP.call hb1)) | fail); clear KP; have KP := KP1; clear KP1; clear hb1))
    all_goals (try go_wp2)
    all_goals go_ret2
    all_goals exact ⟨_, rfl, KP.bl, Or.inl ⟨HBO.out, _, rfl, HV.out.mono HL.out⟩⟩
  · have HN : Hid (¬ IsNum P s) := by obtain ⟨j, -, h⟩ := hno; exact h
    clear hno
    go_wp2
    go_ret2
    exact ⟨_, rfl, KP.bl, Or.inr ⟨HN.out, rfl⟩⟩
set_option maxHeartbeats 1000000 in
theorem Inv_no (k : Int) (hk : k < 0 ∨ 2 ≤ k) (va : Value) (w : World) :
    Calls Try.prog 13 #[.int .i64 k, va] w (Ret fun e w' => Below w.heap.size w w' ∧ e = .tuple #[.slice none 0 0, .int .i64 2]) := by
  go_enter Try.func13, Try.ntmps13
  go_wp2_with fail
  refine (primeOf_n k hk _).mono ?_
  rintro e w1 ⟨v, rfl, hb1, rfl⟩
  go_wp2
  go_ret2
  exact ⟨_, rfl, hb1.alloc hb1.size _, rfl⟩
end Go.Proofs.Ytbimbalfdmffaab
namespace Go.Proofs.Ytbimbalfdmffaab
open Go.RowKit Go.Sort
theorem Known_law (k : Int) (w : World) : Calls Try.prog 15 #[.int .i64 k] w fun e w' => e = .returned (.bool (decide (k = 0 ∨ k = 1))) ∧ w' = w := by
  by_cases h0 : k = 0
  · subst h0
    go_enter Try.func15, Try.ntmps15
    go_wp2
    go_ret
    exact ⟨rfl, rfl⟩
  · by_cases h1 : k = 1
    · subst h1
      go_enter Try.func15, Try.ntmps15
      go_wp2
      go_ret
      exact ⟨rfl, rfl⟩
    · have d0 : decide (k = 0) = false := decide_eq_false h0
      have d1 : decide (k = 1) = false := decide_eq_false h1
      have d2 : decide (k = 0 ∨ k = 1) = false := decide_eq_false (by omega)
      rw [d2]
      clear d2
      go_enter Try.func15, Try.ntmps15
      go_wp2
      go_ret
      exact ⟨by simp [h0, h1], rfl⟩
end Go.Proofs.Ytbimbalfdmffaab
namespace Go.Proofs.Ytbimbalfdmffaab
open Go.RowKit Go.Sort Go.Deep
theorem ag_inj {a b c d a' b' c' d' : Nat} (h : Value.agg #[.int .u64 (a : Int), .int .u64 (b : Int), .int .u64 (c : Int), .int .u64 (d : Int)] = .agg #[.int .u64 (a' : Int), .int .u64 (b' : Int), .int .u64 (c' : Int), .int .u64 (d' : Int)]) : a' = a ∧ b' = b ∧ c' = c ∧ d' = d := by
  simp only [Value.agg.injEq, Array.mk.injEq, List.cons.injEq, Value.int.injEq, true_and, and_true, Int.ofNat_inj] at h
  exact ⟨h.1.symm, h.2.1.symm, h.2.2.1.symm, h.2.2.2.symm⟩
theorem toldS_of {w W : World} {k0 a b c d g : Nat} {T : Bs} (h : Kept w k0 [⟨k0, 0, a, b, c, d⟩] W) (hH : Holds encB W g 0 T) (hT : T.size = 32) : W.cell? ⟨k0, 0, none⟩ = some (.int .u64 (a : Int)) ∧ W.cell? ⟨k0, 1, none⟩ = some (.int .u64 (b : Int)) ∧ W.cell? ⟨k0, 2, none⟩ = some (.int .u64 (c : Int)) ∧ W.cell? ⟨k0, 3, none⟩ = some (.int .u64 (d : Int)) ∧ (convert 23 9 (.slice (some ⟨g, 0, none⟩) 32 32)).run Try.prog W = .ok (.string ⟨T⟩) W ∧ Kept w k0 [⟨k0, 0, a, b, c, d⟩] W :=
  ⟨h.head.c0, h.head.c1, h.head.c2, h.head.c3, conv_str Try.prog 23 9 5 slice22 int5 str9 _ g 0 32 32 _ hH hT, h⟩
set_option maxHeartbeats 2000000 in
set_option maxRecDepth 100000 in
theorem told_ok (v x : Value) (n B : Nat) (w : World) (hv : IsBytes w B v n) (hx : Four x n) :
    Calls Try.prog 22 #[v, .int .i64 0, .int .i64 0, x] w (Ret fun e w' => Below w.heap.size w w' ∧ e = .bool true) := by
  obtain ⟨g, a, b, c, d, rfl, hg, hF, hH⟩ := hv
  obtain rfl := hF.inj hx
  have hgl := Holds.lt hH (by rw [be32_size]; omega)
  have HX : Hid (Four _ _) := hx
  clear hF hx hg
  go_enter Try.func22, Try.ntmps22
  go_wp2_with fail
  have KP := (Kept.mk1 (below1 w (.cells #[.int .u64 (a : Int), .int .u64 (b : Int), .int .u64 (c : Int), .int .u64 (d : Int)] 33)) (below1 w _).size).cons (At4.made w 33 a b c d rfl).blk
  replace hH := Holds.below hH (below1 w (.cells #[.int .u64 (a : Int), .int .u64 (b : Int), .int .u64 (c : Int), .int .u64 (d : Int)] 33)) hgl
  generalize World.alloc _ _ = W0 at KP hH ⊢
  generalize h0 : w.heap.size = k0 at KP hgl ⊢
  have H0 : Hid (w.heap.size = k0) := h0
  clear h0
  obtain ⟨T, hT⟩ : ∃ T, be32 a b c d = T := ⟨_, rfl⟩
  have hTs : T.size = 32 := hT ▸ be32_size a b c d
  rw [hT] at hH
  have HT : Hid (be32 a b c d = T) := hT
  clear hT
  go_region_held3 (fun w' => w'.cell? ⟨k0, 0, none⟩ = some (.int .u64 (a : Int)) ∧ w'.cell? ⟨k0, 1, none⟩ = some (.int .u64 (b : Int)) ∧ w'.cell? ⟨k0, 2, none⟩ = some (.int .u64 (c : Int)) ∧ w'.cell? ⟨k0, 3, none⟩ = some (.int .u64 (d : Int)) ∧ (convert 23 9 (.slice (some ⟨g, 0, none⟩) 32 32)).run Try.prog w' = .ok (.string ⟨T⟩) w' ∧ Kept w k0 [⟨k0, 0, a, b, c, d⟩] w') (first | (with_reducible exact toldS_of KP hH hTs) | (with_reducible exact toldS_of KP.drew (Holds.drew hH) hTs) | fail) (first | (go_at_call 61; refine (rBytes_any _ _ _ HX.out).mono ?_; rintro e w1 ⟨v, rfl, hb1, a', b', c', d', he, rfl⟩; obtain ⟨rfl, rfl, rfl, rfl⟩ := ag_inj he; rw [HT.out]; have KP1 := KP.drew.call hb1; have hH1 := Holds.below (Holds.drew hH) hb1 (Holds.lt hH (by omega)); clear KP hb1 he hH; have KP := KP1; have hH := hH1; clear KP1 hH1))
  go_wp2
  go_ret
  exact ⟨_, rfl, H0.out ▸ KP.bl, by simp⟩
end Go.Proofs.Ytbimbalfdmffaab
namespace Go.Proofs.Ytbimbalfdmffaab
open Go.RowKit Go.Sort Go.Deep
theorem Holds.front {α : Type} [Inhabited α] {f : α → Value} {w : World} {b o : Nat} {d e : Array α} (h : Holds f w b o d) (hs : e.size ≤ d.size) (he : ∀ j, j < e.size → e[j]! = d[j]!) : Holds f w b o e := by
  intro j hj
  rw [he j hj]
  exact h j (by omega)
theorem lentTo_front (s : ByteArray) (k j : Nat) (hj : j < s.data.size) : (lentTo s k)[j]! = s.data[j]! := by
  induction k with
  | zero => rw [lent_front s j hj, getElem!_pos s.data j hj]
  | succ k ih =>
    show ((lentTo s k).setIfInBounds (s.size + k) (fill (s.size + k)))[j]! = _
    have : s.data.size = s.size := rfl
    rw [getElem!_set_other _ _ _ _ (by omega), ih]
theorem holds_text {w : World} {b : Nat} (s : ByteArray) (h : Holds encB w b 0 (lent s)) : Holds encB w b 0 s.data := by
  have : s.data.size = s.size := rfl
  exact Holds.front h (by rw [lent_size]; omega) (fun j hj => (lentTo_front s 160 j hj).symm)
/-- An answer: a number's bytes, or ErrScalar. -/
def Ans (W : World) (ok : Prop) (p : Option Addr) (n c : Nat) (ep : Int) (x : Nat) : Prop := (ok ∧ ep = 0 ∧ IsBytes W 0 (.slice p n c) x) ∨ (¬ ok ∧ ep = 3 ∧ n = 0)
theorem Ans.call {W w1 : World} {ok : Prop} {p : Option Addr} {n c x : Nat} {ep : Int} (h : Ans W ok p n c ep x) (hb : Below W.heap.size W w1) : Ans w1 ok p n c ep x := by
  rcases h with ⟨h1, h2, h3⟩ | h
  · exact Or.inl ⟨h1, h2, h3.call hb⟩
  · exact Or.inr h
theorem ans_two {w w' : World} {P x : Nat} {s t : Bs} {e : Value} (h : TwoR w P s t x e w') : ∃ (p : Option Addr) (n c : Nat) (ep : Int), e = .tuple #[.slice p n c, .int .i64 ep] ∧ Ans w' (IsNum P s ∧ IsNum P t) p n c ep x := by
  rcases h with ⟨h1, h2, v, rfl, h3⟩ | ⟨h1, rfl⟩
  · obtain ⟨g, a, b, c, d, rfl, h4⟩ := h3
    exact ⟨_, _, _, 0, rfl, Or.inl ⟨⟨h1, h2⟩, rfl, ⟨g, a, b, c, d, rfl, Nat.zero_le _, h4.2⟩⟩⟩
  · exact ⟨none, 0, 0, 3, rfl, Or.inr ⟨h1, rfl, rfl⟩⟩
theorem ans_one {w w' : World} {P x : Nat} {s : Bs} {e : Value} (h : OneR w P s x e w') : ∃ (p : Option Addr) (n c : Nat) (ep : Int), e = .tuple #[.slice p n c, .int .i64 ep] ∧ Ans w' (IsNum P s) p n c ep x := by
  rcases h with ⟨h1, v, rfl, h3⟩ | ⟨h1, rfl⟩
  · obtain ⟨g, a, b, c, d, rfl, h4⟩ := h3
    exact ⟨_, _, _, 0, rfl, Or.inl ⟨h1, rfl, ⟨g, a, b, c, d, rfl, Nat.zero_le _, h4.2⟩⟩⟩
  · exact ⟨none, 0, 0, 3, rfl, Or.inr ⟨h1, rfl, rfl⟩⟩
set_option maxHeartbeats 1000000 in
theorem told_err (p : Option Addr) (n c : Nat) (ep : Int) (x : Value) (y : Nat) (hx : Four x y) (hn : n = 0) (h0 : ¬ ep = 0) (w : World) :
    Calls Try.prog 22 #[.slice p n c, .int .i64 ep, .int .i64 ep, x] w (Ret fun e w' => Below w.heap.size w w' ∧ e = .bool true) := by
  subst hn
  obtain ⟨a, b, c', d, rfl, -⟩ := hx
  go_enter Try.func22, Try.ntmps22
  go_wp2
  go_ret
  exact ⟨_, rfl, below1 _ _, by simp⟩
theorem told_yes {w : World} {ok : Prop} {p : Option Addr} {n c y : Nat} {ep : Int} {x : Value} (h : Ans w ok p n c ep y) (ho : ok) (hx : Four x y) :
    Calls Try.prog 22 #[.slice p n c, .int .i64 ep, .int .i64 0, x] w (Ret fun e w' => Below w.heap.size w w' ∧ e = .bool true) := by
  rcases h with ⟨-, rfl, h3⟩ | ⟨h1, -⟩
  · exact told_ok _ _ _ 0 w h3 hx
  · exact absurd ho h1
theorem told_no {w : World} {ok : Prop} {p : Option Addr} {n c y z : Nat} {ep : Int} {x : Value} (h : Ans w ok p n c ep y) (ho : ¬ ok) (hx : Four x z) :
    Calls Try.prog 22 #[.slice p n c, .int .i64 ep, .int .i64 3, x] w (Ret fun e w' => Below w.heap.size w w' ∧ e = .bool true) := by
  rcases h with ⟨h1, -⟩ | ⟨-, rfl, h3⟩
  · exact absurd h1 ho
  · exact told_err _ _ _ 3 x z hx h3 (by decide) w
/-- What a law of two texts keeps: the texts, lent. -/
structure Ctx (w0 W : World) (ks kt : Nat) (s t : ByteArray) : Prop where
  bl : Below w0.heap.size w0 W
  ls : Holds encB W ks 0 (lent s)
  lt : Holds encB W kt 0 (lent t)
theorem Ctx.call {w0 W w1 : World} {ks kt : Nat} {s t : ByteArray} (h : Ctx w0 W ks kt s t) (hb : Below W.heap.size W w1) : Ctx w0 w1 ks kt s t :=
  ⟨h.bl.trans (hb.mono h.bl.size), Holds.below h.ls hb (Holds.lt h.ls (by rw [lent_size]; omega)), Holds.below h.lt hb (Holds.lt h.lt (by rw [lent_size]; omega))⟩
theorem lent_arg {W : World} {k : Nat} {s : ByteArray} (h : Holds encB W k 0 (lent s)) (_ : s.size ≤ 16384) : Arg W (.slice (some ⟨k, 0, none⟩) s.size (s.size + 160)) s.data :=
  ⟨_, _, _, rfl, rfl, fun h1 => ⟨k, 0, rfl, by omega, Holds.lt h (by rw [lent_size]; omega), holds_text s h⟩⟩
theorem Kept.sub {w W : World} {k0 : Nat} {l l' : List Blk} (h : Kept w k0 l W) (hs : ∀ x ∈ l', x ∈ l) : Kept w k0 l' W := ⟨h.bl, h.le, fun x hx => h.at' x (hs x hx)⟩
theorem Kept.puts {w W : World} {k0 j a b c d : Nat} {l l' : List Blk} (h : Kept w k0 l W) (hm : (⟨j, 0, a, b, c, d⟩ : Blk) ∈ l) (hj : k0 ≤ j) (hl : ∀ x ∈ l', x ∈ l ∧ j ≠ x.k) (x y z t : Nat) :
    Kept w k0 (⟨j, 0, x, y, z, t⟩ :: l') ((((W.setCell ⟨j, 0, none⟩ (.int .u64 (x : Int))).setCell ⟨j, 1, none⟩ (.int .u64 (y : Int))).setCell ⟨j, 2, none⟩ (.int .u64 (z : Int))).setCell ⟨j, 3, none⟩ (.int .u64 (t : Int))) :=
  ((h.sub fun x hx => (hl x hx).1).cons (h.at' _ hm)).put hj (fun x hx => (hl x hx).2) x y z t
theorem keptZ4 {w0 W : World} (h : Below w0.heap.size w0 W) :
    Kept w0 w0.heap.size [⟨W.heap.size, 0, 0, 0, 0, 0⟩, ⟨W.heap.size + 1, 0, 0, 0, 0, 0⟩, ⟨W.heap.size + 1 + 1, 0, 0, 0, 0, 0⟩, ⟨W.heap.size + 1 + 1 + 1, 0, 0, 0, 0, 0⟩] ((((W.alloc (.cells #[.int .u64 0, .int .u64 0, .int .u64 0, .int .u64 0] 33)).alloc (.cells #[.int .u64 0, .int .u64 0, .int .u64 0, .int .u64 0] 33)).alloc (.cells #[.int .u64 0, .int .u64 0, .int .u64 0, .int .u64 0] 33)).alloc (.cells #[.int .u64 0, .int .u64 0, .int .u64 0, .int .u64 0] 33)) := by
  have K := kept4 W 33 33 33 33 0 0 0 0 0 0 0 0 0 0 0 0 0 0 0 0
  exact ⟨h.trans (K.bl.mono h.size), Nat.le_trans h.size K.le, K.at'⟩
end Go.Proofs.Ytbimbalfdmffaab
namespace Go.Proofs.Ytbimbalfdmffaab
open Go.RowKit Go.Sort Go.Deep
/-- A text as bytes of one's own. -/
theorem conv_of (s : ByteArray) (w : World) :
    ∃ cap w', (convert 9 23 (.string s)).run Try.prog w = .ok (.slice (some ⟨w.heap.size, 0, none⟩) s.size cap) w' ∧ s.size ≤ cap ∧ Below w.heap.size w w' ∧ Holds encB w' w.heap.size 0 s.data ∧ w.heap.size < w'.heap.size := by
  have h := Lib.run_convert_string_bytes (P := Try.prog) w 9 23 5 s str9 slice22 int5
  have hcap : s.size ≤ grownCap w s.size 0 5 := by
    unfold grownCap Question.cut
    exact Nat.le_add_right _ _
  have hl : s.data.size = s.size := rfl
  refine ⟨_, _, h, hcap, ?_, ?_, by rw [Lib.bytesWorld_size]; omega⟩
  · refine ⟨?_, ?_, ?_, ?_, fun k hk => Lib.bytesWorld_at_old w 5 s k hk⟩
    · unfold Lib.bytesWorld World.freeze
      rw [if_neg (by decide)]
      rfl
    · unfold Lib.bytesWorld World.freeze
      rw [if_neg (by decide)]
      rfl
    · unfold Lib.bytesWorld World.freeze
      rw [if_neg (by decide)]
      rfl
    · rw [Lib.bytesWorld_size]; omega
  · intro j hj
    have hb := Lib.bytesWorld_at_new w 5 s
    have hsz : (Lib.bytesCells w 5 s).size = grownCap w s.size 0 5 := by
      unfold Lib.bytesCells
      rw [Array.size_append, Array.size_map, Array.size_replicate]
      omega
    have hc : (Lib.bytesCells w 5 s) = (s.data ++ Array.replicate (grownCap w s.size 0 5 - s.size) 0).map encB := by
      unfold Lib.bytesCells
      rw [Array.map_append, Array.map_replicate]
      rfl
    have hj2 : j < (s.data ++ Array.replicate (grownCap w s.size 0 5 - s.size) 0).size := by rw [Array.size_append, Array.size_replicate]; omega
    have hget : (s.data ++ Array.replicate (grownCap w s.size 0 5 - s.size) 0)[j] = s.data[j]! := by
      rw [Array.getElem_append_left hj, getElem!_pos s.data j hj]
    constructor
    · unfold World.cell?
      rw [hb]
      simp only [Nat.zero_add]
      rw [if_neg (by decide), hc, Array.getElem?_map, Array.getElem?_eq_getElem hj2, Option.map_some, hget]
    · unfold World.frozen?
      rw [hb]
      simp only [Nat.zero_add, hsz]
      simp
      omega
end Go.Proofs.Ytbimbalfdmffaab
namespace Go.Proofs.Ytbimbalfdmffaab
open Go.RowKit Go.Sort Go.Deep
variable {P : Nat} [NeZero P]
theorem RReadR.two (C : Fld P) {bs : Bs} {e : Value} (h : RReadR P bs e) : ∃ t : T3 P, e = .tuple #[tv t, .bool (rd P bs).isSome] ∧ ∀ p, rd P bs = some p → FracT t (pt p) := by
  unfold RReadR at h
  cases hr : rd P bs with
  | none =>
    rw [hr] at h
    obtain ⟨t, rfl⟩ := h
    exact ⟨t, rfl, fun p hp => by cases hp⟩
  | some p =>
    rw [hr] at h
    obtain ⟨t, q, rfl, h1, h2⟩ := h
    refine ⟨t, rfl, fun p' hp => ?_⟩
    obtain rfl := Option.some.inj hp
    rw [← pair_pt C h1 h2.2]
    exact h2
theorem NumQR.two {N : Nat} {bs : Bs} {e : Value} (h : NumQR N bs e) : ∃ m, e = .tuple #[nv m, .bool (rq N bs).isSome] ∧ ∀ n, rq N bs = some n → m = n := by
  unfold NumQR at h
  cases hr : rq N bs with
  | none =>
    rw [hr] at h
    obtain ⟨m, rfl⟩ := h
    exact ⟨m, rfl, fun n hn => by cases hn⟩
  | some n =>
    rw [hr] at h
    exact ⟨n, h, fun n' hn => Option.some.inj hn⟩
def z4 : Array Value := #[.int .u64 0, .int .u64 0, .int .u64 0, .int .u64 0]
theorem cell12 (w : World) (N : List Value) (hl : N.length = 12) (h1 : N.all (·.oneCell') = true) : ∃ w2, (storeCells ⟨w.heap.size, 0, none⟩ N).run Try.prog (w.alloc (.cells z12 56)) = .ok () w2 ∧ Below w.heap.size w w2 ∧ w2.rangeAt w.heap.size 0 N ∧ w.heap.size < w2.heap.size := by
  obtain ⟨w2, s0, -, -, hS⟩ := (RG.St.new w z12.toList 56).store1 (P := Try.prog) 56 (D := N) hl (by rw [hl]; exact i56) h1
  have hh := hS.has 0 N rfl
  exact ⟨w2, s0, hS.bel.below, hh.1, hh.2.2.1⟩
theorem cell4 (w : World) (N : List Value) (hl : N.length = 4) (h1 : N.all (·.oneCell') = true) : ∃ w2, (storeCells ⟨w.heap.size, 0, none⟩ N).run Try.prog (w.alloc (.cells z4 33)) = .ok () w2 ∧ Below w.heap.size w w2 ∧ w2.rangeAt w.heap.size 0 N ∧ w.heap.size < w2.heap.size := by
  obtain ⟨w2, s0, -, -, hS⟩ := (RG.St.new w z4.toList 33).store1 (P := Try.prog) 33 (D := N) hl (by rw [hl]; exact i33) h1
  have hh := hS.has 0 N rfl
  exact ⟨w2, s0, hS.bel.below, hh.1, hh.2.2.1⟩
omit [NeZero P] in
theorem tv_list (t : T3 P) : ∃ N : List Value, tv t = .agg N.toArray ∧ N.length = 12 ∧ N.all (·.oneCell') = true := ⟨ws t.1 ++ (ws t.2.1 ++ ws t.2.2), rfl, rfl, rfl⟩
theorem nv_list (m : Nat) : ∃ N : List Value, nv m = .agg N.toArray ∧ N.length = 4 ∧ N.all (·.oneCell') = true := ⟨wn m, rfl, rfl, rfl⟩
/-- What the law keeps: rows in blocks of their own. -/
structure Ro (W : World) (k : Nat) (N : List Value) : Prop where
  at' : W.rangeAt k 0 N
  lt : k < W.heap.size
theorem Ro.call {W W' : World} {k : Nat} {N : List Value} (h : Ro W k N) (hb : Below W.heap.size W W') : Ro W' k N := ⟨RG.range_below h.at' hb h.lt, Nat.lt_of_lt_of_le h.lt hb.size⟩
theorem lent_arg33 {W : World} {k : Nat} {s : ByteArray} (h : Holds encB W k 0 (lent s)) (_ : s.size ≤ 16384) : Arg33 W (.slice (some ⟨k, 0, none⟩) s.size (s.size + 160)) s.data :=
  ⟨_, _, _, rfl, rfl, fun h1 => ⟨k, 0, rfl, by omega, Holds.lt h (by rw [lent_size]; omega), holds_text s h⟩⟩
/-- An answer: bytes and no errno, or no bytes and an errno. -/
def Ans3 (W : World) (T : Bs) (c : Int) (q : Option Addr) (n cap : Nat) (ep : Int) : Prop :=
  (∃ g, q = some ⟨g, 0, none⟩ ∧ n = 33 ∧ ep = 0 ∧ c = 0 ∧ T.size = 33 ∧ g < W.heap.size ∧ Holds encB W g 0 T) ∨ (q = none ∧ n = 0 ∧ cap = 0 ∧ ep = c ∧ ¬ c = 0)
theorem Ans3.call {W W' : World} {T : Bs} {c : Int} {q : Option Addr} {n cap : Nat} {ep : Int} (h : Ans3 W T c q n cap ep) (hb : Below W.heap.size W W') : Ans3 W' T c q n cap ep := by
  rcases h with ⟨g, h1, h2, h3, h4, h5, h6, h7⟩ | h
  · exact Or.inl ⟨g, h1, h2, h3, h4, h5, Nat.lt_of_lt_of_le h6 hb.size, Holds.below h7 hb h6⟩
  · exact Or.inr h
theorem Ans3.told {W : World} {T : Bs} {c : Int} {q : Option Addr} {n cap : Nat} {ep : Int} (h : Ans3 W T c q n cap ep) : Calls Try.prog 41 #[.slice q n cap, .int .i64 ep, .int .i64 c, .string ⟨T⟩] W (Ret fun e w' => Below W.heap.size W w' ∧ e = .bool true) := by
  rcases h with ⟨g, rfl, rfl, rfl, rfl, h5, h6, h7⟩ | ⟨rfl, rfl, rfl, rfl, h5⟩
  · exact told3_ok g cap T W h5 h7
  · exact told3_err _ _ h5 W
theorem OutP.ans {w w' : World} {T : Bs} {e : Value} (h : OutP w T e w') (hT : T.size = 33) : ∃ q n cap ep, e = .tuple #[.slice q n cap, .int .i64 ep] ∧ Ans3 w' T 0 q n cap ep := by
  obtain ⟨g, cap, rfl, h1, h2, h3, h4⟩ := h
  exact ⟨_, _, _, _, rfl, Or.inl ⟨g, rfl, rfl, rfl, rfl, hT, h3, h4⟩⟩
theorem OutE.ans {w' : World} {c : Int} {e : Value} (h : OutE c e) (hc : ¬ c = 0) : ∃ q n cap ep, e = .tuple #[.slice q n cap, .int .i64 ep] ∧ Ans3 w' #[] c q n cap ep :=
  ⟨_, _, _, _, h, Or.inr ⟨rfl, rfl, rfl, rfl, hc⟩⟩
/-- What is asked of Plus. -/
def plT (x y : Option (Fin P × Fin P)) : Bs × Int := match x, y with
  | some p, some q => (wr (EC.add (pt p) (pt q)), 0)
  | _, _ => (#[], 4)
def miT (x : Option (Fin P × Fin P)) : Bs × Int := match x with
  | some p => (wr (EC.neg (pt p)), 0)
  | none => (#[], 4)
def tiT (n : Option Nat) (x : Option (Fin P × Fin P)) : Bs × Int := match n, x with
  | none, _ => (#[], 3)
  | some _, none => (#[], 4)
  | some n, some p => (wr (EC.mul n (pt p)), 0)
theorem PlusQ.ans {w w' : World} {az bs : Bs} {e : Value} (h : PlusQ P w az bs e w') : ∃ q n cap ep, e = .tuple #[.slice q n cap, .int .i64 ep] ∧ Ans3 w' (plT (rd P az) (rd P bs)).1 (plT (rd P az) (rd P bs)).2 q n cap ep := by
  unfold PlusQ at h
  unfold plT
  cases h1 : rd P az with
  | none => rw [h1] at h; exact OutE.ans (c := 4) h (by decide)
  | some p =>
    cases h2 : rd P bs with
    | none => rw [h1, h2] at h; exact OutE.ans (c := 4) h (by decide)
    | some q => rw [h1, h2] at h; exact OutP.ans h (wr_size _)
theorem MinusQ.ans {w w' : World} {bs : Bs} {e : Value} (h : MinusQ P w bs e w') : ∃ q n cap ep, e = .tuple #[.slice q n cap, .int .i64 ep] ∧ Ans3 w' (miT (rd P bs)).1 (miT (rd P bs)).2 q n cap ep := by
  unfold MinusQ at h
  unfold miT
  cases h1 : rd P bs with
  | none => rw [h1] at h; exact OutE.ans (c := 4) h (by decide)
  | some p => rw [h1] at h; exact OutP.ans h (wr_size _)
theorem TimesQ.ans {N : Nat} {w w' : World} {az bs : Bs} {e : Value} (h : TimesQ P N w az bs e w') : ∃ q n cap ep, e = .tuple #[.slice q n cap, .int .i64 ep] ∧ Ans3 w' (tiT (rq N az) (rd P bs)).1 (tiT (rq N az) (rd P bs)).2 q n cap ep := by
  unfold TimesQ at h
  unfold tiT
  cases h1 : rq N az with
  | none => rw [h1] at h; exact OutE.ans (c := 3) h (by decide)
  | some n =>
    cases h2 : rd P bs with
    | none => rw [h1, h2] at h; exact OutE.ans (c := 4) h (by decide)
    | some p => rw [h1, h2] at h; exact OutP.ans h (wr_size _)
theorem Hid.callA {W W' : World} {T : Bs} {c : Int} {q : Option Addr} {n cap : Nat} {ep : Int} (h : Hid (Ans3 W T c q n cap ep)) (hb : Below W.heap.size W W') : Hid (Ans3 W' T c q n cap ep) := Ans3.call h.out hb
theorem negT (C : Fl3 P) (t : T3 P) : Gives 37 #[tv t] (tv (t.1, 0 - t.2.1, t.2.2)) := rNeg3_c C t.1 t.2.1 t.2.2
/-- What the law keeps. -/
structure Cx (w0 W : World) (k1 : Nat) (N1 : List Value) (k2 : Nat) (N2 : List Value) (k3 : Nat) (N3 : List Value) (ks kt : Nat) (a b : ByteArray) : Prop where
  bl : Below w0.heap.size w0 W
  x1 : Ro W k1 N1
  x2 : Ro W k2 N2
  x3 : Ro W k3 N3
  ls : Holds encB W ks 0 (lent a)
  lt : Holds encB W kt 0 (lent b)
theorem Cx.call {w0 W W' : World} {k1 k2 k3 ks kt : Nat} {N1 N2 N3 : List Value} {a b : ByteArray} (h : Cx w0 W k1 N1 k2 N2 k3 N3 ks kt a b) (hb : Below W.heap.size W W') : Cx w0 W' k1 N1 k2 N2 k3 N3 ks kt a b :=
  ⟨h.bl.trans (hb.mono h.bl.size), h.x1.call hb, h.x2.call hb, h.x3.call hb, Holds.below h.ls hb (Holds.lt h.ls (by rw [lent_size]; omega)), Holds.below h.lt hb (Holds.lt h.lt (by rw [lent_size]; omega))⟩
theorem Cx.drew {w0 W : World} {k1 k2 k3 ks kt : Nat} {N1 N2 N3 : List Value} {a b : ByteArray} (h : Cx w0 W k1 N1 k2 N2 k3 N3 ks kt a b) : Cx w0 W.drew k1 N1 k2 N2 k3 N3 ks kt a b :=
  ⟨h.bl.drew, ⟨h.x1.at', h.x1.lt⟩, ⟨h.x2.at', h.x2.lt⟩, ⟨h.x3.at', h.x3.lt⟩, h.ls, h.lt⟩
set_option maxHeartbeats 8000000 in
set_option maxRecDepth 100000 in
theorem points_all {N : Nat} (C : Fl3 P) (hG : Gap 4624529908474429119 4994812053365940164 1 N) (hN : N ≤ top) (hR : RefP 13822214165235122497 13451932020343611451 18446744073709551614 18446744073709551615 4624529908474429119 4994812053365940164 1 0 N)
    (a b c : ByteArray) (ha : a.size ≤ 4096) (hb : b.size ≤ 4096) (hc : c.size ≤ 4096) (w0 : World) :
    Calls Try.prog 7 #[.string a, .string b, .string c] w0 fun e w' => e = .returned (.bool true) ∧ Below w0.heap.size w0 w' := by
  have HC : Hid (Fl3 P) := C
  have HG : Hid (Gap 4624529908474429119 4994812053365940164 1 N) := hG
  have HN : Hid (N ≤ top) := hN
  have HR : Hid (RefP 13822214165235122497 13451932020343611451 18446744073709551614 18446744073709551615 4624529908474429119 4994812053365940164 1 0 N) := hR
  clear C hG hN hR
  have g1 : ¬ (4096 : Int) < (a.size : Int) := by omega
  have g2 : ¬ (4096 : Int) < (b.size : Int) := by omega
  have g3 : ¬ (4096 : Int) < (c.size : Int) := by omega
  have g4 : (a.size : Int) ≤ (a.size : Int) + 160 := by omega
  have g5 : (b.size : Int) ≤ (b.size : Int) + 160 := by omega
  have HA : Hid (a.size ≤ 16384) := (by omega : a.size ≤ 16384)
  have HB : Hid (b.size ≤ 16384) := (by omega : b.size ≤ 16384)
  clear ha hb hc
  go_enter Try.func7, Try.ntmps7
  go_wp2_with fail
  refine (rRead_c HC.out a.data w0).mono ?_
  rintro e w1 ⟨v, rfl, hb1, hr⟩
  obtain ⟨tx, rfl, hfx⟩ := hr.two HC.out.toFld
  have HX : Hid (∀ p, rd P a.data = some p → FracT tx (pt p)) := hfx
  obtain ⟨N1, e1, l1, o1⟩ := tv_list tx
  obtain ⟨w2, s2, hb2, r2, lt2⟩ := cell12 w1 N1 l1 o1
  unfold z12 at s2
  rw [e1]
  have E1 : Hid (tv tx = .agg N1.toArray) := e1
  clear hr hfx e1 o1
  have KX : Hid (Below w0.heap.size w0 w2 ∧ Ro w2 w1.heap.size N1) := ⟨hb1.trans (hb2.mono hb1.size), ⟨r2, lt2⟩⟩
  clear hb1 hb2 r2 lt2
  generalize hox : (rd P a.data).isSome = ox
  have HOX : Hid ((rd P a.data).isSome = ox) := hox
  clear hox
  go_wp2_with fail
  clear s2
  generalize w1.heap.size = k1 at KX ⊢
  refine (rRead_c HC.out b.data w2).mono ?_
  rintro e w3 ⟨v, rfl, hb3, hr⟩
  obtain ⟨ty, rfl, hfx⟩ := hr.two HC.out.toFld
  have HY : Hid (∀ p, rd P b.data = some p → FracT ty (pt p)) := hfx
  obtain ⟨N2, e2, l2, o2⟩ := tv_list ty
  obtain ⟨w4, s4, hb4, r4, lt4⟩ := cell12 w3 N2 l2 o2
  unfold z12 at s4
  rw [e2]
  have E2 : Hid (tv ty = .agg N2.toArray) := e2
  replace KX : Hid (Below w0.heap.size w0 w4 ∧ Ro w4 k1 N1 ∧ Ro w4 w3.heap.size N2) := ⟨KX.out.1.trans ((hb3.trans (hb4.mono hb3.size)).mono KX.out.1.size), (KX.out.2.call hb3).call hb4, ⟨r4, lt4⟩⟩
  clear hr hfx e2 o2 hb3 hb4 r4 lt4
  generalize hoy : (rd P b.data).isSome = oy
  have HOY : Hid ((rd P b.data).isSome = oy) := hoy
  clear hoy
  go_wp2_with fail
  clear s4
  generalize w3.heap.size = k2 at KX ⊢
  refine (Q3_c w4).mono ?_
  rintro e w5 ⟨v, rfl, hb5, rfl⟩
  go_wp2_with fail
  refine (rNumQ HR.out c.data w5).mono ?_
  rintro e w6 ⟨v, rfl, hb6, hr⟩
  obtain ⟨m, rfl, hfm⟩ := hr.two
  have HM : Hid (∀ n, rq N c.data = some n → m = n) := hfm
  obtain ⟨N3, e3, l3, o3⟩ := nv_list m
  obtain ⟨w7, s7, hb7, r7, lt7⟩ := cell4 w6 N3 l3 o3
  unfold z4 at s7
  rw [e3]
  have E3 : Hid (nv m = .agg N3.toArray) := e3
  have hb57 : Below w4.heap.size w4 w7 := hb5.trans ((hb6.trans (hb7.mono hb6.size)).mono hb5.size)
  replace KX : Hid (Below w0.heap.size w0 w7 ∧ Ro w7 k1 N1 ∧ Ro w7 k2 N2 ∧ Ro w7 w6.heap.size N3) := ⟨KX.out.1.trans (hb57.mono KX.out.1.size), KX.out.2.1.call hb57, KX.out.2.2.call hb57, ⟨r7, lt7⟩⟩
  clear hr hfm e3 o3 hb5 hb6 hb7 hb57 r7 lt7
  generalize hok : (rq N c.data).isSome = ok
  have HOK : Hid ((rq N c.data).isSome = ok) := hok
  clear hok
  go_wp2_with fail
  clear s7
  generalize w6.heap.size = k3 at KX ⊢
  refine (Lent_any a _ HA.out).mono ?_
  rintro e w8 ⟨rfl, hb8, hL⟩
  go_wp2_with fail
  refine (Lent_any b _ HB.out).mono ?_
  rintro e w9 ⟨rfl, hb9, hL2⟩
  have hb79 : Below w7.heap.size w7 w9 := hb8.trans (hb9.mono hb8.size)
  replace KX : Hid (Cx w0 w9 k1 N1 k2 N2 k3 N3 w7.heap.size w8.heap.size a b) := ⟨KX.out.1.trans (hb79.mono KX.out.1.size), KX.out.2.1.call hb79, KX.out.2.2.1.call hb79, KX.out.2.2.2.call hb79, Holds.below hL hb9 (Holds.lt hL (by rw [lent_size]; omega)), hL2⟩
  clear hb8 hb9 hb79 hL hL2
  generalize w7.heap.size = ks at KX ⊢
  generalize w8.heap.size = kt at KX ⊢
  go_wp2_with fail
  refine (gPoint_c HC.out.toFld _ a.data w9 (lent_arg33 KX.out.ls HA.out)).mono ?_
  rintro e w10 ⟨v, rfl, hb10, rfl⟩
  replace KX : Hid (Cx w0 w10 k1 N1 k2 N2 k3 N3 ks kt a b) := KX.out.call hb10
  clear hb10
  rw [HOX.out]
  go_wp2_with fail
  have KP := KX.out
  clear KX
  obtain ⟨PL, hPL⟩ : ∃ z, plT (rd P a.data) (rd P b.data) = z := ⟨_, rfl⟩
  obtain ⟨MI, hMI⟩ : ∃ z, miT (rd P a.data) = z := ⟨_, rfl⟩
  obtain ⟨TI, hTI⟩ : ∃ z, tiT (rq N c.data) (rd P a.data) = z := ⟨_, rfl⟩
  have HPL : Hid (plT (rd P a.data) (rd P b.data) = PL) := hPL
  have HMI : Hid (miT (rd P a.data) = MI) := hMI
  have HTI : Hid (tiT (rq N c.data) (rd P a.data) = TI) := hTI
  clear hPL hMI hTI
  go_region_held3 (fun W => Cx w0 W k1 N1 k2 N2 k3 N3 ks kt a b) (first | (with_reducible exact KP) | (with_reducible exact KP.drew) | fail) (first | (go_at_call 34; (first | (with_reducible refine (gPlus_c HC.out.toFld _ _ a.data b.data _ (lent_arg33 KP.ls HA.out) (lent_arg33 KP.lt HB.out)).mono ?_) | (with_reducible refine (gPlus_c HC.out.toFld _ _ a.data b.data _ (lent_arg33 KP.drew.ls HA.out) (lent_arg33 KP.drew.lt HB.out)).mono ?_)); rintro e w11 ⟨v, rfl, hb11, hr⟩; obtain ⟨qs, ns, cs, es, rfl, hs⟩ := (PlusR.q HC.out.toFld hr).ans; rw [HPL.out] at hs; (first | (with_reducible (have KP1 := KP.drew.call hb11)) | (with_reducible (have KP1 := KP.call hb11)) | fail); have HS : Hid (Ans3 w11 PL.1 PL.2 qs ns cs es) := hs; clear KP hb11 hr hs; have KP := KP1; clear KP1))
  go_wp2_with fail
  refine (gMinus_c HC.out.toFld _ a.data _ (lent_arg33 KP.ls HA.out) 0).mono ?_
  rintro e w12 ⟨v, rfl, hb12, hr⟩
  obtain ⟨qm, nm, cm, em, rfl, hs⟩ := (MinusR.q HC.out.toFld hr).ans
  rw [HMI.out] at hs
  replace HS : Hid (Ans3 w12 PL.1 PL.2 qs ns cs es) := HS.out.call hb12
  have HI : Hid (Ans3 w12 MI.1 MI.2 qm nm cm em) := hs
  have KX : Hid (Cx w0 w12 k1 N1 k2 N2 k3 N3 ks kt a b) := KP.call hb12
  clear hb12 hr hs KP
  obtain ⟨capn, w13, hcv, hcc, hb13, hH13, hlt13⟩ := conv_of c w12
  replace KX : Hid (Cx w0 w13 k1 N1 k2 N2 k3 N3 ks kt a b) := KX.out.call hb13
  replace HS : Hid (Ans3 w13 PL.1 PL.2 qs ns cs es) := HS.out.call hb13
  replace HI : Hid (Ans3 w13 MI.1 MI.2 qm nm cm em) := HI.out.call hb13
  have HCN : Hid (Arg w13 (.slice (some ⟨w12.heap.size, 0, none⟩) c.size capn) c.data) := ⟨_, _, _, rfl, rfl, fun h => ⟨_, 0, rfl, by omega, hlt13, hH13⟩⟩
  clear hb13 hH13 hlt13 hcc
  go_wp2_with fail
  refine (gTimes_c HC.out.toFld HG.out HN.out _ _ c.data a.data w13 HCN.out (lent_arg33 KX.out.ls HA.out)).mono ?_
  rintro e w14 ⟨v, rfl, hb14, hr⟩
  obtain ⟨qt, nt, ct, et, rfl, hs⟩ := (TimesR.q HC.out.toFld HN.out hr).ans
  rw [HTI.out] at hs
  replace KX : Hid (Cx w0 w14 k1 N1 k2 N2 k3 N3 ks kt a b) := KX.out.call hb14
  replace HS : Hid (Ans3 w14 PL.1 PL.2 qs ns cs es) := HS.out.call hb14
  replace HI : Hid (Ans3 w14 MI.1 MI.2 qm nm cm em) := HI.out.call hb14
  have HT : Hid (Ans3 w14 TI.1 TI.2 qt nt ct et) := hs
  clear hb14 hr hs hcv HCN
  go_wp2_with fail
  refine (Still_any ks _ a w14 HA.out KX.out.ls rfl).mono ?_
  rintro e w15 ⟨rfl, hb15⟩
  replace KX : Hid (Cx w0 w15 k1 N1 k2 N2 k3 N3 ks kt a b) := KX.out.call hb15
  replace HS : Hid (Ans3 w15 PL.1 PL.2 qs ns cs es) := HS.out.call hb15
  replace HI : Hid (Ans3 w15 MI.1 MI.2 qm nm cm em) := HI.out.call hb15
  replace HT : Hid (Ans3 w15 TI.1 TI.2 qt nt ct et) := HT.out.call hb15
  clear hb15
  go_wp2_with fail
  refine (Still_any kt _ b w15 HB.out KX.out.lt rfl).mono ?_
  rintro e w16 ⟨rfl, hb16⟩
  replace KX : Hid (Cx w0 w16 k1 N1 k2 N2 k3 N3 ks kt a b) := KX.out.call hb16
  replace HS : Hid (Ans3 w16 PL.1 PL.2 qs ns cs es) := HS.out.call hb16
  replace HI : Hid (Ans3 w16 MI.1 MI.2 qm nm cm em) := HI.out.call hb16
  replace HT : Hid (Ans3 w16 TI.1 TI.2 qt nt ct et) := HT.out.call hb16
  clear hb16
  have hxx : (ox != ox) = false := by simp
  clear g1 g2 g3 g4 g5
  have HU : Hid (∃ d, Try.prog.underlying 56 = some d ∧ d.isRow = true) := Option.map_eq_some_iff.1 u56
  have HU3 : Hid (∃ d, Try.prog.underlying 33 = some d ∧ d.isRow = true) := Option.map_eq_some_iff.1 u33
  obtain ⟨d56, hu56, hd56⟩ := HU.out
  obtain ⟨d33, hu33, hd33⟩ := HU3.out
  clear HU HU3
  cases hx : rd P a.data with
  | none =>
    obtain rfl : ox = false := by rw [← HOX.out, hx]; rfl
    obtain rfl : MI = (#[], 4) := by rw [← HMI.out, hx]; rfl
    obtain rfl : PL = (#[], 4) := by rw [← HPL.out, hx]; rfl
    cases hk : rq N c.data with
    | none =>
      obtain rfl : ok = false := by rw [← HOK.out, hk]; rfl
      obtain rfl : TI = (#[], 3) := by rw [← HTI.out, hk]; rfl
      have r1 := KX.out.x1.at'
      have r2 := KX.out.x2.at'
      have r3 := KX.out.x3.at'
      go_wp2_with (first | refine wpList_load_mid rfl 56 _ rfl k1 0 rfl N1 _ r1 hu56 hd56 (by rw [l1]; exact i56) ?_ | refine wpList_load_mid rfl 56 _ rfl k2 0 rfl N2 _ r2 hu56 hd56 (by rw [l2]; exact i56) ?_ | refine wpList_load_mid rfl 33 _ rfl k3 0 rfl N3 _ r3 hu33 hd33 (by rw [l3]; exact i33) ?_)
      clear r1 r2 r3
      refine (Ans3.told HS.out).mono ?_
      rintro e w17 ⟨v, rfl, hbx, rfl⟩
      replace KX : Hid (Cx w0 w17 k1 N1 k2 N2 k3 N3 ks kt a b) := KX.out.call hbx
      replace HI := Hid.callA HI hbx
      replace HT := Hid.callA HT hbx
      clear hbx
      have r1 := KX.out.x1.at'
      have r2 := KX.out.x2.at'
      have r3 := KX.out.x3.at'
      go_wp2_with (first | refine wpList_load_mid rfl 56 _ rfl k1 0 rfl N1 _ r1 hu56 hd56 (by rw [l1]; exact i56) ?_ | refine wpList_load_mid rfl 56 _ rfl k2 0 rfl N2 _ r2 hu56 hd56 (by rw [l2]; exact i56) ?_ | refine wpList_load_mid rfl 33 _ rfl k3 0 rfl N3 _ r3 hu33 hd33 (by rw [l3]; exact i33) ?_)
      clear r1 r2 r3
      refine (Ans3.told HI.out).mono ?_
      rintro e w18 ⟨v, rfl, hbx, rfl⟩
      replace KX : Hid (Cx w0 w18 k1 N1 k2 N2 k3 N3 ks kt a b) := KX.out.call hbx
      replace HT := Hid.callA HT hbx
      clear hbx
      have r1 := KX.out.x1.at'
      have r2 := KX.out.x2.at'
      have r3 := KX.out.x3.at'
      go_wp2_with (first | refine wpList_load_mid rfl 56 _ rfl k1 0 rfl N1 _ r1 hu56 hd56 (by rw [l1]; exact i56) ?_ | refine wpList_load_mid rfl 56 _ rfl k2 0 rfl N2 _ r2 hu56 hd56 (by rw [l2]; exact i56) ?_ | refine wpList_load_mid rfl 33 _ rfl k3 0 rfl N3 _ r3 hu33 hd33 (by rw [l3]; exact i33) ?_)
      clear r1 r2 r3
      refine (Ans3.told HT.out).mono ?_
      rintro e w19 ⟨v, rfl, hbx, rfl⟩
      replace KX : Hid (Cx w0 w19 k1 N1 k2 N2 k3 N3 ks kt a b) := KX.out.call hbx
      clear hbx
      go_wp2
      go_ret
      exact ⟨by simp, KX.out.bl⟩
    | some n =>
      obtain rfl : ok = true := by rw [← HOK.out, hk]; rfl
      obtain rfl : TI = (#[], 4) := by rw [← HTI.out, hk, hx]; rfl
      have r1 := KX.out.x1.at'
      have r2 := KX.out.x2.at'
      have r3 := KX.out.x3.at'
      go_wp2_with (first | refine wpList_load_mid rfl 56 _ rfl k1 0 rfl N1 _ r1 hu56 hd56 (by rw [l1]; exact i56) ?_ | refine wpList_load_mid rfl 56 _ rfl k2 0 rfl N2 _ r2 hu56 hd56 (by rw [l2]; exact i56) ?_ | refine wpList_load_mid rfl 33 _ rfl k3 0 rfl N3 _ r3 hu33 hd33 (by rw [l3]; exact i33) ?_)
      clear r1 r2 r3
      refine (Ans3.told HS.out).mono ?_
      rintro e w17 ⟨v, rfl, hbx, rfl⟩
      replace KX : Hid (Cx w0 w17 k1 N1 k2 N2 k3 N3 ks kt a b) := KX.out.call hbx
      replace HI := Hid.callA HI hbx
      replace HT := Hid.callA HT hbx
      clear hbx
      have r1 := KX.out.x1.at'
      have r2 := KX.out.x2.at'
      have r3 := KX.out.x3.at'
      go_wp2_with (first | refine wpList_load_mid rfl 56 _ rfl k1 0 rfl N1 _ r1 hu56 hd56 (by rw [l1]; exact i56) ?_ | refine wpList_load_mid rfl 56 _ rfl k2 0 rfl N2 _ r2 hu56 hd56 (by rw [l2]; exact i56) ?_ | refine wpList_load_mid rfl 33 _ rfl k3 0 rfl N3 _ r3 hu33 hd33 (by rw [l3]; exact i33) ?_)
      clear r1 r2 r3
      refine (Ans3.told HI.out).mono ?_
      rintro e w18 ⟨v, rfl, hbx, rfl⟩
      replace KX : Hid (Cx w0 w18 k1 N1 k2 N2 k3 N3 ks kt a b) := KX.out.call hbx
      replace HT := Hid.callA HT hbx
      clear hbx
      have r1 := KX.out.x1.at'
      have r2 := KX.out.x2.at'
      have r3 := KX.out.x3.at'
      go_wp2_with (first | refine wpList_load_mid rfl 56 _ rfl k1 0 rfl N1 _ r1 hu56 hd56 (by rw [l1]; exact i56) ?_ | refine wpList_load_mid rfl 56 _ rfl k2 0 rfl N2 _ r2 hu56 hd56 (by rw [l2]; exact i56) ?_ | refine wpList_load_mid rfl 33 _ rfl k3 0 rfl N3 _ r3 hu33 hd33 (by rw [l3]; exact i33) ?_)
      clear r1 r2 r3
      refine (Ans3.told HT.out).mono ?_
      rintro e w19 ⟨v, rfl, hbx, rfl⟩
      replace KX : Hid (Cx w0 w19 k1 N1 k2 N2 k3 N3 ks kt a b) := KX.out.call hbx
      clear hbx
      go_wp2
      go_ret
      exact ⟨by simp, KX.out.bl⟩
  | some p =>
    obtain rfl : ox = true := by rw [← HOX.out, hx]; rfl
    obtain rfl : MI = (wr (EC.neg (pt p)), 0) := by rw [← HMI.out, hx]; rfl
    have HFX : Hid (FracT tx (pt p)) := HX.out p hx
    cases hy : rd P b.data with
    | none =>
      obtain rfl : oy = false := by rw [← HOY.out, hy]; rfl
      obtain rfl : PL = (#[], 4) := by rw [← HPL.out, hx, hy]; rfl
      cases hk : rq N c.data with
      | none =>
        obtain rfl : ok = false := by rw [← HOK.out, hk]; rfl
        obtain rfl : TI = (#[], 3) := by rw [← HTI.out, hk]; rfl
        have r1 := KX.out.x1.at'
        have r2 := KX.out.x2.at'
        have r3 := KX.out.x3.at'
        go_wp2_with (first | refine wpList_load_mid rfl 56 _ rfl k1 0 rfl N1 _ r1 hu56 hd56 (by rw [l1]; exact i56) ?_ | refine wpList_load_mid rfl 56 _ rfl k2 0 rfl N2 _ r2 hu56 hd56 (by rw [l2]; exact i56) ?_ | refine wpList_load_mid rfl 33 _ rfl k3 0 rfl N3 _ r3 hu33 hd33 (by rw [l3]; exact i33) ?_)
        clear r1 r2 r3
        refine ((E1.out ▸ negT HC.out tx : Gives 37 #[.agg N1.toArray] _) _).mono ?_
        rintro e w17 ⟨v, rfl, hbx, rfl⟩
        replace KX : Hid (Cx w0 w17 k1 N1 k2 N2 k3 N3 ks kt a b) := KX.out.call hbx
        replace HS := Hid.callA HS hbx
        replace HI := Hid.callA HI hbx
        replace HT := Hid.callA HT hbx
        clear hbx
        have r1 := KX.out.x1.at'
        have r2 := KX.out.x2.at'
        have r3 := KX.out.x3.at'
        go_wp2_with (first | refine wpList_load_mid rfl 56 _ rfl k1 0 rfl N1 _ r1 hu56 hd56 (by rw [l1]; exact i56) ?_ | refine wpList_load_mid rfl 56 _ rfl k2 0 rfl N2 _ r2 hu56 hd56 (by rw [l2]; exact i56) ?_ | refine wpList_load_mid rfl 33 _ rfl k3 0 rfl N3 _ r3 hu33 hd33 (by rw [l3]; exact i33) ?_)
        clear r1 r2 r3
        refine ((rWritten_c HC.out HFX.out.neg) _).mono ?_
        rintro e w18 ⟨v, rfl, hbx, rfl⟩
        replace KX : Hid (Cx w0 w18 k1 N1 k2 N2 k3 N3 ks kt a b) := KX.out.call hbx
        replace HS := Hid.callA HS hbx
        replace HI := Hid.callA HI hbx
        replace HT := Hid.callA HT hbx
        clear hbx
        have r1 := KX.out.x1.at'
        have r2 := KX.out.x2.at'
        have r3 := KX.out.x3.at'
        go_wp2_with (first | refine wpList_load_mid rfl 56 _ rfl k1 0 rfl N1 _ r1 hu56 hd56 (by rw [l1]; exact i56) ?_ | refine wpList_load_mid rfl 56 _ rfl k2 0 rfl N2 _ r2 hu56 hd56 (by rw [l2]; exact i56) ?_ | refine wpList_load_mid rfl 33 _ rfl k3 0 rfl N3 _ r3 hu33 hd33 (by rw [l3]; exact i33) ?_)
        clear r1 r2 r3
        refine (Ans3.told HS.out).mono ?_
        rintro e w19 ⟨v, rfl, hbx, rfl⟩
        replace KX : Hid (Cx w0 w19 k1 N1 k2 N2 k3 N3 ks kt a b) := KX.out.call hbx
        replace HI := Hid.callA HI hbx
        replace HT := Hid.callA HT hbx
        clear hbx
        have r1 := KX.out.x1.at'
        have r2 := KX.out.x2.at'
        have r3 := KX.out.x3.at'
        go_wp2_with (first | refine wpList_load_mid rfl 56 _ rfl k1 0 rfl N1 _ r1 hu56 hd56 (by rw [l1]; exact i56) ?_ | refine wpList_load_mid rfl 56 _ rfl k2 0 rfl N2 _ r2 hu56 hd56 (by rw [l2]; exact i56) ?_ | refine wpList_load_mid rfl 33 _ rfl k3 0 rfl N3 _ r3 hu33 hd33 (by rw [l3]; exact i33) ?_)
        clear r1 r2 r3
        refine (Ans3.told HI.out).mono ?_
        rintro e w20 ⟨v, rfl, hbx, rfl⟩
        replace KX : Hid (Cx w0 w20 k1 N1 k2 N2 k3 N3 ks kt a b) := KX.out.call hbx
        replace HT := Hid.callA HT hbx
        clear hbx
        have r1 := KX.out.x1.at'
        have r2 := KX.out.x2.at'
        have r3 := KX.out.x3.at'
        go_wp2_with (first | refine wpList_load_mid rfl 56 _ rfl k1 0 rfl N1 _ r1 hu56 hd56 (by rw [l1]; exact i56) ?_ | refine wpList_load_mid rfl 56 _ rfl k2 0 rfl N2 _ r2 hu56 hd56 (by rw [l2]; exact i56) ?_ | refine wpList_load_mid rfl 33 _ rfl k3 0 rfl N3 _ r3 hu33 hd33 (by rw [l3]; exact i33) ?_)
        clear r1 r2 r3
        refine (Ans3.told HT.out).mono ?_
        rintro e w21 ⟨v, rfl, hbx, rfl⟩
        replace KX : Hid (Cx w0 w21 k1 N1 k2 N2 k3 N3 ks kt a b) := KX.out.call hbx
        clear hbx
        go_wp2
        go_ret
        exact ⟨by simp, KX.out.bl⟩
      | some n =>
        obtain rfl : ok = true := by rw [← HOK.out, hk]; rfl
        obtain rfl := HM.out n hk
        obtain rfl : TI = (wr (EC.mul m (pt p)), 0) := by rw [← HTI.out, hk, hx]; rfl
        have HMT : Hid (m < top) := rq_top HN.out hk
        have HFT : Hid (FracT (tmF m tx 256) (EC.mul m (pt p))) := by
          have h := tmF_F HC.out HMT.out HFX.out 256 (Nat.le_refl _)
          rw [Nat.sub_self, Nat.pow_zero, Nat.div_one] at h
          exact h
        have r1 := KX.out.x1.at'
        have r2 := KX.out.x2.at'
        have r3 := KX.out.x3.at'
        go_wp2_with (first | refine wpList_load_mid rfl 56 _ rfl k1 0 rfl N1 _ r1 hu56 hd56 (by rw [l1]; exact i56) ?_ | refine wpList_load_mid rfl 56 _ rfl k2 0 rfl N2 _ r2 hu56 hd56 (by rw [l2]; exact i56) ?_ | refine wpList_load_mid rfl 33 _ rfl k3 0 rfl N3 _ r3 hu33 hd33 (by rw [l3]; exact i33) ?_)
        clear r1 r2 r3
        refine ((E1.out ▸ negT HC.out tx : Gives 37 #[.agg N1.toArray] _) _).mono ?_
        rintro e w17 ⟨v, rfl, hbx, rfl⟩
        replace KX : Hid (Cx w0 w17 k1 N1 k2 N2 k3 N3 ks kt a b) := KX.out.call hbx
        replace HS := Hid.callA HS hbx
        replace HI := Hid.callA HI hbx
        replace HT := Hid.callA HT hbx
        clear hbx
        have r1 := KX.out.x1.at'
        have r2 := KX.out.x2.at'
        have r3 := KX.out.x3.at'
        go_wp2_with (first | refine wpList_load_mid rfl 56 _ rfl k1 0 rfl N1 _ r1 hu56 hd56 (by rw [l1]; exact i56) ?_ | refine wpList_load_mid rfl 56 _ rfl k2 0 rfl N2 _ r2 hu56 hd56 (by rw [l2]; exact i56) ?_ | refine wpList_load_mid rfl 33 _ rfl k3 0 rfl N3 _ r3 hu33 hd33 (by rw [l3]; exact i33) ?_)
        clear r1 r2 r3
        refine ((rWritten_c HC.out HFX.out.neg) _).mono ?_
        rintro e w18 ⟨v, rfl, hbx, rfl⟩
        replace KX : Hid (Cx w0 w18 k1 N1 k2 N2 k3 N3 ks kt a b) := KX.out.call hbx
        replace HS := Hid.callA HS hbx
        replace HI := Hid.callA HI hbx
        replace HT := Hid.callA HT hbx
        clear hbx
        have r1 := KX.out.x1.at'
        have r2 := KX.out.x2.at'
        have r3 := KX.out.x3.at'
        go_wp2_with (first | refine wpList_load_mid rfl 56 _ rfl k1 0 rfl N1 _ r1 hu56 hd56 (by rw [l1]; exact i56) ?_ | refine wpList_load_mid rfl 56 _ rfl k2 0 rfl N2 _ r2 hu56 hd56 (by rw [l2]; exact i56) ?_ | refine wpList_load_mid rfl 33 _ rfl k3 0 rfl N3 _ r3 hu33 hd33 (by rw [l3]; exact i33) ?_)
        clear r1 r2 r3
        refine ((by rw [← E1.out, ← E3.out]; exact rTimes_c HC.out m HMT.out tx HFX.out : Gives 40 #[.agg N3.toArray, .agg N1.toArray] (tv (tmF m tx 256))) _).mono ?_
        rintro e w19 ⟨v, rfl, hbx, rfl⟩
        replace KX : Hid (Cx w0 w19 k1 N1 k2 N2 k3 N3 ks kt a b) := KX.out.call hbx
        replace HS := Hid.callA HS hbx
        replace HI := Hid.callA HI hbx
        replace HT := Hid.callA HT hbx
        clear hbx
        have r1 := KX.out.x1.at'
        have r2 := KX.out.x2.at'
        have r3 := KX.out.x3.at'
        go_wp2_with (first | refine wpList_load_mid rfl 56 _ rfl k1 0 rfl N1 _ r1 hu56 hd56 (by rw [l1]; exact i56) ?_ | refine wpList_load_mid rfl 56 _ rfl k2 0 rfl N2 _ r2 hu56 hd56 (by rw [l2]; exact i56) ?_ | refine wpList_load_mid rfl 33 _ rfl k3 0 rfl N3 _ r3 hu33 hd33 (by rw [l3]; exact i33) ?_)
        clear r1 r2 r3
        refine ((rWritten_c HC.out HFT.out) _).mono ?_
        rintro e w20 ⟨v, rfl, hbx, rfl⟩
        replace KX : Hid (Cx w0 w20 k1 N1 k2 N2 k3 N3 ks kt a b) := KX.out.call hbx
        replace HS := Hid.callA HS hbx
        replace HI := Hid.callA HI hbx
        replace HT := Hid.callA HT hbx
        clear hbx
        have r1 := KX.out.x1.at'
        have r2 := KX.out.x2.at'
        have r3 := KX.out.x3.at'
        go_wp2_with (first | refine wpList_load_mid rfl 56 _ rfl k1 0 rfl N1 _ r1 hu56 hd56 (by rw [l1]; exact i56) ?_ | refine wpList_load_mid rfl 56 _ rfl k2 0 rfl N2 _ r2 hu56 hd56 (by rw [l2]; exact i56) ?_ | refine wpList_load_mid rfl 33 _ rfl k3 0 rfl N3 _ r3 hu33 hd33 (by rw [l3]; exact i33) ?_)
        clear r1 r2 r3
        refine (Ans3.told HS.out).mono ?_
        rintro e w21 ⟨v, rfl, hbx, rfl⟩
        replace KX : Hid (Cx w0 w21 k1 N1 k2 N2 k3 N3 ks kt a b) := KX.out.call hbx
        replace HI := Hid.callA HI hbx
        replace HT := Hid.callA HT hbx
        clear hbx
        have r1 := KX.out.x1.at'
        have r2 := KX.out.x2.at'
        have r3 := KX.out.x3.at'
        go_wp2_with (first | refine wpList_load_mid rfl 56 _ rfl k1 0 rfl N1 _ r1 hu56 hd56 (by rw [l1]; exact i56) ?_ | refine wpList_load_mid rfl 56 _ rfl k2 0 rfl N2 _ r2 hu56 hd56 (by rw [l2]; exact i56) ?_ | refine wpList_load_mid rfl 33 _ rfl k3 0 rfl N3 _ r3 hu33 hd33 (by rw [l3]; exact i33) ?_)
        clear r1 r2 r3
        refine (Ans3.told HI.out).mono ?_
        rintro e w22 ⟨v, rfl, hbx, rfl⟩
        replace KX : Hid (Cx w0 w22 k1 N1 k2 N2 k3 N3 ks kt a b) := KX.out.call hbx
        replace HT := Hid.callA HT hbx
        clear hbx
        have r1 := KX.out.x1.at'
        have r2 := KX.out.x2.at'
        have r3 := KX.out.x3.at'
        go_wp2_with (first | refine wpList_load_mid rfl 56 _ rfl k1 0 rfl N1 _ r1 hu56 hd56 (by rw [l1]; exact i56) ?_ | refine wpList_load_mid rfl 56 _ rfl k2 0 rfl N2 _ r2 hu56 hd56 (by rw [l2]; exact i56) ?_ | refine wpList_load_mid rfl 33 _ rfl k3 0 rfl N3 _ r3 hu33 hd33 (by rw [l3]; exact i33) ?_)
        clear r1 r2 r3
        refine (Ans3.told HT.out).mono ?_
        rintro e w23 ⟨v, rfl, hbx, rfl⟩
        replace KX : Hid (Cx w0 w23 k1 N1 k2 N2 k3 N3 ks kt a b) := KX.out.call hbx
        clear hbx
        go_wp2
        go_ret
        exact ⟨by simp, KX.out.bl⟩
    | some q =>
      obtain rfl : oy = true := by rw [← HOY.out, hy]; rfl
      obtain rfl : PL = (wr (EC.add (pt p) (pt q)), 0) := by rw [← HPL.out, hx, hy]; rfl
      have HFY : Hid (FracT ty (pt q)) := HY.out q hy
      cases hk : rq N c.data with
      | none =>
        obtain rfl : ok = false := by rw [← HOK.out, hk]; rfl
        obtain rfl : TI = (#[], 3) := by rw [← HTI.out, hk]; rfl
        have r1 := KX.out.x1.at'
        have r2 := KX.out.x2.at'
        have r3 := KX.out.x3.at'
        go_wp2_with (first | refine wpList_load_mid rfl 56 _ rfl k1 0 rfl N1 _ r1 hu56 hd56 (by rw [l1]; exact i56) ?_ | refine wpList_load_mid rfl 56 _ rfl k2 0 rfl N2 _ r2 hu56 hd56 (by rw [l2]; exact i56) ?_ | refine wpList_load_mid rfl 33 _ rfl k3 0 rfl N3 _ r3 hu33 hd33 (by rw [l3]; exact i33) ?_)
        clear r1 r2 r3
        refine ((E1.out ▸ negT HC.out tx : Gives 37 #[.agg N1.toArray] _) _).mono ?_
        rintro e w17 ⟨v, rfl, hbx, rfl⟩
        replace KX : Hid (Cx w0 w17 k1 N1 k2 N2 k3 N3 ks kt a b) := KX.out.call hbx
        replace HS := Hid.callA HS hbx
        replace HI := Hid.callA HI hbx
        replace HT := Hid.callA HT hbx
        clear hbx
        have r1 := KX.out.x1.at'
        have r2 := KX.out.x2.at'
        have r3 := KX.out.x3.at'
        go_wp2_with (first | refine wpList_load_mid rfl 56 _ rfl k1 0 rfl N1 _ r1 hu56 hd56 (by rw [l1]; exact i56) ?_ | refine wpList_load_mid rfl 56 _ rfl k2 0 rfl N2 _ r2 hu56 hd56 (by rw [l2]; exact i56) ?_ | refine wpList_load_mid rfl 33 _ rfl k3 0 rfl N3 _ r3 hu33 hd33 (by rw [l3]; exact i33) ?_)
        clear r1 r2 r3
        refine ((rWritten_c HC.out HFX.out.neg) _).mono ?_
        rintro e w18 ⟨v, rfl, hbx, rfl⟩
        replace KX : Hid (Cx w0 w18 k1 N1 k2 N2 k3 N3 ks kt a b) := KX.out.call hbx
        replace HS := Hid.callA HS hbx
        replace HI := Hid.callA HI hbx
        replace HT := Hid.callA HT hbx
        clear hbx
        have r1 := KX.out.x1.at'
        have r2 := KX.out.x2.at'
        have r3 := KX.out.x3.at'
        go_wp2_with (first | refine wpList_load_mid rfl 56 _ rfl k1 0 rfl N1 _ r1 hu56 hd56 (by rw [l1]; exact i56) ?_ | refine wpList_load_mid rfl 56 _ rfl k2 0 rfl N2 _ r2 hu56 hd56 (by rw [l2]; exact i56) ?_ | refine wpList_load_mid rfl 33 _ rfl k3 0 rfl N3 _ r3 hu33 hd33 (by rw [l3]; exact i33) ?_)
        clear r1 r2 r3
        refine ((by rw [← E1.out, ← E2.out]; exact (HFX.out.plus HC.out HFY.out).1 : Gives 39 #[.agg N1.toArray, .agg N2.toArray] (tv (plF tx ty))) _).mono ?_
        rintro e w19 ⟨v, rfl, hbx, rfl⟩
        replace KX : Hid (Cx w0 w19 k1 N1 k2 N2 k3 N3 ks kt a b) := KX.out.call hbx
        replace HS := Hid.callA HS hbx
        replace HI := Hid.callA HI hbx
        replace HT := Hid.callA HT hbx
        clear hbx
        have r1 := KX.out.x1.at'
        have r2 := KX.out.x2.at'
        have r3 := KX.out.x3.at'
        go_wp2_with (first | refine wpList_load_mid rfl 56 _ rfl k1 0 rfl N1 _ r1 hu56 hd56 (by rw [l1]; exact i56) ?_ | refine wpList_load_mid rfl 56 _ rfl k2 0 rfl N2 _ r2 hu56 hd56 (by rw [l2]; exact i56) ?_ | refine wpList_load_mid rfl 33 _ rfl k3 0 rfl N3 _ r3 hu33 hd33 (by rw [l3]; exact i33) ?_)
        clear r1 r2 r3
        refine ((rWritten_c HC.out (HFX.out.plus HC.out HFY.out).2) _).mono ?_
        rintro e w20 ⟨v, rfl, hbx, rfl⟩
        replace KX : Hid (Cx w0 w20 k1 N1 k2 N2 k3 N3 ks kt a b) := KX.out.call hbx
        replace HS := Hid.callA HS hbx
        replace HI := Hid.callA HI hbx
        replace HT := Hid.callA HT hbx
        clear hbx
        have r1 := KX.out.x1.at'
        have r2 := KX.out.x2.at'
        have r3 := KX.out.x3.at'
        go_wp2_with (first | refine wpList_load_mid rfl 56 _ rfl k1 0 rfl N1 _ r1 hu56 hd56 (by rw [l1]; exact i56) ?_ | refine wpList_load_mid rfl 56 _ rfl k2 0 rfl N2 _ r2 hu56 hd56 (by rw [l2]; exact i56) ?_ | refine wpList_load_mid rfl 33 _ rfl k3 0 rfl N3 _ r3 hu33 hd33 (by rw [l3]; exact i33) ?_)
        clear r1 r2 r3
        refine (Ans3.told HS.out).mono ?_
        rintro e w21 ⟨v, rfl, hbx, rfl⟩
        replace KX : Hid (Cx w0 w21 k1 N1 k2 N2 k3 N3 ks kt a b) := KX.out.call hbx
        replace HI := Hid.callA HI hbx
        replace HT := Hid.callA HT hbx
        clear hbx
        have r1 := KX.out.x1.at'
        have r2 := KX.out.x2.at'
        have r3 := KX.out.x3.at'
        go_wp2_with (first | refine wpList_load_mid rfl 56 _ rfl k1 0 rfl N1 _ r1 hu56 hd56 (by rw [l1]; exact i56) ?_ | refine wpList_load_mid rfl 56 _ rfl k2 0 rfl N2 _ r2 hu56 hd56 (by rw [l2]; exact i56) ?_ | refine wpList_load_mid rfl 33 _ rfl k3 0 rfl N3 _ r3 hu33 hd33 (by rw [l3]; exact i33) ?_)
        clear r1 r2 r3
        refine (Ans3.told HI.out).mono ?_
        rintro e w22 ⟨v, rfl, hbx, rfl⟩
        replace KX : Hid (Cx w0 w22 k1 N1 k2 N2 k3 N3 ks kt a b) := KX.out.call hbx
        replace HT := Hid.callA HT hbx
        clear hbx
        have r1 := KX.out.x1.at'
        have r2 := KX.out.x2.at'
        have r3 := KX.out.x3.at'
        go_wp2_with (first | refine wpList_load_mid rfl 56 _ rfl k1 0 rfl N1 _ r1 hu56 hd56 (by rw [l1]; exact i56) ?_ | refine wpList_load_mid rfl 56 _ rfl k2 0 rfl N2 _ r2 hu56 hd56 (by rw [l2]; exact i56) ?_ | refine wpList_load_mid rfl 33 _ rfl k3 0 rfl N3 _ r3 hu33 hd33 (by rw [l3]; exact i33) ?_)
        clear r1 r2 r3
        refine (Ans3.told HT.out).mono ?_
        rintro e w23 ⟨v, rfl, hbx, rfl⟩
        replace KX : Hid (Cx w0 w23 k1 N1 k2 N2 k3 N3 ks kt a b) := KX.out.call hbx
        clear hbx
        go_wp2
        go_ret
        exact ⟨by simp, KX.out.bl⟩
      | some n =>
        obtain rfl : ok = true := by rw [← HOK.out, hk]; rfl
        obtain rfl := HM.out n hk
        obtain rfl : TI = (wr (EC.mul m (pt p)), 0) := by rw [← HTI.out, hk, hx]; rfl
        have HMT : Hid (m < top) := rq_top HN.out hk
        have HFT : Hid (FracT (tmF m tx 256) (EC.mul m (pt p))) := by
          have h := tmF_F HC.out HMT.out HFX.out 256 (Nat.le_refl _)
          rw [Nat.sub_self, Nat.pow_zero, Nat.div_one] at h
          exact h
        have r1 := KX.out.x1.at'
        have r2 := KX.out.x2.at'
        have r3 := KX.out.x3.at'
        go_wp2_with (first | refine wpList_load_mid rfl 56 _ rfl k1 0 rfl N1 _ r1 hu56 hd56 (by rw [l1]; exact i56) ?_ | refine wpList_load_mid rfl 56 _ rfl k2 0 rfl N2 _ r2 hu56 hd56 (by rw [l2]; exact i56) ?_ | refine wpList_load_mid rfl 33 _ rfl k3 0 rfl N3 _ r3 hu33 hd33 (by rw [l3]; exact i33) ?_)
        clear r1 r2 r3
        refine ((E1.out ▸ negT HC.out tx : Gives 37 #[.agg N1.toArray] _) _).mono ?_
        rintro e w17 ⟨v, rfl, hbx, rfl⟩
        replace KX : Hid (Cx w0 w17 k1 N1 k2 N2 k3 N3 ks kt a b) := KX.out.call hbx
        replace HS := Hid.callA HS hbx
        replace HI := Hid.callA HI hbx
        replace HT := Hid.callA HT hbx
        clear hbx
        have r1 := KX.out.x1.at'
        have r2 := KX.out.x2.at'
        have r3 := KX.out.x3.at'
        go_wp2_with (first | refine wpList_load_mid rfl 56 _ rfl k1 0 rfl N1 _ r1 hu56 hd56 (by rw [l1]; exact i56) ?_ | refine wpList_load_mid rfl 56 _ rfl k2 0 rfl N2 _ r2 hu56 hd56 (by rw [l2]; exact i56) ?_ | refine wpList_load_mid rfl 33 _ rfl k3 0 rfl N3 _ r3 hu33 hd33 (by rw [l3]; exact i33) ?_)
        clear r1 r2 r3
        refine ((rWritten_c HC.out HFX.out.neg) _).mono ?_
        rintro e w18 ⟨v, rfl, hbx, rfl⟩
        replace KX : Hid (Cx w0 w18 k1 N1 k2 N2 k3 N3 ks kt a b) := KX.out.call hbx
        replace HS := Hid.callA HS hbx
        replace HI := Hid.callA HI hbx
        replace HT := Hid.callA HT hbx
        clear hbx
        have r1 := KX.out.x1.at'
        have r2 := KX.out.x2.at'
        have r3 := KX.out.x3.at'
        go_wp2_with (first | refine wpList_load_mid rfl 56 _ rfl k1 0 rfl N1 _ r1 hu56 hd56 (by rw [l1]; exact i56) ?_ | refine wpList_load_mid rfl 56 _ rfl k2 0 rfl N2 _ r2 hu56 hd56 (by rw [l2]; exact i56) ?_ | refine wpList_load_mid rfl 33 _ rfl k3 0 rfl N3 _ r3 hu33 hd33 (by rw [l3]; exact i33) ?_)
        clear r1 r2 r3
        refine ((by rw [← E1.out, ← E2.out]; exact (HFX.out.plus HC.out HFY.out).1 : Gives 39 #[.agg N1.toArray, .agg N2.toArray] (tv (plF tx ty))) _).mono ?_
        rintro e w19 ⟨v, rfl, hbx, rfl⟩
        replace KX : Hid (Cx w0 w19 k1 N1 k2 N2 k3 N3 ks kt a b) := KX.out.call hbx
        replace HS := Hid.callA HS hbx
        replace HI := Hid.callA HI hbx
        replace HT := Hid.callA HT hbx
        clear hbx
        have r1 := KX.out.x1.at'
        have r2 := KX.out.x2.at'
        have r3 := KX.out.x3.at'
        go_wp2_with (first | refine wpList_load_mid rfl 56 _ rfl k1 0 rfl N1 _ r1 hu56 hd56 (by rw [l1]; exact i56) ?_ | refine wpList_load_mid rfl 56 _ rfl k2 0 rfl N2 _ r2 hu56 hd56 (by rw [l2]; exact i56) ?_ | refine wpList_load_mid rfl 33 _ rfl k3 0 rfl N3 _ r3 hu33 hd33 (by rw [l3]; exact i33) ?_)
        clear r1 r2 r3
        refine ((rWritten_c HC.out (HFX.out.plus HC.out HFY.out).2) _).mono ?_
        rintro e w20 ⟨v, rfl, hbx, rfl⟩
        replace KX : Hid (Cx w0 w20 k1 N1 k2 N2 k3 N3 ks kt a b) := KX.out.call hbx
        replace HS := Hid.callA HS hbx
        replace HI := Hid.callA HI hbx
        replace HT := Hid.callA HT hbx
        clear hbx
        have r1 := KX.out.x1.at'
        have r2 := KX.out.x2.at'
        have r3 := KX.out.x3.at'
        go_wp2_with (first | refine wpList_load_mid rfl 56 _ rfl k1 0 rfl N1 _ r1 hu56 hd56 (by rw [l1]; exact i56) ?_ | refine wpList_load_mid rfl 56 _ rfl k2 0 rfl N2 _ r2 hu56 hd56 (by rw [l2]; exact i56) ?_ | refine wpList_load_mid rfl 33 _ rfl k3 0 rfl N3 _ r3 hu33 hd33 (by rw [l3]; exact i33) ?_)
        clear r1 r2 r3
        refine ((by rw [← E1.out, ← E3.out]; exact rTimes_c HC.out m HMT.out tx HFX.out : Gives 40 #[.agg N3.toArray, .agg N1.toArray] (tv (tmF m tx 256))) _).mono ?_
        rintro e w21 ⟨v, rfl, hbx, rfl⟩
        replace KX : Hid (Cx w0 w21 k1 N1 k2 N2 k3 N3 ks kt a b) := KX.out.call hbx
        replace HS := Hid.callA HS hbx
        replace HI := Hid.callA HI hbx
        replace HT := Hid.callA HT hbx
        clear hbx
        have r1 := KX.out.x1.at'
        have r2 := KX.out.x2.at'
        have r3 := KX.out.x3.at'
        go_wp2_with (first | refine wpList_load_mid rfl 56 _ rfl k1 0 rfl N1 _ r1 hu56 hd56 (by rw [l1]; exact i56) ?_ | refine wpList_load_mid rfl 56 _ rfl k2 0 rfl N2 _ r2 hu56 hd56 (by rw [l2]; exact i56) ?_ | refine wpList_load_mid rfl 33 _ rfl k3 0 rfl N3 _ r3 hu33 hd33 (by rw [l3]; exact i33) ?_)
        clear r1 r2 r3
        refine ((rWritten_c HC.out HFT.out) _).mono ?_
        rintro e w22 ⟨v, rfl, hbx, rfl⟩
        replace KX : Hid (Cx w0 w22 k1 N1 k2 N2 k3 N3 ks kt a b) := KX.out.call hbx
        replace HS := Hid.callA HS hbx
        replace HI := Hid.callA HI hbx
        replace HT := Hid.callA HT hbx
        clear hbx
        have r1 := KX.out.x1.at'
        have r2 := KX.out.x2.at'
        have r3 := KX.out.x3.at'
        go_wp2_with (first | refine wpList_load_mid rfl 56 _ rfl k1 0 rfl N1 _ r1 hu56 hd56 (by rw [l1]; exact i56) ?_ | refine wpList_load_mid rfl 56 _ rfl k2 0 rfl N2 _ r2 hu56 hd56 (by rw [l2]; exact i56) ?_ | refine wpList_load_mid rfl 33 _ rfl k3 0 rfl N3 _ r3 hu33 hd33 (by rw [l3]; exact i33) ?_)
        clear r1 r2 r3
        refine (Ans3.told HS.out).mono ?_
        rintro e w23 ⟨v, rfl, hbx, rfl⟩
        replace KX : Hid (Cx w0 w23 k1 N1 k2 N2 k3 N3 ks kt a b) := KX.out.call hbx
        replace HI := Hid.callA HI hbx
        replace HT := Hid.callA HT hbx
        clear hbx
        have r1 := KX.out.x1.at'
        have r2 := KX.out.x2.at'
        have r3 := KX.out.x3.at'
        go_wp2_with (first | refine wpList_load_mid rfl 56 _ rfl k1 0 rfl N1 _ r1 hu56 hd56 (by rw [l1]; exact i56) ?_ | refine wpList_load_mid rfl 56 _ rfl k2 0 rfl N2 _ r2 hu56 hd56 (by rw [l2]; exact i56) ?_ | refine wpList_load_mid rfl 33 _ rfl k3 0 rfl N3 _ r3 hu33 hd33 (by rw [l3]; exact i33) ?_)
        clear r1 r2 r3
        refine (Ans3.told HI.out).mono ?_
        rintro e w24 ⟨v, rfl, hbx, rfl⟩
        replace KX : Hid (Cx w0 w24 k1 N1 k2 N2 k3 N3 ks kt a b) := KX.out.call hbx
        replace HT := Hid.callA HT hbx
        clear hbx
        have r1 := KX.out.x1.at'
        have r2 := KX.out.x2.at'
        have r3 := KX.out.x3.at'
        go_wp2_with (first | refine wpList_load_mid rfl 56 _ rfl k1 0 rfl N1 _ r1 hu56 hd56 (by rw [l1]; exact i56) ?_ | refine wpList_load_mid rfl 56 _ rfl k2 0 rfl N2 _ r2 hu56 hd56 (by rw [l2]; exact i56) ?_ | refine wpList_load_mid rfl 33 _ rfl k3 0 rfl N3 _ r3 hu33 hd33 (by rw [l3]; exact i33) ?_)
        clear r1 r2 r3
        refine (Ans3.told HT.out).mono ?_
        rintro e w25 ⟨v, rfl, hbx, rfl⟩
        replace KX : Hid (Cx w0 w25 k1 N1 k2 N2 k3 N3 ks kt a b) := KX.out.call hbx
        clear hbx
        go_wp2
        go_ret
        exact ⟨by simp, KX.out.bl⟩
end Go.Proofs.Ytbimbalfdmffaab
namespace Go.Proofs.Ytbimbalfdmffaab
open Go.RowKit Go.Sort Go.Deep
theorem fl3 : ∃ (P : Nat) (_ : NeZero P), Fl3 P := by
  obtain ⟨P, hz, hP, hc⟩ := EC.cur
  have h0 : P = Go.Proofs.Ytbimbalfdmffaab.p0 := by rw [hP]; decide +kernel
  have hg := gap0
  have hr := refP0
  have h2 : 2 ≤ Go.Proofs.Ytbimbalfdmffaab.p0 % 18446744073709551616 := by decide +kernel
  have h4 : Go.Proofs.Ytbimbalfdmffaab.p0 / 4 % 18446744073709551616 < 18446744073709551615 := by decide +kernel
  have h3 : Go.Proofs.Ytbimbalfdmffaab.p0 % 4 = 3 := by decide +kernel
  have h7 : 7 < Go.Proofs.Ytbimbalfdmffaab.p0 := by decide +kernel
  rw [← h0] at hg hr h2 h4 h3 h7
  exact ⟨P, hz, ⟨⟨hg, hc, h2, h4, h3, h7⟩, hr⟩⟩
theorem p1_top : Go.Proofs.Ytbimbalfdmffaab.p1 ≤ top := by decide +kernel
set_option maxHeartbeats 2000000 in
theorem points_any (a b c : ByteArray) (w0 : World) :
    Calls Try.prog 7 #[.string a, .string b, .string c] w0 fun e w' => e = .returned (.bool true) ∧ Below w0.heap.size w0 w' := by
  by_cases ha : a.size ≤ 4096
  · by_cases hb : b.size ≤ 4096
    · by_cases hc : c.size ≤ 4096
      · obtain ⟨P, hz, C⟩ := fl3
        exact points_all C gap1 p1_top refP1 a b c ha hb hc w0
      · have g1 : ¬ (4096 : Int) < (a.size : Int) := by omega
        have g2 : ¬ (4096 : Int) < (b.size : Int) := by omega
        have g3 : (4096 : Int) < (c.size : Int) := by omega
        go_enter Try.func7, Try.ntmps7
        go_wp2
        go_ret
        exact ⟨rfl, Below.refl _ _⟩
    · have g1 : ¬ (4096 : Int) < (a.size : Int) := by omega
      have g2 : (4096 : Int) < (b.size : Int) := by omega
      go_enter Try.func7, Try.ntmps7
      go_wp2
      go_ret
      exact ⟨rfl, Below.refl _ _⟩
  · have g1 : (4096 : Int) < (a.size : Int) := by omega
    go_enter Try.func7, Try.ntmps7
    go_wp2
    go_ret
    exact ⟨rfl, Below.refl _ _⟩
end Go.Proofs.Ytbimbalfdmffaab
/-
  THE ROW OF 'GroupPoints' round its walk; the frame by the guide's program (howto/shells), the world behind the call told by 'Below'.
-/
namespace Go.Proofs.Ytbimbalfdmffaab.groupPoints
open Go.ChangeShapes Go.WideShapes Go.ChangeAt Go.RowKit
open Go.ChangeMaps (open_string shut_string)
theorem own : ownKnob Try.prog.godebug = none := by kernel_rfl
set_option maxRecDepth 100000 in
theorem lifted (os : Os) (started : os.Started) (H : Type) (enc : TypeId × Value → H) :
    ReturnsInHanded {} Try.checked os 7 .any (Rows.groupPointsSpec.pre6 enc Try.prog Try.f7 Rows.groupPointsRow.domain false) (Rows.groupPointsSpec.post enc Try.prog Try.f7 false true false false) := by
  refine returnsInHanded_of_change (C := Try.checked) own started (by kernel_rfl) Try.func7
    (ChangeSpec.witness6 (enc := enc) (C := Try.checked) false ⟨#[], #[.string ByteArray.empty, .string ByteArray.empty, .string ByteArray.empty], []⟩ 8 (by kernel_rfl) (by kernel_rfl) (by kernel_rfl) (by kernel_rfl)) ?_
  intro W base args ds gs before hval0 hW hcnd _
  have hval : ∀ (j : Nat) t v, Try.f7.params[j]? = some t → args[j]? = some v → Value.okWide Try.prog W .any base t v := hval0
  have hW' := hW
  obtain ⟨p, q, hA0, hV, rfl, hfz, hnd⟩ := hW
  have hA : DataW.TrodAll enc Try.prog W 0 (fun _ => true) true Try.f7.params.toList args.toList ds p := hA0
  rw [Try.params7] at hA hval
  obtain ⟨v0, vs0, d0, ds0, p0, q0, hargs, rfl, rfl, h0, r0⟩ := trodAll_cons hA
  obtain ⟨v1, vs1, d1, ds1, p1, q1, rfl, rfl, rfl, h1, r1⟩ := trodAll_cons r0
  obtain ⟨v2, vs2, d2, ds2, p2, q2, rfl, rfl, rfl, h2, r2⟩ := trodAll_cons r1
  obtain ⟨rfl, rfl, rfl⟩ := trodAll_nil r2
  obtain rfl : args = #[v0, v1, v2] := by cases args; simp_all
  obtain ⟨rfl, rfl⟩ := trodVars_none hV
  obtain ⟨a0, rfl, rfl, rfl, w0⟩ := open_string Try.underlying9 (hval 0 9 v0 rfl rfl) h0
  obtain ⟨a1, rfl, rfl, rfl, w1⟩ := open_string Try.underlying9 (hval 1 9 v1 rfl rfl) h1
  obtain ⟨a2, rfl, rfl, rfl, w2⟩ := open_string Try.underlying9 (hval 2 9 v2 rfl rfl) h2
  clear hA0 hval0
  refine (points_any a0 a1 a2 W).mono fun e W' ⟨he, bel⟩ => ?_
  subst he
  exact ⟨_, rfl, _, _, _, [], _, [], hW', (trodAll_cons_mk (shut_bool Try.underlying4 _) trodAll_mk0), (trodAll_cons_mk (shut_string Try.underlying9 w0) (trodAll_cons_mk (shut_string Try.underlying9 w1) (trodAll_cons_mk (shut_string Try.underlying9 w2) trodAll_mk0))), rfl, bel.frame _, fun h => by cases h⟩
theorem over : Rows.groupPointsRow.holds Try.pinned (OpenSpec.ofChange Rows.groupPointsSpec) :=
  OpenClaim.holds_of_wide 7 Try.f7 rfl rfl rfl rfl rfl rfl rfl ⟨rfl, rfl, rfl, rfl, rfl⟩ rfl rfl rfl rfl rfl (by kernel_rfl) Try.func7 (by kernel_rfl)
    (of_decide_eq_true (by kernel_rfl)) (by unfold Func.isWrapper; first | (rw [if_pos (by decide +kernel)]; kernel_rfl) | (rw [if_neg (by decide +kernel)]; exact ⟨rfl, rfl⟩))
    (fun os started H enc _ => lifted os started H enc)
theorem proved : Rows.GroupPointsSaid :=
  over
end Go.Proofs.Ytbimbalfdmffaab.groupPoints
namespace Go.Proofs.Ytbimbalfdmffaab
/-- THE STATEMENT. -/
theorem groupPoints_holds : Rows.GroupPointsSaid := groupPoints.proved
#print axioms groupPoints_holds
end Go.Proofs.Ytbimbalfdmffaab
