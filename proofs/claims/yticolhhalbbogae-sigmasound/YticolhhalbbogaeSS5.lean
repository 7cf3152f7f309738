import Derived.Deep.AppendSrc
import Derived.Lib.AppendZeros
import Derived.Deep.LoopGhost
import Derived.Deep.RegionHeld3
import Derived.LoopN
import Derived.Deep.RegionWith
import Derived.Test.YticolhhalbbogaeSS4
set_option linter.unusedVariables false
set_option linter.unusedSimpArgs false
namespace Go.Proofs.Yticolhhalbbogae
open Go.RowKit Go.Sort
variable {P : Nat} [NeZero P]
def F71a_0 (x : Fin P) : List RG.It := [.m 2 [] 0, .x 3 [] (.bool false)]
def F71a_1 (q : Option Addr) (n cap : Nat) (x : Fin P) : List RG.It := [.x 7 [] (.slice q n cap), .x 8 [(7, 0)] (.int .i64 (n : Int)), .x 9 [(8, 1)] (.bool true)]
def F71a_2 (x : Fin P) : List RG.It := [.x 10 [] (pv (0 : Fin P) (0 : Fin P)), .u [(10, 0)] 0, .x 3 [] (.bool false)]
set_option maxHeartbeats 2000000 in
set_option maxRecDepth 100000 in
theorem rp_len (C : Fld P) (q : Option Addr) (n cap : Nat) (x : Fin P) (w : World) (hn : ¬ n = 33) : Calls Try.prog 75 #[(.slice q n cap)] w (Ret fun e w' => Below w.heap.size w w' ∧ e = (.tuple #[pv (0 : Fin P) 0, .bool false])) := by
  have hne : ∀ w, (binOp .neq 3 (.int .i64 (n : Int)) (.int .i64 33)).run Try.prog w = .ok (.bool true) w := fun w => by
    have h : ¬ (n : Int) = 33 := by omega
    go_simp
  go_enter Try.func75, Try.ntmps75
  refine RG.var1 (v0 := (.slice q n cap)) (n := 54) (by kernel_rfl) (by kernel_rfl) (by kernel_rfl) ?_
  intro a0 sl0 f0
  have hS0 := RG.St.begin w
  have M0 : RG.M w w.heap.size [] 54 [] [] [(0, (.v (.slice q n cap)))] a0 _ := ⟨hS0, sl0, ⟨f0, trivial⟩⟩
  repeat refine wp_seq ?_
  refine M0.tx (F71a_0 x) [(0, (RG.z 8))] [] [(RG.z 8)] [(0, (.v (.slice q n cap))), (2, (.p 0 0)), (3, (.v (.bool false)))] (by kernel_rfl) (by kernel_rfl) ⟨RG.mk 0 64 fun _ _ => by kernel_rfl, RG.st fun _ _ => by kernel_rfl, trivial⟩ ?_
  intro j1 a1 w1 M1
  repeat refine wp_seq ?_
  refine M1.tx0 (F71a_1 q n cap x) [(2, (.p 0 0)), (3, (.v (.bool false))), (9, (.v (.bool true)))] (by kernel_rfl) ⟨RG.st fun _ _ => by kernel_rfl, RG.cert_one rfl 7 (.v (.slice q n cap)) (.int .i64 (n : Int)) rfl (RG.sx fun _ => by kernel_rfl) (fun a w => by kernel_rfl) (fun μ w => by kernel_rfl), RG.cert_binc rfl .neq 3 3 8 (.int .i64 (n : Int)) (.int .i64 33) (.bool true) rfl rfl (RG.sx fun _ => by kernel_rfl) (fun w => by kernel_rfl) (hne), trivial⟩ ?_
  intro a2 w2 M2
  repeat refine wp_seq ?_
  refine wp_cond_true (M2.ev (by kernel_rfl)) ?_
  repeat refine wp_seq ?_
  refine M2.tx (F71a_2 x) [] [(0, 1, (ws (0 : Fin P) ++ (ws (0 : Fin P))))] [(ws (0 : Fin P) ++ (ws (0 : Fin P)))] [(2, (.p 0 0)), (3, (.v (.bool false)))] (by kernel_rfl) (by kernel_rfl) ⟨RG.se (zero_pv (P := P)) fun _ _ => by kernel_rfl, RG.pt i109 (by kernel_rfl), RG.st fun _ _ => by kernel_rfl, trivial⟩ ?_
  intro a3 w3 M3
  have hS3 : RG.St w w.heap.size [] [(ws (0 : Fin P) ++ (ws (0 : Fin P)))] [j1] _ := M3.st
  have sl3 := M3.sl
  have f2_3 : a3.tmps[2]? = some (.pointer (some ⟨j1, 0, none⟩)) := M3.at (s := (.p 0 0)) (by kernel_rfl)
  have f3_3 : a3.tmps[3]? = some (.bool false) := M3.at (s := (.v (.bool false))) (by kernel_rfl)
  refine wp_ret ?_
  refine bodyPost_ret (v := (.tuple #[(pv (0 : Fin P) (0 : Fin P)), (.bool false)])) (RG.results_rt hS3 2 3 64 rfl 0 _ rfl f2_3 _ f3_3 u109 i109) sl3.defers ?_
  exact ⟨_, rfl, hS3.bel.below, rfl⟩
def F71b_0 (m : Int) (x : Fin P) : List RG.It := [.m 2 [] 0, .x 3 [] (.bool false)]
def F71b_1 (g o cap : Nat) (x : Fin P) : List RG.It := [.x 7 [] (.slice (some ⟨g, o, none⟩) 33 cap), .x 8 [(7, 0)] (.int .i64 33), .x 9 [(8, 1)] (.bool false)]
def F71b_3 (g o cap : Nat) (bs : Bs) (x : Fin P) : List RG.It := [.x 11 [] (.slice (some ⟨g, o, none⟩) 33 cap), .x 12 [(11, 0)] (.pointer (some ⟨g, o, none⟩)), .x 13 [(12, 1)] (.agg (bl33 bs).toArray), .x 14 [] (.agg z33.toArray), .x 15 [(13, 2), (14, 3)] (.bool true)]
def F71b_4 (x : Fin P) : List RG.It := [.x 16 [] (pv (0 : Fin P) (0 : Fin P)), .u [(16, 0)] 0, .x 3 [] (.bool true)]
set_option maxHeartbeats 2000000 in
set_option maxRecDepth 100000 in
theorem rp_zero (C : Fld P) (g o cap : Nat) (m : Int) (bs : Bs) (x y y2 : Fin P) (w : World) (hs : bs.size = 33) (hc : 33 ≤ cap) (hg : g < w.heap.size) (hB : Holds encB w g o bs) (hz : Zero33 bs) : Calls Try.prog 75 #[(.slice (some ⟨g, o, none⟩) 33 cap)] w (Ret fun e w' => Below w.heap.size w w' ∧ e = (.tuple #[pv (0 : Fin P) 0, .bool true])) := by
  have hrg := bl33_range hB
  go_enter Try.func75, Try.ntmps75
  refine RG.var1 (v0 := (.slice (some ⟨g, o, none⟩) 33 cap)) (n := 54) (by kernel_rfl) (by kernel_rfl) (by kernel_rfl) ?_
  intro a0 sl0 f0
  have hS0 := RG.St.begin w
  have M0 : RG.M w w.heap.size [] 54 [] [] [(0, (.v (.slice (some ⟨g, o, none⟩) 33 cap)))] a0 _ := ⟨hS0, sl0, ⟨f0, trivial⟩⟩
  repeat refine wp_seq ?_
  refine M0.tx (F71b_0 m x) [(0, (RG.z 8))] [] [(RG.z 8)] [(0, (.v (.slice (some ⟨g, o, none⟩) 33 cap))), (2, (.p 0 0)), (3, (.v (.bool false)))] (by kernel_rfl) (by kernel_rfl) ⟨RG.mk 0 64 fun _ _ => by kernel_rfl, RG.st fun _ _ => by kernel_rfl, trivial⟩ ?_
  intro j1 a1 w1 M1
  repeat refine wp_seq ?_
  refine M1.tx0 (F71b_1 g o cap x) [(0, (.v (.slice (some ⟨g, o, none⟩) 33 cap))), (2, (.p 0 0)), (3, (.v (.bool false))), (9, (.v (.bool false)))] (by kernel_rfl) ⟨RG.st fun _ _ => by kernel_rfl, RG.cert_one rfl 7 (.v (.slice (some ⟨g, o, none⟩) 33 cap)) (.int .i64 33) rfl (RG.sx fun _ => by kernel_rfl) (fun a w => by kernel_rfl) (fun μ w => by kernel_rfl), RG.st fun _ _ => by kernel_rfl, trivial⟩ ?_
  intro a2 w2 M2
  repeat refine wp_seq ?_
  refine wp_cond_false (M2.ev (by kernel_rfl)) ?_
  refine wp_skip ?_
  repeat refine wp_seq ?_
  refine M2.tx0 (F71b_3 g o cap bs x) [(2, (.p 0 0)), (3, (.v (.bool false))), (15, (.v (.bool true)))] (by kernel_rfl) ⟨RG.st fun _ _ => by kernel_rfl, RG.cert_s2a rfl 133 11 (.slice (some ⟨g, o, none⟩) 33 cap) (.pointer (some ⟨g, o, none⟩)) rfl rfl (RG.sx fun _ => by kernel_rfl) (arr33 g o cap), RG.cert_loadB rfl g o hg List.not_mem_nil 133 12 rfl (bl33 bs) rfl (RG.sx fun _ => by kernel_rfl) hrg u131 (by rw [bl33_length hs]; exact i131), RG.st fun _ _ => by kernel_rfl, RG.cert_bin rfl .eql 133 133 13 14 (.agg (bl33 bs).toArray) (.agg z33.toArray) (.bool true) rfl rfl (RG.sx fun _ => by kernel_rfl) (RG.sx fun _ => by kernel_rfl) (fun w => by kernel_rfl) (eqz_t hs hz), trivial⟩ ?_
  intro a3 w3 M3
  repeat refine wp_seq ?_
  refine wp_cond_true (M3.ev (by kernel_rfl)) ?_
  repeat refine wp_seq ?_
  refine M3.tx (F71b_4 x) [] [(0, 1, (ws (0 : Fin P) ++ (ws (0 : Fin P))))] [(ws (0 : Fin P) ++ (ws (0 : Fin P)))] [(2, (.p 0 0)), (3, (.v (.bool true)))] (by kernel_rfl) (by kernel_rfl) ⟨RG.se (zero_pv (P := P)) fun _ _ => by kernel_rfl, RG.pt i109 (by kernel_rfl), RG.st fun _ _ => by kernel_rfl, trivial⟩ ?_
  intro a4 w4 M4
  have hS4 : RG.St w w.heap.size [] [(ws (0 : Fin P) ++ (ws (0 : Fin P)))] [j1] _ := M4.st
  have sl4 := M4.sl
  have f2_4 : a4.tmps[2]? = some (.pointer (some ⟨j1, 0, none⟩)) := M4.at (s := (.p 0 0)) (by kernel_rfl)
  have f3_4 : a4.tmps[3]? = some (.bool true) := M4.at (s := (.v (.bool true))) (by kernel_rfl)
  refine wp_ret ?_
  refine bodyPost_ret (v := (.tuple #[(pv (0 : Fin P) (0 : Fin P)), (.bool true)])) (RG.results_rt hS4 2 3 64 rfl 0 _ rfl f2_4 _ f3_4 u109 i109) sl4.defers ?_
  exact ⟨_, rfl, hS4.bel.below, rfl⟩
def F71c_0 (m : Int) (x : Fin P) : List RG.It := [.m 2 [] 0, .x 3 [] (.bool false)]
def F71c_1 (g o cap : Nat) (x : Fin P) : List RG.It := [.x 7 [] (.slice (some ⟨g, o, none⟩) 33 cap), .x 8 [(7, 0)] (.int .i64 33), .x 9 [(8, 1)] (.bool false)]
def F71c_3 (g o cap : Nat) (bs : Bs) (x : Fin P) : List RG.It := [.x 11 [] (.slice (some ⟨g, o, none⟩) 33 cap), .x 12 [(11, 0)] (.pointer (some ⟨g, o, none⟩)), .x 13 [(12, 1)] (.agg (bl33 bs).toArray), .x 14 [] (.agg z33.toArray), .x 15 [(13, 2), (14, 3)] (.bool false)]
def F71c_5 (g o cap : Nat) (m : Int) (x : Fin P) : List RG.It := [.x 17 [] (.slice (some ⟨g, o, none⟩) 33 cap), .x 18 [(17, 0)] (.pointer (some ⟨g, o, none⟩)), .x 19 [(18, 1)] (.int .u8 m), .x 20 [(19, 2)] (.bool true), .x 21 [(20, 3)] (.bool true), .x 22 [] (.slice (some ⟨g, o, none⟩) 33 cap), .x 23 [(22, 5)] (.pointer (some ⟨g, o, none⟩)), .x 24 [(23, 6)] (.int .u8 m), .x 25 [(24, 7)] (.bool true), .x 26 [(21, 4), (25, 8)] (.bool true)]
def F71c_6 (x : Fin P) : List RG.It := [.x 27 [] (pv (0 : Fin P) (0 : Fin P)), .u [(27, 0)] 0, .x 3 [] (.bool false)]
set_option maxHeartbeats 2000000 in
set_option maxRecDepth 100000 in
theorem rp_mark (C : Fld P) (g o cap : Nat) (m : Int) (bs : Bs) (x y y2 : Fin P) (w : World) (hs : bs.size = 33) (hc : 33 ≤ cap) (hg : g < w.heap.size) (hB : Holds encB w g o bs) (hz : ¬ Zero33 bs) (hm : ub bs[0]! = m) (h2 : ¬ m = 2) (h3 : ¬ m = 3) : Calls Try.prog 75 #[(.slice (some ⟨g, o, none⟩) 33 cap)] w (Ret fun e w' => Below w.heap.size w w' ∧ e = (.tuple #[pv (0 : Fin P) 0, .bool false])) := by
  have hrg := bl33_range hB
  have hb0 : w.cell? ⟨g, o, none⟩ = some (.int .u8 m) := by
    have := (hB 0 (by rw [hs]; decide)).1
    rw [Nat.add_zero] at this
    rw [this]
    show some (Value.int .u8 (ub bs[0]!)) = _
    rw [hm]
  have hm2 : ∀ w, (binOp .neq 5 (.int .u8 m) (.int .u8 2)).run Try.prog w = .ok (.bool true) w := fun w => by
    go_simp
  have hm3 : ∀ w, (binOp .neq 5 (.int .u8 m) (.int .u8 3)).run Try.prog w = .ok (.bool true) w := fun w => by
    go_simp
  go_enter Try.func75, Try.ntmps75
  refine RG.var1 (v0 := (.slice (some ⟨g, o, none⟩) 33 cap)) (n := 54) (by kernel_rfl) (by kernel_rfl) (by kernel_rfl) ?_
  intro a0 sl0 f0
  have hS0 := RG.St.begin w
  have M0 : RG.M w w.heap.size [] 54 [] [] [(0, (.v (.slice (some ⟨g, o, none⟩) 33 cap)))] a0 _ := ⟨hS0, sl0, ⟨f0, trivial⟩⟩
  repeat refine wp_seq ?_
  refine M0.tx (F71c_0 m x) [(0, (RG.z 8))] [] [(RG.z 8)] [(0, (.v (.slice (some ⟨g, o, none⟩) 33 cap))), (2, (.p 0 0)), (3, (.v (.bool false)))] (by kernel_rfl) (by kernel_rfl) ⟨RG.mk 0 64 fun _ _ => by kernel_rfl, RG.st fun _ _ => by kernel_rfl, trivial⟩ ?_
  intro j1 a1 w1 M1
  repeat refine wp_seq ?_
  refine M1.tx0 (F71c_1 g o cap x) [(0, (.v (.slice (some ⟨g, o, none⟩) 33 cap))), (2, (.p 0 0)), (3, (.v (.bool false))), (9, (.v (.bool false)))] (by kernel_rfl) ⟨RG.st fun _ _ => by kernel_rfl, RG.cert_one rfl 7 (.v (.slice (some ⟨g, o, none⟩) 33 cap)) (.int .i64 33) rfl (RG.sx fun _ => by kernel_rfl) (fun a w => by kernel_rfl) (fun μ w => by kernel_rfl), RG.st fun _ _ => by kernel_rfl, trivial⟩ ?_
  intro a2 w2 M2
  repeat refine wp_seq ?_
  refine wp_cond_false (M2.ev (by kernel_rfl)) ?_
  refine wp_skip ?_
  repeat refine wp_seq ?_
  refine M2.tx0 (F71c_3 g o cap bs x) [(0, (.v (.slice (some ⟨g, o, none⟩) 33 cap))), (2, (.p 0 0)), (3, (.v (.bool false))), (15, (.v (.bool false)))] (by kernel_rfl) ⟨RG.st fun _ _ => by kernel_rfl, RG.cert_s2a rfl 133 11 (.slice (some ⟨g, o, none⟩) 33 cap) (.pointer (some ⟨g, o, none⟩)) rfl rfl (RG.sx fun _ => by kernel_rfl) (arr33 g o cap), RG.cert_loadB rfl g o hg List.not_mem_nil 133 12 rfl (bl33 bs) rfl (RG.sx fun _ => by kernel_rfl) hrg u131 (by rw [bl33_length hs]; exact i131), RG.st fun _ _ => by kernel_rfl, RG.cert_bin rfl .eql 133 133 13 14 (.agg (bl33 bs).toArray) (.agg z33.toArray) (.bool false) rfl rfl (RG.sx fun _ => by kernel_rfl) (RG.sx fun _ => by kernel_rfl) (fun w => by kernel_rfl) (eqz_f hs hz), trivial⟩ ?_
  intro a3 w3 M3
  repeat refine wp_seq ?_
  refine wp_cond_false (M3.ev (by kernel_rfl)) ?_
  refine wp_skip ?_
  repeat refine wp_seq ?_
  refine M3.tx0 (F71c_5 g o cap m x) [(2, (.p 0 0)), (3, (.v (.bool false))), (26, (.v (.bool true)))] (by kernel_rfl) ⟨RG.st fun _ _ => by kernel_rfl, RG.cert_idxc rfl 22 17 (.int .i64 0) rfl (.v (.slice (some ⟨g, o, none⟩) 33 cap)) (RG.sx fun _ => by kernel_rfl) (fun μ w => at23 g o 33 cap (by decide) w), RG.cert_load1B rfl g o hg List.not_mem_nil 5 18 rfl (.int .u8 m) rfl (RG.sx fun _ => by kernel_rfl) hb0 u5, RG.cert_binc rfl .neq 5 5 19 (.int .u8 m) (.int .u8 2) (.bool true) rfl rfl (RG.sx fun _ => by kernel_rfl) (fun w => by kernel_rfl) (hm2), RG.st fun _ _ => by kernel_rfl, RG.st fun _ _ => by kernel_rfl, RG.cert_idxc rfl 22 22 (.int .i64 0) rfl (.v (.slice (some ⟨g, o, none⟩) 33 cap)) (RG.sx fun _ => by kernel_rfl) (fun μ w => at23 g o 33 cap (by decide) w), RG.cert_load1B rfl g o hg List.not_mem_nil 5 23 rfl (.int .u8 m) rfl (RG.sx fun _ => by kernel_rfl) hb0 u5, RG.cert_binc rfl .neq 5 5 24 (.int .u8 m) (.int .u8 3) (.bool true) rfl rfl (RG.sx fun _ => by kernel_rfl) (fun w => by kernel_rfl) (hm3), RG.st fun _ _ => by kernel_rfl, trivial⟩ ?_
  intro a4 w4 M4
  repeat refine wp_seq ?_
  refine wp_cond_true (M4.ev (by kernel_rfl)) ?_
  repeat refine wp_seq ?_
  refine M4.tx (F71c_6 x) [] [(0, 1, (ws (0 : Fin P) ++ (ws (0 : Fin P))))] [(ws (0 : Fin P) ++ (ws (0 : Fin P)))] [(2, (.p 0 0)), (3, (.v (.bool false)))] (by kernel_rfl) (by kernel_rfl) ⟨RG.se (zero_pv (P := P)) fun _ _ => by kernel_rfl, RG.pt i109 (by kernel_rfl), RG.st fun _ _ => by kernel_rfl, trivial⟩ ?_
  intro a5 w5 M5
  have hS5 : RG.St w w.heap.size [] [(ws (0 : Fin P) ++ (ws (0 : Fin P)))] [j1] _ := M5.st
  have sl5 := M5.sl
  have f2_5 : a5.tmps[2]? = some (.pointer (some ⟨j1, 0, none⟩)) := M5.at (s := (.p 0 0)) (by kernel_rfl)
  have f3_5 : a5.tmps[3]? = some (.bool false) := M5.at (s := (.v (.bool false))) (by kernel_rfl)
  refine wp_ret ?_
  refine bodyPost_ret (v := (.tuple #[(pv (0 : Fin P) (0 : Fin P)), (.bool false)])) (RG.results_rt hS5 2 3 64 rfl 0 _ rfl f2_5 _ f3_5 u109 i109) sl5.defers ?_
  exact ⟨_, rfl, hS5.bel.below, rfl⟩
def F71d2_0 (m : Int) (x : Fin P) : List RG.It := [.m 2 [] 0, .x 3 [] (.bool false)]
def F71d2_1 (g o cap : Nat) (x : Fin P) : List RG.It := [.x 7 [] (.slice (some ⟨g, o, none⟩) 33 cap), .x 8 [(7, 0)] (.int .i64 33), .x 9 [(8, 1)] (.bool false)]
def F71d2_3 (g o cap : Nat) (bs : Bs) (x : Fin P) : List RG.It := [.x 11 [] (.slice (some ⟨g, o, none⟩) 33 cap), .x 12 [(11, 0)] (.pointer (some ⟨g, o, none⟩)), .x 13 [(12, 1)] (.agg (bl33 bs).toArray), .x 14 [] (.agg z33.toArray), .x 15 [(13, 2), (14, 3)] (.bool false)]
def F71d2_5 (g o cap : Nat) (x : Fin P) : List RG.It := [.x 17 [] (.slice (some ⟨g, o, none⟩) 33 cap), .x 18 [(17, 0)] (.pointer (some ⟨g, o, none⟩)), .x 19 [(18, 1)] (.int .u8 2), .x 20 [(19, 2)] (.bool false), .x 21 [(20, 3)] (.bool false), ⟨some 22, [], (.v undef), .pass⟩, ⟨some 23, [], (.v undef), .pass⟩, ⟨some 24, [], (.v undef), .pass⟩, ⟨some 25, [], (.v undef), .pass⟩, .x 26 [(21, 4), (25, 8)] (.bool false)]
def F71d2_7 (g o cap : Nat) (m : Int) (x : Fin P) : List RG.It := [.c 29 [] gv0, .x 30 [] (.slice (some ⟨g, o, none⟩) 33 cap), .x 31 [(30, 1)] (.slice (some ⟨g, o + 1, none⟩) 32 (cap - 1)), .c 32 [(29, 0), (31, 2)] (.tuple #[(fv (0 : Fin P)), (.bool false)]), .x 28 [(32, 3)] (.tuple #[(fv (0 : Fin P)), (.bool false)]), .x 33 [(28, 4)] (fv (0 : Fin P)), .x 34 [(28, 4)] (.bool false), .m 4 [] 1, .u [(4, 7), (33, 5)] 1, .x 5 [(34, 6)] (.bool false)]
def F71d2_8 (x : Fin P) : List RG.It := [.x 35 [] (.bool false), .x 36 [(35, 0)] (.bool true)]
def F71d2_9 (x : Fin P) : List RG.It := [.x 37 [] (pv (0 : Fin P) (0 : Fin P)), .u [(37, 0)] 0, .x 3 [] (.bool false)]
set_option maxHeartbeats 2000000 in
set_option maxRecDepth 100000 in
theorem rp_num2 (C : Fld P) (g o cap : Nat) (m : Int) (bs : Bs) (x y y2 : Fin P) (w : World) (hs : bs.size = 33) (hc : 33 ≤ cap) (hg : g < w.heap.size) (hB : Holds encB w g o bs) (hz : ¬ Zero33 bs) (hm : ub bs[0]! = 2) (hx : ¬ beV (tl33 bs).toList < P) : Calls Try.prog 75 #[(.slice (some ⟨g, o, none⟩) 33 cap)] w (Ret fun e w' => Below w.heap.size w w' ∧ e = (.tuple #[pv (0 : Fin P) 0, .bool false])) := by
  have hrg := bl33_range hB
  have hb0 : w.cell? ⟨g, o, none⟩ = some (.int .u8 2) := by
    have := (hB 0 (by rw [hs]; decide)).1
    rw [Nat.add_zero] at this
    rw [this]
    show some (Value.int .u8 (ub bs[0]!)) = _
    rw [hm]
  have hrd : ∀ w', RG.BelX w.heap.size [] w w' → Calls Try.prog 32 #[gv0, .slice (some ⟨g, o + 1, none⟩) 32 (cap - 1)] w' (Ret fun e w'' => Below w'.heap.size w' w'' ∧ e = .tuple #[fv (0 : Fin P), .bool false]) := fun w' hb => Read_n C (tl33_size hs) (by omega) hx (Nat.lt_of_lt_of_le hg hb.size) (Holds.below (tl33_holds hs hB) hb.below hg)
  go_enter Try.func75, Try.ntmps75
  refine RG.var1 (v0 := (.slice (some ⟨g, o, none⟩) 33 cap)) (n := 54) (by kernel_rfl) (by kernel_rfl) (by kernel_rfl) ?_
  intro a0 sl0 f0
  have hS0 := RG.St.begin w
  have M0 : RG.M w w.heap.size [] 54 [] [] [(0, (.v (.slice (some ⟨g, o, none⟩) 33 cap)))] a0 _ := ⟨hS0, sl0, ⟨f0, trivial⟩⟩
  repeat refine wp_seq ?_
  refine M0.tx (F71d2_0 m x) [(0, (RG.z 8))] [] [(RG.z 8)] [(0, (.v (.slice (some ⟨g, o, none⟩) 33 cap))), (2, (.p 0 0)), (3, (.v (.bool false)))] (by kernel_rfl) (by kernel_rfl) ⟨RG.mk 0 64 fun _ _ => by kernel_rfl, RG.st fun _ _ => by kernel_rfl, trivial⟩ ?_
  intro j1 a1 w1 M1
  repeat refine wp_seq ?_
  refine M1.tx0 (F71d2_1 g o cap x) [(0, (.v (.slice (some ⟨g, o, none⟩) 33 cap))), (2, (.p 0 0)), (3, (.v (.bool false))), (9, (.v (.bool false)))] (by kernel_rfl) ⟨RG.st fun _ _ => by kernel_rfl, RG.cert_one rfl 7 (.v (.slice (some ⟨g, o, none⟩) 33 cap)) (.int .i64 33) rfl (RG.sx fun _ => by kernel_rfl) (fun a w => by kernel_rfl) (fun μ w => by kernel_rfl), RG.st fun _ _ => by kernel_rfl, trivial⟩ ?_
  intro a2 w2 M2
  repeat refine wp_seq ?_
  refine wp_cond_false (M2.ev (by kernel_rfl)) ?_
  refine wp_skip ?_
  repeat refine wp_seq ?_
  refine M2.tx0 (F71d2_3 g o cap bs x) [(0, (.v (.slice (some ⟨g, o, none⟩) 33 cap))), (2, (.p 0 0)), (3, (.v (.bool false))), (15, (.v (.bool false)))] (by kernel_rfl) ⟨RG.st fun _ _ => by kernel_rfl, RG.cert_s2a rfl 133 11 (.slice (some ⟨g, o, none⟩) 33 cap) (.pointer (some ⟨g, o, none⟩)) rfl rfl (RG.sx fun _ => by kernel_rfl) (arr33 g o cap), RG.cert_loadB rfl g o hg List.not_mem_nil 133 12 rfl (bl33 bs) rfl (RG.sx fun _ => by kernel_rfl) hrg u131 (by rw [bl33_length hs]; exact i131), RG.st fun _ _ => by kernel_rfl, RG.cert_bin rfl .eql 133 133 13 14 (.agg (bl33 bs).toArray) (.agg z33.toArray) (.bool false) rfl rfl (RG.sx fun _ => by kernel_rfl) (RG.sx fun _ => by kernel_rfl) (fun w => by kernel_rfl) (eqz_f hs hz), trivial⟩ ?_
  intro a3 w3 M3
  repeat refine wp_seq ?_
  refine wp_cond_false (M3.ev (by kernel_rfl)) ?_
  refine wp_skip ?_
  repeat refine wp_seq ?_
  refine M3.tx0 (F71d2_5 g o cap x) [(0, (.v (.slice (some ⟨g, o, none⟩) 33 cap))), (2, (.p 0 0)), (3, (.v (.bool false))), (26, (.v (.bool false)))] (by kernel_rfl) ⟨RG.st fun _ _ => by kernel_rfl, RG.cert_idxc rfl 22 17 (.int .i64 0) rfl (.v (.slice (some ⟨g, o, none⟩) 33 cap)) (RG.sx fun _ => by kernel_rfl) (fun μ w => at23 g o 33 cap (by decide) w), RG.cert_load1B rfl g o hg List.not_mem_nil 5 18 rfl (.int .u8 2) rfl (RG.sx fun _ => by kernel_rfl) hb0 u5, RG.st fun _ _ => by kernel_rfl, RG.st fun _ _ => by kernel_rfl, RG.cert_pass rfl rfl, RG.cert_pass rfl rfl, RG.cert_pass rfl rfl, RG.cert_pass rfl rfl, RG.st fun _ _ => by kernel_rfl, trivial⟩ ?_
  intro a4 w4 M4
  repeat refine wp_seq ?_
  refine wp_cond_false (M4.ev (by kernel_rfl)) ?_
  refine wp_skip ?_
  repeat refine wp_seq ?_
  refine M4.dr (by kernel_rfl) (F71d2_7 g o cap m x) [(7, (RG.z 4))] [(1, 8, (ws (0 : Fin P)))] [(RG.z 8), (ws (0 : Fin P))] [(2, (.p 0 0)), (3, (.v (.bool false))), (5, (.v (.bool false)))] (by kernel_rfl) (by kernel_rfl) ⟨RG.cl (Coordinates_c) fun _ _ => by kernel_rfl, RG.st fun _ _ => by kernel_rfl, RG.cert_slice1 rfl 22 30 (.int .i64 1) (.slice (some ⟨g, o, none⟩) 33 cap) (.slice (some ⟨g, o + 1, none⟩) 32 (cap - 1)) rfl rfl (RG.sx fun _ => by kernel_rfl) (sl33 g o cap hc), RG.cert_callB2 rfl 32 29 31 gv0 (.slice (some ⟨g, o + 1, none⟩) 32 (cap - 1)) (.tuple #[(fv (0 : Fin P)), (.bool false)]) rfl (fun a w => by kernel_rfl) (RG.sx fun _ => by kernel_rfl) (RG.sx fun _ => by kernel_rfl) hrd, RG.st fun _ _ => by kernel_rfl, RG.st fun _ _ => by kernel_rfl, RG.st fun _ _ => by kernel_rfl, RG.mk 1 38 fun _ _ => by kernel_rfl, RG.pt i85 (by kernel_rfl), RG.st fun _ _ => by kernel_rfl, trivial⟩ ?_
  intro j5 a5 w5 M5
  repeat refine wp_seq ?_
  refine M5.tx0 (F71d2_8 x) [(2, (.p 0 0)), (3, (.v (.bool false))), (36, (.v (.bool true)))] (by kernel_rfl) ⟨RG.st fun _ _ => by kernel_rfl, RG.st fun _ _ => by kernel_rfl, trivial⟩ ?_
  intro a6 w6 M6
  repeat refine wp_seq ?_
  refine wp_cond_true (M6.ev (by kernel_rfl)) ?_
  repeat refine wp_seq ?_
  refine M6.tx (F71d2_9 x) [] [(0, 1, (ws (0 : Fin P) ++ (ws (0 : Fin P))))] [(ws (0 : Fin P) ++ (ws (0 : Fin P))), (ws (0 : Fin P))] [(2, (.p 0 0)), (3, (.v (.bool false)))] (by kernel_rfl) (by kernel_rfl) ⟨RG.se (zero_pv (P := P)) fun _ _ => by kernel_rfl, RG.pt i109 (by kernel_rfl), RG.st fun _ _ => by kernel_rfl, trivial⟩ ?_
  intro a7 w7 M7
  have hS7 : RG.St w w.heap.size [] [(ws (0 : Fin P) ++ (ws (0 : Fin P))), (ws (0 : Fin P))] [j1, j5] _ := M7.st
  have sl7 := M7.sl
  have f2_7 : a7.tmps[2]? = some (.pointer (some ⟨j1, 0, none⟩)) := M7.at (s := (.p 0 0)) (by kernel_rfl)
  have f3_7 : a7.tmps[3]? = some (.bool false) := M7.at (s := (.v (.bool false))) (by kernel_rfl)
  refine wp_ret ?_
  refine bodyPost_ret (v := (.tuple #[(pv (0 : Fin P) (0 : Fin P)), (.bool false)])) (RG.results_rt hS7 2 3 64 rfl 0 _ rfl f2_7 _ f3_7 u109 i109) sl7.defers ?_
  exact ⟨_, rfl, hS7.bel.below, rfl⟩
def F71e2_0 (m : Int) (x : Fin P) : List RG.It := [.m 2 [] 0, .x 3 [] (.bool false)]
def F71e2_1 (g o cap : Nat) (x : Fin P) : List RG.It := [.x 7 [] (.slice (some ⟨g, o, none⟩) 33 cap), .x 8 [(7, 0)] (.int .i64 33), .x 9 [(8, 1)] (.bool false)]
def F71e2_3 (g o cap : Nat) (bs : Bs) (x : Fin P) : List RG.It := [.x 11 [] (.slice (some ⟨g, o, none⟩) 33 cap), .x 12 [(11, 0)] (.pointer (some ⟨g, o, none⟩)), .x 13 [(12, 1)] (.agg (bl33 bs).toArray), .x 14 [] (.agg z33.toArray), .x 15 [(13, 2), (14, 3)] (.bool false)]
def F71e2_5 (g o cap : Nat) (x : Fin P) : List RG.It := [.x 17 [] (.slice (some ⟨g, o, none⟩) 33 cap), .x 18 [(17, 0)] (.pointer (some ⟨g, o, none⟩)), .x 19 [(18, 1)] (.int .u8 2), .x 20 [(19, 2)] (.bool false), .x 21 [(20, 3)] (.bool false), ⟨some 22, [], (.v undef), .pass⟩, ⟨some 23, [], (.v undef), .pass⟩, ⟨some 24, [], (.v undef), .pass⟩, ⟨some 25, [], (.v undef), .pass⟩, .x 26 [(21, 4), (25, 8)] (.bool false)]
def F71e2_7 (g o cap : Nat) (m : Int) (x : Fin P) : List RG.It := [.c 29 [] gv0, .x 30 [] (.slice (some ⟨g, o, none⟩) 33 cap), .x 31 [(30, 1)] (.slice (some ⟨g, o + 1, none⟩) 32 (cap - 1)), .c 32 [(29, 0), (31, 2)] (.tuple #[(fv x), (.bool true)]), .x 28 [(32, 3)] (.tuple #[(fv x), (.bool true)]), .x 33 [(28, 4)] (fv x), .x 34 [(28, 4)] (.bool true), .m 4 [] 1, .u [(4, 7), (33, 5)] 1, .x 5 [(34, 6)] (.bool true)]
def F71e2_8 (x : Fin P) : List RG.It := [.x 35 [] (.bool true), .x 36 [(35, 0)] (.bool false)]
def F71e2_10 (m : Int) (x : Fin P) : List RG.It := [.x 39 [] (fv x), .c 40 [(39, 0)] (.tuple #[(pv (0 : Fin P) (0 : Fin P)), (.bool false)]), .x 38 [(40, 1)] (.tuple #[(pv (0 : Fin P) (0 : Fin P)), (.bool false)]), .x 41 [(38, 2)] (pv (0 : Fin P) (0 : Fin P)), .x 42 [(38, 2)] (.bool false), .m 6 [] 2, .u [(6, 5), (41, 3)] 2, .x 5 [(42, 4)] (.bool false)]
def F71e2_11 (x : Fin P) : List RG.It := [.x 43 [] (.bool false), .x 44 [(43, 0)] (.bool false), ⟨some 45, [], (.v undef), .pass⟩, ⟨some 46, [], (.v undef), .pass⟩, ⟨some 47, [], (.v undef), .pass⟩, ⟨some 48, [], (.v undef), .pass⟩, .x 49 [(44, 1), (48, 5)] (.bool false)]
def F71e2_13 (x : Fin P) : List RG.It := [.x 52 [] (pv (0 : Fin P) (0 : Fin P)), .x 53 [] (.bool false), .u [(52, 0)] 0, .x 3 [(53, 1)] (.bool false)]
set_option maxHeartbeats 2000000 in
set_option maxRecDepth 100000 in
theorem rp_none2 (C : Fld P) (g o cap : Nat) (m : Int) (bs : Bs) (x y y2 : Fin P) (w : World) (hs : bs.size = 33) (hc : 33 ≤ cap) (hg : g < w.heap.size) (hB : Holds encB w g o bs) (hz : ¬ Zero33 bs) (hm : ub bs[0]! = 2) (hx : beV (tl33 bs).toList = x.val) (hr : rt (x * x * x + 7) = none) : Calls Try.prog 75 #[(.slice (some ⟨g, o, none⟩) 33 cap)] w (Ret fun e w' => Below w.heap.size w w' ∧ e = (.tuple #[pv (0 : Fin P) 0, .bool false])) := by
  have hrg := bl33_range hB
  have hb0 : w.cell? ⟨g, o, none⟩ = some (.int .u8 2) := by
    have := (hB 0 (by rw [hs]; decide)).1
    rw [Nat.add_zero] at this
    rw [this]
    show some (Value.int .u8 (ub bs[0]!)) = _
    rw [hm]
  have hrd : ∀ w', RG.BelX w.heap.size [] w w' → Calls Try.prog 32 #[gv0, .slice (some ⟨g, o + 1, none⟩) 32 (cap - 1)] w' (Ret fun e w'' => Below w'.heap.size w' w'' ∧ e = .tuple #[fv x, .bool true]) := fun w' hb => Read_y C (tl33_size hs) (by omega) hx (Nat.lt_of_lt_of_le hg hb.size) (Holds.below (tl33_holds hs hB) hb.below hg)
  go_enter Try.func75, Try.ntmps75
  refine RG.var1 (v0 := (.slice (some ⟨g, o, none⟩) 33 cap)) (n := 54) (by kernel_rfl) (by kernel_rfl) (by kernel_rfl) ?_
  intro a0 sl0 f0
  have hS0 := RG.St.begin w
  have M0 : RG.M w w.heap.size [] 54 [] [] [(0, (.v (.slice (some ⟨g, o, none⟩) 33 cap)))] a0 _ := ⟨hS0, sl0, ⟨f0, trivial⟩⟩
  repeat refine wp_seq ?_
  refine M0.tx (F71e2_0 m x) [(0, (RG.z 8))] [] [(RG.z 8)] [(0, (.v (.slice (some ⟨g, o, none⟩) 33 cap))), (2, (.p 0 0)), (3, (.v (.bool false)))] (by kernel_rfl) (by kernel_rfl) ⟨RG.mk 0 64 fun _ _ => by kernel_rfl, RG.st fun _ _ => by kernel_rfl, trivial⟩ ?_
  intro j1 a1 w1 M1
  repeat refine wp_seq ?_
  refine M1.tx0 (F71e2_1 g o cap x) [(0, (.v (.slice (some ⟨g, o, none⟩) 33 cap))), (2, (.p 0 0)), (3, (.v (.bool false))), (9, (.v (.bool false)))] (by kernel_rfl) ⟨RG.st fun _ _ => by kernel_rfl, RG.cert_one rfl 7 (.v (.slice (some ⟨g, o, none⟩) 33 cap)) (.int .i64 33) rfl (RG.sx fun _ => by kernel_rfl) (fun a w => by kernel_rfl) (fun μ w => by kernel_rfl), RG.st fun _ _ => by kernel_rfl, trivial⟩ ?_
  intro a2 w2 M2
  repeat refine wp_seq ?_
  refine wp_cond_false (M2.ev (by kernel_rfl)) ?_
  refine wp_skip ?_
  repeat refine wp_seq ?_
  refine M2.tx0 (F71e2_3 g o cap bs x) [(0, (.v (.slice (some ⟨g, o, none⟩) 33 cap))), (2, (.p 0 0)), (3, (.v (.bool false))), (15, (.v (.bool false)))] (by kernel_rfl) ⟨RG.st fun _ _ => by kernel_rfl, RG.cert_s2a rfl 133 11 (.slice (some ⟨g, o, none⟩) 33 cap) (.pointer (some ⟨g, o, none⟩)) rfl rfl (RG.sx fun _ => by kernel_rfl) (arr33 g o cap), RG.cert_loadB rfl g o hg List.not_mem_nil 133 12 rfl (bl33 bs) rfl (RG.sx fun _ => by kernel_rfl) hrg u131 (by rw [bl33_length hs]; exact i131), RG.st fun _ _ => by kernel_rfl, RG.cert_bin rfl .eql 133 133 13 14 (.agg (bl33 bs).toArray) (.agg z33.toArray) (.bool false) rfl rfl (RG.sx fun _ => by kernel_rfl) (RG.sx fun _ => by kernel_rfl) (fun w => by kernel_rfl) (eqz_f hs hz), trivial⟩ ?_
  intro a3 w3 M3
  repeat refine wp_seq ?_
  refine wp_cond_false (M3.ev (by kernel_rfl)) ?_
  refine wp_skip ?_
  repeat refine wp_seq ?_
  refine M3.tx0 (F71e2_5 g o cap x) [(0, (.v (.slice (some ⟨g, o, none⟩) 33 cap))), (2, (.p 0 0)), (3, (.v (.bool false))), (26, (.v (.bool false)))] (by kernel_rfl) ⟨RG.st fun _ _ => by kernel_rfl, RG.cert_idxc rfl 22 17 (.int .i64 0) rfl (.v (.slice (some ⟨g, o, none⟩) 33 cap)) (RG.sx fun _ => by kernel_rfl) (fun μ w => at23 g o 33 cap (by decide) w), RG.cert_load1B rfl g o hg List.not_mem_nil 5 18 rfl (.int .u8 2) rfl (RG.sx fun _ => by kernel_rfl) hb0 u5, RG.st fun _ _ => by kernel_rfl, RG.st fun _ _ => by kernel_rfl, RG.cert_pass rfl rfl, RG.cert_pass rfl rfl, RG.cert_pass rfl rfl, RG.cert_pass rfl rfl, RG.st fun _ _ => by kernel_rfl, trivial⟩ ?_
  intro a4 w4 M4
  repeat refine wp_seq ?_
  refine wp_cond_false (M4.ev (by kernel_rfl)) ?_
  refine wp_skip ?_
  repeat refine wp_seq ?_
  refine M4.dr (by kernel_rfl) (F71e2_7 g o cap m x) [(7, (RG.z 4))] [(1, 8, (ws x))] [(RG.z 8), (ws x)] [(2, (.p 0 0)), (3, (.v (.bool false))), (4, (.p 1 0)), (5, (.v (.bool true)))] (by kernel_rfl) (by kernel_rfl) ⟨RG.cl (Coordinates_c) fun _ _ => by kernel_rfl, RG.st fun _ _ => by kernel_rfl, RG.cert_slice1 rfl 22 30 (.int .i64 1) (.slice (some ⟨g, o, none⟩) 33 cap) (.slice (some ⟨g, o + 1, none⟩) 32 (cap - 1)) rfl rfl (RG.sx fun _ => by kernel_rfl) (sl33 g o cap hc), RG.cert_callB2 rfl 32 29 31 gv0 (.slice (some ⟨g, o + 1, none⟩) 32 (cap - 1)) (.tuple #[(fv x), (.bool true)]) rfl (fun a w => by kernel_rfl) (RG.sx fun _ => by kernel_rfl) (RG.sx fun _ => by kernel_rfl) hrd, RG.st fun _ _ => by kernel_rfl, RG.st fun _ _ => by kernel_rfl, RG.st fun _ _ => by kernel_rfl, RG.mk 1 38 fun _ _ => by kernel_rfl, RG.pt i85 (by kernel_rfl), RG.st fun _ _ => by kernel_rfl, trivial⟩ ?_
  intro j5 a5 w5 M5
  repeat refine wp_seq ?_
  refine M5.tx0 (F71e2_8 x) [(2, (.p 0 0)), (3, (.v (.bool false))), (4, (.p 1 0)), (5, (.v (.bool true))), (36, (.v (.bool false)))] (by kernel_rfl) ⟨RG.st fun _ _ => by kernel_rfl, RG.st fun _ _ => by kernel_rfl, trivial⟩ ?_
  intro a6 w6 M6
  repeat refine wp_seq ?_
  refine wp_cond_false (M6.ev (by kernel_rfl)) ?_
  refine wp_skip ?_
  repeat refine wp_seq ?_
  refine M6.tx (F71e2_10 m x) [(5, (RG.z 8))] [(2, 6, (ws (0 : Fin P) ++ (ws (0 : Fin P))))] [(RG.z 8), (ws x), (ws (0 : Fin P) ++ (ws (0 : Fin P)))] [(2, (.p 0 0)), (3, (.v (.bool false))), (5, (.v (.bool false))), (6, (.p 2 0))] (by kernel_rfl) (by kernel_rfl) ⟨RG.ld u85 i85 (by kernel_rfl), RG.cert_call1 rfl 87 39 (fv x) (.tuple #[(pv (0 : Fin P) (0 : Fin P)), (.bool false)]) rfl (fun a w => by kernel_rfl) (RG.sx fun _ => by kernel_rfl) (above_n_c C x hr), RG.st fun _ _ => by kernel_rfl, RG.st fun _ _ => by kernel_rfl, RG.st fun _ _ => by kernel_rfl, RG.mk 2 64 fun _ _ => by kernel_rfl, RG.pt i109 (by kernel_rfl), RG.st fun _ _ => by kernel_rfl, trivial⟩ ?_
  intro j7 a7 w7 M7
  repeat refine wp_seq ?_
  refine M7.tx0 (F71e2_11 x) [(2, (.p 0 0)), (3, (.v (.bool false))), (5, (.v (.bool false))), (6, (.p 2 0)), (49, (.v (.bool false)))] (by kernel_rfl) ⟨RG.st fun _ _ => by kernel_rfl, RG.st fun _ _ => by kernel_rfl, RG.cert_pass rfl rfl, RG.cert_pass rfl rfl, RG.cert_pass rfl rfl, RG.cert_pass rfl rfl, RG.st fun _ _ => by kernel_rfl, trivial⟩ ?_
  intro a8 w8 M8
  repeat refine wp_seq ?_
  refine wp_cond_false (M8.ev (by kernel_rfl)) ?_
  refine wp_skip ?_
  repeat refine wp_seq ?_
  refine M8.tx (F71e2_13 x) [] [(0, 2, (ws (0 : Fin P) ++ (ws (0 : Fin P))))] [(ws (0 : Fin P) ++ (ws (0 : Fin P))), (ws x), (ws (0 : Fin P) ++ (ws (0 : Fin P)))] [(2, (.p 0 0)), (3, (.v (.bool false)))] (by kernel_rfl) (by kernel_rfl) ⟨RG.ld u109 i109 (by kernel_rfl), RG.st fun _ _ => by kernel_rfl, RG.pt i109 (by kernel_rfl), RG.st fun _ _ => by kernel_rfl, trivial⟩ ?_
  intro a9 w9 M9
  have hS9 : RG.St w w.heap.size [] [(ws (0 : Fin P) ++ (ws (0 : Fin P))), (ws x), (ws (0 : Fin P) ++ (ws (0 : Fin P)))] [j1, j5, j7] _ := M9.st
  have sl9 := M9.sl
  have f2_9 : a9.tmps[2]? = some (.pointer (some ⟨j1, 0, none⟩)) := M9.at (s := (.p 0 0)) (by kernel_rfl)
  have f3_9 : a9.tmps[3]? = some (.bool false) := M9.at (s := (.v (.bool false))) (by kernel_rfl)
  refine wp_ret ?_
  refine bodyPost_ret (v := (.tuple #[(pv (0 : Fin P) (0 : Fin P)), (.bool false)])) (RG.results_rt hS9 2 3 64 rfl 0 _ rfl f2_9 _ f3_9 u109 i109) sl9.defers ?_
  exact ⟨_, rfl, hS9.bel.below, rfl⟩
def F71f_0 (m : Int) (x : Fin P) : List RG.It := [.m 2 [] 0, .x 3 [] (.bool false)]
def F71f_1 (g o cap : Nat) (x : Fin P) : List RG.It := [.x 7 [] (.slice (some ⟨g, o, none⟩) 33 cap), .x 8 [(7, 0)] (.int .i64 33), .x 9 [(8, 1)] (.bool false)]
def F71f_3 (g o cap : Nat) (bs : Bs) (x : Fin P) : List RG.It := [.x 11 [] (.slice (some ⟨g, o, none⟩) 33 cap), .x 12 [(11, 0)] (.pointer (some ⟨g, o, none⟩)), .x 13 [(12, 1)] (.agg (bl33 bs).toArray), .x 14 [] (.agg z33.toArray), .x 15 [(13, 2), (14, 3)] (.bool false)]
def F71f_5 (g o cap : Nat) (x : Fin P) : List RG.It := [.x 17 [] (.slice (some ⟨g, o, none⟩) 33 cap), .x 18 [(17, 0)] (.pointer (some ⟨g, o, none⟩)), .x 19 [(18, 1)] (.int .u8 2), .x 20 [(19, 2)] (.bool false), .x 21 [(20, 3)] (.bool false), ⟨some 22, [], (.v undef), .pass⟩, ⟨some 23, [], (.v undef), .pass⟩, ⟨some 24, [], (.v undef), .pass⟩, ⟨some 25, [], (.v undef), .pass⟩, .x 26 [(21, 4), (25, 8)] (.bool false)]
def F71f_7 (g o cap : Nat) (m : Int) (x : Fin P) : List RG.It := [.c 29 [] gv0, .x 30 [] (.slice (some ⟨g, o, none⟩) 33 cap), .x 31 [(30, 1)] (.slice (some ⟨g, o + 1, none⟩) 32 (cap - 1)), .c 32 [(29, 0), (31, 2)] (.tuple #[(fv x), (.bool true)]), .x 28 [(32, 3)] (.tuple #[(fv x), (.bool true)]), .x 33 [(28, 4)] (fv x), .x 34 [(28, 4)] (.bool true), .m 4 [] 1, .u [(4, 7), (33, 5)] 1, .x 5 [(34, 6)] (.bool true)]
def F71f_8 (x : Fin P) : List RG.It := [.x 35 [] (.bool true), .x 36 [(35, 0)] (.bool false)]
def F71f_10 (m : Int) (x y : Fin P) : List RG.It := [.x 39 [] (fv x), .c 40 [(39, 0)] (.tuple #[(pv x y), (.bool true)]), .x 38 [(40, 1)] (.tuple #[(pv x y), (.bool true)]), .x 41 [(38, 2)] (pv x y), .x 42 [(38, 2)] (.bool true), .m 6 [] 2, .u [(6, 5), (41, 3)] 2, .x 5 [(42, 4)] (.bool true)]
def F71f_11 (g o cap : Nat) (x : Fin P) : List RG.It := [.x 43 [] (.bool true), .x 44 [(43, 0)] (.bool true), .x 45 [] (.slice (some ⟨g, o, none⟩) 33 cap), .x 46 [(45, 2)] (.pointer (some ⟨g, o, none⟩)), .x 47 [(46, 3)] (.int .u8 2), .x 48 [(47, 4)] (.bool false), .x 49 [(44, 1), (48, 5)] (.bool false)]
def F71f_13 (x y : Fin P) : List RG.It := [.x 52 [] (pv x y), .x 53 [] (.bool true), .u [(52, 0)] 0, .x 3 [(53, 1)] (.bool true)]
set_option maxHeartbeats 2000000 in
set_option maxRecDepth 100000 in
theorem rp_even (C : Fld P) (g o cap : Nat) (m : Int) (bs : Bs) (x y y2 : Fin P) (w : World) (hs : bs.size = 33) (hc : 33 ≤ cap) (hg : g < w.heap.size) (hB : Holds encB w g o bs) (hz : ¬ Zero33 bs) (hm : ub bs[0]! = 2) (hx : beV (tl33 bs).toList = x.val) (hr : rt (x * x * x + 7) = some y) : Calls Try.prog 75 #[(.slice (some ⟨g, o, none⟩) 33 cap)] w (Ret fun e w' => Below w.heap.size w w' ∧ e = (.tuple #[pv x y, .bool true])) := by
  have hrg := bl33_range hB
  have hb0 : w.cell? ⟨g, o, none⟩ = some (.int .u8 2) := by
    have := (hB 0 (by rw [hs]; decide)).1
    rw [Nat.add_zero] at this
    rw [this]
    show some (Value.int .u8 (ub bs[0]!)) = _
    rw [hm]
  have hrd : ∀ w', RG.BelX w.heap.size [] w w' → Calls Try.prog 32 #[gv0, .slice (some ⟨g, o + 1, none⟩) 32 (cap - 1)] w' (Ret fun e w'' => Below w'.heap.size w' w'' ∧ e = .tuple #[fv x, .bool true]) := fun w' hb => Read_y C (tl33_size hs) (by omega) hx (Nat.lt_of_lt_of_le hg hb.size) (Holds.below (tl33_holds hs hB) hb.below hg)
  go_enter Try.func75, Try.ntmps75
  refine RG.var1 (v0 := (.slice (some ⟨g, o, none⟩) 33 cap)) (n := 54) (by kernel_rfl) (by kernel_rfl) (by kernel_rfl) ?_
  intro a0 sl0 f0
  have hS0 := RG.St.begin w
  have M0 : RG.M w w.heap.size [] 54 [] [] [(0, (.v (.slice (some ⟨g, o, none⟩) 33 cap)))] a0 _ := ⟨hS0, sl0, ⟨f0, trivial⟩⟩
  repeat refine wp_seq ?_
  refine M0.tx (F71f_0 m x) [(0, (RG.z 8))] [] [(RG.z 8)] [(0, (.v (.slice (some ⟨g, o, none⟩) 33 cap))), (2, (.p 0 0)), (3, (.v (.bool false)))] (by kernel_rfl) (by kernel_rfl) ⟨RG.mk 0 64 fun _ _ => by kernel_rfl, RG.st fun _ _ => by kernel_rfl, trivial⟩ ?_
  intro j1 a1 w1 M1
  repeat refine wp_seq ?_
  refine M1.tx0 (F71f_1 g o cap x) [(0, (.v (.slice (some ⟨g, o, none⟩) 33 cap))), (2, (.p 0 0)), (3, (.v (.bool false))), (9, (.v (.bool false)))] (by kernel_rfl) ⟨RG.st fun _ _ => by kernel_rfl, RG.cert_one rfl 7 (.v (.slice (some ⟨g, o, none⟩) 33 cap)) (.int .i64 33) rfl (RG.sx fun _ => by kernel_rfl) (fun a w => by kernel_rfl) (fun μ w => by kernel_rfl), RG.st fun _ _ => by kernel_rfl, trivial⟩ ?_
  intro a2 w2 M2
  repeat refine wp_seq ?_
  refine wp_cond_false (M2.ev (by kernel_rfl)) ?_
  refine wp_skip ?_
  repeat refine wp_seq ?_
  refine M2.tx0 (F71f_3 g o cap bs x) [(0, (.v (.slice (some ⟨g, o, none⟩) 33 cap))), (2, (.p 0 0)), (3, (.v (.bool false))), (15, (.v (.bool false)))] (by kernel_rfl) ⟨RG.st fun _ _ => by kernel_rfl, RG.cert_s2a rfl 133 11 (.slice (some ⟨g, o, none⟩) 33 cap) (.pointer (some ⟨g, o, none⟩)) rfl rfl (RG.sx fun _ => by kernel_rfl) (arr33 g o cap), RG.cert_loadB rfl g o hg List.not_mem_nil 133 12 rfl (bl33 bs) rfl (RG.sx fun _ => by kernel_rfl) hrg u131 (by rw [bl33_length hs]; exact i131), RG.st fun _ _ => by kernel_rfl, RG.cert_bin rfl .eql 133 133 13 14 (.agg (bl33 bs).toArray) (.agg z33.toArray) (.bool false) rfl rfl (RG.sx fun _ => by kernel_rfl) (RG.sx fun _ => by kernel_rfl) (fun w => by kernel_rfl) (eqz_f hs hz), trivial⟩ ?_
  intro a3 w3 M3
  repeat refine wp_seq ?_
  refine wp_cond_false (M3.ev (by kernel_rfl)) ?_
  refine wp_skip ?_
  repeat refine wp_seq ?_
  refine M3.tx0 (F71f_5 g o cap x) [(0, (.v (.slice (some ⟨g, o, none⟩) 33 cap))), (2, (.p 0 0)), (3, (.v (.bool false))), (26, (.v (.bool false)))] (by kernel_rfl) ⟨RG.st fun _ _ => by kernel_rfl, RG.cert_idxc rfl 22 17 (.int .i64 0) rfl (.v (.slice (some ⟨g, o, none⟩) 33 cap)) (RG.sx fun _ => by kernel_rfl) (fun μ w => at23 g o 33 cap (by decide) w), RG.cert_load1B rfl g o hg List.not_mem_nil 5 18 rfl (.int .u8 2) rfl (RG.sx fun _ => by kernel_rfl) hb0 u5, RG.st fun _ _ => by kernel_rfl, RG.st fun _ _ => by kernel_rfl, RG.cert_pass rfl rfl, RG.cert_pass rfl rfl, RG.cert_pass rfl rfl, RG.cert_pass rfl rfl, RG.st fun _ _ => by kernel_rfl, trivial⟩ ?_
  intro a4 w4 M4
  repeat refine wp_seq ?_
  refine wp_cond_false (M4.ev (by kernel_rfl)) ?_
  refine wp_skip ?_
  repeat refine wp_seq ?_
  refine M4.dr (by kernel_rfl) (F71f_7 g o cap m x) [(7, (RG.z 4))] [(1, 8, (ws x))] [(RG.z 8), (ws x)] [(0, (.v (.slice (some ⟨g, o, none⟩) 33 cap))), (2, (.p 0 0)), (3, (.v (.bool false))), (4, (.p 1 0)), (5, (.v (.bool true)))] (by kernel_rfl) (by kernel_rfl) ⟨RG.cl (Coordinates_c) fun _ _ => by kernel_rfl, RG.st fun _ _ => by kernel_rfl, RG.cert_slice1 rfl 22 30 (.int .i64 1) (.slice (some ⟨g, o, none⟩) 33 cap) (.slice (some ⟨g, o + 1, none⟩) 32 (cap - 1)) rfl rfl (RG.sx fun _ => by kernel_rfl) (sl33 g o cap hc), RG.cert_callB2 rfl 32 29 31 gv0 (.slice (some ⟨g, o + 1, none⟩) 32 (cap - 1)) (.tuple #[(fv x), (.bool true)]) rfl (fun a w => by kernel_rfl) (RG.sx fun _ => by kernel_rfl) (RG.sx fun _ => by kernel_rfl) hrd, RG.st fun _ _ => by kernel_rfl, RG.st fun _ _ => by kernel_rfl, RG.st fun _ _ => by kernel_rfl, RG.mk 1 38 fun _ _ => by kernel_rfl, RG.pt i85 (by kernel_rfl), RG.st fun _ _ => by kernel_rfl, trivial⟩ ?_
  intro j5 a5 w5 M5
  repeat refine wp_seq ?_
  refine M5.tx0 (F71f_8 x) [(0, (.v (.slice (some ⟨g, o, none⟩) 33 cap))), (2, (.p 0 0)), (3, (.v (.bool false))), (4, (.p 1 0)), (5, (.v (.bool true))), (36, (.v (.bool false)))] (by kernel_rfl) ⟨RG.st fun _ _ => by kernel_rfl, RG.st fun _ _ => by kernel_rfl, trivial⟩ ?_
  intro a6 w6 M6
  repeat refine wp_seq ?_
  refine wp_cond_false (M6.ev (by kernel_rfl)) ?_
  refine wp_skip ?_
  repeat refine wp_seq ?_
  refine M6.tx (F71f_10 m x y) [(5, (RG.z 8))] [(2, 6, (ws x ++ (ws y)))] [(RG.z 8), (ws x), (ws x ++ (ws y))] [(0, (.v (.slice (some ⟨g, o, none⟩) 33 cap))), (2, (.p 0 0)), (3, (.v (.bool false))), (5, (.v (.bool true))), (6, (.p 2 0))] (by kernel_rfl) (by kernel_rfl) ⟨RG.ld u85 i85 (by kernel_rfl), RG.cert_call1 rfl 87 39 (fv x) (.tuple #[(pv x y), (.bool true)]) rfl (fun a w => by kernel_rfl) (RG.sx fun _ => by kernel_rfl) (above_y_c C x y hr), RG.st fun _ _ => by kernel_rfl, RG.st fun _ _ => by kernel_rfl, RG.st fun _ _ => by kernel_rfl, RG.mk 2 64 fun _ _ => by kernel_rfl, RG.pt i109 (by kernel_rfl), RG.st fun _ _ => by kernel_rfl, trivial⟩ ?_
  intro j7 a7 w7 M7
  repeat refine wp_seq ?_
  refine M7.tx0 (F71f_11 g o cap x) [(2, (.p 0 0)), (3, (.v (.bool false))), (5, (.v (.bool true))), (6, (.p 2 0)), (49, (.v (.bool false)))] (by kernel_rfl) ⟨RG.st fun _ _ => by kernel_rfl, RG.st fun _ _ => by kernel_rfl, RG.st fun _ _ => by kernel_rfl, RG.cert_idxc rfl 22 45 (.int .i64 0) rfl (.v (.slice (some ⟨g, o, none⟩) 33 cap)) (RG.sx fun _ => by kernel_rfl) (fun μ w => at23 g o 33 cap (by decide) w), RG.cert_load1B rfl g o hg List.not_mem_nil 5 46 rfl (.int .u8 2) rfl (RG.sx fun _ => by kernel_rfl) hb0 u5, RG.st fun _ _ => by kernel_rfl, RG.st fun _ _ => by kernel_rfl, trivial⟩ ?_
  intro a8 w8 M8
  repeat refine wp_seq ?_
  refine wp_cond_false (M8.ev (by kernel_rfl)) ?_
  refine wp_skip ?_
  repeat refine wp_seq ?_
  refine M8.tx (F71f_13 x y) [] [(0, 2, (ws x ++ (ws y)))] [(ws x ++ (ws y)), (ws x), (ws x ++ (ws y))] [(2, (.p 0 0)), (3, (.v (.bool true)))] (by kernel_rfl) (by kernel_rfl) ⟨RG.ld u109 i109 (by kernel_rfl), RG.st fun _ _ => by kernel_rfl, RG.pt i109 (by kernel_rfl), RG.st fun _ _ => by kernel_rfl, trivial⟩ ?_
  intro a9 w9 M9
  have hS9 : RG.St w w.heap.size [] [(ws x ++ (ws y)), (ws x), (ws x ++ (ws y))] [j1, j5, j7] _ := M9.st
  have sl9 := M9.sl
  have f2_9 : a9.tmps[2]? = some (.pointer (some ⟨j1, 0, none⟩)) := M9.at (s := (.p 0 0)) (by kernel_rfl)
  have f3_9 : a9.tmps[3]? = some (.bool true) := M9.at (s := (.v (.bool true))) (by kernel_rfl)
  refine wp_ret ?_
  refine bodyPost_ret (v := (.tuple #[(pv x y), (.bool true)])) (RG.results_rt hS9 2 3 64 rfl 0 _ rfl f2_9 _ f3_9 u109 i109) sl9.defers ?_
  exact ⟨_, rfl, hS9.bel.below, rfl⟩
def F71d3_0 (m : Int) (x : Fin P) : List RG.It := [.m 2 [] 0, .x 3 [] (.bool false)]
def F71d3_1 (g o cap : Nat) (x : Fin P) : List RG.It := [.x 7 [] (.slice (some ⟨g, o, none⟩) 33 cap), .x 8 [(7, 0)] (.int .i64 33), .x 9 [(8, 1)] (.bool false)]
def F71d3_3 (g o cap : Nat) (bs : Bs) (x : Fin P) : List RG.It := [.x 11 [] (.slice (some ⟨g, o, none⟩) 33 cap), .x 12 [(11, 0)] (.pointer (some ⟨g, o, none⟩)), .x 13 [(12, 1)] (.agg (bl33 bs).toArray), .x 14 [] (.agg z33.toArray), .x 15 [(13, 2), (14, 3)] (.bool false)]
def F71d3_5 (g o cap : Nat) (x : Fin P) : List RG.It := [.x 17 [] (.slice (some ⟨g, o, none⟩) 33 cap), .x 18 [(17, 0)] (.pointer (some ⟨g, o, none⟩)), .x 19 [(18, 1)] (.int .u8 3), .x 20 [(19, 2)] (.bool true), .x 21 [(20, 3)] (.bool true), .x 22 [] (.slice (some ⟨g, o, none⟩) 33 cap), .x 23 [(22, 5)] (.pointer (some ⟨g, o, none⟩)), .x 24 [(23, 6)] (.int .u8 3), .x 25 [(24, 7)] (.bool false), .x 26 [(21, 4), (25, 8)] (.bool false)]
def F71d3_7 (g o cap : Nat) (m : Int) (x : Fin P) : List RG.It := [.c 29 [] gv0, .x 30 [] (.slice (some ⟨g, o, none⟩) 33 cap), .x 31 [(30, 1)] (.slice (some ⟨g, o + 1, none⟩) 32 (cap - 1)), .c 32 [(29, 0), (31, 2)] (.tuple #[(fv (0 : Fin P)), (.bool false)]), .x 28 [(32, 3)] (.tuple #[(fv (0 : Fin P)), (.bool false)]), .x 33 [(28, 4)] (fv (0 : Fin P)), .x 34 [(28, 4)] (.bool false), .m 4 [] 1, .u [(4, 7), (33, 5)] 1, .x 5 [(34, 6)] (.bool false)]
def F71d3_8 (x : Fin P) : List RG.It := [.x 35 [] (.bool false), .x 36 [(35, 0)] (.bool true)]
def F71d3_9 (x : Fin P) : List RG.It := [.x 37 [] (pv (0 : Fin P) (0 : Fin P)), .u [(37, 0)] 0, .x 3 [] (.bool false)]
set_option maxHeartbeats 2000000 in
set_option maxRecDepth 100000 in
theorem rp_num3 (C : Fld P) (g o cap : Nat) (m : Int) (bs : Bs) (x y y2 : Fin P) (w : World) (hs : bs.size = 33) (hc : 33 ≤ cap) (hg : g < w.heap.size) (hB : Holds encB w g o bs) (hz : ¬ Zero33 bs) (hm : ub bs[0]! = 3) (hx : ¬ beV (tl33 bs).toList < P) : Calls Try.prog 75 #[(.slice (some ⟨g, o, none⟩) 33 cap)] w (Ret fun e w' => Below w.heap.size w w' ∧ e = (.tuple #[pv (0 : Fin P) 0, .bool false])) := by
  have hrg := bl33_range hB
  have hb0 : w.cell? ⟨g, o, none⟩ = some (.int .u8 3) := by
    have := (hB 0 (by rw [hs]; decide)).1
    rw [Nat.add_zero] at this
    rw [this]
    show some (Value.int .u8 (ub bs[0]!)) = _
    rw [hm]
  have hrd : ∀ w', RG.BelX w.heap.size [] w w' → Calls Try.prog 32 #[gv0, .slice (some ⟨g, o + 1, none⟩) 32 (cap - 1)] w' (Ret fun e w'' => Below w'.heap.size w' w'' ∧ e = .tuple #[fv (0 : Fin P), .bool false]) := fun w' hb => Read_n C (tl33_size hs) (by omega) hx (Nat.lt_of_lt_of_le hg hb.size) (Holds.below (tl33_holds hs hB) hb.below hg)
  go_enter Try.func75, Try.ntmps75
  refine RG.var1 (v0 := (.slice (some ⟨g, o, none⟩) 33 cap)) (n := 54) (by kernel_rfl) (by kernel_rfl) (by kernel_rfl) ?_
  intro a0 sl0 f0
  have hS0 := RG.St.begin w
  have M0 : RG.M w w.heap.size [] 54 [] [] [(0, (.v (.slice (some ⟨g, o, none⟩) 33 cap)))] a0 _ := ⟨hS0, sl0, ⟨f0, trivial⟩⟩
  repeat refine wp_seq ?_
  refine M0.tx (F71d3_0 m x) [(0, (RG.z 8))] [] [(RG.z 8)] [(0, (.v (.slice (some ⟨g, o, none⟩) 33 cap))), (2, (.p 0 0)), (3, (.v (.bool false)))] (by kernel_rfl) (by kernel_rfl) ⟨RG.mk 0 64 fun _ _ => by kernel_rfl, RG.st fun _ _ => by kernel_rfl, trivial⟩ ?_
  intro j1 a1 w1 M1
  repeat refine wp_seq ?_
  refine M1.tx0 (F71d3_1 g o cap x) [(0, (.v (.slice (some ⟨g, o, none⟩) 33 cap))), (2, (.p 0 0)), (3, (.v (.bool false))), (9, (.v (.bool false)))] (by kernel_rfl) ⟨RG.st fun _ _ => by kernel_rfl, RG.cert_one rfl 7 (.v (.slice (some ⟨g, o, none⟩) 33 cap)) (.int .i64 33) rfl (RG.sx fun _ => by kernel_rfl) (fun a w => by kernel_rfl) (fun μ w => by kernel_rfl), RG.st fun _ _ => by kernel_rfl, trivial⟩ ?_
  intro a2 w2 M2
  repeat refine wp_seq ?_
  refine wp_cond_false (M2.ev (by kernel_rfl)) ?_
  refine wp_skip ?_
  repeat refine wp_seq ?_
  refine M2.tx0 (F71d3_3 g o cap bs x) [(0, (.v (.slice (some ⟨g, o, none⟩) 33 cap))), (2, (.p 0 0)), (3, (.v (.bool false))), (15, (.v (.bool false)))] (by kernel_rfl) ⟨RG.st fun _ _ => by kernel_rfl, RG.cert_s2a rfl 133 11 (.slice (some ⟨g, o, none⟩) 33 cap) (.pointer (some ⟨g, o, none⟩)) rfl rfl (RG.sx fun _ => by kernel_rfl) (arr33 g o cap), RG.cert_loadB rfl g o hg List.not_mem_nil 133 12 rfl (bl33 bs) rfl (RG.sx fun _ => by kernel_rfl) hrg u131 (by rw [bl33_length hs]; exact i131), RG.st fun _ _ => by kernel_rfl, RG.cert_bin rfl .eql 133 133 13 14 (.agg (bl33 bs).toArray) (.agg z33.toArray) (.bool false) rfl rfl (RG.sx fun _ => by kernel_rfl) (RG.sx fun _ => by kernel_rfl) (fun w => by kernel_rfl) (eqz_f hs hz), trivial⟩ ?_
  intro a3 w3 M3
  repeat refine wp_seq ?_
  refine wp_cond_false (M3.ev (by kernel_rfl)) ?_
  refine wp_skip ?_
  repeat refine wp_seq ?_
  refine M3.tx0 (F71d3_5 g o cap x) [(0, (.v (.slice (some ⟨g, o, none⟩) 33 cap))), (2, (.p 0 0)), (3, (.v (.bool false))), (26, (.v (.bool false)))] (by kernel_rfl) ⟨RG.st fun _ _ => by kernel_rfl, RG.cert_idxc rfl 22 17 (.int .i64 0) rfl (.v (.slice (some ⟨g, o, none⟩) 33 cap)) (RG.sx fun _ => by kernel_rfl) (fun μ w => at23 g o 33 cap (by decide) w), RG.cert_load1B rfl g o hg List.not_mem_nil 5 18 rfl (.int .u8 3) rfl (RG.sx fun _ => by kernel_rfl) hb0 u5, RG.st fun _ _ => by kernel_rfl, RG.st fun _ _ => by kernel_rfl, RG.st fun _ _ => by kernel_rfl, RG.cert_idxc rfl 22 22 (.int .i64 0) rfl (.v (.slice (some ⟨g, o, none⟩) 33 cap)) (RG.sx fun _ => by kernel_rfl) (fun μ w => at23 g o 33 cap (by decide) w), RG.cert_load1B rfl g o hg List.not_mem_nil 5 23 rfl (.int .u8 3) rfl (RG.sx fun _ => by kernel_rfl) hb0 u5, RG.st fun _ _ => by kernel_rfl, RG.st fun _ _ => by kernel_rfl, trivial⟩ ?_
  intro a4 w4 M4
  repeat refine wp_seq ?_
  refine wp_cond_false (M4.ev (by kernel_rfl)) ?_
  refine wp_skip ?_
  repeat refine wp_seq ?_
  refine M4.dr (by kernel_rfl) (F71d3_7 g o cap m x) [(7, (RG.z 4))] [(1, 8, (ws (0 : Fin P)))] [(RG.z 8), (ws (0 : Fin P))] [(2, (.p 0 0)), (3, (.v (.bool false))), (5, (.v (.bool false)))] (by kernel_rfl) (by kernel_rfl) ⟨RG.cl (Coordinates_c) fun _ _ => by kernel_rfl, RG.st fun _ _ => by kernel_rfl, RG.cert_slice1 rfl 22 30 (.int .i64 1) (.slice (some ⟨g, o, none⟩) 33 cap) (.slice (some ⟨g, o + 1, none⟩) 32 (cap - 1)) rfl rfl (RG.sx fun _ => by kernel_rfl) (sl33 g o cap hc), RG.cert_callB2 rfl 32 29 31 gv0 (.slice (some ⟨g, o + 1, none⟩) 32 (cap - 1)) (.tuple #[(fv (0 : Fin P)), (.bool false)]) rfl (fun a w => by kernel_rfl) (RG.sx fun _ => by kernel_rfl) (RG.sx fun _ => by kernel_rfl) hrd, RG.st fun _ _ => by kernel_rfl, RG.st fun _ _ => by kernel_rfl, RG.st fun _ _ => by kernel_rfl, RG.mk 1 38 fun _ _ => by kernel_rfl, RG.pt i85 (by kernel_rfl), RG.st fun _ _ => by kernel_rfl, trivial⟩ ?_
  intro j5 a5 w5 M5
  repeat refine wp_seq ?_
  refine M5.tx0 (F71d3_8 x) [(2, (.p 0 0)), (3, (.v (.bool false))), (36, (.v (.bool true)))] (by kernel_rfl) ⟨RG.st fun _ _ => by kernel_rfl, RG.st fun _ _ => by kernel_rfl, trivial⟩ ?_
  intro a6 w6 M6
  repeat refine wp_seq ?_
  refine wp_cond_true (M6.ev (by kernel_rfl)) ?_
  repeat refine wp_seq ?_
  refine M6.tx (F71d3_9 x) [] [(0, 1, (ws (0 : Fin P) ++ (ws (0 : Fin P))))] [(ws (0 : Fin P) ++ (ws (0 : Fin P))), (ws (0 : Fin P))] [(2, (.p 0 0)), (3, (.v (.bool false)))] (by kernel_rfl) (by kernel_rfl) ⟨RG.se (zero_pv (P := P)) fun _ _ => by kernel_rfl, RG.pt i109 (by kernel_rfl), RG.st fun _ _ => by kernel_rfl, trivial⟩ ?_
  intro a7 w7 M7
  have hS7 : RG.St w w.heap.size [] [(ws (0 : Fin P) ++ (ws (0 : Fin P))), (ws (0 : Fin P))] [j1, j5] _ := M7.st
  have sl7 := M7.sl
  have f2_7 : a7.tmps[2]? = some (.pointer (some ⟨j1, 0, none⟩)) := M7.at (s := (.p 0 0)) (by kernel_rfl)
  have f3_7 : a7.tmps[3]? = some (.bool false) := M7.at (s := (.v (.bool false))) (by kernel_rfl)
  refine wp_ret ?_
  refine bodyPost_ret (v := (.tuple #[(pv (0 : Fin P) (0 : Fin P)), (.bool false)])) (RG.results_rt hS7 2 3 64 rfl 0 _ rfl f2_7 _ f3_7 u109 i109) sl7.defers ?_
  exact ⟨_, rfl, hS7.bel.below, rfl⟩
def F71e3_0 (m : Int) (x : Fin P) : List RG.It := [.m 2 [] 0, .x 3 [] (.bool false)]
def F71e3_1 (g o cap : Nat) (x : Fin P) : List RG.It := [.x 7 [] (.slice (some ⟨g, o, none⟩) 33 cap), .x 8 [(7, 0)] (.int .i64 33), .x 9 [(8, 1)] (.bool false)]
def F71e3_3 (g o cap : Nat) (bs : Bs) (x : Fin P) : List RG.It := [.x 11 [] (.slice (some ⟨g, o, none⟩) 33 cap), .x 12 [(11, 0)] (.pointer (some ⟨g, o, none⟩)), .x 13 [(12, 1)] (.agg (bl33 bs).toArray), .x 14 [] (.agg z33.toArray), .x 15 [(13, 2), (14, 3)] (.bool false)]
def F71e3_5 (g o cap : Nat) (x : Fin P) : List RG.It := [.x 17 [] (.slice (some ⟨g, o, none⟩) 33 cap), .x 18 [(17, 0)] (.pointer (some ⟨g, o, none⟩)), .x 19 [(18, 1)] (.int .u8 3), .x 20 [(19, 2)] (.bool true), .x 21 [(20, 3)] (.bool true), .x 22 [] (.slice (some ⟨g, o, none⟩) 33 cap), .x 23 [(22, 5)] (.pointer (some ⟨g, o, none⟩)), .x 24 [(23, 6)] (.int .u8 3), .x 25 [(24, 7)] (.bool false), .x 26 [(21, 4), (25, 8)] (.bool false)]
def F71e3_7 (g o cap : Nat) (m : Int) (x : Fin P) : List RG.It := [.c 29 [] gv0, .x 30 [] (.slice (some ⟨g, o, none⟩) 33 cap), .x 31 [(30, 1)] (.slice (some ⟨g, o + 1, none⟩) 32 (cap - 1)), .c 32 [(29, 0), (31, 2)] (.tuple #[(fv x), (.bool true)]), .x 28 [(32, 3)] (.tuple #[(fv x), (.bool true)]), .x 33 [(28, 4)] (fv x), .x 34 [(28, 4)] (.bool true), .m 4 [] 1, .u [(4, 7), (33, 5)] 1, .x 5 [(34, 6)] (.bool true)]
def F71e3_8 (x : Fin P) : List RG.It := [.x 35 [] (.bool true), .x 36 [(35, 0)] (.bool false)]
def F71e3_10 (m : Int) (x : Fin P) : List RG.It := [.x 39 [] (fv x), .c 40 [(39, 0)] (.tuple #[(pv (0 : Fin P) (0 : Fin P)), (.bool false)]), .x 38 [(40, 1)] (.tuple #[(pv (0 : Fin P) (0 : Fin P)), (.bool false)]), .x 41 [(38, 2)] (pv (0 : Fin P) (0 : Fin P)), .x 42 [(38, 2)] (.bool false), .m 6 [] 2, .u [(6, 5), (41, 3)] 2, .x 5 [(42, 4)] (.bool false)]
def F71e3_11 (x : Fin P) : List RG.It := [.x 43 [] (.bool false), .x 44 [(43, 0)] (.bool false), ⟨some 45, [], (.v undef), .pass⟩, ⟨some 46, [], (.v undef), .pass⟩, ⟨some 47, [], (.v undef), .pass⟩, ⟨some 48, [], (.v undef), .pass⟩, .x 49 [(44, 1), (48, 5)] (.bool false)]
def F71e3_13 (x : Fin P) : List RG.It := [.x 52 [] (pv (0 : Fin P) (0 : Fin P)), .x 53 [] (.bool false), .u [(52, 0)] 0, .x 3 [(53, 1)] (.bool false)]
set_option maxHeartbeats 2000000 in
set_option maxRecDepth 100000 in
theorem rp_none3 (C : Fld P) (g o cap : Nat) (m : Int) (bs : Bs) (x y y2 : Fin P) (w : World) (hs : bs.size = 33) (hc : 33 ≤ cap) (hg : g < w.heap.size) (hB : Holds encB w g o bs) (hz : ¬ Zero33 bs) (hm : ub bs[0]! = 3) (hx : beV (tl33 bs).toList = x.val) (hr : rt (x * x * x + 7) = none) : Calls Try.prog 75 #[(.slice (some ⟨g, o, none⟩) 33 cap)] w (Ret fun e w' => Below w.heap.size w w' ∧ e = (.tuple #[pv (0 : Fin P) 0, .bool false])) := by
  have hrg := bl33_range hB
  have hb0 : w.cell? ⟨g, o, none⟩ = some (.int .u8 3) := by
    have := (hB 0 (by rw [hs]; decide)).1
    rw [Nat.add_zero] at this
    rw [this]
    show some (Value.int .u8 (ub bs[0]!)) = _
    rw [hm]
  have hrd : ∀ w', RG.BelX w.heap.size [] w w' → Calls Try.prog 32 #[gv0, .slice (some ⟨g, o + 1, none⟩) 32 (cap - 1)] w' (Ret fun e w'' => Below w'.heap.size w' w'' ∧ e = .tuple #[fv x, .bool true]) := fun w' hb => Read_y C (tl33_size hs) (by omega) hx (Nat.lt_of_lt_of_le hg hb.size) (Holds.below (tl33_holds hs hB) hb.below hg)
  go_enter Try.func75, Try.ntmps75
  refine RG.var1 (v0 := (.slice (some ⟨g, o, none⟩) 33 cap)) (n := 54) (by kernel_rfl) (by kernel_rfl) (by kernel_rfl) ?_
  intro a0 sl0 f0
  have hS0 := RG.St.begin w
  have M0 : RG.M w w.heap.size [] 54 [] [] [(0, (.v (.slice (some ⟨g, o, none⟩) 33 cap)))] a0 _ := ⟨hS0, sl0, ⟨f0, trivial⟩⟩
  repeat refine wp_seq ?_
  refine M0.tx (F71e3_0 m x) [(0, (RG.z 8))] [] [(RG.z 8)] [(0, (.v (.slice (some ⟨g, o, none⟩) 33 cap))), (2, (.p 0 0)), (3, (.v (.bool false)))] (by kernel_rfl) (by kernel_rfl) ⟨RG.mk 0 64 fun _ _ => by kernel_rfl, RG.st fun _ _ => by kernel_rfl, trivial⟩ ?_
  intro j1 a1 w1 M1
  repeat refine wp_seq ?_
  refine M1.tx0 (F71e3_1 g o cap x) [(0, (.v (.slice (some ⟨g, o, none⟩) 33 cap))), (2, (.p 0 0)), (3, (.v (.bool false))), (9, (.v (.bool false)))] (by kernel_rfl) ⟨RG.st fun _ _ => by kernel_rfl, RG.cert_one rfl 7 (.v (.slice (some ⟨g, o, none⟩) 33 cap)) (.int .i64 33) rfl (RG.sx fun _ => by kernel_rfl) (fun a w => by kernel_rfl) (fun μ w => by kernel_rfl), RG.st fun _ _ => by kernel_rfl, trivial⟩ ?_
  intro a2 w2 M2
  repeat refine wp_seq ?_
  refine wp_cond_false (M2.ev (by kernel_rfl)) ?_
  refine wp_skip ?_
  repeat refine wp_seq ?_
  refine M2.tx0 (F71e3_3 g o cap bs x) [(0, (.v (.slice (some ⟨g, o, none⟩) 33 cap))), (2, (.p 0 0)), (3, (.v (.bool false))), (15, (.v (.bool false)))] (by kernel_rfl) ⟨RG.st fun _ _ => by kernel_rfl, RG.cert_s2a rfl 133 11 (.slice (some ⟨g, o, none⟩) 33 cap) (.pointer (some ⟨g, o, none⟩)) rfl rfl (RG.sx fun _ => by kernel_rfl) (arr33 g o cap), RG.cert_loadB rfl g o hg List.not_mem_nil 133 12 rfl (bl33 bs) rfl (RG.sx fun _ => by kernel_rfl) hrg u131 (by rw [bl33_length hs]; exact i131), RG.st fun _ _ => by kernel_rfl, RG.cert_bin rfl .eql 133 133 13 14 (.agg (bl33 bs).toArray) (.agg z33.toArray) (.bool false) rfl rfl (RG.sx fun _ => by kernel_rfl) (RG.sx fun _ => by kernel_rfl) (fun w => by kernel_rfl) (eqz_f hs hz), trivial⟩ ?_
  intro a3 w3 M3
  repeat refine wp_seq ?_
  refine wp_cond_false (M3.ev (by kernel_rfl)) ?_
  refine wp_skip ?_
  repeat refine wp_seq ?_
  refine M3.tx0 (F71e3_5 g o cap x) [(0, (.v (.slice (some ⟨g, o, none⟩) 33 cap))), (2, (.p 0 0)), (3, (.v (.bool false))), (26, (.v (.bool false)))] (by kernel_rfl) ⟨RG.st fun _ _ => by kernel_rfl, RG.cert_idxc rfl 22 17 (.int .i64 0) rfl (.v (.slice (some ⟨g, o, none⟩) 33 cap)) (RG.sx fun _ => by kernel_rfl) (fun μ w => at23 g o 33 cap (by decide) w), RG.cert_load1B rfl g o hg List.not_mem_nil 5 18 rfl (.int .u8 3) rfl (RG.sx fun _ => by kernel_rfl) hb0 u5, RG.st fun _ _ => by kernel_rfl, RG.st fun _ _ => by kernel_rfl, RG.st fun _ _ => by kernel_rfl, RG.cert_idxc rfl 22 22 (.int .i64 0) rfl (.v (.slice (some ⟨g, o, none⟩) 33 cap)) (RG.sx fun _ => by kernel_rfl) (fun μ w => at23 g o 33 cap (by decide) w), RG.cert_load1B rfl g o hg List.not_mem_nil 5 23 rfl (.int .u8 3) rfl (RG.sx fun _ => by kernel_rfl) hb0 u5, RG.st fun _ _ => by kernel_rfl, RG.st fun _ _ => by kernel_rfl, trivial⟩ ?_
  intro a4 w4 M4
  repeat refine wp_seq ?_
  refine wp_cond_false (M4.ev (by kernel_rfl)) ?_
  refine wp_skip ?_
  repeat refine wp_seq ?_
  refine M4.dr (by kernel_rfl) (F71e3_7 g o cap m x) [(7, (RG.z 4))] [(1, 8, (ws x))] [(RG.z 8), (ws x)] [(2, (.p 0 0)), (3, (.v (.bool false))), (4, (.p 1 0)), (5, (.v (.bool true)))] (by kernel_rfl) (by kernel_rfl) ⟨RG.cl (Coordinates_c) fun _ _ => by kernel_rfl, RG.st fun _ _ => by kernel_rfl, RG.cert_slice1 rfl 22 30 (.int .i64 1) (.slice (some ⟨g, o, none⟩) 33 cap) (.slice (some ⟨g, o + 1, none⟩) 32 (cap - 1)) rfl rfl (RG.sx fun _ => by kernel_rfl) (sl33 g o cap hc), RG.cert_callB2 rfl 32 29 31 gv0 (.slice (some ⟨g, o + 1, none⟩) 32 (cap - 1)) (.tuple #[(fv x), (.bool true)]) rfl (fun a w => by kernel_rfl) (RG.sx fun _ => by kernel_rfl) (RG.sx fun _ => by kernel_rfl) hrd, RG.st fun _ _ => by kernel_rfl, RG.st fun _ _ => by kernel_rfl, RG.st fun _ _ => by kernel_rfl, RG.mk 1 38 fun _ _ => by kernel_rfl, RG.pt i85 (by kernel_rfl), RG.st fun _ _ => by kernel_rfl, trivial⟩ ?_
  intro j5 a5 w5 M5
  repeat refine wp_seq ?_
  refine M5.tx0 (F71e3_8 x) [(2, (.p 0 0)), (3, (.v (.bool false))), (4, (.p 1 0)), (5, (.v (.bool true))), (36, (.v (.bool false)))] (by kernel_rfl) ⟨RG.st fun _ _ => by kernel_rfl, RG.st fun _ _ => by kernel_rfl, trivial⟩ ?_
  intro a6 w6 M6
  repeat refine wp_seq ?_
  refine wp_cond_false (M6.ev (by kernel_rfl)) ?_
  refine wp_skip ?_
  repeat refine wp_seq ?_
  refine M6.tx (F71e3_10 m x) [(5, (RG.z 8))] [(2, 6, (ws (0 : Fin P) ++ (ws (0 : Fin P))))] [(RG.z 8), (ws x), (ws (0 : Fin P) ++ (ws (0 : Fin P)))] [(2, (.p 0 0)), (3, (.v (.bool false))), (5, (.v (.bool false))), (6, (.p 2 0))] (by kernel_rfl) (by kernel_rfl) ⟨RG.ld u85 i85 (by kernel_rfl), RG.cert_call1 rfl 87 39 (fv x) (.tuple #[(pv (0 : Fin P) (0 : Fin P)), (.bool false)]) rfl (fun a w => by kernel_rfl) (RG.sx fun _ => by kernel_rfl) (above_n_c C x hr), RG.st fun _ _ => by kernel_rfl, RG.st fun _ _ => by kernel_rfl, RG.st fun _ _ => by kernel_rfl, RG.mk 2 64 fun _ _ => by kernel_rfl, RG.pt i109 (by kernel_rfl), RG.st fun _ _ => by kernel_rfl, trivial⟩ ?_
  intro j7 a7 w7 M7
  repeat refine wp_seq ?_
  refine M7.tx0 (F71e3_11 x) [(2, (.p 0 0)), (3, (.v (.bool false))), (5, (.v (.bool false))), (6, (.p 2 0)), (49, (.v (.bool false)))] (by kernel_rfl) ⟨RG.st fun _ _ => by kernel_rfl, RG.st fun _ _ => by kernel_rfl, RG.cert_pass rfl rfl, RG.cert_pass rfl rfl, RG.cert_pass rfl rfl, RG.cert_pass rfl rfl, RG.st fun _ _ => by kernel_rfl, trivial⟩ ?_
  intro a8 w8 M8
  repeat refine wp_seq ?_
  refine wp_cond_false (M8.ev (by kernel_rfl)) ?_
  refine wp_skip ?_
  repeat refine wp_seq ?_
  refine M8.tx (F71e3_13 x) [] [(0, 2, (ws (0 : Fin P) ++ (ws (0 : Fin P))))] [(ws (0 : Fin P) ++ (ws (0 : Fin P))), (ws x), (ws (0 : Fin P) ++ (ws (0 : Fin P)))] [(2, (.p 0 0)), (3, (.v (.bool false)))] (by kernel_rfl) (by kernel_rfl) ⟨RG.ld u109 i109 (by kernel_rfl), RG.st fun _ _ => by kernel_rfl, RG.pt i109 (by kernel_rfl), RG.st fun _ _ => by kernel_rfl, trivial⟩ ?_
  intro a9 w9 M9
  have hS9 : RG.St w w.heap.size [] [(ws (0 : Fin P) ++ (ws (0 : Fin P))), (ws x), (ws (0 : Fin P) ++ (ws (0 : Fin P)))] [j1, j5, j7] _ := M9.st
  have sl9 := M9.sl
  have f2_9 : a9.tmps[2]? = some (.pointer (some ⟨j1, 0, none⟩)) := M9.at (s := (.p 0 0)) (by kernel_rfl)
  have f3_9 : a9.tmps[3]? = some (.bool false) := M9.at (s := (.v (.bool false))) (by kernel_rfl)
  refine wp_ret ?_
  refine bodyPost_ret (v := (.tuple #[(pv (0 : Fin P) (0 : Fin P)), (.bool false)])) (RG.results_rt hS9 2 3 64 rfl 0 _ rfl f2_9 _ f3_9 u109 i109) sl9.defers ?_
  exact ⟨_, rfl, hS9.bel.below, rfl⟩
def F71g_0 (m : Int) (x : Fin P) : List RG.It := [.m 2 [] 0, .x 3 [] (.bool false)]
def F71g_1 (g o cap : Nat) (x : Fin P) : List RG.It := [.x 7 [] (.slice (some ⟨g, o, none⟩) 33 cap), .x 8 [(7, 0)] (.int .i64 33), .x 9 [(8, 1)] (.bool false)]
def F71g_3 (g o cap : Nat) (bs : Bs) (x : Fin P) : List RG.It := [.x 11 [] (.slice (some ⟨g, o, none⟩) 33 cap), .x 12 [(11, 0)] (.pointer (some ⟨g, o, none⟩)), .x 13 [(12, 1)] (.agg (bl33 bs).toArray), .x 14 [] (.agg z33.toArray), .x 15 [(13, 2), (14, 3)] (.bool false)]
def F71g_5 (g o cap : Nat) (x : Fin P) : List RG.It := [.x 17 [] (.slice (some ⟨g, o, none⟩) 33 cap), .x 18 [(17, 0)] (.pointer (some ⟨g, o, none⟩)), .x 19 [(18, 1)] (.int .u8 3), .x 20 [(19, 2)] (.bool true), .x 21 [(20, 3)] (.bool true), .x 22 [] (.slice (some ⟨g, o, none⟩) 33 cap), .x 23 [(22, 5)] (.pointer (some ⟨g, o, none⟩)), .x 24 [(23, 6)] (.int .u8 3), .x 25 [(24, 7)] (.bool false), .x 26 [(21, 4), (25, 8)] (.bool false)]
def F71g_7 (g o cap : Nat) (m : Int) (x : Fin P) : List RG.It := [.c 29 [] gv0, .x 30 [] (.slice (some ⟨g, o, none⟩) 33 cap), .x 31 [(30, 1)] (.slice (some ⟨g, o + 1, none⟩) 32 (cap - 1)), .c 32 [(29, 0), (31, 2)] (.tuple #[(fv x), (.bool true)]), .x 28 [(32, 3)] (.tuple #[(fv x), (.bool true)]), .x 33 [(28, 4)] (fv x), .x 34 [(28, 4)] (.bool true), .m 4 [] 1, .u [(4, 7), (33, 5)] 1, .x 5 [(34, 6)] (.bool true)]
def F71g_8 (x : Fin P) : List RG.It := [.x 35 [] (.bool true), .x 36 [(35, 0)] (.bool false)]
def F71g_10 (m : Int) (x y : Fin P) : List RG.It := [.x 39 [] (fv x), .c 40 [(39, 0)] (.tuple #[(pv x y), (.bool true)]), .x 38 [(40, 1)] (.tuple #[(pv x y), (.bool true)]), .x 41 [(38, 2)] (pv x y), .x 42 [(38, 2)] (.bool true), .m 6 [] 2, .u [(6, 5), (41, 3)] 2, .x 5 [(42, 4)] (.bool true)]
def F71g_11 (g o cap : Nat) (x : Fin P) : List RG.It := [.x 43 [] (.bool true), .x 44 [(43, 0)] (.bool true), .x 45 [] (.slice (some ⟨g, o, none⟩) 33 cap), .x 46 [(45, 2)] (.pointer (some ⟨g, o, none⟩)), .x 47 [(46, 3)] (.int .u8 3), .x 48 [(47, 4)] (.bool true), .x 49 [(44, 1), (48, 5)] (.bool true)]
def F71g_12 (x y y2 : Fin P) : List RG.It := [.x 50 [] (pv x y), .c 51 [(50, 0)] (pv x y2), .u [(51, 1)] 2]
def F71g_13 (x y2 : Fin P) : List RG.It := [.x 52 [] (pv x y2), .x 53 [] (.bool true), .u [(52, 0)] 0, .x 3 [(53, 1)] (.bool true)]
set_option maxHeartbeats 2000000 in
set_option maxRecDepth 100000 in
theorem rp_odd (C : Fld P) (g o cap : Nat) (m : Int) (bs : Bs) (x y y2 : Fin P) (w : World) (hs : bs.size = 33) (hc : 33 ≤ cap) (hg : g < w.heap.size) (hB : Holds encB w g o bs) (hz : ¬ Zero33 bs) (hm : ub bs[0]! = 3) (hx : beV (tl33 bs).toList = x.val) (hr : rt (x * x * x + 7) = some y) (hy2 : 0 - y = y2) : Calls Try.prog 75 #[(.slice (some ⟨g, o, none⟩) 33 cap)] w (Ret fun e w' => Below w.heap.size w w' ∧ e = (.tuple #[pv x y2, .bool true])) := by
  have hrg := bl33_range hB
  have hb0 : w.cell? ⟨g, o, none⟩ = some (.int .u8 3) := by
    have := (hB 0 (by rw [hs]; decide)).1
    rw [Nat.add_zero] at this
    rw [this]
    show some (Value.int .u8 (ub bs[0]!)) = _
    rw [hm]
  have hrd : ∀ w', RG.BelX w.heap.size [] w w' → Calls Try.prog 32 #[gv0, .slice (some ⟨g, o + 1, none⟩) 32 (cap - 1)] w' (Ret fun e w'' => Below w'.heap.size w' w'' ∧ e = .tuple #[fv x, .bool true]) := fun w' hb => Read_y C (tl33_size hs) (by omega) hx (Nat.lt_of_lt_of_le hg hb.size) (Holds.below (tl33_holds hs hB) hb.below hg)
  have popp_y : Gives 88 #[pv x y] (pv x y2) := hy2 ▸ popp_c C x y
  go_enter Try.func75, Try.ntmps75
  refine RG.var1 (v0 := (.slice (some ⟨g, o, none⟩) 33 cap)) (n := 54) (by kernel_rfl) (by kernel_rfl) (by kernel_rfl) ?_
  intro a0 sl0 f0
  have hS0 := RG.St.begin w
  have M0 : RG.M w w.heap.size [] 54 [] [] [(0, (.v (.slice (some ⟨g, o, none⟩) 33 cap)))] a0 _ := ⟨hS0, sl0, ⟨f0, trivial⟩⟩
  repeat refine wp_seq ?_
  refine M0.tx (F71g_0 m x) [(0, (RG.z 8))] [] [(RG.z 8)] [(0, (.v (.slice (some ⟨g, o, none⟩) 33 cap))), (2, (.p 0 0)), (3, (.v (.bool false)))] (by kernel_rfl) (by kernel_rfl) ⟨RG.mk 0 64 fun _ _ => by kernel_rfl, RG.st fun _ _ => by kernel_rfl, trivial⟩ ?_
  intro j1 a1 w1 M1
  repeat refine wp_seq ?_
  refine M1.tx0 (F71g_1 g o cap x) [(0, (.v (.slice (some ⟨g, o, none⟩) 33 cap))), (2, (.p 0 0)), (3, (.v (.bool false))), (9, (.v (.bool false)))] (by kernel_rfl) ⟨RG.st fun _ _ => by kernel_rfl, RG.cert_one rfl 7 (.v (.slice (some ⟨g, o, none⟩) 33 cap)) (.int .i64 33) rfl (RG.sx fun _ => by kernel_rfl) (fun a w => by kernel_rfl) (fun μ w => by kernel_rfl), RG.st fun _ _ => by kernel_rfl, trivial⟩ ?_
  intro a2 w2 M2
  repeat refine wp_seq ?_
  refine wp_cond_false (M2.ev (by kernel_rfl)) ?_
  refine wp_skip ?_
  repeat refine wp_seq ?_
  refine M2.tx0 (F71g_3 g o cap bs x) [(0, (.v (.slice (some ⟨g, o, none⟩) 33 cap))), (2, (.p 0 0)), (3, (.v (.bool false))), (15, (.v (.bool false)))] (by kernel_rfl) ⟨RG.st fun _ _ => by kernel_rfl, RG.cert_s2a rfl 133 11 (.slice (some ⟨g, o, none⟩) 33 cap) (.pointer (some ⟨g, o, none⟩)) rfl rfl (RG.sx fun _ => by kernel_rfl) (arr33 g o cap), RG.cert_loadB rfl g o hg List.not_mem_nil 133 12 rfl (bl33 bs) rfl (RG.sx fun _ => by kernel_rfl) hrg u131 (by rw [bl33_length hs]; exact i131), RG.st fun _ _ => by kernel_rfl, RG.cert_bin rfl .eql 133 133 13 14 (.agg (bl33 bs).toArray) (.agg z33.toArray) (.bool false) rfl rfl (RG.sx fun _ => by kernel_rfl) (RG.sx fun _ => by kernel_rfl) (fun w => by kernel_rfl) (eqz_f hs hz), trivial⟩ ?_
  intro a3 w3 M3
  repeat refine wp_seq ?_
  refine wp_cond_false (M3.ev (by kernel_rfl)) ?_
  refine wp_skip ?_
  repeat refine wp_seq ?_
  refine M3.tx0 (F71g_5 g o cap x) [(0, (.v (.slice (some ⟨g, o, none⟩) 33 cap))), (2, (.p 0 0)), (3, (.v (.bool false))), (26, (.v (.bool false)))] (by kernel_rfl) ⟨RG.st fun _ _ => by kernel_rfl, RG.cert_idxc rfl 22 17 (.int .i64 0) rfl (.v (.slice (some ⟨g, o, none⟩) 33 cap)) (RG.sx fun _ => by kernel_rfl) (fun μ w => at23 g o 33 cap (by decide) w), RG.cert_load1B rfl g o hg List.not_mem_nil 5 18 rfl (.int .u8 3) rfl (RG.sx fun _ => by kernel_rfl) hb0 u5, RG.st fun _ _ => by kernel_rfl, RG.st fun _ _ => by kernel_rfl, RG.st fun _ _ => by kernel_rfl, RG.cert_idxc rfl 22 22 (.int .i64 0) rfl (.v (.slice (some ⟨g, o, none⟩) 33 cap)) (RG.sx fun _ => by kernel_rfl) (fun μ w => at23 g o 33 cap (by decide) w), RG.cert_load1B rfl g o hg List.not_mem_nil 5 23 rfl (.int .u8 3) rfl (RG.sx fun _ => by kernel_rfl) hb0 u5, RG.st fun _ _ => by kernel_rfl, RG.st fun _ _ => by kernel_rfl, trivial⟩ ?_
  intro a4 w4 M4
  repeat refine wp_seq ?_
  refine wp_cond_false (M4.ev (by kernel_rfl)) ?_
  refine wp_skip ?_
  repeat refine wp_seq ?_
  refine M4.dr (by kernel_rfl) (F71g_7 g o cap m x) [(7, (RG.z 4))] [(1, 8, (ws x))] [(RG.z 8), (ws x)] [(0, (.v (.slice (some ⟨g, o, none⟩) 33 cap))), (2, (.p 0 0)), (3, (.v (.bool false))), (4, (.p 1 0)), (5, (.v (.bool true)))] (by kernel_rfl) (by kernel_rfl) ⟨RG.cl (Coordinates_c) fun _ _ => by kernel_rfl, RG.st fun _ _ => by kernel_rfl, RG.cert_slice1 rfl 22 30 (.int .i64 1) (.slice (some ⟨g, o, none⟩) 33 cap) (.slice (some ⟨g, o + 1, none⟩) 32 (cap - 1)) rfl rfl (RG.sx fun _ => by kernel_rfl) (sl33 g o cap hc), RG.cert_callB2 rfl 32 29 31 gv0 (.slice (some ⟨g, o + 1, none⟩) 32 (cap - 1)) (.tuple #[(fv x), (.bool true)]) rfl (fun a w => by kernel_rfl) (RG.sx fun _ => by kernel_rfl) (RG.sx fun _ => by kernel_rfl) hrd, RG.st fun _ _ => by kernel_rfl, RG.st fun _ _ => by kernel_rfl, RG.st fun _ _ => by kernel_rfl, RG.mk 1 38 fun _ _ => by kernel_rfl, RG.pt i85 (by kernel_rfl), RG.st fun _ _ => by kernel_rfl, trivial⟩ ?_
  intro j5 a5 w5 M5
  repeat refine wp_seq ?_
  refine M5.tx0 (F71g_8 x) [(0, (.v (.slice (some ⟨g, o, none⟩) 33 cap))), (2, (.p 0 0)), (3, (.v (.bool false))), (4, (.p 1 0)), (5, (.v (.bool true))), (36, (.v (.bool false)))] (by kernel_rfl) ⟨RG.st fun _ _ => by kernel_rfl, RG.st fun _ _ => by kernel_rfl, trivial⟩ ?_
  intro a6 w6 M6
  repeat refine wp_seq ?_
  refine wp_cond_false (M6.ev (by kernel_rfl)) ?_
  refine wp_skip ?_
  repeat refine wp_seq ?_
  refine M6.tx (F71g_10 m x y) [(5, (RG.z 8))] [(2, 6, (ws x ++ (ws y)))] [(RG.z 8), (ws x), (ws x ++ (ws y))] [(0, (.v (.slice (some ⟨g, o, none⟩) 33 cap))), (2, (.p 0 0)), (3, (.v (.bool false))), (5, (.v (.bool true))), (6, (.p 2 0))] (by kernel_rfl) (by kernel_rfl) ⟨RG.ld u85 i85 (by kernel_rfl), RG.cert_call1 rfl 87 39 (fv x) (.tuple #[(pv x y), (.bool true)]) rfl (fun a w => by kernel_rfl) (RG.sx fun _ => by kernel_rfl) (above_y_c C x y hr), RG.st fun _ _ => by kernel_rfl, RG.st fun _ _ => by kernel_rfl, RG.st fun _ _ => by kernel_rfl, RG.mk 2 64 fun _ _ => by kernel_rfl, RG.pt i109 (by kernel_rfl), RG.st fun _ _ => by kernel_rfl, trivial⟩ ?_
  intro j7 a7 w7 M7
  repeat refine wp_seq ?_
  refine M7.tx0 (F71g_11 g o cap x) [(2, (.p 0 0)), (3, (.v (.bool false))), (5, (.v (.bool true))), (6, (.p 2 0)), (49, (.v (.bool true)))] (by kernel_rfl) ⟨RG.st fun _ _ => by kernel_rfl, RG.st fun _ _ => by kernel_rfl, RG.st fun _ _ => by kernel_rfl, RG.cert_idxc rfl 22 45 (.int .i64 0) rfl (.v (.slice (some ⟨g, o, none⟩) 33 cap)) (RG.sx fun _ => by kernel_rfl) (fun μ w => at23 g o 33 cap (by decide) w), RG.cert_load1B rfl g o hg List.not_mem_nil 5 46 rfl (.int .u8 3) rfl (RG.sx fun _ => by kernel_rfl) hb0 u5, RG.st fun _ _ => by kernel_rfl, RG.st fun _ _ => by kernel_rfl, trivial⟩ ?_
  intro a8 w8 M8
  repeat refine wp_seq ?_
  refine wp_cond_true (M8.ev (by kernel_rfl)) ?_
  repeat refine wp_seq ?_
  refine M8.tx (F71g_12 x y y2) [] [(2, 2, (ws x ++ (ws y2)))] [(RG.z 8), (ws x), (ws x ++ (ws y2))] [(2, (.p 0 0)), (3, (.v (.bool false))), (5, (.v (.bool true))), (6, (.p 2 0))] (by kernel_rfl) (by kernel_rfl) ⟨RG.ld u109 i109 (by kernel_rfl), RG.cl (popp_y) fun _ _ => by kernel_rfl, RG.pt i109 (by kernel_rfl), trivial⟩ ?_
  intro a9 w9 M9
  repeat refine wp_seq ?_
  refine M9.tx (F71g_13 x y2) [] [(0, 2, (ws x ++ (ws y2)))] [(ws x ++ (ws y2)), (ws x), (ws x ++ (ws y2))] [(2, (.p 0 0)), (3, (.v (.bool true)))] (by kernel_rfl) (by kernel_rfl) ⟨RG.ld u109 i109 (by kernel_rfl), RG.st fun _ _ => by kernel_rfl, RG.pt i109 (by kernel_rfl), RG.st fun _ _ => by kernel_rfl, trivial⟩ ?_
  intro a10 w10 M10
  have hS10 : RG.St w w.heap.size [] [(ws x ++ (ws y2)), (ws x), (ws x ++ (ws y2))] [j1, j5, j7] _ := M10.st
  have sl10 := M10.sl
  have f2_10 : a10.tmps[2]? = some (.pointer (some ⟨j1, 0, none⟩)) := M10.at (s := (.p 0 0)) (by kernel_rfl)
  have f3_10 : a10.tmps[3]? = some (.bool true) := M10.at (s := (.v (.bool true))) (by kernel_rfl)
  refine wp_ret ?_
  refine bodyPost_ret (v := (.tuple #[(pv x y2), (.bool true)])) (RG.results_rt hS10 2 3 64 rfl 0 _ rfl f2_10 _ f3_10 u109 i109) sl10.defers ?_
  exact ⟨_, rfl, hS10.bel.below, rfl⟩
/-- Bytes as an argument: where there are 33, they lie there. -/
def Arg33 (w : World) (v : Value) (bs : Bs) : Prop := ∃ (p : Option Addr) (n cap : Nat), v = .slice p n cap ∧ bs.size = n ∧ (n = 33 → ∃ g o, p = some ⟨g, o, none⟩ ∧ 33 ≤ cap ∧ g < w.heap.size ∧ Holds encB w g o bs)
theorem Arg33.below {w w1 : World} {v : Value} {bs : Bs} (h : Arg33 w v bs) (hb : Below w.heap.size w w1) : Arg33 w1 v bs := by
  obtain ⟨p, n, cap, rfl, hs, h1⟩ := h
  refine ⟨p, n, cap, rfl, hs, fun h2 => ?_⟩
  obtain ⟨g, o, h3, h4, h6, h7⟩ := h1 h2
  exact ⟨g, o, h3, h4, Nat.lt_of_lt_of_le h6 hb.size, Holds.below h7 hb h6⟩
theorem readPoint_c (C : Fld P) (v : Value) (bs : Bs) (w : World) (hv : Arg33 w v bs) : Calls Try.prog 75 #[v] w (Ret fun e w' => Below w.heap.size w w' ∧ e = rdV (rd P bs)) := by
  obtain ⟨p, n, cap, rfl, hs, h1⟩ := hv
  unfold rd
  by_cases hn : n = 33
  · subst hn
    obtain ⟨g, o, rfl, hc, hg, hB⟩ := h1 rfl
    rw [if_pos hs]
    by_cases hz : Zero33 bs
    · rw [if_pos hz]
      exact rp_zero C g o cap 0 bs 0 0 0 w hs hc hg hB hz
    · rw [if_neg hz]
      by_cases hm : ub bs[0]! = 2 ∨ ub bs[0]! = 3
      · rw [if_pos hm]
        by_cases hx : beV (tl33 bs).toList < P
        · rw [if_pos hx]
          have hx' : beV (tl33 bs).toList = (rdx P bs).val := (Nat.mod_eq_of_lt hx).symm
          cases hr : rt (rdx P bs * rdx P bs * rdx P bs + 7) with
          | none =>
            rcases hm with hm | hm
            · exact rp_none2 C g o cap 0 bs (rdx P bs) 0 0 w hs hc hg hB hz hm hx' hr
            · exact rp_none3 C g o cap 0 bs (rdx P bs) 0 0 w hs hc hg hB hz hm hx' hr
          | some y =>
            rcases hm with hm | hm
            · rw [Option.map_some, if_neg (by rw [hm]; decide)]
              exact rp_even C g o cap 0 bs (rdx P bs) y 0 w hs hc hg hB hz hm hx' hr
            · rw [Option.map_some, if_pos hm]
              exact rp_odd C g o cap 0 bs (rdx P bs) y (0 - y) w hs hc hg hB hz hm hx' hr rfl
        · rw [if_neg hx]
          rcases hm with hm | hm
          · exact rp_num2 C g o cap 0 bs 0 0 0 w hs hc hg hB hz hm hx
          · exact rp_num3 C g o cap 0 bs 0 0 0 w hs hc hg hB hz hm hx
      · rw [if_neg hm]
        exact rp_mark C g o cap _ bs 0 0 0 w hs hc hg hB hz rfl (fun h => hm (Or.inl h)) (fun h => hm (Or.inr h))
  · rw [if_neg (by rw [hs]; exact hn)]
    exact rp_len C p n cap 0 w hn
end Go.Proofs.Yticolhhalbbogae
namespace Go.Proofs.Yticolhhalbbogae
open Go.RowKit Go.Sort Go.Deep
variable {P : Nat} [NeZero P]
/-- A number's 32 bytes. -/
def bx (n : Nat) : Bs := be32 (n % 18446744073709551616) (n / 18446744073709551616 % 18446744073709551616) (n / 340282366920938463463374607431768211456 % 18446744073709551616) (n / 6277101735386680763835789423207666416102355444464034512896 % 18446744073709551616)
theorem bx_size (n : Nat) : (bx n).size = 32 := by unfold bx; exact be32_size _ _ _ _
def mark (n : Nat) : UInt8 := if n % 2 = 1 then 3 else 2
/-- A point's 33 bytes. -/
def by33 (x y : Fin P) : Bs := if x = 0 ∧ y = 0 then Array.replicate 33 0 else #[mark y.val] ++ bx x.val
theorem Bytes_c (C : Fld P) (x : Fin P) (w : World) : Calls Try.prog 36 #[fv x] w (Ret fun e w' => Below w.heap.size w w' ∧ ∃ g, e = .slice (some ⟨g, 0, none⟩) 32 32 ∧ w.heap.size ≤ g ∧ Holds encB w' g 0 (bx x.val)) :=
  (Bytes_any _ _ w (C.four x)).mono (by
    rintro e w' ⟨v, rfl, hb, g, a, b, c, d, rfl, hg, he, hH⟩
    refine ⟨_, rfl, hb, g, rfl, hg, ?_⟩
    have h2 : fv x = .agg #[.int .u64 ((x.val % 18446744073709551616 : Nat) : Int), .int .u64 ((x.val / 18446744073709551616 % 18446744073709551616 : Nat) : Int), .int .u64 ((x.val / 340282366920938463463374607431768211456 % 18446744073709551616 : Nat) : Int), .int .u64 ((x.val / 6277101735386680763835789423207666416102355444464034512896 % 18446744073709551616 : Nat) : Int)] := rfl
    rw [h2] at he
    simp only [Value.agg.injEq, Array.mk.injEq, List.cons.injEq, Value.int.injEq, true_and, and_true, Int.ofNat_inj] at he
    obtain ⟨rfl, rfl, rfl, rfl⟩ := he
    exact hH)
theorem Odd_c (C : Fld P) (y : Fin P) : Gives 57 #[fv y] (.bool (decide (y.val % 2 = 1))) := fun w =>
  (Odd_any _ _ (C.four y) w).mono (by rintro e w' ⟨v, rfl, hb, rfl⟩; exact ⟨_, rfl, hb, rfl⟩)
theorem info5b : (Try.prog.info? 5).map (fun i => (i.zero, i.size, i.bytes)) = some (some (.int .u8 0), 1, 1) := by kernel_rfl
theorem und23 : Try.prog.underlying 22 = some (.slice 5) := by kernel_rfl
/-- What bytes answers. -/
def BytesR (w : World) (T : Bs) (e : Value) (w' : World) : Prop := ∃ g cap, e = .slice (some ⟨g, 0, none⟩) 33 cap ∧ 33 ≤ cap ∧ w.heap.size ≤ g ∧ g < w'.heap.size ∧ Holds encB w' g 0 T
theorem mk33 (w : World) : (Instr.makeSlice 22 (.int .i64 33) (.int .i64 33)).run Try.prog w = .ok (.slice (some ⟨w.heap.size, 0, none⟩) 33 33) (w.alloc (.cells (madeCells #[.int .u8 0] 33) 5)) :=
  run_make_row' (P := Try.prog) 22 5 (.int .u8 0) 1 und23 info5b rfl .i64 .i64 33 (by decide) (by decide) w
theorem made33 (w : World) (o : Obj) : Holds encB ((w.alloc o).alloc (.cells (madeCells #[.int .u8 0] 33) 5)) (w.heap.size + 1) 0 (Array.replicate 33 0) := by
  have h := Holds.made (enc := encB) (w.alloc o) 5 33 (0 : UInt8)
  rw [World.size_alloc] at h
  exact h
omit [NeZero P] in
theorem pv_words (x y : Fin P) : pv x y = .agg #[.int .u64 ((x.val % 18446744073709551616 : Nat) : Int), .int .u64 ((x.val / 18446744073709551616 % 18446744073709551616 : Nat) : Int), .int .u64 ((x.val / 340282366920938463463374607431768211456 % 18446744073709551616 : Nat) : Int), .int .u64 ((x.val / 6277101735386680763835789423207666416102355444464034512896 % 18446744073709551616 : Nat) : Int), .int .u64 ((y.val % 18446744073709551616 : Nat) : Int), .int .u64 ((y.val / 18446744073709551616 % 18446744073709551616 : Nat) : Int), .int .u64 ((y.val / 340282366920938463463374607431768211456 % 18446744073709551616 : Nat) : Int), .int .u64 ((y.val / 6277101735386680763835789423207666416102355444464034512896 % 18446744073709551616 : Nat) : Int)] := rfl
set_option maxHeartbeats 2000000 in
set_option maxRecDepth 100000 in
theorem bytes_zero (C : Fld P) (x y : Fin P) (hz : x = 0 ∧ y = 0) (w : World) : Calls Try.prog 30 #[pv x y] w (Ret fun e w' => Below w.heap.size w w' ∧ BytesR w (Array.replicate 33 0) e w') := by
  have heq := eqPt_t C (x := x) (y := y) (z := 0) (t := 0) hz
  rw [← zero_pv, pv_words] at heq
  rw [pv_words]
  generalize ((x.val % 18446744073709551616 : Nat) : Int) = a at heq ⊢
  generalize ((x.val / 18446744073709551616 % 18446744073709551616 : Nat) : Int) = b at heq ⊢
  generalize ((x.val / 340282366920938463463374607431768211456 % 18446744073709551616 : Nat) : Int) = c at heq ⊢
  generalize ((x.val / 6277101735386680763835789423207666416102355444464034512896 % 18446744073709551616 : Nat) : Int) = d at heq ⊢
  generalize ((y.val % 18446744073709551616 : Nat) : Int) = p at heq ⊢
  generalize ((y.val / 18446744073709551616 % 18446744073709551616 : Nat) : Int) = q at heq ⊢
  generalize ((y.val / 340282366920938463463374607431768211456 % 18446744073709551616 : Nat) : Int) = r at heq ⊢
  generalize ((y.val / 6277101735386680763835789423207666416102355444464034512896 % 18446744073709551616 : Nat) : Int) = s at heq ⊢
  have hmk := mk33
  generalize hT : (Array.replicate 33 0 : Bs) = T
  go_enter Try.func30, Try.ntmps30
  go_wp2
  go_ret
  have hM := made33 w (.cells #[.int .u64 a, .int .u64 b, .int .u64 c, .int .u64 d, .int .u64 p, .int .u64 q, .int .u64 r, .int .u64 s] 64)
  rw [hT] at hM
  exact ⟨_, rfl, below2 _ _ _, _, 33, rfl, by omega, by omega, by simp, hM⟩
theorem grow33 (w : World) (k g m : Nat) (B : Bs) (hB : B.size = 32) (hc : w.cell? ⟨k, 0, none⟩ = some (.int .u8 (m : Int))) (hH : Holds encB w g 0 B) (hm : m < 256 := by decide) :
    ∃ (w' : World) (cap : Nat), (Builtin.append_ #[22, 22] 22 #[.slice (some ⟨k, 0, none⟩) 1 1, .slice (some ⟨g, 0, none⟩) 32 32]).run Try.prog w = .ok (.slice (some ⟨w.heap.size, 0, none⟩) 33 cap) w' ∧ Below w.heap.size w w' ∧ 33 ≤ cap ∧ w.heap.size < w'.heap.size ∧ Holds encB w' w.heap.size 0 (#[UInt8.ofNat m] ++ B) := by
  obtain ⟨i, hi, hzz⟩ := Option.map_eq_some_iff.1 info5b
  simp only [Prod.mk.injEq] at hzz
  obtain ⟨hz, hs, hb⟩ := hzz
  have hap := run_append_grow (P := Try.prog) w 22 22 5 i (.int .u8 0) und23 hi hz ⟨k, 0, none⟩ 1 1 [.int .u8 (m : Int)] (by rw [hs]; rfl) (fun j v hj => by
      cases j with
      | zero =>
        obtain rfl : Value.int .u8 (m : Int) = v := by simpa using hj
        rw [Addr.add_mid]
        exact hc
      | succ j => simp at hj) ⟨g, 0, none⟩ 32 32 (B.toList.map encB) (by rw [hs, List.length_map, Array.length_toList, hB]) (fun j v hj => by
      have hj' : j < B.size := by
        have := (List.getElem?_eq_some_iff.1 hj).1
        rwa [List.length_map, Array.length_toList] at this
      rw [Addr.add_mid, (hH j hj').1]
      rw [List.getElem?_map, Array.getElem?_toList, Array.getElem?_eq_getElem hj'] at hj
      rw [getElem!_pos B j hj']
      exact hj) (by decide) (by decide) (by rw [hb]; decide)
  refine ⟨_, _, hap, ?_, ?_, ?_, ?_⟩
  · exact (Below.refl _ w).drew.trans (below1 w.drew _)
  · exact grownCap_ge w (1 + 32) 1 5
  · show w.drew.heap.size < (w.drew.alloc _).heap.size
    rw [World.size_alloc]
    exact Nat.lt_succ_self _
  · intro j hj
    have hsz : (#[UInt8.ofNat m] ++ B).size = 33 := by rw [Array.size_append, hB]; rfl
    have hj' : j < 33 := by rw [← hsz]; exact hj
    refine ⟨?_, World.frozen?_alloc_new w.drew _ _ _⟩
    show (w.drew.alloc _).cell? ⟨w.drew.heap.size, 0 + j, none⟩ = _
    rw [Nat.zero_add, World.cell?_alloc_new, getElem!_pos _ j hj, Array.getElem?_append_left (by
      rw [Array.size_append, List.size_toArray, List.size_toArray, List.length_map, Array.length_toList]
      show j < 1 + B.size
      omega)]
    cases j with
    | zero =>
      rw [Array.getElem?_append_left (by simp), Array.getElem_append_left (by simp)]
      show some (Value.int .u8 (m : Int)) = some (encB (UInt8.ofNat m))
      unfold encB
      rw [ub_ofNat, Nat.mod_eq_of_lt hm]
    | succ i =>
      rw [Array.getElem?_append_right (by simp), Array.getElem_append_right (by simp), List.getElem?_toArray, List.getElem?_map, Array.getElem?_toList]
      show Option.map encB B[i]? = some (encB B[i])
      rw [Array.getElem?_eq_getElem (by omega)]
      rfl
theorem keptP (w : World) (a b c d p q r s : Nat) : Kept w w.heap.size [⟨w.heap.size, 0, a, b, c, d⟩, ⟨w.heap.size, 4, p, q, r, s⟩] (w.alloc (.cells #[.int .u64 (a : Int), .int .u64 (b : Int), .int .u64 (c : Int), .int .u64 (d : Int), .int .u64 (p : Int), .int .u64 (q : Int), .int .u64 (r : Int), .int .u64 (s : Int)] 64)) := by
  have F := At8.made w 64 a b c d p q r s rfl
  refine ((Kept.mk1 (below1 w _) (below1 w _).size).cons ?_).cons ?_
  · exact ⟨F.c4, F.c5, F.c6, F.c7, F.fz⟩
  · exact ⟨F.c0, F.c1, F.c2, F.c3, F.fz⟩
set_option maxHeartbeats 4000000 in
set_option maxRecDepth 100000 in
theorem bytes_odd (C : Fld P) (x y : Fin P) (hz : ¬ (x = 0 ∧ y = 0)) (ho : y.val % 2 = 1) (w : World) : Calls Try.prog 30 #[pv x y] w (Ret fun e w' => Below w.heap.size w w' ∧ BytesR w (#[3] ++ bx x.val) e w') := by
  have heq := eqPt_f C (x := x) (y := y) (z := 0) (t := 0) hz
  rw [← zero_pv, pv_words] at heq
  rw [pv_words]
  have hO : ∀ w, Calls Try.prog 57 #[.agg #[.int .u64 ((y.val % 18446744073709551616 : Nat) : Int), .int .u64 ((y.val / 18446744073709551616 % 18446744073709551616 : Nat) : Int), .int .u64 ((y.val / 340282366920938463463374607431768211456 % 18446744073709551616 : Nat) : Int), .int .u64 ((y.val / 6277101735386680763835789423207666416102355444464034512896 % 18446744073709551616 : Nat) : Int)]] w (Ret fun e w' => Below w.heap.size w w' ∧ e = .bool true) := fun w => by
    have h := Odd_c C y w
    rw [decide_eq_true ho] at h
    exact h
  have hBy : ∀ w, Calls Try.prog 36 #[.agg #[.int .u64 ((x.val % 18446744073709551616 : Nat) : Int), .int .u64 ((x.val / 18446744073709551616 % 18446744073709551616 : Nat) : Int), .int .u64 ((x.val / 340282366920938463463374607431768211456 % 18446744073709551616 : Nat) : Int), .int .u64 ((x.val / 6277101735386680763835789423207666416102355444464034512896 % 18446744073709551616 : Nat) : Int)]] w (Ret fun e w' => Below w.heap.size w w' ∧ ∃ g, e = .slice (some ⟨g, 0, none⟩) 32 32 ∧ w.heap.size ≤ g ∧ Holds encB w' g 0 (bx x.val)) := Bytes_c C x
  have hbs := bx_size x.val
  generalize bx x.val = B at hBy hbs ⊢
  generalize x.val % 18446744073709551616 = a at heq hO hBy ⊢
  generalize x.val / 18446744073709551616 % 18446744073709551616 = b at heq hO hBy ⊢
  generalize x.val / 340282366920938463463374607431768211456 % 18446744073709551616 = c at heq hO hBy ⊢
  generalize x.val / 6277101735386680763835789423207666416102355444464034512896 % 18446744073709551616 = d at heq hO hBy ⊢
  generalize y.val % 18446744073709551616 = p at heq hO hBy ⊢
  generalize y.val / 18446744073709551616 % 18446744073709551616 = q at heq hO hBy ⊢
  generalize y.val / 340282366920938463463374607431768211456 % 18446744073709551616 = r at heq hO hBy ⊢
  generalize y.val / 6277101735386680763835789423207666416102355444464034512896 % 18446744073709551616 = s at heq hO hBy ⊢
  have HQ : Hid (∀ w, (binOp .eql 64 _ _).run Try.prog w = _) := heq
  go_enter Try.func30, Try.ntmps30
  go_wp2_with fail
  have KP := keptP w a b c d p q r s
  clear heq
  generalize World.alloc _ _ = W0 at KP ⊢
  generalize hk : w.heap.size = k0 at KP ⊢
  refine (hO _).mono ?_
  rintro e w1 ⟨v, rfl, hb1, rfl⟩
  replace KP := KP.call hb1
  clear hb1 HQ hO
  obtain ⟨xc0, xc1, xc2, xc3, xf⟩ := KP.head
  have zx := KP.head.lt
  go_wp2_with fail
  refine (hBy _).mono ?_
  rintro e w2 ⟨v, rfl, hb2, g, rfl, hg, hH⟩
  have hc : w2.cell? ⟨w1.heap.size, 0, none⟩ = some (.int .u8 3) := by
    rw [hb2.cell (p := ⟨w1.heap.size, 0, none⟩) (by show w1.heap.size < _; rw [World.size_alloc]; omega), World.cell?_alloc_new]
    rfl
  have hle : k0 ≤ w2.heap.size := Nat.le_trans KP.le (Nat.le_trans (by rw [World.size_alloc]; omega) hb2.size)
  have hbl : Hid (Below k0 w w2) := ((KP.alloc _).call hb2).bl
  clear KP hb2 xc0 xc1 xc2 xc3 xf zx hg
  obtain ⟨W3, cp, hap, hb3, hcp, hsz3, hH3⟩ := grow33 w2 w1.heap.size g 3 B hbs hc hH
  generalize w1.heap.size = km at hap ⊢
  go_wp2_with (at_builtin; refine Lib.wpList_append_run _ rfl _ _ 22 22 rfl _ _ rfl rfl _ _ hap ?_)
  go_ret
  refine ⟨_, rfl, ?_, _, cp, rfl, hcp, ?_, hsz3, hH3⟩
  · rw [hk]; exact hbl.out.trans (hb3.mono hle)
  · rw [hk]; exact hle
set_option maxHeartbeats 4000000 in
set_option maxRecDepth 100000 in
theorem bytes_even (C : Fld P) (x y : Fin P) (hz : ¬ (x = 0 ∧ y = 0)) (ho : ¬ y.val % 2 = 1) (w : World) : Calls Try.prog 30 #[pv x y] w (Ret fun e w' => Below w.heap.size w w' ∧ BytesR w (#[2] ++ bx x.val) e w') := by
  have heq := eqPt_f C (x := x) (y := y) (z := 0) (t := 0) hz
  rw [← zero_pv, pv_words] at heq
  rw [pv_words]
  have hO : ∀ w, Calls Try.prog 57 #[.agg #[.int .u64 ((y.val % 18446744073709551616 : Nat) : Int), .int .u64 ((y.val / 18446744073709551616 % 18446744073709551616 : Nat) : Int), .int .u64 ((y.val / 340282366920938463463374607431768211456 % 18446744073709551616 : Nat) : Int), .int .u64 ((y.val / 6277101735386680763835789423207666416102355444464034512896 % 18446744073709551616 : Nat) : Int)]] w (Ret fun e w' => Below w.heap.size w w' ∧ e = .bool false) := fun w => by
    have h := Odd_c C y w
    rw [decide_eq_false ho] at h
    exact h
  have hBy : ∀ w, Calls Try.prog 36 #[.agg #[.int .u64 ((x.val % 18446744073709551616 : Nat) : Int), .int .u64 ((x.val / 18446744073709551616 % 18446744073709551616 : Nat) : Int), .int .u64 ((x.val / 340282366920938463463374607431768211456 % 18446744073709551616 : Nat) : Int), .int .u64 ((x.val / 6277101735386680763835789423207666416102355444464034512896 % 18446744073709551616 : Nat) : Int)]] w (Ret fun e w' => Below w.heap.size w w' ∧ ∃ g, e = .slice (some ⟨g, 0, none⟩) 32 32 ∧ w.heap.size ≤ g ∧ Holds encB w' g 0 (bx x.val)) := Bytes_c C x
  have hbs := bx_size x.val
  generalize bx x.val = B at hBy hbs ⊢
  generalize x.val % 18446744073709551616 = a at heq hO hBy ⊢
  generalize x.val / 18446744073709551616 % 18446744073709551616 = b at heq hO hBy ⊢
  generalize x.val / 340282366920938463463374607431768211456 % 18446744073709551616 = c at heq hO hBy ⊢
  generalize x.val / 6277101735386680763835789423207666416102355444464034512896 % 18446744073709551616 = d at heq hO hBy ⊢
  generalize y.val % 18446744073709551616 = p at heq hO hBy ⊢
  generalize y.val / 18446744073709551616 % 18446744073709551616 = q at heq hO hBy ⊢
  generalize y.val / 340282366920938463463374607431768211456 % 18446744073709551616 = r at heq hO hBy ⊢
  generalize y.val / 6277101735386680763835789423207666416102355444464034512896 % 18446744073709551616 = s at heq hO hBy ⊢
  have HQ : Hid (∀ w, (binOp .eql 64 _ _).run Try.prog w = _) := heq
  go_enter Try.func30, Try.ntmps30
  go_wp2_with fail
  have KP := keptP w a b c d p q r s
  clear heq
  generalize World.alloc _ _ = W0 at KP ⊢
  generalize hk : w.heap.size = k0 at KP ⊢
  refine (hO _).mono ?_
  rintro e w1 ⟨v, rfl, hb1, rfl⟩
  replace KP := KP.call hb1
  clear hb1 HQ hO
  obtain ⟨xc0, xc1, xc2, xc3, xf⟩ := KP.head
  have zx := KP.head.lt
  go_wp2_with fail
  refine (hBy _).mono ?_
  rintro e w2 ⟨v, rfl, hb2, g, rfl, hg, hH⟩
  have hc : w2.cell? ⟨w1.heap.size, 0, none⟩ = some (.int .u8 2) := by
    rw [hb2.cell (p := ⟨w1.heap.size, 0, none⟩) (by show w1.heap.size < _; rw [World.size_alloc]; omega), World.cell?_alloc_new]
    rfl
  have hle : k0 ≤ w2.heap.size := Nat.le_trans KP.le (Nat.le_trans (by rw [World.size_alloc]; omega) hb2.size)
  have hbl : Hid (Below k0 w w2) := ((KP.alloc _).call hb2).bl
  clear KP hb2 xc0 xc1 xc2 xc3 xf zx hg
  obtain ⟨W3, cp, hap, hb3, hcp, hsz3, hH3⟩ := grow33 w2 w1.heap.size g 2 B hbs hc hH
  generalize w1.heap.size = km at hap ⊢
  go_wp2_with (at_builtin; refine Lib.wpList_append_run _ rfl _ _ 22 22 rfl _ _ rfl rfl _ _ hap ?_)
  go_ret
  refine ⟨_, rfl, ?_, _, cp, rfl, hcp, ?_, hsz3, hH3⟩
  · rw [hk]; exact hbl.out.trans (hb3.mono hle)
  · rw [hk]; exact hle
theorem bytes_c (C : Fld P) (x y : Fin P) (w : World) : Calls Try.prog 30 #[pv x y] w (Ret fun e w' => Below w.heap.size w w' ∧ BytesR w (by33 x y) e w') := by
  unfold by33 mark
  by_cases hz : x = 0 ∧ y = 0
  · rw [if_pos hz]
    exact bytes_zero C x y hz w
  · rw [if_neg hz]
    by_cases ho : y.val % 2 = 1
    · rw [if_pos ho]
      exact bytes_odd C x y hz ho w
    · rw [if_neg ho]
      exact bytes_even C x y hz ho w
end Go.Proofs.Yticolhhalbbogae
namespace Go.Proofs.Yticolhhalbbogae
open Go.RowKit Go.Sort Go.Deep
theorem u23 : (Try.prog.underlying 22).map (·.isRow) = some false := by kernel_rfl
theorem at46 (k o n c i : Nat) (hi : i < n) (w : World) : (Instr.indexAt 62 (.slice (some ⟨k, o, none⟩) n c) (.int .i64 (i : Int))).run Try.prog w = .ok (.pointer (some ⟨k, o + i, none⟩)) w := by
  have h1 : ¬ (i : Int) < 0 := by omega
  have h2 : (i : Int) < n := by omega
  go_simp
theorem mk112 (N : Nat) (hN : N ≤ 512) : ∃ C0 : List Value, C0.length = 8 * N ∧ ∀ w : World, (Instr.makeSlice 92 (.int .i64 (N : Int)) (.int .i64 (N : Int))).run Try.prog w = .ok (.slice (some ⟨w.heap.size, 0, none⟩) N N) (w.alloc (.cells C0.toArray 64)) := by
  have hu : Try.prog.underlying 92 = some (.slice 64) := by kernel_rfl
  have hi : (Try.prog.info? 64).map (fun i => (i.size, decide (i.bytes ≤ 4000), i.zero.isSome)) = some (8, true, true) := by kernel_rfl
  obtain ⟨i, hi1, hi2⟩ := Option.map_eq_some_iff.1 hi
  simp only [Prod.mk.injEq, decide_eq_true_eq] at hi2
  obtain ⟨h1, h2, h3⟩ := hi2
  obtain ⟨z, hz⟩ := Option.isSome_iff_exists.1 h3
  refine ⟨(madeCells z.cells (N * 8)).toList, by rw [Array.length_toList, size_madeCells, Nat.mul_comm], fun w => ?_⟩
  have hb : (i.bytes : Int) * (N : Int) ≤ 281474976710656 := by
    have : i.bytes * N ≤ 4000 * 512 := Nat.mul_le_mul h2 hN
    have h5 : ((i.bytes * N : Nat) : Int) ≤ 281474976710656 := by omega
    rwa [Int.natCast_mul] at h5
  have := run_make (P := Try.prog) w 92 64 i z hu hi1 hz .i64 .i64 (N : Int) (N : Int) (by omega) (by omega) hb (by omega)
  rw [Int.toNat_natCast, h1] at this
  rw [Array.toArray_toList]
  exact this
theorem mk82 (N : Nat) (hN : N ≤ 512) : ∃ C0 : List Value, C0.length = 4 * N ∧ ∀ w : World, (Instr.makeSlice 89 (.int .i64 (N : Int)) (.int .i64 (N : Int))).run Try.prog w = .ok (.slice (some ⟨w.heap.size, 0, none⟩) N N) (w.alloc (.cells C0.toArray 38)) := by
  have hu : Try.prog.underlying 89 = some (.slice 38) := by kernel_rfl
  have hi : (Try.prog.info? 38).map (fun i => (i.size, decide (i.bytes ≤ 4000), i.zero.isSome)) = some (4, true, true) := by kernel_rfl
  obtain ⟨i, hi1, hi2⟩ := Option.map_eq_some_iff.1 hi
  simp only [Prod.mk.injEq, decide_eq_true_eq] at hi2
  obtain ⟨h1, h2, h3⟩ := hi2
  obtain ⟨z, hz⟩ := Option.isSome_iff_exists.1 h3
  refine ⟨(madeCells z.cells (N * 4)).toList, by rw [Array.length_toList, size_madeCells, Nat.mul_comm], fun w => ?_⟩
  have hb : (i.bytes : Int) * (N : Int) ≤ 281474976710656 := by
    have : i.bytes * N ≤ 4000 * 512 := Nat.mul_le_mul h2 hN
    have h5 : ((i.bytes * N : Nat) : Int) ≤ 281474976710656 := by omega
    rwa [Int.natCast_mul] at h5
  have := run_make (P := Try.prog) w 89 38 i z hu hi1 hz .i64 .i64 (N : Int) (N : Int) (by omega) (by omega) hb (by omega)
  rw [Int.toNat_natCast, h1] at this
  rw [Array.toArray_toList]
  exact this
/-- Rows of sz cells: m of them are there. -/
structure Rows (sz N : Nat) (cell : Nat → List Value) (m : Nat) (C : List Value) : Prop where
  len : C.length = sz * N
  row : ∀ j r, j < m → r < sz → C[sz * j + r]? = (cell j)[r]?
theorem Rows.next {sz N m : Nat} {cell : Nat → List Value} {C : List Value} (h : Rows sz N cell m C) (hm : m < N) (hc : (cell m).length = sz) : Rows sz N cell (m + 1) (RG.rep C (0 + sz * m) (cell m)) := by
  have hlen := h.len
  have hb : sz * m + sz ≤ sz * N := by rw [← Nat.mul_succ]; exact Nat.mul_le_mul_left _ hm
  have hl : 0 + sz * m + (cell m).length ≤ C.length := by rw [hc]; omega
  refine ⟨by rw [RG.rep_length hl]; exact hlen, fun j r hj hr => ?_⟩
  rw [RG.rep_at hl]
  by_cases hjm : j = m
  · subst hjm
    rw [if_pos (by rw [hc]; omega), show sz * j + r - (0 + sz * j) = r by omega]
  · have h2 : sz * j + sz ≤ sz * m := by rw [← Nat.mul_succ]; exact Nat.mul_le_mul_left _ (by omega)
    rw [if_neg (by rw [hc]; omega)]
    exact h.row j r (by omega) hr
/-- Bytes as a number of the order. -/
def rq (N : Nat) (bs : Bs) : Option Nat := if bs.size = 32 ∧ beV bs.toList < N then some (beV bs.toList) else none
def rqV : Option Nat → Value
  | none => .tuple #[nv 0, .bool false]
  | some n => .tuple #[nv n, .bool true]
theorem Scalars_c : Gives 31 #[] gv1 := fun w => (Scalars_any w).mono (by rintro e w' ⟨rfl, rfl⟩; exact ⟨_, rfl, below1 _ _, rfl⟩)
theorem readQ_c {N : Nat} (hG : Gap 4624529908474429119 4994812053365940164 1 N) (v : Value) (bs : Bs) (w : World) (hv : Arg w v bs) : Calls Try.prog 32 #[gv1, v] w (Ret fun e w' => Below w.heap.size w w' ∧ e = rqV (rq N bs)) := by
  obtain ⟨p, n, cap, rfl, hs, h1⟩ := hv
  unfold rq
  by_cases hn : n = 32
  · subst hn
    obtain ⟨g, o, rfl, h4, h6, h7⟩ := h1 rfl
    refine (Read_any _ _ _ N g o cap bs hG w hs h4 h6 h7).mono ?_
    rintro e w' ⟨v, rfl, hb, ⟨hl, v', rfl, h8⟩ | ⟨hl, rfl⟩⟩
    · rw [if_pos ⟨hs, hl⟩]
      exact ⟨_, rfl, hb, by rw [h8.nv]; rfl⟩
    · rw [if_neg (fun h => by omega)]
      exact ⟨_, rfl, hb, rfl⟩
  · refine (Read_len _ p n cap w _ _ _ rfl hn).mono ?_
    rintro e w' ⟨v, rfl, hb, rfl⟩
    rw [if_neg (fun h => hn (hs.symm.trans h.1))]
    exact ⟨_, rfl, hb, rfl⟩
end Go.Proofs.Yticolhhalbbogae
namespace Go.Proofs.Yticolhhalbbogae
open Go.RowKit Go.Sort Go.Deep
def Texts (w : World) (q : Option Addr) (n : Nat) (S : Nat → ByteArray) : Prop := 0 < n → ∃ gg oo, q = some ⟨gg, oo, none⟩ ∧ gg < w.heap.size ∧ ∀ j, j < n → w.cell? ⟨gg, oo + j, none⟩ = some (.string (S j))
theorem Texts.below {w w1 : World} {q : Option Addr} {n : Nat} {S : Nat → ByteArray} (h : Texts w q n S) (hb : Below w.heap.size w w1) : Texts w1 q n S := fun hn => by
  obtain ⟨gg, oo, h1, h2, h3⟩ := h hn
  exact ⟨gg, oo, h1, Nat.lt_of_lt_of_le h2 hb.size, fun j hj => by rw [hb.cell (p := ⟨gg, oo + j, none⟩) h2]; exact h3 j hj⟩
/-- A list of bytes' slices that grows, each made of a text. -/
def AL (W : World) (B k : Nat) (v : Value) (S : Nat → ByteArray) : Prop :=
  (k = 0 ∧ v = .slice none 0 0) ∨ ∃ g cap vs cur, v = .slice (some ⟨g, 0, none⟩) k cap ∧ vs.length = k ∧ 0 < k ∧ B ≤ g ∧ ListAt W g cap vs cur ∧ ∀ j, j < k → ∃ gx c, vs[j]! = .slice (some ⟨gx, 0, none⟩) (S j).size c ∧ (S j).size ≤ c ∧ gx ≠ g ∧ gx < W.heap.size ∧ Holds encB W gx 0 (S j).data
theorem AL.below {W w1 : World} {B k : Nat} {v : Value} {S : Nat → ByteArray} (h : AL W B k v S) (hb : Below W.heap.size W w1) : AL w1 B k v S := by
  rcases h with h | ⟨g, cap, vs, cur, h1, h2, h3, h4, h5, h6⟩
  · exact Or.inl h
  · refine Or.inr ⟨g, cap, vs, cur, h1, h2, h3, h4, h5.below hb, fun j hj => ?_⟩
    obtain ⟨gx, c, e1, e2, e3, e4, e5⟩ := h6 j hj
    exact ⟨gx, c, e1, e2, e3, Nat.lt_of_lt_of_le e4 hb.size, Holds.below e5 hb e4⟩
theorem Holds.other0 {W w1 : World} {b o m g : Nat} {T : Bs} (h : Holds encB W g 0 T) (k : Only b o m W w1) (hne : g ≠ b) : Holds encB w1 g 0 T := by
  by_cases h0 : 0 < T.size
  · exact Holds.other h k hne h0
  · exact fun j hj => absurd hj (by omega)
theorem AL.push {wr W : World} {B k cap : Nat} {v : Value} {s : ByteArray} {S : Nat → ByteArray} (h : AL wr B k v S) (hB : B ≤ wr.heap.size) (hk : k ≤ 1048576) (hb : Below wr.heap.size wr W) (hlt : wr.heap.size < W.heap.size) (hc : s.size ≤ cap) (hH : Holds encB W wr.heap.size 0 s.data) (hs : s = S k) :
    ∃ v' w', (Builtin.append_ #[62, 62] 62 #[v, .slice (some ⟨W.heap.size, 0, none⟩) 1 1]).run Try.prog (W.alloc (.cells #[.slice (some ⟨wr.heap.size, 0, none⟩) s.size cap] 22)) = .ok v' w' ∧ AL w' B (k + 1) v' S ∧ Below B wr w' := by
  have hr : (W.alloc (.cells #[.slice (some ⟨wr.heap.size, 0, none⟩) s.size cap] 22)).cell? ⟨W.heap.size, 0, none⟩ = some (.slice (some ⟨wr.heap.size, 0, none⟩) s.size cap) := by simp
  have hb0 : Below W.heap.size W (W.alloc (.cells #[.slice (some ⟨wr.heap.size, 0, none⟩) s.size cap] 22)) := (Below.refl _ _).alloc (Nat.le_refl _) _
  have hs0 : (W.alloc (.cells #[.slice (some ⟨wr.heap.size, 0, none⟩) s.size cap] 22)).heap.size = W.heap.size + 1 := by simp
  have hx1 : (Value.slice (some ⟨wr.heap.size, 0, none⟩) s.size cap).oneCell' = true := rfl
  have hb1 : Below wr.heap.size wr (W.alloc (.cells #[.slice (some ⟨wr.heap.size, 0, none⟩) s.size cap] 22)) := hb.trans (hb0.mono (by omega))
  have hH1 := Holds.below hH hb0 hlt
  rcases h with ⟨rfl, rfl⟩ | ⟨g, cp, vs, cur, rfl, h2, h3, h4, h5, h6⟩
  · obtain ⟨cap', cur', w', hap, hL, hb2⟩ := append_firstL slice46 info23 rfl hr hx1
    refine ⟨_, w', hap, Or.inr ⟨_, cap', _, cur', rfl, rfl, by omega, by omega, hL, fun j hj => ?_⟩, (hb1.mono hB).trans (hb2.mono (by omega))⟩
    have hj0 : j = 0 := by omega
    subst hj0
    have := hb2.size
    exact ⟨wr.heap.size, cap, by rw [← hs]; rfl, by rw [← hs]; exact hc, by omega, by omega, by rw [← hs]; exact Holds.below hH1 hb2 (by omega)⟩
  · have hg := h5.lt
    have h5' := h5.below hb1
    subst h2
    obtain ⟨g', cap', cur', w', hap, hL, hO, hg'⟩ := append_valL slice46 info23 rfl h5' hr hx1 hk
    have hsz := hO.size
    refine ⟨_, w', hap, Or.inr ⟨g', cap', _, cur', rfl, by rw [List.length_append]; rfl, by omega, by omega, hL, fun j hj => ?_⟩, (hb1.mono hB).trans (hO.below (by omega) h4)⟩
    by_cases hj1 : j = vs.length
    · subst hj1
      rw [val_last, ← hs]
      exact ⟨wr.heap.size, cap, rfl, hc, by omega, by omega, Holds.other0 hH1 hO (by omega)⟩
    · obtain ⟨gy, d, e1, e2, e3, e4, e5⟩ := h6 j (by omega)
      rw [val_front _ _ _ (by omega)]
      exact ⟨gy, d, e1, e2, by omega, by omega, Holds.other0 (Holds.below e5 hb1 e4) hO e3⟩
end Go.Proofs.Yticolhhalbbogae
namespace Go.Proofs.Yticolhhalbbogae
open Go.RowKit Go.Sort
variable {P : Nat} [NeZero P]
def F72a_0 (x : Fin P) : List RG.It := [.x 2 [] (.slice none 0 0), .x 3 [] (.int .i64 0)]
def F72a_1 (q : Option Addr) (n cap : Nat) (x : Fin P) : List RG.It := [.x 9 [] (.slice q n cap), .x 10 [(9, 0)] (.int .i64 (n : Int)), ⟨some 11, [(10, 1)], (.s 0 n n), .make 0⟩, .s 4 [(11, 2)] (.s 0 n n)]
def F72a_2 (q : Option Addr) (n cap : Nat) (x : Fin P) : List RG.It := [.x 12 [] (.slice q n cap), .x 13 [(12, 0)] (.int .i64 (n : Int)), .x 14 [] (.int .i64 0)]
def F72b_3 (x : Fin P) : List RG.It := [.x 15 [] (.bool true)]
def F72b_4 (gg i : Nat) (v : Value) (x : Fin P) : List RG.It := [.x 16 [] (.int .i64 (i : Int)), .x 17 [] (.pointer (some ⟨gg, (0 + i), none⟩)), .x 18 [(17, 1)] v, .x 5 [(16, 0)] (.int .i64 (i : Int)), .x 6 [(18, 2)] v]
def F72b_5 (m : Nat) (v : Value) (x y : Fin P) : List RG.It := [.x 20 [] v, .c 21 [(20, 0)] (.tuple #[(pv x y), (.bool true)]), .x 19 [(21, 1)] (.tuple #[(pv x y), (.bool true)]), .x 22 [(19, 2)] (pv x y), .x 23 [(19, 2)] (.bool true), .m 7 [] 1, .u [(7, 5), (22, 3)] 1, .x 8 [(23, 4)] (.bool true)]
def F72b_6 (x : Fin P) : List RG.It := [.x 24 [] (.bool true), .x 25 [(24, 0)] (.bool false)]
def F72b_8 (n i : Nat) (x y : Fin P) : List RG.It := [.s 26 [] (.s 0 n n), .x 27 [] (.int .i64 (i : Int)), .x 28 [] (pv x y), .s 29 [(26, 0), (27, 1)] (.p 0 (0 + 8 * i)), .u [(29, 3), (28, 2)] 0]
def F72b_9 (i : Nat) (x : Fin P) : List RG.It := [.x 30 [] (.int .i64 ((i + 1 : Nat) : Int)), .x 14 [(30, 0)] (.int .i64 ((i + 1 : Nat) : Int))]
def F72f_3 (x : Fin P) : List RG.It := [.x 15 [] (.bool true)]
def F72f_4 (gg i : Nat) (v : Value) (x : Fin P) : List RG.It := [.x 16 [] (.int .i64 (i : Int)), .x 17 [] (.pointer (some ⟨gg, (0 + i), none⟩)), .x 18 [(17, 1)] v, .x 5 [(16, 0)] (.int .i64 (i : Int)), .x 6 [(18, 2)] v]
def F72f_5 (m : Nat) (v : Value) (x : Fin P) : List RG.It := [.x 20 [] v, .c 21 [(20, 0)] (.tuple #[(pv (0 : Fin P) (0 : Fin P)), (.bool false)]), .x 19 [(21, 1)] (.tuple #[(pv (0 : Fin P) (0 : Fin P)), (.bool false)]), .x 22 [(19, 2)] (pv (0 : Fin P) (0 : Fin P)), .x 23 [(19, 2)] (.bool false), .m 7 [] 1, .u [(7, 5), (22, 3)] 1, .x 8 [(23, 4)] (.bool false)]
def F72f_6 (x : Fin P) : List RG.It := [.x 24 [] (.bool false), .x 25 [(24, 0)] (.bool true)]
def F72f_7 (x : Fin P) : List RG.It := [.x 2 [] (.slice none 0 0), .x 3 [] (.int .i64 4)]
def F72e_3 (x : Fin P) : List RG.It := [.x 15 [] (.bool false)]
def F72e_10 (n : Nat) (x : Fin P) : List RG.It := [.s 31 [] (.s 0 n n), .s 2 [(31, 0)] (.s 0 n n), .x 3 [] (.int .i64 0)]
/-- A list of arguments in a block. -/
def ArgsPts (w : World) (q : Option Addr) (n : Nat) (L : Nat → Bs) : Prop := 0 < n → ∃ gg, q = some ⟨gg, 0, none⟩ ∧ gg < w.heap.size ∧ ∀ j, j < n → ∃ v, w.cell? ⟨gg, j, none⟩ = some v ∧ Arg33 w v (L j)
def PtsR (P : Nat) [NeZero P] (w : World) (n : Nat) (L : Nat → Bs) (e : Value) (w' : World) : Prop :=
  (∃ k, w.heap.size ≤ k ∧ k < w'.heap.size ∧ e = .tuple #[.slice (some ⟨k, 0, none⟩) n n, .int .i64 0] ∧ ∀ j, j < n → ∃ p, rd P (L j) = some p ∧ w'.rangeAt k (8 * j) (ws p.1 ++ ws p.2)) ∨
  ((∃ j, j < n ∧ rd P (L j) = none) ∧ e = .tuple #[.slice none 0 0, .int .i64 4])
set_option maxHeartbeats 4000000 in
set_option maxRecDepth 100000 in
theorem Pts_c (F : Fld P) (n cap : Nat) (hn : n ≤ 512) (q : Option Addr) (L : Nat → Bs) (w : World) (hA : ArgsPts w q n L) : Calls Try.prog 55 #[.slice q n cap] w (Ret fun e w' => Below w.heap.size w w' ∧ PtsR P w n L e w') := by
  obtain ⟨C, hCl, hmk⟩ := mk112 n hn
  obtain ⟨i, -⟩ : ∃ i : Nat, i = 0 := ⟨_, rfl⟩
  obtain ⟨gg, -⟩ : ∃ i : Nat, i = 0 := ⟨_, rfl⟩
  obtain ⟨m, -⟩ : ∃ i : Nat, i = 0 := ⟨_, rfl⟩
  obtain ⟨v, -⟩ : ∃ v : Value, v = .bool true := ⟨_, rfl⟩
  obtain ⟨x, -⟩ : ∃ x : Fin P, x = 0 := ⟨_, rfl⟩
  obtain ⟨y, -⟩ : ∃ x : Fin P, x = 0 := ⟨_, rfl⟩
  obtain ⟨C2, -⟩ : ∃ c : List Value, c = C := ⟨_, rfl⟩
  go_enter Try.func55, Try.ntmps55
  refine RG.var1 (v0 := .slice q n cap) (n := 32) (by kernel_rfl) (by kernel_rfl) (by kernel_rfl) ?_
  intro a0 sl0 f0
  have hS0 := RG.St.begin w
  have M0 : RG.M w w.heap.size [] 32 [] [] [(0, (.v (.slice q n cap)))] a0 _ := ⟨hS0, sl0, ⟨f0, trivial⟩⟩
  repeat refine wp_seq ?_
  refine M0.tx0 (F72a_0 x) [(0, (.v (.slice q n cap))), (2, (.v (.slice none 0 0))), (3, (.v (.int .i64 0)))] (by kernel_rfl) ⟨RG.st fun _ _ => by kernel_rfl, RG.st fun _ _ => by kernel_rfl, trivial⟩ ?_
  intro a1 w1 M1
  repeat refine wp_seq ?_
  refine M1.tx (F72a_1 q n cap x) [(2, C)] [] [C] [(0, (.v (.slice q n cap))), (2, (.v (.slice none 0 0))), (3, (.v (.int .i64 0))), (4, (.s 0 n n))] (by kernel_rfl) (by kernel_rfl) ⟨RG.st fun _ _ => by kernel_rfl, RG.cert_one rfl 9 (.v (.slice q n cap)) (.int .i64 (n : Int)) rfl (RG.sx fun _ => by kernel_rfl) (fun a w => by kernel_rfl) (fun μ w => by kernel_rfl), RG.cert_makes 0 rfl _ rfl 92 64 10 10 n rfl rfl (RG.sx fun _ => by kernel_rfl) (RG.sx fun _ => by kernel_rfl) (hmk), RG.st fun _ _ => by kernel_rfl, trivial⟩ ?_
  intro j2 a2 w2 M2
  repeat refine wp_seq ?_
  refine M2.tx0 (F72a_2 q n cap x) [(2, (.v (.slice none 0 0))), (3, (.v (.int .i64 0))), (4, (.s 0 n n)), (12, (.v (.slice q n cap))), (13, (.v (.int .i64 (n : Int)))), (14, (.v (.int .i64 0)))] (by kernel_rfl) ⟨RG.st fun _ _ => by kernel_rfl, RG.cert_one rfl 12 (.v (.slice q n cap)) (.int .i64 (n : Int)) rfl (RG.sx fun _ => by kernel_rfl) (fun a w => by kernel_rfl) (fun μ w => by kernel_rfl), RG.st fun _ _ => by kernel_rfl, trivial⟩ ?_
  intro a3 w3 M3
  have hS3 : RG.St w w.heap.size [] [C] [j2] _ := M3.st
  have sl3 := M3.sl
  have f2_3 : a3.tmps[2]? = some (.slice none 0 0) := M3.at (s := (.v (.slice none 0 0))) (by kernel_rfl)
  have f3_3 : a3.tmps[3]? = some (.int .i64 0) := M3.at (s := (.v (.int .i64 0))) (by kernel_rfl)
  have f4_3 : a3.tmps[4]? = some (.slice (some ⟨j2, 0, none⟩) n n) := M3.at (s := (.s 0 n n)) (by kernel_rfl)
  have f12_3 : a3.tmps[12]? = some (.slice q n cap) := M3.at (s := (.v (.slice q n cap))) (by kernel_rfl)
  have f13_3 : a3.tmps[13]? = some (.int .i64 (n : Int)) := M3.at (s := (.v (.int .i64 (n : Int)))) (by kernel_rfl)
  have f14_3 : a3.tmps[14]? = some (.int .i64 0) := M3.at (s := (.v (.int .i64 0))) (by kernel_rfl)
  repeat refine wp_seq ?_
  refine wp_block ?_
  refine wp_loop_ghost (fun m a wr => ∃ (i : Nat) (C : List Value), i + m = n ∧ (∀ j, j < i → (rd P (L j)).isSome = true) ∧ Rows 8 n (fun j => match rd P (L j) with | some p => ws p.1 ++ ws p.2 | none => []) i C ∧ RG.Sl a 32 ∧ a.tmps[4]? = some (.slice (some ⟨j2, 0, none⟩) n n) ∧ a.tmps[12]? = some (.slice q n cap) ∧ a.tmps[13]? = some (.int .i64 (n : Int)) ∧ a.tmps[14]? = some (.int .i64 (i : Int)) ∧ RG.St w w.heap.size [] [C] [j2] wr) n ⟨0, C, by omega, fun j hj => by omega, ⟨hCl, fun j r hj => by omega⟩, sl3, f4_3, f12_3, f13_3, f14_3, hS3⟩ ?_
  intro m' a wr
  rintro ⟨i, C, him, hall, hR, sl, p4, p12, p13, p14, hSp⟩
  generalize j2 = kt at p4 hSp
  by_cases hi : i < n
  · obtain ⟨gg, hqe, hgg, hc⟩ := hA (by omega)
    rw [hqe] at p12
    obtain ⟨v, hv, harg⟩ := hc i hi
    have hcell : w.cell? ⟨gg, 0 + i, none⟩ = some v := by rw [Nat.zero_add]; exact hv
    cases hrdv : rd P (L i) with
    | some pp =>
      obtain ⟨x, y⟩ := pp
      have hrd : ∀ w', RG.BelX w.heap.size [] w w' → Calls Try.prog 75 #[v] w' (Ret fun e w'' => Below w'.heap.size w' w'' ∧ e = .tuple #[pv x y, .bool true]) := fun w' hb => by
        have := readPoint_c F v (L i) w' (harg.below hb.below)
        rw [hrdv] at this
        exact this
      have hlen := hR.len
      have hoff : 0 + 8 * i + (ws x ++ ws y).length ≤ C.length := by rw [hlen]; show 0 + 8 * i + 8 ≤ 8 * n; omega
      obtain ⟨C2, hC2e⟩ : ∃ c, RG.rep C (0 + 8 * i) (ws x ++ ws y) = c := ⟨_, rfl⟩
      have hC2 := hC2e ▸ RG.rep_at hoff
      have hcl : C2.length = C.length := hC2e ▸ RG.rep_length hoff
      have hR2 : Rows 8 n (fun j => match rd P (L j) with | some p => ws p.1 ++ ws p.2 | none => []) (i + 1) C2 := by
        have := hR.next hi (by show List.length (match rd P (L i) with | some p => _ | none => _) = _; rw [hrdv]; rfl)
        rw [← hC2e]
        have e : (fun j => match rd P (L j) with | some p => ws p.1 ++ ws p.2 | none => []) i = (ws x ++ ws y) := by show (match rd P (L i) with | some p => _ | none => _) = _; rw [hrdv]
        rw [← e]
        exact this
      have M10 : RG.M w w.heap.size [] 32 [C] [kt] [(4, (.s 0 n n)), (12, (.v (.slice (some ⟨gg, 0, none⟩) n cap))), (13, (.v (.int .i64 (n : Int)))), (14, (.v (.int .i64 (i : Int))))] a _ := ⟨hSp, sl, ⟨p4, p12, p13, p14, trivial⟩⟩
      repeat refine wp_seq ?_
      refine M10.tx0 (F72b_3 x) [(4, (.s 0 n n)), (12, (.v (.slice (some ⟨gg, 0, none⟩) n cap))), (13, (.v (.int .i64 (n : Int)))), (14, (.v (.int .i64 (i : Int)))), (15, (.v (.bool true)))] (by kernel_rfl) ⟨RG.cert_bin rfl .lss 3 3 14 13 (.int .i64 (i : Int)) (.int .i64 (n : Int)) (.bool true) rfl rfl (RG.sx fun _ => by kernel_rfl) (RG.sx fun _ => by kernel_rfl) (fun w => by kernel_rfl) (lssn_t hi), trivial⟩ ?_
      intro a11 w11 M11
      repeat refine wp_seq ?_
      refine wp_cond_true (M11.ev (by kernel_rfl)) ?_
      refine wp_skip ?_
      refine wp_seq ?_
      refine wp_block ?_
      repeat refine wp_seq ?_
      refine M11.tx0 (F72b_4 gg i v x) [(4, (.s 0 n n)), (5, (.v (.int .i64 (i : Int)))), (6, (.v v)), (12, (.v (.slice (some ⟨gg, 0, none⟩) n cap))), (13, (.v (.int .i64 (n : Int)))), (14, (.v (.int .i64 (i : Int))))] (by kernel_rfl) ⟨RG.st fun _ _ => by kernel_rfl, RG.cert_idx rfl 62 12 14 rfl (.v (.slice (some ⟨gg, 0, none⟩) n cap)) (.int .i64 (i : Int)) (RG.sx fun _ => by kernel_rfl) (RG.sx fun _ => by kernel_rfl) (fun μ w => at46 _ 0 _ _ i hi w), RG.cert_load1B rfl gg (0 + i) hgg List.not_mem_nil 22 17 rfl v rfl (RG.sx fun _ => by kernel_rfl) hcell u23, RG.st fun _ _ => by kernel_rfl, RG.st fun _ _ => by kernel_rfl, trivial⟩ ?_
      intro a12 w12 M12
      repeat refine wp_seq ?_
      refine M12.tx (F72b_5 m v x y) [(5, (RG.z 8))] [(1, 6, (ws x ++ (ws y)))] [C, (ws x ++ (ws y))] [(4, (.s 0 n n)), (5, (.v (.int .i64 (i : Int)))), (7, (.p 1 0)), (8, (.v (.bool true))), (12, (.v (.slice (some ⟨gg, 0, none⟩) n cap))), (13, (.v (.int .i64 (n : Int)))), (14, (.v (.int .i64 (i : Int))))] (by kernel_rfl) (by kernel_rfl) ⟨RG.st fun _ _ => by kernel_rfl, RG.cert_callB1 rfl 75 20 v (.tuple #[(pv x y), (.bool true)]) rfl (fun a w => by kernel_rfl) (RG.sx fun _ => by kernel_rfl) hrd, RG.st fun _ _ => by kernel_rfl, RG.st fun _ _ => by kernel_rfl, RG.st fun _ _ => by kernel_rfl, RG.mk 1 64 fun _ _ => by kernel_rfl, RG.pt i109 (by kernel_rfl), RG.st fun _ _ => by kernel_rfl, trivial⟩ ?_
      intro j13 a13 w13 M13
      repeat refine wp_seq ?_
      refine M13.tx0 (F72b_6 x) [(4, (.s 0 n n)), (5, (.v (.int .i64 (i : Int)))), (7, (.p 1 0)), (12, (.v (.slice (some ⟨gg, 0, none⟩) n cap))), (13, (.v (.int .i64 (n : Int)))), (14, (.v (.int .i64 (i : Int)))), (25, (.v (.bool false)))] (by kernel_rfl) ⟨RG.st fun _ _ => by kernel_rfl, RG.st fun _ _ => by kernel_rfl, trivial⟩ ?_
      intro a14 w14 M14
      repeat refine wp_seq ?_
      refine wp_cond_false (M14.ev (by kernel_rfl)) ?_
      refine wp_skip ?_
      repeat refine wp_seq ?_
      refine M14.tx (F72b_8 n i x y) [] [(0, 4, C2)] [C2, (ws x ++ (ws y))] [(4, (.s 0 n n)), (12, (.v (.slice (some ⟨gg, 0, none⟩) n cap))), (13, (.v (.int .i64 (n : Int)))), (14, (.v (.int .i64 (i : Int))))] (by kernel_rfl) (congrArg (fun n => [n]) hcl) ⟨RG.st fun _ _ => by kernel_rfl, RG.st fun _ _ => by kernel_rfl, RG.ld u109 i109 (by kernel_rfl), RG.cert_idx rfl 92 26 27 rfl (.s 0 n n) (.int .i64 (i : Int)) (RG.sx fun _ => by kernel_rfl) (RG.sx fun _ => by kernel_rfl) (fun μ w => at112 _ 0 _ _ i hi w), RG.cert_putAt 0 (0 + 8 * i) rfl _ rfl 64 (.tmp 29) (.tmp 28) (ws x ++ ws y) rfl rfl (RG.sx fun _ => by kernel_rfl) (RG.sx fun _ => by kernel_rfl) hoff hC2 i109 rfl, trivial⟩ ?_
      intro a15 w15 M15
      repeat refine wp_seq ?_
      refine M15.tx0 (F72b_9 i x) [(4, (.s 0 n n)), (12, (.v (.slice (some ⟨gg, 0, none⟩) n cap))), (13, (.v (.int .i64 (n : Int)))), (14, (.v (.int .i64 ((i + 1 : Nat) : Int))))] (by kernel_rfl) ⟨RG.cert_binc rfl .add 3 3 14 (.int .i64 (i : Int)) (.int .i64 1) (.int .i64 ((i + 1 : Nat) : Int)) rfl rfl (RG.sx fun _ => by kernel_rfl) (fun w => by kernel_rfl) (addn i 1 (by omega) (by omega)), RG.st fun _ _ => by kernel_rfl, trivial⟩ ?_
      intro a16 w16 M16
      have hS16 : RG.St w w.heap.size [] [C2, (ws x ++ (ws y))] [kt, j13] _ := M16.st
      have sl16 := M16.sl
      have f4_16 : a16.tmps[4]? = some (.slice (some ⟨kt, 0, none⟩) n n) := M16.at (s := (.s 0 n n)) (by kernel_rfl)
      have f12_16 : a16.tmps[12]? = some (.slice (some ⟨gg, 0, none⟩) n cap) := M16.at (s := (.v (.slice (some ⟨gg, 0, none⟩) n cap))) (by kernel_rfl)
      have f13_16 : a16.tmps[13]? = some (.int .i64 (n : Int)) := M16.at (s := (.v (.int .i64 (n : Int)))) (by kernel_rfl)
      have f14_16 : a16.tmps[14]? = some (.int .i64 ((i + 1 : Nat) : Int)) := M16.at (s := (.v (.int .i64 ((i + 1 : Nat) : Int)))) (by kernel_rfl)
      show ∃ n', _
      exact ⟨m' - 1, by omega, i + 1, C2, by omega, fun j hj => (by
        by_cases hji : j = i
        · rw [hji, hrdv]; rfl
        · exact hall j (by omega)), hR2, sl16, f4_16, (by rw [hqe]; exact f12_16), f13_16, f14_16, RG.St.init (cs := [C2]) (ks := [kt]) hS16⟩
    | none =>
      have hrd : ∀ w', RG.BelX w.heap.size [] w w' → Calls Try.prog 75 #[v] w' (Ret fun e w'' => Below w'.heap.size w' w'' ∧ e = .tuple #[pv (0 : Fin P) 0, .bool false]) := fun w' hb => by
        have := readPoint_c F v (L i) w' (harg.below hb.below)
        rw [hrdv] at this
        exact this
      have M20 : RG.M w w.heap.size [] 32 [C] [kt] [(4, (.s 0 n n)), (12, (.v (.slice (some ⟨gg, 0, none⟩) n cap))), (13, (.v (.int .i64 (n : Int)))), (14, (.v (.int .i64 (i : Int))))] a _ := ⟨hSp, sl, ⟨p4, p12, p13, p14, trivial⟩⟩
      repeat refine wp_seq ?_
      refine M20.tx0 (F72f_3 x) [(12, (.v (.slice (some ⟨gg, 0, none⟩) n cap))), (14, (.v (.int .i64 (i : Int)))), (15, (.v (.bool true)))] (by kernel_rfl) ⟨RG.cert_bin rfl .lss 3 3 14 13 (.int .i64 (i : Int)) (.int .i64 (n : Int)) (.bool true) rfl rfl (RG.sx fun _ => by kernel_rfl) (RG.sx fun _ => by kernel_rfl) (fun w => by kernel_rfl) (lssn_t hi), trivial⟩ ?_
      intro a21 w21 M21
      repeat refine wp_seq ?_
      refine wp_cond_true (M21.ev (by kernel_rfl)) ?_
      refine wp_skip ?_
      refine wp_seq ?_
      refine wp_block ?_
      repeat refine wp_seq ?_
      refine M21.tx0 (F72f_4 gg i v x) [(6, (.v v))] (by kernel_rfl) ⟨RG.st fun _ _ => by kernel_rfl, RG.cert_idx rfl 62 12 14 rfl (.v (.slice (some ⟨gg, 0, none⟩) n cap)) (.int .i64 (i : Int)) (RG.sx fun _ => by kernel_rfl) (RG.sx fun _ => by kernel_rfl) (fun μ w => at46 _ 0 _ _ i hi w), RG.cert_load1B rfl gg (0 + i) hgg List.not_mem_nil 22 17 rfl v rfl (RG.sx fun _ => by kernel_rfl) hcell u23, RG.st fun _ _ => by kernel_rfl, RG.st fun _ _ => by kernel_rfl, trivial⟩ ?_
      intro a22 w22 M22
      repeat refine wp_seq ?_
      refine M22.tx (F72f_5 m v x) [(5, (RG.z 8))] [(1, 6, (ws (0 : Fin P) ++ (ws (0 : Fin P))))] [C, (ws (0 : Fin P) ++ (ws (0 : Fin P)))] [(8, (.v (.bool false)))] (by kernel_rfl) (by kernel_rfl) ⟨RG.st fun _ _ => by kernel_rfl, RG.cert_callB1 rfl 75 20 v (.tuple #[(pv (0 : Fin P) (0 : Fin P)), (.bool false)]) rfl (fun a w => by kernel_rfl) (RG.sx fun _ => by kernel_rfl) hrd, RG.st fun _ _ => by kernel_rfl, RG.st fun _ _ => by kernel_rfl, RG.st fun _ _ => by kernel_rfl, RG.mk 1 64 fun _ _ => by kernel_rfl, RG.pt i109 (by kernel_rfl), RG.st fun _ _ => by kernel_rfl, trivial⟩ ?_
      intro j23 a23 w23 M23
      repeat refine wp_seq ?_
      refine M23.tx0 (F72f_6 x) [(25, (.v (.bool true)))] (by kernel_rfl) ⟨RG.st fun _ _ => by kernel_rfl, RG.st fun _ _ => by kernel_rfl, trivial⟩ ?_
      intro a24 w24 M24
      repeat refine wp_seq ?_
      refine wp_cond_true (M24.ev (by kernel_rfl)) ?_
      repeat refine wp_seq ?_
      refine M24.tx0 (F72f_7 x) [(2, (.v (.slice none 0 0))), (3, (.v (.int .i64 4)))] (by kernel_rfl) ⟨RG.st fun _ _ => by kernel_rfl, RG.st fun _ _ => by kernel_rfl, trivial⟩ ?_
      intro a25 w25 M25
      have hS25 : RG.St w w.heap.size [] [C, (ws (0 : Fin P) ++ (ws (0 : Fin P)))] [kt, j23] _ := M25.st
      have sl25 := M25.sl
      have f2_25 : a25.tmps[2]? = some (.slice none 0 0) := M25.at (s := (.v (.slice none 0 0))) (by kernel_rfl)
      have f3_25 : a25.tmps[3]? = some (.int .i64 4) := M25.at (s := (.v (.int .i64 4))) (by kernel_rfl)
      refine wp_ret ?_
      refine bodyPost_ret (v := .tuple #[.slice none 0 0, .int .i64 4]) (RG.results_tt 2 3 rfl _ _ f2_25 f3_25) sl25.defers ?_
      exact ⟨_, rfl, hS25.bel.below, Or.inr ⟨⟨i, hi, hrdv⟩, rfl⟩⟩
  · have hiN : i = n := by omega
    have M30 : RG.M w w.heap.size [] 32 [C] [kt] [(4, (.s 0 n n)), (12, (.v (.slice q n cap))), (13, (.v (.int .i64 (n : Int)))), (14, (.v (.int .i64 (i : Int))))] a _ := ⟨hSp, sl, ⟨p4, p12, p13, p14, trivial⟩⟩
    repeat refine wp_seq ?_
    refine M30.tx0 (F72e_3 x) [(4, (.s 0 n n)), (15, (.v (.bool false)))] (by kernel_rfl) ⟨RG.cert_bin rfl .lss 3 3 14 13 (.int .i64 (i : Int)) (.int .i64 (n : Int)) (.bool false) rfl rfl (RG.sx fun _ => by kernel_rfl) (RG.sx fun _ => by kernel_rfl) (fun w => by kernel_rfl) (lssn_f hi), trivial⟩ ?_
    intro a31 w31 M31
    repeat refine wp_seq ?_
    refine wp_cond_false (M31.ev (by kernel_rfl)) ?_
    refine wp_exit ?_
    dsimp only [Exit.then, Exit.inBlock]
    rw [if_pos rfl]
    repeat refine wp_seq ?_
    refine M31.tx0 (F72e_10 n x) [(2, (.s 0 n n)), (3, (.v (.int .i64 0)))] (by kernel_rfl) ⟨RG.st fun _ _ => by kernel_rfl, RG.st fun _ _ => by kernel_rfl, RG.st fun _ _ => by kernel_rfl, trivial⟩ ?_
    intro a32 w32 M32
    have hS32 : RG.St w w.heap.size [] [C] [kt] _ := M32.st
    have sl32 := M32.sl
    have f2_32 : a32.tmps[2]? = some (.slice (some ⟨kt, 0, none⟩) n n) := M32.at (s := (.s 0 n n)) (by kernel_rfl)
    have f3_32 : a32.tmps[3]? = some (.int .i64 0) := M32.at (s := (.v (.int .i64 0))) (by kernel_rfl)
    refine wp_ret ?_
    refine bodyPost_ret (v := .tuple #[.slice (some ⟨kt, 0, none⟩) n n, .int .i64 0]) (RG.results_tt 2 3 rfl _ _ f2_32 f3_32) sl32.defers ?_
    refine ⟨_, rfl, hS32.bel.below, Or.inl ⟨kt, ?_, ?_, rfl, fun j hj => ?_⟩⟩
    · exact (hS32.has 0 C rfl).2.2.2.elim id (fun h => absurd h List.not_mem_nil)
    · exact (hS32.has 0 C rfl).2.2.1
    · obtain ⟨pp, hpp⟩ := Option.isSome_iff_exists.1 (hall j (by omega))
      refine ⟨pp, hpp, RG.range_sub (hS32.has 0 C rfl).1 (fun r hr => ?_)⟩
      have h5 := hR.row j r (by omega) hr
      rw [h5]
      show (match rd P (L j) with | some p => _ | none => _)[r]? = _
      rw [hpp]
def F81a_0 : List RG.It := [.x 2 [] (.slice none 0 0), .x 3 [] (.int .i64 0)]
def F81a_1 (q : Option Addr) (n cap : Nat) : List RG.It := [.x 9 [] (.slice q n cap), .x 10 [(9, 0)] (.int .i64 (n : Int)), ⟨some 11, [(10, 1)], (.s 0 n n), .make 0⟩, .s 4 [(11, 2)] (.s 0 n n)]
def F81a_2 (q : Option Addr) (n cap : Nat) : List RG.It := [.x 12 [] (.slice q n cap), .x 13 [(12, 0)] (.int .i64 (n : Int)), .x 14 [] (.int .i64 0)]
def F81b_3 : List RG.It := [.x 15 [] (.bool true)]
def F81b_4 (gg i : Nat) (v : Value) : List RG.It := [.x 16 [] (.int .i64 (i : Int)), .x 17 [] (.pointer (some ⟨gg, (0 + i), none⟩)), .x 18 [(17, 1)] v, .x 5 [(16, 0)] (.int .i64 (i : Int)), .x 6 [(18, 2)] v]
def F81b_5 (m : Nat) (v : Value) : List RG.It := [.c 20 [] gv1, .x 21 [] v, .c 22 [(20, 0), (21, 1)] (.tuple #[(nv m), (.bool true)]), .x 19 [(22, 2)] (.tuple #[(nv m), (.bool true)]), .x 23 [(19, 3)] (nv m), .x 24 [(19, 3)] (.bool true), .m 7 [] 1, .u [(7, 6), (23, 4)] 1, .x 8 [(24, 5)] (.bool true)]
def F81b_6 : List RG.It := [.x 25 [] (.bool true), .x 26 [(25, 0)] (.bool false)]
def F81b_8 (n i m : Nat) : List RG.It := [.s 27 [] (.s 0 n n), .x 28 [] (.int .i64 (i : Int)), .x 29 [] (nv m), .s 30 [(27, 0), (28, 1)] (.p 0 (0 + 4 * i)), .u [(30, 3), (29, 2)] 0]
def F81b_9 (i : Nat) : List RG.It := [.x 31 [] (.int .i64 ((i + 1 : Nat) : Int)), .x 14 [(31, 0)] (.int .i64 ((i + 1 : Nat) : Int))]
def F81f_3 : List RG.It := [.x 15 [] (.bool true)]
def F81f_4 (gg i : Nat) (v : Value) : List RG.It := [.x 16 [] (.int .i64 (i : Int)), .x 17 [] (.pointer (some ⟨gg, (0 + i), none⟩)), .x 18 [(17, 1)] v, .x 5 [(16, 0)] (.int .i64 (i : Int)), .x 6 [(18, 2)] v]
def F81f_5 (m : Nat) (v : Value) : List RG.It := [.c 20 [] gv1, .x 21 [] v, .c 22 [(20, 0), (21, 1)] (.tuple #[(nv 0), (.bool false)]), .x 19 [(22, 2)] (.tuple #[(nv 0), (.bool false)]), .x 23 [(19, 3)] (nv 0), .x 24 [(19, 3)] (.bool false), .m 7 [] 1, .u [(7, 6), (23, 4)] 1, .x 8 [(24, 5)] (.bool false)]
def F81f_6 : List RG.It := [.x 25 [] (.bool false), .x 26 [(25, 0)] (.bool true)]
def F81f_7 : List RG.It := [.x 2 [] (.slice none 0 0), .x 3 [] (.int .i64 3)]
def F81e_3 : List RG.It := [.x 15 [] (.bool false)]
def F81e_10 (n : Nat) : List RG.It := [.s 32 [] (.s 0 n n), .s 2 [(32, 0)] (.s 0 n n), .x 3 [] (.int .i64 0)]
/-- A list of arguments in a block. -/
def ArgsScs (w : World) (q : Option Addr) (n : Nat) (L : Nat → Bs) : Prop := 0 < n → ∃ gg, q = some ⟨gg, 0, none⟩ ∧ gg < w.heap.size ∧ ∀ j, j < n → ∃ v, w.cell? ⟨gg, j, none⟩ = some v ∧ Arg w v (L j)
def ScsR (N : Nat) (w : World) (n : Nat) (L : Nat → Bs) (e : Value) (w' : World) : Prop :=
  (∃ k, w.heap.size ≤ k ∧ k < w'.heap.size ∧ e = .tuple #[.slice (some ⟨k, 0, none⟩) n n, .int .i64 0] ∧ ∀ j, j < n → ∃ p, rq N (L j) = some p ∧ w'.rangeAt k (4 * j) (wn p)) ∨
  ((∃ j, j < n ∧ rq N (L j) = none) ∧ e = .tuple #[.slice none 0 0, .int .i64 3])
set_option maxHeartbeats 4000000 in
set_option maxRecDepth 100000 in
theorem Scs_c {N : Nat} (hG : Gap 4624529908474429119 4994812053365940164 1 N) (n cap : Nat) (hn : n ≤ 512) (q : Option Addr) (L : Nat → Bs) (w : World) (hA : ArgsScs w q n L) : Calls Try.prog 54 #[.slice q n cap] w (Ret fun e w' => Below w.heap.size w w' ∧ ScsR N w n L e w') := by
  obtain ⟨C, hCl, hmk⟩ := mk82 n hn
  obtain ⟨i, -⟩ : ∃ i : Nat, i = 0 := ⟨_, rfl⟩
  obtain ⟨gg, -⟩ : ∃ i : Nat, i = 0 := ⟨_, rfl⟩
  obtain ⟨m, -⟩ : ∃ i : Nat, i = 0 := ⟨_, rfl⟩
  obtain ⟨v, -⟩ : ∃ v : Value, v = .bool true := ⟨_, rfl⟩
  obtain ⟨C2, -⟩ : ∃ c : List Value, c = C := ⟨_, rfl⟩
  go_enter Try.func54, Try.ntmps54
  refine RG.var1 (v0 := .slice q n cap) (n := 33) (by kernel_rfl) (by kernel_rfl) (by kernel_rfl) ?_
  intro a0 sl0 f0
  have hS0 := RG.St.begin w
  have M0 : RG.M w w.heap.size [] 33 [] [] [(0, (.v (.slice q n cap)))] a0 _ := ⟨hS0, sl0, ⟨f0, trivial⟩⟩
  repeat refine wp_seq ?_
  refine M0.tx0 F81a_0 [(0, (.v (.slice q n cap))), (2, (.v (.slice none 0 0))), (3, (.v (.int .i64 0)))] (by kernel_rfl) ⟨RG.st fun _ _ => by kernel_rfl, RG.st fun _ _ => by kernel_rfl, trivial⟩ ?_
  intro a1 w1 M1
  repeat refine wp_seq ?_
  refine M1.tx (F81a_1 q n cap) [(2, C)] [] [C] [(0, (.v (.slice q n cap))), (2, (.v (.slice none 0 0))), (3, (.v (.int .i64 0))), (4, (.s 0 n n))] (by kernel_rfl) (by kernel_rfl) ⟨RG.st fun _ _ => by kernel_rfl, RG.cert_one rfl 9 (.v (.slice q n cap)) (.int .i64 (n : Int)) rfl (RG.sx fun _ => by kernel_rfl) (fun a w => by kernel_rfl) (fun μ w => by kernel_rfl), RG.cert_makes 0 rfl _ rfl 89 38 10 10 n rfl rfl (RG.sx fun _ => by kernel_rfl) (RG.sx fun _ => by kernel_rfl) (hmk), RG.st fun _ _ => by kernel_rfl, trivial⟩ ?_
  intro j2 a2 w2 M2
  repeat refine wp_seq ?_
  refine M2.tx0 (F81a_2 q n cap) [(2, (.v (.slice none 0 0))), (3, (.v (.int .i64 0))), (4, (.s 0 n n)), (12, (.v (.slice q n cap))), (13, (.v (.int .i64 (n : Int)))), (14, (.v (.int .i64 0)))] (by kernel_rfl) ⟨RG.st fun _ _ => by kernel_rfl, RG.cert_one rfl 12 (.v (.slice q n cap)) (.int .i64 (n : Int)) rfl (RG.sx fun _ => by kernel_rfl) (fun a w => by kernel_rfl) (fun μ w => by kernel_rfl), RG.st fun _ _ => by kernel_rfl, trivial⟩ ?_
  intro a3 w3 M3
  have hS3 : RG.St w w.heap.size [] [C] [j2] _ := M3.st
  have sl3 := M3.sl
  have f2_3 : a3.tmps[2]? = some (.slice none 0 0) := M3.at (s := (.v (.slice none 0 0))) (by kernel_rfl)
  have f3_3 : a3.tmps[3]? = some (.int .i64 0) := M3.at (s := (.v (.int .i64 0))) (by kernel_rfl)
  have f4_3 : a3.tmps[4]? = some (.slice (some ⟨j2, 0, none⟩) n n) := M3.at (s := (.s 0 n n)) (by kernel_rfl)
  have f12_3 : a3.tmps[12]? = some (.slice q n cap) := M3.at (s := (.v (.slice q n cap))) (by kernel_rfl)
  have f13_3 : a3.tmps[13]? = some (.int .i64 (n : Int)) := M3.at (s := (.v (.int .i64 (n : Int)))) (by kernel_rfl)
  have f14_3 : a3.tmps[14]? = some (.int .i64 0) := M3.at (s := (.v (.int .i64 0))) (by kernel_rfl)
  repeat refine wp_seq ?_
  refine wp_block ?_
  refine wp_loop_ghost (fun m a wr => ∃ (i : Nat) (C : List Value), i + m = n ∧ (∀ j, j < i → (rq N (L j)).isSome = true) ∧ Rows 4 n (fun j => match rq N (L j) with | some k => wn k | none => []) i C ∧ RG.Sl a 33 ∧ a.tmps[4]? = some (.slice (some ⟨j2, 0, none⟩) n n) ∧ a.tmps[12]? = some (.slice q n cap) ∧ a.tmps[13]? = some (.int .i64 (n : Int)) ∧ a.tmps[14]? = some (.int .i64 (i : Int)) ∧ RG.St w w.heap.size [] [C] [j2] wr) n ⟨0, C, by omega, fun j hj => by omega, ⟨hCl, fun j r hj => by omega⟩, sl3, f4_3, f12_3, f13_3, f14_3, hS3⟩ ?_
  intro m' a wr
  rintro ⟨i, C, him, hall, hR, sl, p4, p12, p13, p14, hSp⟩
  generalize j2 = kt at p4 hSp
  by_cases hi : i < n
  · obtain ⟨gg, hqe, hgg, hc⟩ := hA (by omega)
    rw [hqe] at p12
    obtain ⟨v, hv, harg⟩ := hc i hi
    have hcell : w.cell? ⟨gg, 0 + i, none⟩ = some v := by rw [Nat.zero_add]; exact hv
    cases hrdv : rq N (L i) with
    | some pp =>
      obtain ⟨m, rfl⟩ : ∃ m, m = pp := ⟨_, rfl⟩
      have hrd : ∀ w', RG.BelX w.heap.size [] w w' → Calls Try.prog 32 #[gv1, v] w' (Ret fun e w'' => Below w'.heap.size w' w'' ∧ e = .tuple #[nv m, .bool true]) := fun w' hb => by
        have := readQ_c hG v (L i) w' (harg.below hb.below)
        rw [hrdv] at this
        exact this
      have hlen := hR.len
      have hoff : 0 + 4 * i + (wn m).length ≤ C.length := by rw [hlen]; show 0 + 4 * i + 4 ≤ 4 * n; omega
      obtain ⟨C2, hC2e⟩ : ∃ c, RG.rep C (0 + 4 * i) (wn m) = c := ⟨_, rfl⟩
      have hC2 := hC2e ▸ RG.rep_at hoff
      have hcl : C2.length = C.length := hC2e ▸ RG.rep_length hoff
      have hR2 : Rows 4 n (fun j => match rq N (L j) with | some k => wn k | none => []) (i + 1) C2 := by
        have := hR.next hi (by show List.length (match rq N (L i) with | some p => _ | none => _) = _; rw [hrdv]; rfl)
        rw [← hC2e]
        have e : (fun j => match rq N (L j) with | some k => wn k | none => []) i = (wn m) := by show (match rq N (L i) with | some p => _ | none => _) = _; rw [hrdv]
        rw [← e]
        exact this
      have M10 : RG.M w w.heap.size [] 33 [C] [kt] [(4, (.s 0 n n)), (12, (.v (.slice (some ⟨gg, 0, none⟩) n cap))), (13, (.v (.int .i64 (n : Int)))), (14, (.v (.int .i64 (i : Int))))] a _ := ⟨hSp, sl, ⟨p4, p12, p13, p14, trivial⟩⟩
      repeat refine wp_seq ?_
      refine M10.tx0 F81b_3 [(4, (.s 0 n n)), (12, (.v (.slice (some ⟨gg, 0, none⟩) n cap))), (13, (.v (.int .i64 (n : Int)))), (14, (.v (.int .i64 (i : Int)))), (15, (.v (.bool true)))] (by kernel_rfl) ⟨RG.cert_bin rfl .lss 3 3 14 13 (.int .i64 (i : Int)) (.int .i64 (n : Int)) (.bool true) rfl rfl (RG.sx fun _ => by kernel_rfl) (RG.sx fun _ => by kernel_rfl) (fun w => by kernel_rfl) (lssn_t hi), trivial⟩ ?_
      intro a11 w11 M11
      repeat refine wp_seq ?_
      refine wp_cond_true (M11.ev (by kernel_rfl)) ?_
      refine wp_skip ?_
      refine wp_seq ?_
      refine wp_block ?_
      repeat refine wp_seq ?_
      refine M11.tx0 (F81b_4 gg i v) [(4, (.s 0 n n)), (5, (.v (.int .i64 (i : Int)))), (6, (.v v)), (12, (.v (.slice (some ⟨gg, 0, none⟩) n cap))), (13, (.v (.int .i64 (n : Int)))), (14, (.v (.int .i64 (i : Int))))] (by kernel_rfl) ⟨RG.st fun _ _ => by kernel_rfl, RG.cert_idx rfl 62 12 14 rfl (.v (.slice (some ⟨gg, 0, none⟩) n cap)) (.int .i64 (i : Int)) (RG.sx fun _ => by kernel_rfl) (RG.sx fun _ => by kernel_rfl) (fun μ w => at46 _ 0 _ _ i hi w), RG.cert_load1B rfl gg (0 + i) hgg List.not_mem_nil 22 17 rfl v rfl (RG.sx fun _ => by kernel_rfl) hcell u23, RG.st fun _ _ => by kernel_rfl, RG.st fun _ _ => by kernel_rfl, trivial⟩ ?_
      intro a12 w12 M12
      repeat refine wp_seq ?_
      refine M12.tx (F81b_5 m v) [(6, (RG.z 4))] [(1, 7, (wn m))] [C, (wn m)] [(4, (.s 0 n n)), (5, (.v (.int .i64 (i : Int)))), (7, (.p 1 0)), (8, (.v (.bool true))), (12, (.v (.slice (some ⟨gg, 0, none⟩) n cap))), (13, (.v (.int .i64 (n : Int)))), (14, (.v (.int .i64 (i : Int))))] (by kernel_rfl) (by kernel_rfl) ⟨RG.cl (Scalars_c) fun _ _ => by kernel_rfl, RG.st fun _ _ => by kernel_rfl, RG.cert_callB2 rfl 32 20 21 gv1 v (.tuple #[(nv m), (.bool true)]) rfl (fun a w => by kernel_rfl) (RG.sx fun _ => by kernel_rfl) (RG.sx fun _ => by kernel_rfl) hrd, RG.st fun _ _ => by kernel_rfl, RG.st fun _ _ => by kernel_rfl, RG.st fun _ _ => by kernel_rfl, RG.mk 1 38 fun _ _ => by kernel_rfl, RG.pt i85 (by kernel_rfl), RG.st fun _ _ => by kernel_rfl, trivial⟩ ?_
      intro j13 a13 w13 M13
      repeat refine wp_seq ?_
      refine M13.tx0 F81b_6 [(4, (.s 0 n n)), (5, (.v (.int .i64 (i : Int)))), (7, (.p 1 0)), (12, (.v (.slice (some ⟨gg, 0, none⟩) n cap))), (13, (.v (.int .i64 (n : Int)))), (14, (.v (.int .i64 (i : Int)))), (26, (.v (.bool false)))] (by kernel_rfl) ⟨RG.st fun _ _ => by kernel_rfl, RG.st fun _ _ => by kernel_rfl, trivial⟩ ?_
      intro a14 w14 M14
      repeat refine wp_seq ?_
      refine wp_cond_false (M14.ev (by kernel_rfl)) ?_
      refine wp_skip ?_
      repeat refine wp_seq ?_
      refine M14.tx (F81b_8 n i m) [] [(0, 4, C2)] [C2, (wn m)] [(4, (.s 0 n n)), (12, (.v (.slice (some ⟨gg, 0, none⟩) n cap))), (13, (.v (.int .i64 (n : Int)))), (14, (.v (.int .i64 (i : Int))))] (by kernel_rfl) (congrArg (fun n => [n]) hcl) ⟨RG.st fun _ _ => by kernel_rfl, RG.st fun _ _ => by kernel_rfl, RG.ld u85 i85 (by kernel_rfl), RG.cert_idx rfl 89 27 28 rfl (.s 0 n n) (.int .i64 (i : Int)) (RG.sx fun _ => by kernel_rfl) (RG.sx fun _ => by kernel_rfl) (fun μ w => at82 _ 0 _ _ i hi w), RG.cert_putAt 0 (0 + 4 * i) rfl _ rfl 38 (.tmp 30) (.tmp 29) (wn m) rfl rfl (RG.sx fun _ => by kernel_rfl) (RG.sx fun _ => by kernel_rfl) hoff hC2 i85 rfl, trivial⟩ ?_
      intro a15 w15 M15
      repeat refine wp_seq ?_
      refine M15.tx0 (F81b_9 i) [(4, (.s 0 n n)), (12, (.v (.slice (some ⟨gg, 0, none⟩) n cap))), (13, (.v (.int .i64 (n : Int)))), (14, (.v (.int .i64 ((i + 1 : Nat) : Int))))] (by kernel_rfl) ⟨RG.cert_binc rfl .add 3 3 14 (.int .i64 (i : Int)) (.int .i64 1) (.int .i64 ((i + 1 : Nat) : Int)) rfl rfl (RG.sx fun _ => by kernel_rfl) (fun w => by kernel_rfl) (addn i 1 (by omega) (by omega)), RG.st fun _ _ => by kernel_rfl, trivial⟩ ?_
      intro a16 w16 M16
      have hS16 : RG.St w w.heap.size [] [C2, (wn m)] [kt, j13] _ := M16.st
      have sl16 := M16.sl
      have f4_16 : a16.tmps[4]? = some (.slice (some ⟨kt, 0, none⟩) n n) := M16.at (s := (.s 0 n n)) (by kernel_rfl)
      have f12_16 : a16.tmps[12]? = some (.slice (some ⟨gg, 0, none⟩) n cap) := M16.at (s := (.v (.slice (some ⟨gg, 0, none⟩) n cap))) (by kernel_rfl)
      have f13_16 : a16.tmps[13]? = some (.int .i64 (n : Int)) := M16.at (s := (.v (.int .i64 (n : Int)))) (by kernel_rfl)
      have f14_16 : a16.tmps[14]? = some (.int .i64 ((i + 1 : Nat) : Int)) := M16.at (s := (.v (.int .i64 ((i + 1 : Nat) : Int)))) (by kernel_rfl)
      show ∃ n', _
      exact ⟨m' - 1, by omega, i + 1, C2, by omega, fun j hj => (by
        by_cases hji : j = i
        · rw [hji, hrdv]; rfl
        · exact hall j (by omega)), hR2, sl16, f4_16, (by rw [hqe]; exact f12_16), f13_16, f14_16, RG.St.init (cs := [C2]) (ks := [kt]) hS16⟩
    | none =>
      have hrd : ∀ w', RG.BelX w.heap.size [] w w' → Calls Try.prog 32 #[gv1, v] w' (Ret fun e w'' => Below w'.heap.size w' w'' ∧ e = .tuple #[nv 0, .bool false]) := fun w' hb => by
        have := readQ_c hG v (L i) w' (harg.below hb.below)
        rw [hrdv] at this
        exact this
      have M20 : RG.M w w.heap.size [] 33 [C] [kt] [(4, (.s 0 n n)), (12, (.v (.slice (some ⟨gg, 0, none⟩) n cap))), (13, (.v (.int .i64 (n : Int)))), (14, (.v (.int .i64 (i : Int))))] a _ := ⟨hSp, sl, ⟨p4, p12, p13, p14, trivial⟩⟩
      repeat refine wp_seq ?_
      refine M20.tx0 F81f_3 [(12, (.v (.slice (some ⟨gg, 0, none⟩) n cap))), (14, (.v (.int .i64 (i : Int)))), (15, (.v (.bool true)))] (by kernel_rfl) ⟨RG.cert_bin rfl .lss 3 3 14 13 (.int .i64 (i : Int)) (.int .i64 (n : Int)) (.bool true) rfl rfl (RG.sx fun _ => by kernel_rfl) (RG.sx fun _ => by kernel_rfl) (fun w => by kernel_rfl) (lssn_t hi), trivial⟩ ?_
      intro a21 w21 M21
      repeat refine wp_seq ?_
      refine wp_cond_true (M21.ev (by kernel_rfl)) ?_
      refine wp_skip ?_
      refine wp_seq ?_
      refine wp_block ?_
      repeat refine wp_seq ?_
      refine M21.tx0 (F81f_4 gg i v) [(6, (.v v))] (by kernel_rfl) ⟨RG.st fun _ _ => by kernel_rfl, RG.cert_idx rfl 62 12 14 rfl (.v (.slice (some ⟨gg, 0, none⟩) n cap)) (.int .i64 (i : Int)) (RG.sx fun _ => by kernel_rfl) (RG.sx fun _ => by kernel_rfl) (fun μ w => at46 _ 0 _ _ i hi w), RG.cert_load1B rfl gg (0 + i) hgg List.not_mem_nil 22 17 rfl v rfl (RG.sx fun _ => by kernel_rfl) hcell u23, RG.st fun _ _ => by kernel_rfl, RG.st fun _ _ => by kernel_rfl, trivial⟩ ?_
      intro a22 w22 M22
      repeat refine wp_seq ?_
      refine M22.tx (F81f_5 m v) [(6, (RG.z 4))] [(1, 7, (wn 0))] [C, (wn 0)] [(8, (.v (.bool false)))] (by kernel_rfl) (by kernel_rfl) ⟨RG.cl (Scalars_c) fun _ _ => by kernel_rfl, RG.st fun _ _ => by kernel_rfl, RG.cert_callB2 rfl 32 20 21 gv1 v (.tuple #[(nv 0), (.bool false)]) rfl (fun a w => by kernel_rfl) (RG.sx fun _ => by kernel_rfl) (RG.sx fun _ => by kernel_rfl) hrd, RG.st fun _ _ => by kernel_rfl, RG.st fun _ _ => by kernel_rfl, RG.st fun _ _ => by kernel_rfl, RG.mk 1 38 fun _ _ => by kernel_rfl, RG.pt i85 (by kernel_rfl), RG.st fun _ _ => by kernel_rfl, trivial⟩ ?_
      intro j23 a23 w23 M23
      repeat refine wp_seq ?_
      refine M23.tx0 F81f_6 [(26, (.v (.bool true)))] (by kernel_rfl) ⟨RG.st fun _ _ => by kernel_rfl, RG.st fun _ _ => by kernel_rfl, trivial⟩ ?_
      intro a24 w24 M24
      repeat refine wp_seq ?_
      refine wp_cond_true (M24.ev (by kernel_rfl)) ?_
      repeat refine wp_seq ?_
      refine M24.tx0 F81f_7 [(2, (.v (.slice none 0 0))), (3, (.v (.int .i64 3)))] (by kernel_rfl) ⟨RG.st fun _ _ => by kernel_rfl, RG.st fun _ _ => by kernel_rfl, trivial⟩ ?_
      intro a25 w25 M25
      have hS25 : RG.St w w.heap.size [] [C, (wn 0)] [kt, j23] _ := M25.st
      have sl25 := M25.sl
      have f2_25 : a25.tmps[2]? = some (.slice none 0 0) := M25.at (s := (.v (.slice none 0 0))) (by kernel_rfl)
      have f3_25 : a25.tmps[3]? = some (.int .i64 3) := M25.at (s := (.v (.int .i64 3))) (by kernel_rfl)
      refine wp_ret ?_
      refine bodyPost_ret (v := .tuple #[.slice none 0 0, .int .i64 3]) (RG.results_tt 2 3 rfl _ _ f2_25 f3_25) sl25.defers ?_
      exact ⟨_, rfl, hS25.bel.below, Or.inr ⟨⟨i, hi, hrdv⟩, rfl⟩⟩
  · have hiN : i = n := by omega
    have M30 : RG.M w w.heap.size [] 33 [C] [kt] [(4, (.s 0 n n)), (12, (.v (.slice q n cap))), (13, (.v (.int .i64 (n : Int)))), (14, (.v (.int .i64 (i : Int))))] a _ := ⟨hSp, sl, ⟨p4, p12, p13, p14, trivial⟩⟩
    repeat refine wp_seq ?_
    refine M30.tx0 F81e_3 [(4, (.s 0 n n)), (15, (.v (.bool false)))] (by kernel_rfl) ⟨RG.cert_bin rfl .lss 3 3 14 13 (.int .i64 (i : Int)) (.int .i64 (n : Int)) (.bool false) rfl rfl (RG.sx fun _ => by kernel_rfl) (RG.sx fun _ => by kernel_rfl) (fun w => by kernel_rfl) (lssn_f hi), trivial⟩ ?_
    intro a31 w31 M31
    repeat refine wp_seq ?_
    refine wp_cond_false (M31.ev (by kernel_rfl)) ?_
    refine wp_exit ?_
    dsimp only [Exit.then, Exit.inBlock]
    rw [if_pos rfl]
    repeat refine wp_seq ?_
    refine M31.tx0 (F81e_10 n) [(2, (.s 0 n n)), (3, (.v (.int .i64 0)))] (by kernel_rfl) ⟨RG.st fun _ _ => by kernel_rfl, RG.st fun _ _ => by kernel_rfl, RG.st fun _ _ => by kernel_rfl, trivial⟩ ?_
    intro a32 w32 M32
    have hS32 : RG.St w w.heap.size [] [C] [kt] _ := M32.st
    have sl32 := M32.sl
    have f2_32 : a32.tmps[2]? = some (.slice (some ⟨kt, 0, none⟩) n n) := M32.at (s := (.s 0 n n)) (by kernel_rfl)
    have f3_32 : a32.tmps[3]? = some (.int .i64 0) := M32.at (s := (.v (.int .i64 0))) (by kernel_rfl)
    refine wp_ret ?_
    refine bodyPost_ret (v := .tuple #[.slice (some ⟨kt, 0, none⟩) n n, .int .i64 0]) (RG.results_tt 2 3 rfl _ _ f2_32 f3_32) sl32.defers ?_
    refine ⟨_, rfl, hS32.bel.below, Or.inl ⟨kt, ?_, ?_, rfl, fun j hj => ?_⟩⟩
    · exact (hS32.has 0 C rfl).2.2.2.elim id (fun h => absurd h List.not_mem_nil)
    · exact (hS32.has 0 C rfl).2.2.1
    · obtain ⟨pp, hpp⟩ := Option.isSome_iff_exists.1 (hall j (by omega))
      refine ⟨pp, hpp, RG.range_sub (hS32.has 0 C rfl).1 (fun r hr => ?_)⟩
      have h5 := hR.row j r (by omega) hr
      rw [h5]
      show (match rq N (L j) with | some p => _ | none => _)[r]? = _
      rw [hpp]
end Go.Proofs.Yticolhhalbbogae
set_option linter.unusedVariables false
set_option linter.unusedSimpArgs false
namespace Go.Proofs.Yticolhhalbbogae
open Go.RowKit Go.Sort Go.Deep
variable {P : Nat} [NeZero P]
omit [NeZero P] in
theorem words2 (x y : Fin P) : ∃ a b c d p q r s : Nat, pv x y = .agg #[.int .u64 (a : Int), .int .u64 (b : Int), .int .u64 (c : Int), .int .u64 (d : Int), .int .u64 (p : Int), .int .u64 (q : Int), .int .u64 (r : Int), .int .u64 (s : Int)] ∧ ws x ++ ws y = [.int .u64 (a : Int), .int .u64 (b : Int), .int .u64 (c : Int), .int .u64 (d : Int), .int .u64 (p : Int), .int .u64 (q : Int), .int .u64 (r : Int), .int .u64 (s : Int)] :=
  ⟨_, _, _, _, _, _, _, _, rfl, rfl⟩
theorem cells8 {w : World} {k o : Nat} {a b c d p q r s : Nat} (h : w.rangeAt k o [.int .u64 (a : Int), .int .u64 (b : Int), .int .u64 (c : Int), .int .u64 (d : Int), .int .u64 (p : Int), .int .u64 (q : Int), .int .u64 (r : Int), .int .u64 (s : Int)]) :
    w.cell? ⟨k, o, none⟩ = some (.int .u64 (a : Int)) ∧ w.cell? ⟨k, o + 1, none⟩ = some (.int .u64 (b : Int)) ∧ w.cell? ⟨k, o + 2, none⟩ = some (.int .u64 (c : Int)) ∧ w.cell? ⟨k, o + 3, none⟩ = some (.int .u64 (d : Int)) ∧
    w.cell? ⟨k, o + 4, none⟩ = some (.int .u64 (p : Int)) ∧ w.cell? ⟨k, o + 5, none⟩ = some (.int .u64 (q : Int)) ∧ w.cell? ⟨k, o + 6, none⟩ = some (.int .u64 (r : Int)) ∧ w.cell? ⟨k, o + 7, none⟩ = some (.int .u64 (s : Int)) :=
  ⟨h 0 _ rfl, h 1 _ rfl, h 2 _ rfl, h 3 _ rfl, h 4 _ rfl, h 5 _ rfl, h 6 _ rfl, h 7 _ rfl⟩
/-- What a call of the face answers: an errno, or a point's bytes in new memory. -/
def OutE (c : Int) (e : Value) : Prop := e = .tuple #[.slice none 0 0, .int .i64 c]
def OutP (w : World) (T : Bs) (e : Value) (w' : World) : Prop := ∃ g cap, e = .tuple #[.slice (some ⟨g, 0, none⟩) 33 cap, .int .i64 0] ∧ 33 ≤ cap ∧ w.heap.size ≤ g ∧ g < w'.heap.size ∧ Holds encB w' g 0 T
def MinusR (P : Nat) [NeZero P] (w : World) (bs : Bs) (e : Value) (w' : World) : Prop := match rd P bs with
  | none => OutE 4 e
  | some p => OutP w (by33 p.1 (0 - p.2)) e w'
theorem one_args {w : World} {v : Value} {bs : Bs} (T : TypeId) (h : Arg33 w v bs) : ArgsPts (w.alloc (.cells #[v] T)) (some ⟨w.heap.size, 0, none⟩) 1 (fun _ => bs) := fun _ =>
  ⟨w.heap.size, rfl, by rw [World.size_alloc]; omega, fun j hj => by
    obtain rfl : j = 0 := by omega
    exact ⟨v, by rw [World.cell?_alloc_new]; rfl, h.below (below1 w _)⟩⟩
/-- Two points in a block. -/
structure PS (w : World) (k : Nat) (a1 b1 c1 d1 p1 q1 r1 s1 a2 b2 c2 d2 p2 q2 r2 s2 : Nat) (W : World) : Prop where
  r1 : W.rangeAt k 0 [.int .u64 (a1 : Int), .int .u64 (b1 : Int), .int .u64 (c1 : Int), .int .u64 (d1 : Int), .int .u64 (p1 : Int), .int .u64 (q1 : Int), .int .u64 (r1 : Int), .int .u64 (s1 : Int)]
  r2 : W.rangeAt k 8 [.int .u64 (a2 : Int), .int .u64 (b2 : Int), .int .u64 (c2 : Int), .int .u64 (d2 : Int), .int .u64 (p2 : Int), .int .u64 (q2 : Int), .int .u64 (r2 : Int), .int .u64 (s2 : Int)]
  lt : k < W.heap.size
  bl : Below w.heap.size w W
theorem PS.call {w W W' : World} {k a1 b1 c1 d1 p1 q1 r1 s1 a2 b2 c2 d2 p2 q2 r2 s2 : Nat} (h : PS w k a1 b1 c1 d1 p1 q1 r1 s1 a2 b2 c2 d2 p2 q2 r2 s2 W) (hb : Below W.heap.size W W') : PS w k a1 b1 c1 d1 p1 q1 r1 s1 a2 b2 c2 d2 p2 q2 r2 s2 W' :=
  ⟨RG.range_below h.r1 hb h.lt, RG.range_below h.r2 hb h.lt, Nat.lt_of_lt_of_le h.lt hb.size, h.bl.trans (hb.mono h.bl.size)⟩
theorem PS.drew {w W : World} {k a1 b1 c1 d1 p1 q1 r1 s1 a2 b2 c2 d2 p2 q2 r2 s2 : Nat} (h : PS w k a1 b1 c1 d1 p1 q1 r1 s1 a2 b2 c2 d2 p2 q2 r2 s2 W) : PS w k a1 b1 c1 d1 p1 q1 r1 s1 a2 b2 c2 d2 p2 q2 r2 s2 W.drew := ⟨h.r1, h.r2, h.lt, h.bl.drew⟩
theorem psS {w W : World} {k a1 b1 c1 d1 p1 q1 r1 s1 a2 b2 c2 d2 p2 q2 r2 s2 : Nat} (h : PS w k a1 b1 c1 d1 p1 q1 r1 s1 a2 b2 c2 d2 p2 q2 r2 s2 W) : W.cell? ⟨k, 0, none⟩ = some (.int .u64 (a1 : Int)) ∧ W.cell? ⟨k, 1, none⟩ = some (.int .u64 (b1 : Int)) ∧ W.cell? ⟨k, 2, none⟩ = some (.int .u64 (c1 : Int)) ∧ W.cell? ⟨k, 3, none⟩ = some (.int .u64 (d1 : Int)) ∧ W.cell? ⟨k, 4, none⟩ = some (.int .u64 (p1 : Int)) ∧ W.cell? ⟨k, 5, none⟩ = some (.int .u64 (q1 : Int)) ∧ W.cell? ⟨k, 6, none⟩ = some (.int .u64 (r1 : Int)) ∧ W.cell? ⟨k, 7, none⟩ = some (.int .u64 (s1 : Int)) ∧ W.cell? ⟨k, 8, none⟩ = some (.int .u64 (a2 : Int)) ∧ W.cell? ⟨k, 9, none⟩ = some (.int .u64 (b2 : Int)) ∧ W.cell? ⟨k, 10, none⟩ = some (.int .u64 (c2 : Int)) ∧ W.cell? ⟨k, 11, none⟩ = some (.int .u64 (d2 : Int)) ∧ W.cell? ⟨k, 12, none⟩ = some (.int .u64 (p2 : Int)) ∧ W.cell? ⟨k, 13, none⟩ = some (.int .u64 (q2 : Int)) ∧ W.cell? ⟨k, 14, none⟩ = some (.int .u64 (r2 : Int)) ∧ W.cell? ⟨k, 15, none⟩ = some (.int .u64 (s2 : Int)) ∧ PS w k a1 b1 c1 d1 p1 q1 r1 s1 a2 b2 c2 d2 p2 q2 r2 s2 W :=
  let ⟨x0, x1, x2, x3, x4, x5, x6, x7⟩ := cells8 h.r1
  let ⟨y0, y1, y2, y3, y4, y5, y6, y7⟩ := cells8 h.r2
  ⟨x0, x1, x2, x3, x4, x5, x6, x7, y0, y1, y2, y3, y4, y5, y6, y7, h⟩
theorem two_args {w : World} {v u : Value} {az bs : Bs} (T : TypeId) (h : Arg33 w v az) (h' : Arg33 w u bs) : ArgsPts (w.alloc (.cells #[v, u] T)) (some ⟨w.heap.size, 0, none⟩) 2 (fun j => if j = 0 then az else bs) := fun _ =>
  ⟨w.heap.size, rfl, by rw [World.size_alloc]; omega, fun j hj => by
    by_cases h0 : j = 0
    · subst h0
      exact ⟨v, by rw [World.cell?_alloc_new]; rfl, h.below (below1 w _)⟩
    · obtain rfl : j = 1 := by omega
      exact ⟨u, by rw [World.cell?_alloc_new]; rfl, h'.below (below1 w _)⟩⟩
/-- The point that Plus answers. -/
def plP (p q : Fin P × Fin P) : T3 P := plJ (raJ p.1 p.2) (raJ q.1 q.2)
def ptP (s : T3 P) : Fin P × Fin P := (s.1 * (EC.inv s.2.2 * EC.inv s.2.2), s.2.1 * (EC.inv s.2.2 * EC.inv s.2.2) * EC.inv s.2.2)
def PlusR (P : Nat) [NeZero P] (w : World) (az bs : Bs) (e : Value) (w' : World) : Prop := match rd P az, rd P bs with
  | some p, some q => OutP w (by33 (ptP (plP p q)).1 (ptP (plP p q)).2) e w'
  | _, _ => OutE 4 e
end Go.Proofs.Yticolhhalbbogae
namespace Go.Proofs.Yticolhhalbbogae
open Go.RowKit Go.Sort Go.Deep
variable {P : Nat} [NeZero P]
theorem cell_below {w w1 : World} {k j : Nat} {v : Value} (h : w.cell? ⟨k, j, none⟩ = some v) (hb : Below w.heap.size w w1) (hk : k < w.heap.size) : w1.cell? ⟨k, j, none⟩ = some v := by
  have h1 : w.rangeAt k j [v] := fun i u hu => by
    cases i with
    | zero =>
      obtain rfl : v = u := Option.some.inj hu
      exact h
    | succ i => exact absurd hu (by simp)
  exact RG.range_below h1 hb hk 0 v rfl
theorem ArgsPts.below {w w1 : World} {q : Option Addr} {n : Nat} {L : Nat → Bs} (h : ArgsPts w q n L) (hb : Below w.heap.size w w1) : ArgsPts w1 q n L := fun hn => by
  obtain ⟨gg, hq, hlt, hc⟩ := h hn
  refine ⟨gg, hq, Nat.lt_of_lt_of_le hlt hb.size, fun j hj => ?_⟩
  obtain ⟨v, hv, ha⟩ := hc j hj
  exact ⟨v, cell_below hv hb hlt, ha.below hb⟩
theorem ArgsScs.below {w w1 : World} {q : Option Addr} {n : Nat} {L : Nat → Bs} (h : ArgsScs w q n L) (hb : Below w.heap.size w w1) : ArgsScs w1 q n L := fun hn => by
  obtain ⟨gg, hq, hlt, hc⟩ := h hn
  refine ⟨gg, hq, Nat.lt_of_lt_of_le hlt hb.size, fun j hj => ?_⟩
  obtain ⟨v, hv, ha⟩ := hc j hj
  exact ⟨v, cell_below hv hb hlt, ha.below hb⟩
/-- What Sum answers. -/
def SumR (P : Nat) [NeZero P] (N : Nat) (w : World) (n a : Nat) (L M : Nat → Bs) (e : Value) (w' : World) : Prop :=
  (n ≠ a ∧ OutE 2 e) ∨ (n = a ∧ 512 < n ∧ OutE 1 e) ∨ (n = a ∧ n ≤ 512 ∧ (((∃ j, j < n ∧ rq N (L j) = none) ∧ OutE 3 e) ∨
    ∃ ns : Nat → Nat, (∀ j, j < n → rq N (L j) = some (ns j)) ∧ (((∃ j, j < n ∧ rd P (M j) = none) ∧ OutE 4 e) ∨
      ∃ xs ys : Nat → Fin P, (∀ j, j < n → rd P (M j) = some (xs j, ys j)) ∧ OutP w (by33 (ptP (sumJ ns xs ys n 257)).1 (ptP (sumJ ns xs ys n 257)).2) e w')))
theorem choose_nat {A : Type} [Inhabited A] {n : Nat} {p : Nat → A → Prop} (h : ∀ j, j < n → ∃ a, p j a) : ∃ f : Nat → A, ∀ j, j < n → p j (f j) :=
  ⟨fun j => if hj : j < n then (h j hj).choose else default, fun j hj => by
    show p j (if hj : j < n then (h j hj).choose else default)
    rw [dif_pos hj]
    exact (h j hj).choose_spec⟩
theorem rq_top {N : Nat} (hN : N ≤ top) {bs : Bs} {m : Nat} (h : rq N bs = some m) : m < top := by
  unfold rq at h
  split at h
  · rename_i h1
    obtain rfl : beV bs.toList = m := Option.some.inj h
    exact Nat.lt_of_lt_of_le h1.2 hN
  · exact absurd h (by simp)
set_option maxHeartbeats 4000000 in
set_option maxRecDepth 100000 in
theorem gSum_c {N : Nat} (C : Fld P) (hG : Gap 4624529908474429119 4994812053365940164 1 N) (hN : N ≤ top) (q q' : Option Addr) (n cap a cap' : Nat) (L M : Nat → Bs) (w : World) (hL : ArgsScs w q n L) (hM : ArgsPts w q' a M) :
    Calls Try.prog 28 #[.slice q n cap, .slice q' a cap'] w (Ret fun e w' => Below w.heap.size w w' ∧ SumR P N w n a L M e w') := by
  have HL : Hid (ArgsScs w q n L) := hL
  have HM : Hid (ArgsPts w q' a M) := hM
  clear hL hM
  by_cases hna : n = a
  · subst hna
    by_cases h512 : 512 < n
    · go_enter Try.func28, Try.ntmps28
      go_wp2
      go_ret2
      exact ⟨_, rfl, RowKit.Below.refl _ _, Or.inr (Or.inl ⟨rfl, h512, rfl⟩)⟩
    · have H5 : n ≤ 512 := by omega
      go_enter Try.func28, Try.ntmps28
      go_wp2_with fail
      refine (Scs_c hG n cap H5 q L w HL.out).mono ?_
      rintro e w1 ⟨v, rfl, hb1, ⟨k, hk1, hk2, rfl, hrow⟩ | ⟨hno, rfl⟩⟩
      · obtain ⟨ns, hns⟩ := choose_nat hrow
        have HB : Hid (Below w.heap.size w w1) := hb1
        have HS : Hid (k < w1.heap.size ∧ ∀ j, j < n → w1.rangeAt k (4 * j) (wn (ns j))) := ⟨hk2, fun j hj => (hns j hj).2⟩
        have HN : Hid (∀ j, j < n → rq N (L j) = some (ns j)) := fun j hj => (hns j hj).1
        clear hrow hns hk1 hk2 hb1
        go_wp2_with fail
        refine (Pts_c C n cap' H5 q' M w1 (HM.out.below HB.out)).mono ?_
        rintro e w2 ⟨v, rfl, hb2, ⟨k', hk1, hk2, rfl, hrow⟩ | ⟨hno, rfl⟩⟩
        · obtain ⟨ps, hps⟩ := choose_nat hrow
          have HB2 : Hid (Below w.heap.size w w2) := HB.out.trans (hb2.mono HB.out.size)
          have HS2 : Hid (k < w2.heap.size ∧ ∀ j, j < n → w2.rangeAt k (4 * j) (wn (ns j))) := ⟨Nat.lt_of_lt_of_le HS.out.1 hb2.size, fun j hj => RG.range_below (HS.out.2 j hj) hb2 HS.out.1⟩
          have HP : Hid (k' < w2.heap.size ∧ ∀ j, j < n → w2.rangeAt k' (8 * j) (ws (ps j).1 ++ ws (ps j).2)) := ⟨hk2, fun j hj => (hps j hj).2⟩
          have HM2 : Hid (∀ j, j < n → rd P (M j) = some ((ps j).1, (ps j).2)) := fun j hj => (hps j hj).1
          clear hrow hps hk1 hk2 hb2
          have hBt : ∀ w, Calls Try.prog 30 #[pv (ptP (sumJ ns (fun j => (ps j).1) (fun j => (ps j).2) n 257)).1 (ptP (sumJ ns (fun j => (ps j).1) (fun j => (ps j).2) n 257)).2] w (Ret fun e w' => Below w.heap.size w w' ∧ BytesR w (by33 (ptP (sumJ ns (fun j => (ps j).1) (fun j => (ps j).2) n 257)).1 (ptP (sumJ ns (fun j => (ps j).1) (fun j => (ps j).2) n 257)).2) e w') := bytes_c C _ _
          have hS : Calls Try.prog 56 #[.slice (some ⟨k, 0, none⟩) n n, .slice (some ⟨k', 0, none⟩) n n] w2 (Ret fun e w' => Below w2.heap.size w2 w' ∧ e = pv (ptP (sumJ ns (fun j => (ps j).1) (fun j => (ps j).2) n 257)).1 (ptP (sumJ ns (fun j => (ps j).1) (fun j => (ps j).2) n 257)).2) := by
            refine (sums_c C n H5 ns (fun j => (ps j).1) (fun j => (ps j).2) (fun i hi => rq_top hN (HN.out i hi)) k k' w2 HS2.out.1 HP.out.1 HS2.out.2 HP.out.2).mono ?_
            rintro e w' ⟨v, rfl, hb, s, rfl, rfl⟩
            exact ⟨_, rfl, hb, rfl⟩
          generalize hz : ptP (sumJ ns (fun j => (ps j).1) (fun j => (ps j).2) n 257) = z at hS hBt
          have HZ : Hid (ptP (sumJ ns (fun j => (ps j).1) (fun j => (ps j).2) n 257) = z) := hz
          clear hz
          generalize pv z.1 z.2 = v4 at hS hBt
          go_wp2_with fail
          refine hS.mono ?_
          rintro e w3 ⟨v, rfl, hb3, rfl⟩
          have HB3 : Hid (Below w.heap.size w w3) := HB2.out.trans (hb3.mono HB2.out.size)
          clear hb3
          go_wp2_with fail
          refine (hBt _).mono ?_
          rintro e w4 ⟨v, rfl, hb4, g, cap3, rfl, hc3, hg3, hlt3, hH3⟩
          have HB4 : Hid (Below w.heap.size w w4) := HB3.out.trans (hb4.mono HB3.out.size)
          have HO : Hid (OutP w (by33 z.1 z.2) (.tuple #[.slice (some ⟨g, 0, none⟩) 33 cap3, .int .i64 0]) w4) := ⟨g, cap3, rfl, hc3, Nat.le_trans HB3.out.size hg3, hlt3, hH3⟩
          clear hb4 hH3
          go_wp2
          go_ret2
          refine ⟨_, rfl, HB4.out, Or.inr (Or.inr ⟨rfl, H5, Or.inr ⟨ns, HN.out, Or.inr ⟨_, _, HM2.out, ?_⟩⟩⟩)⟩
          rw [HZ.out]
          exact HO.out
        · have HB2 : Hid (Below w.heap.size w w2) := HB.out.trans (hb2.mono HB.out.size)
          have HO : Hid (∃ j, j < n ∧ rd P (M j) = none) := hno
          clear hb2 hno
          go_wp2
          go_ret2
          exact ⟨_, rfl, HB2.out, Or.inr (Or.inr ⟨rfl, H5, Or.inr ⟨ns, HN.out, Or.inl ⟨HO.out, rfl⟩⟩⟩)⟩
      · have HB : Hid (Below w.heap.size w w1) := hb1
        have HO : Hid (∃ j, j < n ∧ rq N (L j) = none) := hno
        clear hb1 hno
        go_wp2
        go_ret2
        exact ⟨_, rfl, HB.out, Or.inr (Or.inr ⟨rfl, H5, Or.inl ⟨HO.out, rfl⟩⟩)⟩
  · go_enter Try.func28, Try.ntmps28
    go_wp2
    go_ret2
    exact ⟨_, rfl, RowKit.Below.refl _ _, Or.inl ⟨hna, rfl⟩⟩
theorem one_scs {w : World} {v : Value} {bs : Bs} (T : TypeId) (h : Arg w v bs) : ArgsScs (w.alloc (.cells #[v] T)) (some ⟨w.heap.size, 0, none⟩) 1 (fun _ => bs) := fun _ =>
  ⟨w.heap.size, rfl, by rw [World.size_alloc]; omega, fun j hj => by
    obtain rfl : j = 0 := by omega
    exact ⟨v, by rw [World.cell?_alloc_new]; rfl, h.below (below1 w _)⟩⟩
theorem inn_one (ns : Nat → Nat) (xs ys : Nat → Fin P) (st : T3 P) (p : Nat) : inn ns xs ys st p 1 = inn (fun _ => ns 0) (fun _ => xs 0) (fun _ => ys 0) st p 1 := rfl
theorem sumJ_one (ns : Nat → Nat) (xs ys : Nat → Fin P) : ∀ m, sumJ ns xs ys 1 m = sumJ (fun _ => ns 0) (fun _ => xs 0) (fun _ => ys 0) 1 m
  | 0 => rfl
  | m + 1 => by
    unfold sumJ
    rw [sumJ_one ns xs ys m, inn_one]
/-- What Times answers. -/
def TimesR (P : Nat) [NeZero P] (N : Nat) (w : World) (az bs : Bs) (e : Value) (w' : World) : Prop := match rq N az, rd P bs with
  | none, _ => OutE 3 e
  | some _, none => OutE 4 e
  | some n, some p => OutP w (by33 (ptP (sumJ (fun _ => n) (fun _ => p.1) (fun _ => p.2) 1 257)).1 (ptP (sumJ (fun _ => n) (fun _ => p.1) (fun _ => p.2) 1 257)).2) e w'
set_option maxHeartbeats 4000000 in
theorem gTimes_c {N : Nat} (C : Fld P) (hG : Gap 4624529908474429119 4994812053365940164 1 N) (hN : N ≤ top) (v u : Value) (az bs : Bs) (w : World) (hv : Arg w v az) (hu : Arg33 w u bs) :
    Calls Try.prog 9 #[v, u] w (Ret fun e w' => Below w.heap.size w w' ∧ TimesR P N w az bs e w') := by
  have HV : Hid (Arg w v az ∧ Arg33 w u bs) := ⟨hv, hu⟩
  obtain ⟨q, n, cap, rfl, -⟩ := hv
  obtain ⟨q', n', cap', rfl, -⟩ := hu
  have HA : Hid (ArgsScs ((w.alloc (.cells #[.slice q n cap] 22)).alloc (.cells #[.slice q' n' cap'] 22)) (some ⟨w.heap.size, 0, none⟩) 1 (fun _ => az)) := (one_scs _ HV.out.1).below (below1 _ _)
  have HA' : Hid (ArgsPts ((w.alloc (.cells #[.slice q n cap] 22)).alloc (.cells #[.slice q' n' cap'] 22)) (some ⟨w.heap.size + 1, 0, none⟩) 1 (fun _ => bs)) := by
    have h := one_args 22 (HV.out.2.below (below1 w (.cells #[.slice q n cap] 22)))
    rw [World.size_alloc] at h
    exact h
  have HW : Hid (Below w.heap.size w ((w.alloc (.cells #[.slice q n cap] 22)).alloc (.cells #[.slice q' n' cap'] 22))) := (below1 w _).trans ((below1 _ _).mono (by simp))
  go_enter Try.func9, Try.ntmps9
  go_wp2_with fail
  refine (gSum_c C hG hN _ _ 1 1 1 1 (fun _ => az) (fun _ => bs) _ HA.out HA'.out).mono ?_
  have hone : ∀ m (ns : Nat → Nat) (xs ys : Nat → Fin P) W k z, m = 257 → Holds encB W k 0 (by33 (ptP (sumJ ns xs ys 1 m)).1 (ptP (sumJ ns xs ys 1 m)).2) → z = sumJ (fun _ => ns 0) (fun _ => xs 0) (fun _ => ys 0) 1 m → Holds encB W k 0 (by33 (ptP z).1 (ptP z).2) := by
    intro m ns xs ys W k z _ h hz
    rw [sumJ_one ns xs ys m] at h
    rw [hz]
    exact h
  rintro e w1 ⟨v, rfl, hb1, hs⟩
  have HB : Hid (Below w.heap.size w w1) := HW.out.trans (hb1.mono HW.out.size)
  have HT : Hid (TimesR P N w az bs v w1) := by
    unfold TimesR
    rcases hs with ⟨h, -⟩ | ⟨-, h, -⟩ | ⟨-, -, ⟨⟨j, -, h⟩, ho⟩ | ⟨ns, hns, ⟨⟨j, -, h⟩, ho⟩ | ⟨xs, ys, hp, g, cp, ho, hc, hg1, hg2, hH⟩⟩⟩
    · exact absurd rfl h
    · omega
    · rw [show rq N az = none from h]
      exact ho
    · rw [show rq N az = some (ns 0) from hns 0 (by decide), show rd P bs = none from h]
      exact ho
    · rw [show rq N az = some (ns 0) from hns 0 (by decide), show rd P bs = some (xs 0, ys 0) from hp 0 (by decide)]
      refine ⟨g, cp, ho, hc, ?_, hg2, ?_⟩
      · exact Nat.le_trans HW.out.size hg1
      · exact hone 257 ns xs ys _ _ _ rfl hH rfl
  clear hb1 hs
  have hv2 : ∃ a b, v = .tuple #[a, b] := by
    have := HT.out
    unfold TimesR at this
    split at this
    · exact ⟨_, _, this⟩
    · exact ⟨_, _, this⟩
    · obtain ⟨g, cp, ho, -⟩ := this
      exact ⟨_, _, ho⟩
  obtain ⟨a, b, rfl⟩ := hv2
  go_wp2
  go_ret2
  exact ⟨_, rfl, HB.out, HT.out⟩
end Go.Proofs.Yticolhhalbbogae
namespace Go.Proofs.Yticolhhalbbogae
open Go.RowKit Go.Sort Go.Deep
variable {P : Nat} [NeZero P]
/-- 33 zeros. -/
def zs33 : Bs := Array.replicate 33 0
theorem sq_mod (r d : Nat) : d * d % (r + d) = r * r % (r + d) := by
  have h : d * d + (r + d) * r = r * r + (r + d) * d := by
    rw [Nat.add_mul, Nat.add_mul, Nat.mul_comm d r]
    omega
  have h1 := congrArg (· % (r + d)) h
  simp only [Nat.add_mul_mod_self_left] at h1
  exact h1
theorem rt_sq {m y : Fin P} (h : rt m = some y) : y * y = m := by
  have h0 := rt_yes h
  unfold rt at h
  rw [if_pos h0] at h
  obtain rfl := Option.some.inj h
  have hP := Nat.pos_of_neZero P
  have hr : m.val ^ (P / 4 + 1) % P < P := Nat.mod_lt _ hP
  generalize m.val ^ (P / 4 + 1) % P = r at h0 hr
  apply Fin.ext
  rw [Fin.val_mul]
  show (even P r % P) * (even P r % P) % P = m.val
  rw [Nat.mod_eq_of_lt (even_lt hP hr), ← h0]
  unfold even
  split
  · have h2 := sq_mod r (P - r)
    rw [show r + (P - r) = P by omega] at h2
    exact h2
  · rfl
theorem zero33_iff {bs : Bs} (hs : bs.size = 33) : Zero33 bs ↔ bs = zs33 := by
  constructor
  · intro h
    apply Array.ext
    · rw [hs]; rfl
    · intro i h1 h2
      have := h i (List.mem_range.2 (by omega))
      rw [getElem!_pos bs i h1] at this
      have h3 : bs[i].toNat = 0 := by
        have h4 : ub bs[i] = (bs[i].toNat : Int) := rfl
        rw [h4] at this
        omega
      have h5 : (zs33)[i] = 0 := by
        have h6 : (Array.replicate 33 (0 : UInt8))[i]'h2 = 0 := Array.getElem_replicate _
        exact h6
      rw [h5]
      exact UInt8.toNat_inj.1 h3
  · rintro rfl i hi
    have hi := List.mem_range.1 hi
    unfold zs33
    rw [getElem!_pos _ i (by rw [Array.size_replicate]; exact hi), Array.getElem_replicate]
    rfl
theorem on_of {x y : Fin P} (h : y * y = x * x * x + 7) : EC.On (.some (x, y) : EC.Pt P) := by
  show y ^ 2 = x ^ 3 + 7
  grobner
theorem on_neg {x y : Fin P} (h : y * y = x * x * x + 7) : EC.On (.some (x, 0 - y) : EC.Pt P) := by
  show (0 - y) ^ 2 = x ^ 3 + 7
  grobner
/-- A point's bytes. -/
def wr : EC.Pt P → Bs
  | none => zs33
  | some (x, y) => #[mark y.val] ++ bx x.val
theorem by33_wr (C : Fld P) {x y : Fin P} {p : EC.Pt P} (h : EC.Pair x y p) (ho : EC.On p) : by33 x y = wr p := by
  unfold by33
  match p, h, ho with
  | none, h, _ => rw [if_pos (show x = 0 ∧ y = 0 from h)]; rfl
  | some (a, b), h, ho =>
    obtain ⟨rfl, rfl⟩ := h
    rw [if_neg (fun e => C.cur.y_ne ho e.2)]
    rfl
/-- The point that a pair is. -/
def pt (p : Fin P × Fin P) : EC.Pt P := if p.1 = 0 ∧ p.2 = 0 then none else some p
theorem pair_pt (C : Fld P) {x y : Fin P} {q : EC.Pt P} (h : EC.Pair x y q) (ho : EC.On q) : q = pt (x, y) := by
  unfold pt
  match q, h, ho with
  | none, h, _ => rw [if_pos (show x = 0 ∧ y = 0 from h)]
  | some (a, b), h, ho =>
    obtain ⟨rfl, rfl⟩ := h
    rw [if_neg (fun e => C.cur.y_ne ho e.2)]
theorem rd_on (C : Fld P) {bs : Bs} {p : Fin P × Fin P} (h : rd P bs = some p) : EC.Pair p.1 p.2 (pt p) ∧ EC.On (pt p) := by
  have key : ∃ q : EC.Pt P, EC.Pair p.1 p.2 q ∧ EC.On q := by
    unfold rd at h
    split at h
    · split at h
      · obtain rfl := Option.some.inj h
        exact ⟨none, ⟨rfl, rfl⟩, EC.none_on⟩
      · split at h
        · split at h
          · obtain ⟨y, hr, rfl⟩ := Option.map_eq_some_iff.1 h
            have hsq := rt_sq hr
            refine ⟨some (rdx P bs, if ub bs[0]! = 3 then 0 - y else y), ⟨rfl, rfl⟩, ?_⟩
            split
            · exact on_neg hsq
            · exact on_of hsq
          · cases h
        · cases h
    · cases h
  obtain ⟨q, h1, h2⟩ := key
  have := pair_pt C h1 h2
  rw [show pt p = q from this.symm]
  exact ⟨h1, h2⟩
/-- What Plus answers, by the points. -/
def PlusQ (P : Nat) [NeZero P] (w : World) (az bs : Bs) (e : Value) (w' : World) : Prop := match rd P az, rd P bs with
  | some p, some q => OutP w (wr (EC.add (pt p) (pt q))) e w'
  | _, _ => OutE 4 e
theorem PlusR.q (C : Fld P) {w w' : World} {az bs : Bs} {e : Value} (h : PlusR P w az bs e w') : PlusQ P w az bs e w' := by
  unfold PlusR at h
  unfold PlusQ
  cases h1 : rd P az with
  | none => rw [h1] at h; exact h
  | some p =>
    cases h2 : rd P bs with
    | none => rw [h1, h2] at h; exact h
    | some q =>
      rw [h1, h2] at h
      have hp := rd_on C h1
      have hq := rd_on C h2
      have hJ := (raJ_J C hp.1 hp.2).plus C (raJ_J C hq.1 hq.2)
      have e1 := by33_wr C (hJ.pair C) hJ.2
      dsimp only at h ⊢
      rw [← e1]
      exact h
def MinusQ (P : Nat) [NeZero P] (w : World) (bs : Bs) (e : Value) (w' : World) : Prop := match rd P bs with
  | some p => OutP w (wr (EC.neg (pt p))) e w'
  | none => OutE 4 e
theorem MinusR.q (C : Fld P) {w w' : World} {bs : Bs} {e : Value} (h : MinusR P w bs e w') : MinusQ P w bs e w' := by
  unfold MinusR at h
  unfold MinusQ
  cases h1 : rd P bs with
  | none => rw [h1] at h; exact h
  | some p =>
    rw [h1] at h
    have hp := rd_on C h1
    have hn : EC.Pair p.1 (0 - p.2) (EC.neg (pt p)) := by
      generalize pt p = q at hp
      match q, hp.1 with
      | none, h => exact ⟨h.1, by rw [show p.2 = 0 from h.2]; grobner⟩
      | some (a, b), h => exact ⟨h.1, by rw [show p.2 = b from h.2]; grobner⟩
    have e1 := by33_wr C hn (EC.neg_on hp.2)
    dsimp only at h ⊢
    rw [← e1]
    exact h
def TimesQ (P : Nat) [NeZero P] (N : Nat) (w : World) (az bs : Bs) (e : Value) (w' : World) : Prop := match rq N az, rd P bs with
  | none, _ => OutE 3 e
  | some _, none => OutE 4 e
  | some n, some p => OutP w (wr (EC.mul n (pt p))) e w'
theorem TimesR.q (C : Fld P) {N : Nat} (hN : N ≤ top) {w w' : World} {az bs : Bs} {e : Value} (h : TimesR P N w az bs e w') : TimesQ P N w az bs e w' := by
  unfold TimesR at h
  unfold TimesQ
  cases h1 : rq N az with
  | none => rw [h1] at h; exact h
  | some n =>
    cases h2 : rd P bs with
    | none => rw [h1, h2] at h; exact h
    | some p =>
      rw [h1, h2] at h
      have hp := rd_on C h2
      have hJ := sumJ_all C (N := 1) (ns := fun _ => n) (xs := fun _ => p.1) (ys := fun _ => p.2) (p := fun _ => pt p) (fun _ _ => rq_top hN h1) (fun _ _ => hp.1) (fun _ _ => hp.2)
      have e1 := by33_wr C (hJ.pair C) hJ.2
      have e2 : EC.tot (fun _ => pt p) 1 (fun _ => (n : Int)) = EC.mul n (pt p) := by
        rfl
      rw [e2] at e1
      dsimp only at h ⊢
      rw [← e1]
      exact h
omit [NeZero P] in
theorem wr_size (p : EC.Pt P) : (wr p).size = 33 := by
  match p with
  | none => rfl
  | some (x, y) =>
    show (#[mark y.val] ++ bx x.val).size = 33
    rw [Array.size_append, bx_size]
    rfl
end Go.Proofs.Yticolhhalbbogae
namespace Go.Proofs.Yticolhhalbbogae
open Go.RowKit Go.Sort
/-- A prime as the reference has it: itself, and what is missing to 2^256. -/
structure RefP (p0 p1 p2 p3 c0 c1 c2 c3 P : Nat) : Prop where
  hp0 : p0 < 18446744073709551616
  hp1 : p1 < 18446744073709551616
  hp2 : p2 < 18446744073709551616
  hp3 : p3 < 18446744073709551616
  hc0 : c0 < 18446744073709551616
  hc1 : c1 < 18446744073709551616
  hc2 : c2 < 18446744073709551616
  hc3 : c3 < 18446744073709551616
  eP : P = val p0 p1 p2 p3
  hP : P + val c0 c1 c2 c3 = top
  hP2 : top < 2 * P
theorem refP0 : RefP 18446744069414583343 18446744073709551615 18446744073709551615 18446744073709551615 4294968273 0 0 0 Go.Proofs.Yticolhhalbbogae.p0 :=
  ⟨by decide, by decide, by decide, by decide, by decide, by decide, by decide, by decide, by decide +kernel, by decide +kernel, by decide +kernel⟩
theorem refP1 : RefP 13822214165235122497 13451932020343611451 18446744073709551614 18446744073709551615 4624529908474429119 4994812053365940164 1 0 Go.Proofs.Yticolhhalbbogae.p1 :=
  ⟨by decide, by decide, by decide, by decide, by decide, by decide, by decide, by decide, by decide +kernel, by decide +kernel, by decide +kernel⟩
theorem low0 : 2 ≤ Go.Proofs.Yticolhhalbbogae.p0 % 18446744073709551616 := by decide +kernel
theorem low1 : 2 ≤ Go.Proofs.Yticolhhalbbogae.p1 % 18446744073709551616 := by decide +kernel
end Go.Proofs.Yticolhhalbbogae
namespace Go.Proofs.Yticolhhalbbogae
open Go.RowKit Go.Sort
set_option maxHeartbeats 2000000 in
set_option maxRecDepth 100000 in
theorem rless_any (x y : Value) (m n : Nat) (hx : Four x m) (hy : Four y n) (w : World) :
    Calls Try.prog 43 #[x, y] w (Ret fun e w' => Below w.heap.size w w' ∧ ∃ (v : Value) (s k : Nat), e = .tuple #[v, .int .u64 (k : Int)] ∧ Four v s ∧ k ≤ 1 ∧ s + n = m + top * k) := by
  obtain ⟨a, b, c, d, rfl, ha, hb, hc, hd, em⟩ := hx
  obtain ⟨p, q, r, s, rfl, hp, hq, hr, hs, en⟩ := hy
  obtain ⟨s0, k0, a0, hs0, hk0, e0⟩ := sub64z a p ha hp
  obtain ⟨s1, k1, a1, hs1, hk1, e1⟩ := sub64 b q k0 hb hq hk0
  obtain ⟨s2, k2, a2, hs2, hk2, e2⟩ := sub64 c r k1 hc hr hk1
  obtain ⟨s3, k3, a3, hs3, hk3, e3⟩ := sub64 d s k2 hd hs hk2
  have hv : val s0 s1 s2 s3 + n = m + top * k3 := by rw [em, en]; unfold val top; omega
  clear e0 e1 e2 e3 em en
  go_enter Try.func43, Try.ntmps43
  go_wp2
  refine wp_loop_rounds 5 ?_
  rw [rounds_succ]; go_wp2; go_region
  go_wp2; rw [rounds_succ]; go_wp2; go_region
  go_wp2; rw [rounds_succ]; go_wp2; go_region
  go_wp2; rw [rounds_succ]; go_wp2; go_region
  go_wp2; rw [rounds_succ]; go_wp2
  refine bodyPost_ret (v := ?v) ?hr rfl ?hR
  case hr => simp [results, Try.results43, go_sem]; rfl
  exact ⟨_, rfl, (below4 _ _ _ _ _).drew.drew.drew.drew, _, _, k3, rfl, Four.mk hs0 hs1 hs2 hs3 rfl, hk3, hv⟩
/-- Eight words are the number n. -/
def Eight (v : Value) (n : Nat) : Prop := ∃ a b c d a' b' c' d' : Nat, v = .agg #[.int .u64 (a : Int), .int .u64 (b : Int), .int .u64 (c : Int), .int .u64 (d : Int), .int .u64 (a' : Int), .int .u64 (b' : Int), .int .u64 (c' : Int), .int .u64 (d' : Int)] ∧
  a < 18446744073709551616 ∧ b < 18446744073709551616 ∧ c < 18446744073709551616 ∧ d < 18446744073709551616 ∧ a' < 18446744073709551616 ∧ b' < 18446744073709551616 ∧ c' < 18446744073709551616 ∧ d' < 18446744073709551616 ∧
  n = val a b c d + top * val a' b' c' d'
theorem add_halves {m n a b c d s u k l : Nat} (em : m = a + top * b) (en : n = c + top * d) (h1 : s + top * k = a + c) (h2 : u + top * l = b + d + k) (hlt : m + n < top * top) : m + n = s + top * u := by
  have h3 : top * u + top * top * l = top * b + top * d + top * k := by rw [Nat.mul_assoc, ← Nat.mul_add, h2, Nat.mul_add, Nat.mul_add]
  have h4 : m + n = s + top * u + top * top * l := by omega
  have h5 : l = 0 := by
    rcases Nat.eq_zero_or_pos l with h | h
    · exact h
    · have := Nat.le_mul_of_pos_right (top * top) h
      omega
  rw [h4, h5, Nat.mul_zero, Nat.add_zero]
set_option maxHeartbeats 4000000 in
set_option maxRecDepth 100000 in
theorem rplus_any (x y : Value) (m n : Nat) (hx : Eight x m) (hy : Eight y n) (hlt : m + n < top * top) (w : World) :
    Calls Try.prog 70 #[x, y] w (Ret fun e w' => Below w.heap.size w w' ∧ Eight e (m + n)) := by
  obtain ⟨a, b, c, d, aa, bb, cc, dd, rfl, ha, hb, hc, hd, haa, hbb, hcc, hdd, em⟩ := hx
  obtain ⟨p, q, r, s, pp, qq, rr, ss, rfl, hp, hq, hr, hs, hpp, hqq, hrr, hss, en⟩ := hy
  obtain ⟨s0, k0, a0, hs0, hk0, e0⟩ := add64z a p ha hp
  obtain ⟨s1, k1, a1, hs1, hk1, e1⟩ := add64 b q k0 hb hq hk0
  obtain ⟨s2, k2, a2, hs2, hk2, e2⟩ := add64 c r k1 hc hr hk1
  obtain ⟨s3, k3, a3, hs3, hk3, e3⟩ := add64 d s k2 hd hs hk2
  obtain ⟨s4, k4, a4, hs4, hk4, e4⟩ := add64 aa pp k3 haa hpp hk3
  obtain ⟨s5, k5, a5, hs5, hk5, e5⟩ := add64 bb qq k4 hbb hqq hk4
  obtain ⟨s6, k6, a6, hs6, hk6, e6⟩ := add64 cc rr k5 hcc hrr hk5
  obtain ⟨s7, k7, a7, hs7, hk7, e7⟩ := add64 dd ss k6 hdd hss hk6
  have v1 : val s0 s1 s2 s3 + top * k3 = val a b c d + val p q r s := by clear em en hlt e4 e5 e6 e7; unfold val top; omega
  have v2 : val s4 s5 s6 s7 + top * k7 = val aa bb cc dd + val pp qq rr ss + k3 := by clear em en hlt e0 e1 e2 e3; unfold val top; omega
  have hv : m + n = val s0 s1 s2 s3 + top * val s4 s5 s6 s7 := add_halves em en v1 v2 hlt
  clear e0 e1 e2 e3 e4 e5 e6 e7 em en hlt
  go_enter Try.func70, Try.ntmps70
  go_wp2
  refine wp_loop_rounds 9 ?_
  rw [rounds_succ]; go_wp2; go_region
  go_wp2; rw [rounds_succ]; go_wp2; go_region
  go_wp2; rw [rounds_succ]; go_wp2; go_region
  go_wp2; rw [rounds_succ]; go_wp2; go_region
  go_wp2; rw [rounds_succ]; go_wp2; go_region
  go_wp2; rw [rounds_succ]; go_wp2; go_region
  go_wp2; rw [rounds_succ]; go_wp2; go_region
  go_wp2; rw [rounds_succ]; go_wp2; go_region
  go_wp2; rw [rounds_succ]; go_wp2
  refine bodyPost_ret (v := ?v) ?hr rfl ?hR
  case hr => simp [results, Try.results70, go_sem]; rfl
  exact ⟨_, rfl, (below3 _ _ _ _).drew.drew.drew.drew.drew.drew.drew.drew, s0, s1, s2, s3, s4, s5, s6, s7, rfl, hs0, hs1, hs2, hs3, hs4, hs5, hs6, hs7, hv⟩
end Go.Proofs.Yticolhhalbbogae
namespace Go.Proofs.Yticolhhalbbogae
open Go.RowKit Go.Sort
theorem four_rows {a b c d n r0 r1 r2 r3 s0 s1 s2 s3 t0 t1 t2 t3 u0 u1 u2 u3 h0 h1 h2 h3 : Nat}
    (e0 : r0 + 18446744073709551616 * val r1 r2 r3 h0 = a * n + val 0 0 0 0)
    (e1 : s0 + 18446744073709551616 * val s1 s2 s3 h1 = b * n + val r1 r2 r3 h0)
    (e2 : t0 + 18446744073709551616 * val t1 t2 t3 h2 = c * n + val s1 s2 s3 h1)
    (e3 : u0 + 18446744073709551616 * val u1 u2 u3 h3 = d * n + val t1 t2 t3 h2) :
    val a b c d * n = val r0 s0 t0 u0 + top * val u1 u2 u3 h3 := by
  have hm : val a b c d * n = val (a * n) (b * n) (c * n) (d * n) := by
    rw [Nat.mul_comm, mul_val, Nat.mul_comm n a, Nat.mul_comm n b, Nat.mul_comm n c, Nat.mul_comm n d]
  rw [hm]
  generalize a * n = x0 at *
  generalize b * n = x1 at *
  generalize c * n = x2 at *
  generalize d * n = x3 at *
  generalize val r1 r2 r3 h0 = y0 at *
  generalize val s1 s2 s3 h1 = y1 at *
  generalize val t1 t2 t3 h2 = y2 at *
  generalize val u1 u2 u3 h3 = y3 at *
  unfold val at *
  unfold top
  omega
set_option maxHeartbeats 16000000 in
set_option maxRecDepth 100000 in
theorem rproduct_any (x y : Value) (m n : Nat) (hx : Four x m) (hy : Four y n) (w : World) :
    Calls Try.prog 40 #[x, y] w (Ret fun e w' => Below w.heap.size w w' ∧ Eight e (m * n)) := by
  obtain ⟨a, b, c, d, rfl, ha, hb, hc, hd, em⟩ := hx
  obtain ⟨p, q, r, s, rfl, hp, hq, hr, hs, en⟩ := hy
  go_enter Try.func40, Try.ntmps40
  go_wp2
  refine wp_loop_rounds 5 ?_
  have X := (((At4.made w 44 a b c d rfl).alloc (.cells #[.int .u64 (p : Int), .int .u64 (q : Int), .int .u64 (r : Int), .int .u64 (s : Int)] 44)).alloc (.cells #[.int .u64 0, .int .u64 0, .int .u64 0, .int .u64 0, .int .u64 0, .int .u64 0, .int .u64 0, .int .u64 0] 80)).alloc (.cells #[.int .u64 0, .int .u64 0, .int .u64 0, .int .u64 0, .int .u64 0, .int .u64 0, .int .u64 0, .int .u64 0] 80)
  have Y := ((At4.made (w.alloc (.cells #[.int .u64 (a : Int), .int .u64 (b : Int), .int .u64 (c : Int), .int .u64 (d : Int)] 44)) 44 p q r s (World.size_alloc _ _)).alloc (.cells #[.int .u64 0, .int .u64 0, .int .u64 0, .int .u64 0, .int .u64 0, .int .u64 0, .int .u64 0, .int .u64 0] 80)).alloc (.cells #[.int .u64 0, .int .u64 0, .int .u64 0, .int .u64 0, .int .u64 0, .int .u64 0, .int .u64 0, .int .u64 0] 80)
  have R := (At8.made ((w.alloc (.cells #[.int .u64 (a : Int), .int .u64 (b : Int), .int .u64 (c : Int), .int .u64 (d : Int)] 44)).alloc (.cells #[.int .u64 (p : Int), .int .u64 (q : Int), .int .u64 (r : Int), .int .u64 (s : Int)] 44)) 80 0 0 0 0 0 0 0 0 (k := w.heap.size + 1 + 1) (by simp)).alloc (.cells #[.int .u64 0, .int .u64 0, .int .u64 0, .int .u64 0, .int .u64 0, .int .u64 0, .int .u64 0, .int .u64 0] 80)
  have O := At8.made (((w.alloc (.cells #[.int .u64 (a : Int), .int .u64 (b : Int), .int .u64 (c : Int), .int .u64 (d : Int)] 44)).alloc (.cells #[.int .u64 (p : Int), .int .u64 (q : Int), .int .u64 (r : Int), .int .u64 (s : Int)] 44)).alloc (.cells #[.int .u64 0, .int .u64 0, .int .u64 0, .int .u64 0, .int .u64 0, .int .u64 0, .int .u64 0, .int .u64 0] 80)) 80 0 0 0 0 0 0 0 0 (k := w.heap.size + 1 + 1 + 1) (by simp)
  have BL : Hid (Below w.heap.size w _) := below4 w (.cells #[.int .u64 (a : Int), .int .u64 (b : Int), .int .u64 (c : Int), .int .u64 (d : Int)] 44) (.cells #[.int .u64 (p : Int), .int .u64 (q : Int), .int .u64 (r : Int), .int .u64 (s : Int)] 44) (.cells #[.int .u64 0, .int .u64 0, .int .u64 0, .int .u64 0, .int .u64 0, .int .u64 0, .int .u64 0, .int .u64 0] 80) (.cells #[.int .u64 0, .int .u64 0, .int .u64 0, .int .u64 0, .int .u64 0, .int .u64 0, .int .u64 0, .int .u64 0] 80)
  simp only [Int.natCast_zero] at R O
  generalize World.alloc _ _ = W0 at X Y R O BL ⊢
  generalize h3 : w.heap.size + 1 + 1 + 1 = k3 at O ⊢
  generalize h2 : w.heap.size + 1 + 1 = k2 at R ⊢
  generalize h1 : w.heap.size + 1 = k1 at Y ⊢
  have Q3 : Hid (w.heap.size ≤ k3) := by unfold Hid; omega
  have Q2 : Hid (w.heap.size ≤ k2) := by unfold Hid; omega
  generalize h0 : w.heap.size = k0 at X BL Q2 Q3 ⊢
  have n03 : k0 ≠ k3 := by omega
  have n13 : k1 ≠ k3 := by omega
  have n23 : k2 ≠ k3 := by omega
  have H0 : Hid (w.heap.size = k0) := h0
  clear h0 h1 h2 h3
  obtain ⟨xc0, xc1, xc2, xc3, xf⟩ := id X
  obtain ⟨yc0, yc1, yc2, yc3, yf⟩ := id Y
  obtain ⟨oc0, oc1, oc2, oc3, oc4, oc5, oc6, oc7, of⟩ := id O
  simp only [Int.natCast_zero] at oc0 oc1 oc2 oc3 oc4 oc5 oc6 oc7
  rw [rounds_succ]; go_wp2
  refine wp_loop_rounds 5 ?_
  obtain ⟨h00, l00, s00, k00, o00, j00, g00, y00, m00, b00, d00, v00, z00, ho00, hy00, e00⟩ := mulstep a p 0 0 ha hp (by decide) (by decide)
  simp only [Int.natCast_zero] at b00
  simp only [Int.natCast_zero] at d00
  rw [rounds_succ]; go_wp2
  go_quiet ((go_at_call 71; exact Calls.quiet_of_same (m00 _)))
  revert nq; intro nq00
  go_wp2_with (first | simp only [b00] | simp only [d00])
  obtain ⟨h01, l01, s01, k01, o01, j01, g01, y01, m01, b01, d01, v01, z01, ho01, hy01, e01⟩ := mulstep a q 0 y00 ha hq (by decide) hy00
  simp only [Int.natCast_zero] at d01
  rw [rounds_succ]; go_wp2
  go_quiet ((go_at_call 71; exact Calls.quiet_of_same (m01 _)))
  revert nq; intro nq01
  go_wp2_with (first | simp only [b01] | simp only [d01])
  obtain ⟨h02, l02, s02, k02, o02, j02, g02, y02, m02, b02, d02, v02, z02, ho02, hy02, e02⟩ := mulstep a r 0 y01 ha hr (by decide) hy01
  simp only [Int.natCast_zero] at d02
  rw [rounds_succ]; go_wp2
  go_quiet ((go_at_call 71; exact Calls.quiet_of_same (m02 _)))
  revert nq; intro nq02
  go_wp2_with (first | simp only [b02] | simp only [d02])
  obtain ⟨h03, l03, s03, k03, o03, j03, g03, y03, m03, b03, d03, v03, z03, ho03, hy03, e03⟩ := mulstep a s 0 y02 ha hs (by decide) hy02
  simp only [Int.natCast_zero] at d03
  rw [rounds_succ]; go_wp2
  go_quiet ((go_at_call 71; exact Calls.quiet_of_same (m03 _)))
  revert nq; intro nq03
  go_wp2_with (first | simp only [b03] | simp only [d03])
  rw [rounds_succ]; go_wp2
  have R0 := row_sum (n := val 0 0 0 0) (p := 0) (q := 0) (r := 0) (s := 0) (x := a) (l0 := o00) (l1 := o01) (l2 := o02) (l3 := o03) en rfl e00 e01 e02 e03
  have HR0 : Hid _ := R0
  clear R0
  clear e00 e01 e02 e03 m00 b00 d00 v00 z00 m01 b01 d01 v01 z01 m02 b02 d02 v02 z02 m03 b03 d03 v03 z03
  clear xc0 xc1 xc2 xc3 xf yc0 yc1 yc2 yc3 yf oc0 oc1 oc2 oc3 oc4 oc5 oc6 oc7 of
  have X0 := (((((((((X).drewN nq00).other (o := 0) n03.symm (.int .u64 (o00 : Int))).drewN nq01).other (o := 1) n03.symm (.int .u64 (o01 : Int))).drewN nq02).other (o := 2) n03.symm (.int .u64 (o02 : Int))).drewN nq03).other (o := 3) n03.symm (.int .u64 (o03 : Int))).other (o := 4) n03.symm (.int .u64 (y03 : Int))
  have Y0 := (((((((((Y).drewN nq00).other (o := 0) n13.symm (.int .u64 (o00 : Int))).drewN nq01).other (o := 1) n13.symm (.int .u64 (o01 : Int))).drewN nq02).other (o := 2) n13.symm (.int .u64 (o02 : Int))).drewN nq03).other (o := 3) n13.symm (.int .u64 (o03 : Int))).other (o := 4) n13.symm (.int .u64 (y03 : Int))
  have RR0 := (((((((((R).drewN nq00).other (o := 0) n23.symm (.int .u64 (o00 : Int))).drewN nq01).other (o := 1) n23.symm (.int .u64 (o01 : Int))).drewN nq02).other (o := 2) n23.symm (.int .u64 (o02 : Int))).drewN nq03).other (o := 3) n23.symm (.int .u64 (o03 : Int))).other (o := 4) n23.symm (.int .u64 (y03 : Int))
  have O0 := (((((((((O).drewN nq00).set0 o00).drewN nq01).set1 o01).drewN nq02).set2 o02).drewN nq03).set3 o03).set4 y03
  have BL0 : Hid (Below k0 w _) := ((belowDrewN ((belowDrewN ((belowDrewN ((belowDrewN (BL.out) nq00).setCell (p := ⟨k3, 0, none⟩) Q3.out (.int .u64 (o00 : Int))) nq01).setCell (p := ⟨k3, 1, none⟩) Q3.out (.int .u64 (o01 : Int))) nq02).setCell (p := ⟨k3, 2, none⟩) Q3.out (.int .u64 (o02 : Int))) nq03).setCell (p := ⟨k3, 3, none⟩) Q3.out (.int .u64 (o03 : Int))).setCell (p := ⟨k3, 4, none⟩) Q3.out (.int .u64 (y03 : Int))
  generalize World.setCell _ _ _ = W1 at X0 Y0 RR0 O0 BL0 ⊢
  clear X Y R O BL
  have X := X0
  have Y := Y0
  have R := RR0
  have O := O0
  have BL := BL0
  clear X0 Y0 RR0 O0 BL0
  obtain ⟨xc0, xc1, xc2, xc3, xf⟩ := id X
  obtain ⟨yc0, yc1, yc2, yc3, yf⟩ := id Y
  obtain ⟨oc0, oc1, oc2, oc3, oc4, oc5, oc6, oc7, of⟩ := id O
  simp only [Int.natCast_zero] at oc5 oc6 oc7
  rw [rounds_succ]; go_wp2
  refine wp_loop_rounds 5 ?_
  obtain ⟨h10, l10, s10, k10, o10, j10, g10, y10, m10, b10, d10, v10, z10, ho10, hy10, e10⟩ := mulstep b p o01 0 hb hp ho01 (by decide)
  simp only [Int.natCast_zero] at b10
  rw [rounds_succ]; go_wp2
  go_quiet ((go_at_call 71; exact Calls.quiet_of_same (m10 _)))
  revert nq; intro nq10
  go_wp2_with (first | simp only [b10] | simp only [d10])
  obtain ⟨h11, l11, s11, k11, o11, j11, g11, y11, m11, b11, d11, v11, z11, ho11, hy11, e11⟩ := mulstep b q o02 y10 hb hq ho02 hy10
  rw [rounds_succ]; go_wp2
  go_quiet ((go_at_call 71; exact Calls.quiet_of_same (m11 _)))
  revert nq; intro nq11
  go_wp2_with (first | simp only [b11] | simp only [d11])
  obtain ⟨h12, l12, s12, k12, o12, j12, g12, y12, m12, b12, d12, v12, z12, ho12, hy12, e12⟩ := mulstep b r o03 y11 hb hr ho03 hy11
  rw [rounds_succ]; go_wp2
  go_quiet ((go_at_call 71; exact Calls.quiet_of_same (m12 _)))
  revert nq; intro nq12
  go_wp2_with (first | simp only [b12] | simp only [d12])
  obtain ⟨h13, l13, s13, k13, o13, j13, g13, y13, m13, b13, d13, v13, z13, ho13, hy13, e13⟩ := mulstep b s y03 y12 hb hs hy03 hy12
  rw [rounds_succ]; go_wp2
  go_quiet ((go_at_call 71; exact Calls.quiet_of_same (m13 _)))
  revert nq; intro nq13
  go_wp2_with (first | simp only [b13] | simp only [d13])
  rw [rounds_succ]; go_wp2
  have R1 := row_sum (n := val o01 o02 o03 y03) (p := o01) (q := o02) (r := o03) (s := y03) (x := b) (l0 := o10) (l1 := o11) (l2 := o12) (l3 := o13) en rfl e10 e11 e12 e13
  have HR1 : Hid _ := R1
  clear R1
  clear e10 e11 e12 e13 m10 b10 d10 v10 z10 m11 b11 d11 v11 z11 m12 b12 d12 v12 z12 m13 b13 d13 v13 z13
  clear xc0 xc1 xc2 xc3 xf yc0 yc1 yc2 yc3 yf oc0 oc1 oc2 oc3 oc4 oc5 oc6 oc7 of
  have X1 := (((((((((X).drewN nq10).other (o := 1) n03.symm (.int .u64 (o10 : Int))).drewN nq11).other (o := 2) n03.symm (.int .u64 (o11 : Int))).drewN nq12).other (o := 3) n03.symm (.int .u64 (o12 : Int))).drewN nq13).other (o := 4) n03.symm (.int .u64 (o13 : Int))).other (o := 5) n03.symm (.int .u64 (y13 : Int))
  have Y1 := (((((((((Y).drewN nq10).other (o := 1) n13.symm (.int .u64 (o10 : Int))).drewN nq11).other (o := 2) n13.symm (.int .u64 (o11 : Int))).drewN nq12).other (o := 3) n13.symm (.int .u64 (o12 : Int))).drewN nq13).other (o := 4) n13.symm (.int .u64 (o13 : Int))).other (o := 5) n13.symm (.int .u64 (y13 : Int))
  have RR1 := (((((((((R).drewN nq10).other (o := 1) n23.symm (.int .u64 (o10 : Int))).drewN nq11).other (o := 2) n23.symm (.int .u64 (o11 : Int))).drewN nq12).other (o := 3) n23.symm (.int .u64 (o12 : Int))).drewN nq13).other (o := 4) n23.symm (.int .u64 (o13 : Int))).other (o := 5) n23.symm (.int .u64 (y13 : Int))
  have O1 := (((((((((O).drewN nq10).set1 o10).drewN nq11).set2 o11).drewN nq12).set3 o12).drewN nq13).set4 o13).set5 y13
  have BL1 : Hid (Below k0 w _) := ((belowDrewN ((belowDrewN ((belowDrewN ((belowDrewN (BL.out) nq10).setCell (p := ⟨k3, 1, none⟩) Q3.out (.int .u64 (o10 : Int))) nq11).setCell (p := ⟨k3, 2, none⟩) Q3.out (.int .u64 (o11 : Int))) nq12).setCell (p := ⟨k3, 3, none⟩) Q3.out (.int .u64 (o12 : Int))) nq13).setCell (p := ⟨k3, 4, none⟩) Q3.out (.int .u64 (o13 : Int))).setCell (p := ⟨k3, 5, none⟩) Q3.out (.int .u64 (y13 : Int))
  generalize World.setCell _ _ _ = W2 at X1 Y1 RR1 O1 BL1 ⊢
  clear X Y R O BL
  have X := X1
  have Y := Y1
  have R := RR1
  have O := O1
  have BL := BL1
  clear X1 Y1 RR1 O1 BL1
  obtain ⟨xc0, xc1, xc2, xc3, xf⟩ := id X
  obtain ⟨yc0, yc1, yc2, yc3, yf⟩ := id Y
  obtain ⟨oc0, oc1, oc2, oc3, oc4, oc5, oc6, oc7, of⟩ := id O
  simp only [Int.natCast_zero] at oc6 oc7
  rw [rounds_succ]; go_wp2
  refine wp_loop_rounds 5 ?_
  obtain ⟨h20, l20, s20, k20, o20, j20, g20, y20, m20, b20, d20, v20, z20, ho20, hy20, e20⟩ := mulstep c p o11 0 hc hp ho11 (by decide)
  simp only [Int.natCast_zero] at b20
  rw [rounds_succ]; go_wp2
  go_quiet ((go_at_call 71; exact Calls.quiet_of_same (m20 _)))
  revert nq; intro nq20
  go_wp2_with (first | simp only [b20] | simp only [d20])
  obtain ⟨h21, l21, s21, k21, o21, j21, g21, y21, m21, b21, d21, v21, z21, ho21, hy21, e21⟩ := mulstep c q o12 y20 hc hq ho12 hy20
  rw [rounds_succ]; go_wp2
  go_quiet ((go_at_call 71; exact Calls.quiet_of_same (m21 _)))
  revert nq; intro nq21
  go_wp2_with (first | simp only [b21] | simp only [d21])
  obtain ⟨h22, l22, s22, k22, o22, j22, g22, y22, m22, b22, d22, v22, z22, ho22, hy22, e22⟩ := mulstep c r o13 y21 hc hr ho13 hy21
  rw [rounds_succ]; go_wp2
  go_quiet ((go_at_call 71; exact Calls.quiet_of_same (m22 _)))
  revert nq; intro nq22
  go_wp2_with (first | simp only [b22] | simp only [d22])
  obtain ⟨h23, l23, s23, k23, o23, j23, g23, y23, m23, b23, d23, v23, z23, ho23, hy23, e23⟩ := mulstep c s y13 y22 hc hs hy13 hy22
  rw [rounds_succ]; go_wp2
  go_quiet ((go_at_call 71; exact Calls.quiet_of_same (m23 _)))
  revert nq; intro nq23
  go_wp2_with (first | simp only [b23] | simp only [d23])
  rw [rounds_succ]; go_wp2
  have R2 := row_sum (n := val o11 o12 o13 y13) (p := o11) (q := o12) (r := o13) (s := y13) (x := c) (l0 := o20) (l1 := o21) (l2 := o22) (l3 := o23) en rfl e20 e21 e22 e23
  have HR2 : Hid _ := R2
  clear R2
  clear e20 e21 e22 e23 m20 b20 d20 v20 z20 m21 b21 d21 v21 z21 m22 b22 d22 v22 z22 m23 b23 d23 v23 z23
  clear xc0 xc1 xc2 xc3 xf yc0 yc1 yc2 yc3 yf oc0 oc1 oc2 oc3 oc4 oc5 oc6 oc7 of
  have X2 := (((((((((X).drewN nq20).other (o := 2) n03.symm (.int .u64 (o20 : Int))).drewN nq21).other (o := 3) n03.symm (.int .u64 (o21 : Int))).drewN nq22).other (o := 4) n03.symm (.int .u64 (o22 : Int))).drewN nq23).other (o := 5) n03.symm (.int .u64 (o23 : Int))).other (o := 6) n03.symm (.int .u64 (y23 : Int))
  have Y2 := (((((((((Y).drewN nq20).other (o := 2) n13.symm (.int .u64 (o20 : Int))).drewN nq21).other (o := 3) n13.symm (.int .u64 (o21 : Int))).drewN nq22).other (o := 4) n13.symm (.int .u64 (o22 : Int))).drewN nq23).other (o := 5) n13.symm (.int .u64 (o23 : Int))).other (o := 6) n13.symm (.int .u64 (y23 : Int))
  have RR2 := (((((((((R).drewN nq20).other (o := 2) n23.symm (.int .u64 (o20 : Int))).drewN nq21).other (o := 3) n23.symm (.int .u64 (o21 : Int))).drewN nq22).other (o := 4) n23.symm (.int .u64 (o22 : Int))).drewN nq23).other (o := 5) n23.symm (.int .u64 (o23 : Int))).other (o := 6) n23.symm (.int .u64 (y23 : Int))
  have O2 := (((((((((O).drewN nq20).set2 o20).drewN nq21).set3 o21).drewN nq22).set4 o22).drewN nq23).set5 o23).set6 y23
  have BL2 : Hid (Below k0 w _) := ((belowDrewN ((belowDrewN ((belowDrewN ((belowDrewN (BL.out) nq20).setCell (p := ⟨k3, 2, none⟩) Q3.out (.int .u64 (o20 : Int))) nq21).setCell (p := ⟨k3, 3, none⟩) Q3.out (.int .u64 (o21 : Int))) nq22).setCell (p := ⟨k3, 4, none⟩) Q3.out (.int .u64 (o22 : Int))) nq23).setCell (p := ⟨k3, 5, none⟩) Q3.out (.int .u64 (o23 : Int))).setCell (p := ⟨k3, 6, none⟩) Q3.out (.int .u64 (y23 : Int))
  generalize World.setCell _ _ _ = W3 at X2 Y2 RR2 O2 BL2 ⊢
  clear X Y R O BL
  have X := X2
  have Y := Y2
  have R := RR2
  have O := O2
  have BL := BL2
  clear X2 Y2 RR2 O2 BL2
  obtain ⟨xc0, xc1, xc2, xc3, xf⟩ := id X
  obtain ⟨yc0, yc1, yc2, yc3, yf⟩ := id Y
  obtain ⟨oc0, oc1, oc2, oc3, oc4, oc5, oc6, oc7, of⟩ := id O
  simp only [Int.natCast_zero] at oc7
  rw [rounds_succ]; go_wp2
  refine wp_loop_rounds 5 ?_
  obtain ⟨h30, l30, s30, k30, o30, j30, g30, y30, m30, b30, d30, v30, z30, ho30, hy30, e30⟩ := mulstep d p o21 0 hd hp ho21 (by decide)
  simp only [Int.natCast_zero] at b30
  rw [rounds_succ]; go_wp2
  go_quiet ((go_at_call 71; exact Calls.quiet_of_same (m30 _)))
  revert nq; intro nq30
  go_wp2_with (first | simp only [b30] | simp only [d30])
  obtain ⟨h31, l31, s31, k31, o31, j31, g31, y31, m31, b31, d31, v31, z31, ho31, hy31, e31⟩ := mulstep d q o22 y30 hd hq ho22 hy30
  rw [rounds_succ]; go_wp2
  go_quiet ((go_at_call 71; exact Calls.quiet_of_same (m31 _)))
  revert nq; intro nq31
  go_wp2_with (first | simp only [b31] | simp only [d31])
  obtain ⟨h32, l32, s32, k32, o32, j32, g32, y32, m32, b32, d32, v32, z32, ho32, hy32, e32⟩ := mulstep d r o23 y31 hd hr ho23 hy31
  rw [rounds_succ]; go_wp2
  go_quiet ((go_at_call 71; exact Calls.quiet_of_same (m32 _)))
  revert nq; intro nq32
  go_wp2_with (first | simp only [b32] | simp only [d32])
  obtain ⟨h33, l33, s33, k33, o33, j33, g33, y33, m33, b33, d33, v33, z33, ho33, hy33, e33⟩ := mulstep d s y23 y32 hd hs hy23 hy32
  rw [rounds_succ]; go_wp2
  go_quiet ((go_at_call 71; exact Calls.quiet_of_same (m33 _)))
  revert nq; intro nq33
  go_wp2_with (first | simp only [b33] | simp only [d33])
  rw [rounds_succ]; go_wp2
  have R3 := row_sum (n := val o21 o22 o23 y23) (p := o21) (q := o22) (r := o23) (s := y23) (x := d) (l0 := o30) (l1 := o31) (l2 := o32) (l3 := o33) en rfl e30 e31 e32 e33
  have HR3 : Hid _ := R3
  clear R3
  clear e30 e31 e32 e33 m30 b30 d30 v30 z30 m31 b31 d31 v31 z31 m32 b32 d32 v32 z32 m33 b33 d33 v33 z33
  clear xc0 xc1 xc2 xc3 xf yc0 yc1 yc2 yc3 yf oc0 oc1 oc2 oc3 oc4 oc5 oc6 oc7 of
  have X3 := (((((((((X).drewN nq30).other (o := 3) n03.symm (.int .u64 (o30 : Int))).drewN nq31).other (o := 4) n03.symm (.int .u64 (o31 : Int))).drewN nq32).other (o := 5) n03.symm (.int .u64 (o32 : Int))).drewN nq33).other (o := 6) n03.symm (.int .u64 (o33 : Int))).other (o := 7) n03.symm (.int .u64 (y33 : Int))
  have Y3 := (((((((((Y).drewN nq30).other (o := 3) n13.symm (.int .u64 (o30 : Int))).drewN nq31).other (o := 4) n13.symm (.int .u64 (o31 : Int))).drewN nq32).other (o := 5) n13.symm (.int .u64 (o32 : Int))).drewN nq33).other (o := 6) n13.symm (.int .u64 (o33 : Int))).other (o := 7) n13.symm (.int .u64 (y33 : Int))
  have RR3 := (((((((((R).drewN nq30).other (o := 3) n23.symm (.int .u64 (o30 : Int))).drewN nq31).other (o := 4) n23.symm (.int .u64 (o31 : Int))).drewN nq32).other (o := 5) n23.symm (.int .u64 (o32 : Int))).drewN nq33).other (o := 6) n23.symm (.int .u64 (o33 : Int))).other (o := 7) n23.symm (.int .u64 (y33 : Int))
  have O3 := (((((((((O).drewN nq30).set3 o30).drewN nq31).set4 o31).drewN nq32).set5 o32).drewN nq33).set6 o33).set7 y33
  have BL3 : Hid (Below k0 w _) := ((belowDrewN ((belowDrewN ((belowDrewN ((belowDrewN (BL.out) nq30).setCell (p := ⟨k3, 3, none⟩) Q3.out (.int .u64 (o30 : Int))) nq31).setCell (p := ⟨k3, 4, none⟩) Q3.out (.int .u64 (o31 : Int))) nq32).setCell (p := ⟨k3, 5, none⟩) Q3.out (.int .u64 (o32 : Int))) nq33).setCell (p := ⟨k3, 6, none⟩) Q3.out (.int .u64 (o33 : Int))).setCell (p := ⟨k3, 7, none⟩) Q3.out (.int .u64 (y33 : Int))
  generalize World.setCell _ _ _ = W4 at X3 Y3 RR3 O3 BL3 ⊢
  clear X Y R O BL
  have X := X3
  have Y := Y3
  have R := RR3
  have O := O3
  have BL := BL3
  clear X3 Y3 RR3 O3 BL3
  obtain ⟨oc0, oc1, oc2, oc3, oc4, oc5, oc6, oc7, of⟩ := id O
  obtain ⟨rc0, rc1, rc2, rc3, rc4, rc5, rc6, rc7, rf⟩ := id R
  have z3 := O.lt
  have z2 := R.lt
  rw [rounds_succ]; go_wp2
  have RF := R.self8 o00 o10 o20 o30 o31 o32 o33 y33
  unfold set8c at RF
  refine bodyPost_ret (v := ?v) ?hr rfl ?hR
  case hr => simp [results, Try.results40, go_sem, RF.c0, RF.c1, RF.c2, RF.c3, RF.c4, RF.c5, RF.c6, RF.c7]; rfl
  refine ⟨_, rfl, ?_, o00, o10, o20, o30, o31, o32, o33, y33, rfl, ho00, ho10, ho20, ho30, ho31, ho32, ho33, hy33, ?_⟩
  · rw [H0.out]; exact below_set8c BL.out Q2.out _ _ _ _ _ _ _ _
  · rw [em]; exact four_rows HR0.out HR1.out HR2.out HR3.out
end Go.Proofs.Yticolhhalbbogae
