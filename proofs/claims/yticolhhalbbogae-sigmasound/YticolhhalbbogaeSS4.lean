import Derived.Deep.LoopGhost
import Derived.Deep.RegionHeld3
import Derived.Deep.CutRange
import Derived.Deep.DeepCutAuto
import Derived.Laws.MakeOwn
import Derived.ChangeKeysEq
import Derived.Test.YticolhhalbbogaeSS3
set_option linter.unusedVariables false
set_option linter.unusedSimpArgs false
namespace Go.Proofs.Yticolhhalbbogae
open Go.RowKit Go.Sort
variable {P : Nat} [NeZero P]
theorem u138 : (Try.prog.underlying 119).map (·.isRow) = some true := by kernel_rfl
theorem i138 : (Try.prog.info? 119).map (·.size) = some 257 := by kernel_rfl
theorem i137 : (Try.prog.info? 118).map (·.size) = some 1 := by kernel_rfl
theorem u137 : (Try.prog.underlying 118).map (·.isRow) = some false := by kernel_rfl
theorem al138 (w : World) : (Instr.alloc 119 true (.tuple #[])).run Try.prog w = .ok (.pointer (some ⟨w.heap.size, 0, none⟩)) (w.alloc (.cells (dg (fun _ => 0)).toArray 119)) := by kernel_rfl
def F115_0 : List RG.It := [.m 1 [] 0, .m 2 [] 1]
def F115_1 : List RG.It := [.m 3 [] 2]
def F115_2 : List RG.It := [.x 4 [] (.int .i64 0)]
def F115_3 : List RG.It := [.x 5 [] (.int .i64 0)]
def F115s_4 (i : Nat) : List RG.It := [.x 7 [] (.int .i64 (i : Int)), .x 8 [(7, 0)] (.bool true)]
def F115s_6 (n i c b : Nat) : List RG.It := [.x 11 [] (nv n), .x 12 [] (.int .i64 (i : Int)), .c 13 [(11, 0), (12, 1)] (.int .i64 (b : Int)), .x 14 [] (.int .i64 (c : Int)), .x 15 [(13, 2), (14, 3)] (.bool true)]
def F115s_5 (i : Nat) : List RG.It := [.x 9 [] (.int .i64 (i : Int)), .x 10 [(9, 0)] (.int .i64 ((i + 1 : Nat) : Int)), .x 5 [(10, 1)] (.int .i64 ((i + 1 : Nat) : Int))]
def F115t_4 (i : Nat) : List RG.It := [.x 7 [] (.int .i64 (i : Int)), .x 8 [(7, 0)] (.bool true)]
def F115t_6 (n i c b : Nat) : List RG.It := [.x 11 [] (nv n), .x 12 [] (.int .i64 (i : Int)), .c 13 [(11, 0), (12, 1)] (.int .i64 (b : Int)), .x 14 [] (.int .i64 (c : Int)), .x 15 [(13, 2), (14, 3)] (.bool false)]
def F115t_7 (n i c g e : Nat) : List RG.It := [.x 16 [] (nv n), .x 17 [] (.int .i64 (i : Int)), .c 18 [(16, 0), (17, 1)] (.int .i64 (e : Int)), .x 19 [] (.int .i64 (c : Int)), .x 20 [(18, 2), (19, 3)] (.int .i64 (g : Int)), .x 6 [(20, 4)] (.int .i64 (g : Int))]
def F115t_8 (g : Nat) : List RG.It := [.x 21 [] (.int .i64 (g : Int)), .x 22 [(21, 0)] (.int .i64 ((g / 16 : Nat) : Int)), .x 4 [(22, 1)] (.int .i64 ((g / 16 : Nat) : Int))]
def F115t_9 (i g : Nat) (v : Int) : List RG.It := [.x 23 [] (.int .i64 (i : Int)), .x 24 [] (.int .i64 (g : Int)), .x 25 [] (.int .i64 ((g / 16 : Nat) : Int)), .x 26 [(25, 2)] (.int .i64 (32 * ((g / 16 : Nat) : Int))), .x 27 [(24, 1), (26, 3)] (.int .i64 v), .x 28 [(27, 4)] (.int .i8 v), .s 29 [(23, 0)] (.p 2 i), .u [(29, 6), (28, 5)] 2]
def F115t_10 (i : Nat) : List RG.It := [.x 30 [] (.int .i64 (i : Int)), .x 31 [(30, 0)] (.int .i64 ((i + 4 : Nat) : Int)), .x 5 [(31, 1)] (.int .i64 ((i + 4 : Nat) : Int))]
def F115t_5 (i : Nat) : List RG.It := [.x 9 [] (.int .i64 ((i + 4 : Nat) : Int)), .x 10 [(9, 0)] (.int .i64 ((i + 4 + 1 : Nat) : Int)), .x 5 [(10, 1)] (.int .i64 ((i + 4 + 1 : Nat) : Int))]
def F115z_4 (i : Nat) : List RG.It := [.x 7 [] (.int .i64 (i : Int)), .x 8 [(7, 0)] (.bool false)]
def F115z_11 (d : Nat → Int) : List RG.It := [.x 32 [] (dv d), .u [(32, 0)] 1]
set_option maxHeartbeats 2000000 in
set_option maxRecDepth 100000 in
theorem digits_c {n : Nat} (hn : n < top) : Gives 89 #[nv n] (dv (digs n)) := by
  intro w
  go_enter Try.func89, Try.ntmps89
  refine RG.var1 (v0 := nv n) (n := 33) (by kernel_rfl) (by kernel_rfl) (by kernel_rfl) ?_
  intro a0 sl0 f0
  have hS0 := RG.St.begin w
  have M0 : RG.M w w.heap.size [] 33 [] [] [(0, (.v (nv n)))] a0 _ := ⟨hS0, sl0, ⟨f0, trivial⟩⟩
  repeat refine wp_seq ?_
  refine M0.tx F115_0 [(0, (wn n)), (1, (dg (fun _ => 0)))] [] [(wn n), (dg (fun _ => 0))] [(1, (.p 0 0)), (2, (.p 1 0))] (by kernel_rfl) (by kernel_rfl) ⟨RG.mk 0 38 fun _ _ => by kernel_rfl, RG.cert_alloc 1 rfl rfl _ rfl 119 rfl (al138), trivial⟩ ?_
  intro j1 i1 a1 w1 M1
  repeat refine wp_seq ?_
  refine M1.tx F115_1 [(0, (dg (fun _ => 0)))] [] [(wn n), (dg (fun _ => 0)), (dg (fun _ => 0))] [(1, (.p 0 0)), (2, (.p 1 0)), (3, (.p 2 0))] (by kernel_rfl) (by kernel_rfl) ⟨RG.cert_alloc 2 rfl rfl _ rfl 119 rfl (al138), trivial⟩ ?_
  intro j2 a2 w2 M2
  repeat refine wp_seq ?_
  refine M2.tx0 F115_2 [(1, (.p 0 0)), (2, (.p 1 0)), (3, (.p 2 0)), (4, (.v (.int .i64 0)))] (by kernel_rfl) ⟨RG.st fun _ _ => by kernel_rfl, trivial⟩ ?_
  intro a3 w3 M3
  repeat refine wp_seq ?_
  refine M3.tx0 F115_3 [(1, (.p 0 0)), (2, (.p 1 0)), (3, (.p 2 0)), (4, (.v (.int .i64 0))), (5, (.v (.int .i64 0)))] (by kernel_rfl) ⟨RG.st fun _ _ => by kernel_rfl, trivial⟩ ?_
  intro a4 w4 M4
  have hS4 : RG.St w w.heap.size [] [(wn n), (dg (fun _ => 0)), (dg (fun _ => 0))] [j1, i1, j2] _ := M4.st
  have sl4 := M4.sl
  have f1_4 : a4.tmps[1]? = some (.pointer (some ⟨j1, 0, none⟩)) := M4.at (s := (.p 0 0)) (by kernel_rfl)
  have f2_4 : a4.tmps[2]? = some (.pointer (some ⟨i1, 0, none⟩)) := M4.at (s := (.p 1 0)) (by kernel_rfl)
  have f3_4 : a4.tmps[3]? = some (.pointer (some ⟨j2, 0, none⟩)) := M4.at (s := (.p 2 0)) (by kernel_rfl)
  have f4_4 : a4.tmps[4]? = some (.int .i64 0) := M4.at (s := (.v (.int .i64 0))) (by kernel_rfl)
  have f5_4 : a4.tmps[5]? = some (.int .i64 0) := M4.at (s := (.v (.int .i64 0))) (by kernel_rfl)
  repeat refine wp_seq ?_
  refine wp_block ?_
  refine wp_loop_ghost (fun m a wr => ∃ (d : Nat → Int) (i c : Nat), c ≤ 1 ∧ i ≤ 261 ∧ 257 ≤ i + m ∧ dgo n m d i c = digs n ∧ RG.Sl a 33 ∧ a.tmps[1]? = some (.pointer (some ⟨j1, 0, none⟩)) ∧ a.tmps[2]? = some (.pointer (some ⟨i1, 0, none⟩)) ∧ a.tmps[3]? = some (.pointer (some ⟨j2, 0, none⟩)) ∧ a.tmps[4]? = some (.int .i64 (c : Int)) ∧ a.tmps[5]? = some (.int .i64 (i : Int)) ∧ RG.St w w.heap.size [] [wn n, dg (fun _ => 0), dg d] [j1, i1, j2] wr) 257 ⟨fun _ => 0, 0, 0, by omega, by omega, by omega, rfl, sl4, f1_4, f2_4, f3_4, f4_4, f5_4, hS4⟩ ?_
  intro m a wr
  rintro ⟨d, i, c, hc, hi2, hm, hd, sl, f1, f2, f3, f4, f5, hS⟩
  obtain ⟨b, hbv⟩ : ∃ b, n / 2 ^ i % 2 = b := ⟨_, rfl⟩
  obtain ⟨e, hev⟩ : ∃ e, n / 2 ^ i % 32 = e := ⟨_, rfl⟩
  obtain ⟨g, hgv⟩ : ∃ g, e + c = g := ⟨_, rfl⟩
  obtain ⟨v, hvv⟩ : ∃ v : Int, (g : Int) - 32 * ((g / 16 : Nat) : Int) = v := ⟨_, rfl⟩
  generalize j1 = k1 at f1 f2 f3 hS
  generalize i1 = k2 at f1 f2 f3 hS
  generalize j2 = k3 at f1 f2 f3 hS
  by_cases hi : i < 257
  · have hB1 : Gives 85 #[nv n, .int .i64 (i : Int), .int .i64 1] (.int .i64 (b : Int)) := by rw [← hbv]; exact Bits_c (c := 1) hn (by omega) (by omega)
    have hB5 : Gives 85 #[nv n, .int .i64 (i : Int), .int .i64 5] (.int .i64 (e : Int)) := by rw [← hev]; exact Bits_c (c := 5) hn (by omega) (by omega)
    have hm0 : ∃ m', m = m' + 1 := by
      cases m with
      | zero => exact absurd hm (by omega)
      | succ m' => exact ⟨m', rfl⟩
    obtain ⟨m', rfl⟩ := hm0
    rw [dgo, if_pos hi, hbv, hev, hgv, hvv] at hd
    by_cases hb : b = c
    · rw [if_pos hb] at hd
      have M0 : RG.M w w.heap.size [] 33 [(wn n), (dg (fun _ => 0)), (dg d)] [k1, k2, k3] [(1, (.p 0 0)), (2, (.p 1 0)), (3, (.p 2 0)), (4, (.v (.int .i64 (c : Int)))), (5, (.v (.int .i64 (i : Int))))] a _ := ⟨hS, sl, ⟨f1, f2, f3, f4, f5, trivial⟩⟩
      repeat refine wp_seq ?_
      refine M0.tx0 (F115s_4 i) [(1, (.p 0 0)), (2, (.p 1 0)), (3, (.p 2 0)), (4, (.v (.int .i64 (c : Int)))), (5, (.v (.int .i64 (i : Int)))), (8, (.v (.bool true)))] (by kernel_rfl) ⟨RG.st fun _ _ => by kernel_rfl, RG.cert_binc rfl .lss 3 3 7 (.int .i64 (i : Int)) (.int .i64 257) (.bool true) rfl rfl (RG.sx fun _ => by kernel_rfl) (fun w => by kernel_rfl) (lssn_t (n := 257) hi), trivial⟩ ?_
      intro a1 w1 M1
      repeat refine wp_seq ?_
      refine wp_cond_true (M1.ev (by kernel_rfl)) ?_
      refine wp_skip ?_
      refine wp_seq ?_
      refine wp_block ?_
      repeat refine wp_seq ?_
      refine M1.tx0 (F115s_6 n i c b) [(1, (.p 0 0)), (2, (.p 1 0)), (3, (.p 2 0)), (4, (.v (.int .i64 (c : Int)))), (5, (.v (.int .i64 (i : Int)))), (15, (.v (.bool true)))] (by kernel_rfl) ⟨RG.ld u85 i85 (by kernel_rfl), RG.st fun _ _ => by kernel_rfl, RG.cl (hB1) fun _ _ => by kernel_rfl, RG.st fun _ _ => by kernel_rfl, RG.cert_bin rfl .eql 3 3 13 14 (.int .i64 (b : Int)) (.int .i64 (c : Int)) (.bool true) rfl rfl (RG.sx fun _ => by kernel_rfl) (RG.sx fun _ => by kernel_rfl) (fun w => by kernel_rfl) (cmp_t hb), trivial⟩ ?_
      intro a2 w2 M2
      repeat refine wp_seq ?_
      refine wp_cond_true (M2.ev (by kernel_rfl)) ?_
      refine wp_exit ?_
      dsimp only [Exit.then, Exit.inBlock]
      rw [if_pos rfl]
      repeat refine wp_seq ?_
      refine M2.tx0 (F115s_5 i) [(1, (.p 0 0)), (2, (.p 1 0)), (3, (.p 2 0)), (4, (.v (.int .i64 (c : Int)))), (5, (.v (.int .i64 ((i + 1 : Nat) : Int))))] (by kernel_rfl) ⟨RG.st fun _ _ => by kernel_rfl, RG.cert_binc rfl .add 3 3 9 (.int .i64 (i : Int)) (.int .i64 1) (.int .i64 ((i + 1 : Nat) : Int)) rfl rfl (RG.sx fun _ => by kernel_rfl) (fun w => by kernel_rfl) (addn i 1 (by omega) (by omega)), RG.st fun _ _ => by kernel_rfl, trivial⟩ ?_
      intro a3 w3 M3
      have hS3 : RG.St w w.heap.size [] [(wn n), (dg (fun _ => 0)), (dg d)] [k1, k2, k3] _ := M3.st
      have sl3 := M3.sl
      have f1_3 : a3.tmps[1]? = some (.pointer (some ⟨k1, 0, none⟩)) := M3.at (s := (.p 0 0)) (by kernel_rfl)
      have f2_3 : a3.tmps[2]? = some (.pointer (some ⟨k2, 0, none⟩)) := M3.at (s := (.p 1 0)) (by kernel_rfl)
      have f3_3 : a3.tmps[3]? = some (.pointer (some ⟨k3, 0, none⟩)) := M3.at (s := (.p 2 0)) (by kernel_rfl)
      have f4_3 : a3.tmps[4]? = some (.int .i64 (c : Int)) := M3.at (s := (.v (.int .i64 (c : Int)))) (by kernel_rfl)
      have f5_3 : a3.tmps[5]? = some (.int .i64 ((i + 1 : Nat) : Int)) := M3.at (s := (.v (.int .i64 ((i + 1 : Nat) : Int)))) (by kernel_rfl)
      show ∃ n', _
      exact ⟨m', Nat.lt_succ_self m', d, i + 1, c, hc, by omega, by omega, hd, sl3, f1_3, f2_3, f3_3, f4_3, f5_3, hS3⟩
    · rw [if_neg hb] at hd
      have he : e < 32 := by omega
      have hpar : g % 2 = 1 := by omega
      have hg : g < 32 := by omega
      have hv : -15 ≤ v ∧ v ≤ 15 := by omega
      have hadd : ∀ w, (binOp .add 3 (.int .i64 (e : Int)) (.int .i64 (c : Int))).run Try.prog w = .ok (.int .i64 (g : Int)) w := fun w => by rw [addn e c (by omega) (by omega), hgv]
      have hsub : ∀ w, (binOp .sub 3 (.int .i64 (g : Int)) (.int .i64 (32 * ((g / 16 : Nat) : Int)))).run Try.prog w = .ok (.int .i64 v) w := fun w => by rw [sub64i _ _ (by omega) (by omega), hvv]
      have M0 : RG.M w w.heap.size [] 33 [(wn n), (dg (fun _ => 0)), (dg d)] [k1, k2, k3] [(1, (.p 0 0)), (2, (.p 1 0)), (3, (.p 2 0)), (4, (.v (.int .i64 (c : Int)))), (5, (.v (.int .i64 (i : Int))))] a _ := ⟨hS, sl, ⟨f1, f2, f3, f4, f5, trivial⟩⟩
      repeat refine wp_seq ?_
      refine M0.tx0 (F115t_4 i) [(1, (.p 0 0)), (2, (.p 1 0)), (3, (.p 2 0)), (4, (.v (.int .i64 (c : Int)))), (5, (.v (.int .i64 (i : Int)))), (8, (.v (.bool true)))] (by kernel_rfl) ⟨RG.st fun _ _ => by kernel_rfl, RG.cert_binc rfl .lss 3 3 7 (.int .i64 (i : Int)) (.int .i64 257) (.bool true) rfl rfl (RG.sx fun _ => by kernel_rfl) (fun w => by kernel_rfl) (lssn_t (n := 257) hi), trivial⟩ ?_
      intro a1 w1 M1
      repeat refine wp_seq ?_
      refine wp_cond_true (M1.ev (by kernel_rfl)) ?_
      refine wp_skip ?_
      refine wp_seq ?_
      refine wp_block ?_
      repeat refine wp_seq ?_
      refine M1.tx0 (F115t_6 n i c b) [(1, (.p 0 0)), (2, (.p 1 0)), (3, (.p 2 0)), (4, (.v (.int .i64 (c : Int)))), (5, (.v (.int .i64 (i : Int)))), (15, (.v (.bool false)))] (by kernel_rfl) ⟨RG.ld u85 i85 (by kernel_rfl), RG.st fun _ _ => by kernel_rfl, RG.cl (hB1) fun _ _ => by kernel_rfl, RG.st fun _ _ => by kernel_rfl, RG.cert_bin rfl .eql 3 3 13 14 (.int .i64 (b : Int)) (.int .i64 (c : Int)) (.bool false) rfl rfl (RG.sx fun _ => by kernel_rfl) (RG.sx fun _ => by kernel_rfl) (fun w => by kernel_rfl) (cmp_f hb), trivial⟩ ?_
      intro a2 w2 M2
      repeat refine wp_seq ?_
      refine wp_cond_false (M2.ev (by kernel_rfl)) ?_
      refine wp_skip ?_
      repeat refine wp_seq ?_
      refine M2.tx0 (F115t_7 n i c g e) [(1, (.p 0 0)), (2, (.p 1 0)), (3, (.p 2 0)), (4, (.v (.int .i64 (c : Int)))), (5, (.v (.int .i64 (i : Int)))), (6, (.v (.int .i64 (g : Int))))] (by kernel_rfl) ⟨RG.ld u85 i85 (by kernel_rfl), RG.st fun _ _ => by kernel_rfl, RG.cl (hB5) fun _ _ => by kernel_rfl, RG.st fun _ _ => by kernel_rfl, RG.cert_bin rfl .add 3 3 18 19 (.int .i64 (e : Int)) (.int .i64 (c : Int)) (.int .i64 (g : Int)) rfl rfl (RG.sx fun _ => by kernel_rfl) (RG.sx fun _ => by kernel_rfl) (fun w => by kernel_rfl) (hadd), RG.st fun _ _ => by kernel_rfl, trivial⟩ ?_
      intro a3 w3 M3
      repeat refine wp_seq ?_
      refine M3.tx0 (F115t_8 g) [(1, (.p 0 0)), (2, (.p 1 0)), (3, (.p 2 0)), (4, (.v (.int .i64 ((g / 16 : Nat) : Int)))), (5, (.v (.int .i64 (i : Int)))), (6, (.v (.int .i64 (g : Int))))] (by kernel_rfl) ⟨RG.st fun _ _ => by kernel_rfl, RG.cert_binc rfl .shr 3 132 21 (.int .i64 (g : Int)) (.int .u64 4) (.int .i64 ((g / 16 : Nat) : Int)) rfl rfl (RG.sx fun _ => by kernel_rfl) (fun w => by kernel_rfl) (shr4 g hg), RG.st fun _ _ => by kernel_rfl, trivial⟩ ?_
      intro a4 w4 M4
      repeat refine wp_seq ?_
      refine M4.tx (F115t_9 i g v) [] [(2, 7, (dg (DG.upd d i v)))] [(wn n), (dg (fun _ => 0)), (dg (DG.upd d i v))] [(1, (.p 0 0)), (2, (.p 1 0)), (3, (.p 2 0)), (4, (.v (.int .i64 ((g / 16 : Nat) : Int)))), (5, (.v (.int .i64 (i : Int))))] (by kernel_rfl) (by kernel_rfl) ⟨RG.st fun _ _ => by kernel_rfl, RG.st fun _ _ => by kernel_rfl, RG.st fun _ _ => by kernel_rfl, RG.cert_binc rfl .shl 3 132 25 (.int .i64 ((g / 16 : Nat) : Int)) (.int .u64 5) (.int .i64 (32 * ((g / 16 : Nat) : Int))) rfl rfl (RG.sx fun _ => by kernel_rfl) (fun w => by kernel_rfl) (shl5 (g / 16) (by omega)), RG.cert_bin rfl .sub 3 3 24 26 (.int .i64 (g : Int)) (.int .i64 (32 * ((g / 16 : Nat) : Int))) (.int .i64 v) rfl rfl (RG.sx fun _ => by kernel_rfl) (RG.sx fun _ => by kernel_rfl) (fun w => by kernel_rfl) (hsub), RG.cert_conv rfl 3 118 27 (.int .i64 v) (.int .i8 v) rfl rfl (RG.sx fun _ => by kernel_rfl) (cv8 v hv), RG.cert_idx rfl 119 3 23 rfl (.p 2 0) (.int .i64 (i : Int)) (RG.sx fun _ => by kernel_rfl) (RG.sx fun _ => by kernel_rfl) (fun μ w => at138z _ i hi w), RG.cert_put1 2 i rfl _ rfl 118 (.tmp 29) (.tmp 28) (.int .i8 v) rfl rfl (RG.sx fun _ => by kernel_rfl) (RG.sx fun _ => by kernel_rfl) (by show i < (dg _).length; rw [dg_length]; exact hi) (dg_set d i v) i137 rfl rfl, trivial⟩ ?_
      intro a5 w5 M5
      repeat refine wp_seq ?_
      refine M5.tx0 (F115t_10 i) [(1, (.p 0 0)), (2, (.p 1 0)), (3, (.p 2 0)), (4, (.v (.int .i64 ((g / 16 : Nat) : Int)))), (5, (.v (.int .i64 ((i + 4 : Nat) : Int))))] (by kernel_rfl) ⟨RG.st fun _ _ => by kernel_rfl, RG.cert_binc rfl .add 3 3 30 (.int .i64 (i : Int)) (.int .i64 4) (.int .i64 ((i + 4 : Nat) : Int)) rfl rfl (RG.sx fun _ => by kernel_rfl) (fun w => by kernel_rfl) (addn i 4 (by omega) (by omega)), RG.st fun _ _ => by kernel_rfl, trivial⟩ ?_
      intro a6 w6 M6
      repeat refine wp_seq ?_
      refine M6.tx0 (F115t_5 i) [(1, (.p 0 0)), (2, (.p 1 0)), (3, (.p 2 0)), (4, (.v (.int .i64 ((g / 16 : Nat) : Int)))), (5, (.v (.int .i64 ((i + 4 + 1 : Nat) : Int))))] (by kernel_rfl) ⟨RG.st fun _ _ => by kernel_rfl, RG.cert_binc rfl .add 3 3 9 (.int .i64 ((i + 4 : Nat) : Int)) (.int .i64 1) (.int .i64 ((i + 4 + 1 : Nat) : Int)) rfl rfl (RG.sx fun _ => by kernel_rfl) (fun w => by kernel_rfl) (addn (i + 4) 1 (by omega) (by omega)), RG.st fun _ _ => by kernel_rfl, trivial⟩ ?_
      intro a7 w7 M7
      have hS7 : RG.St w w.heap.size [] [(wn n), (dg (fun _ => 0)), (dg (DG.upd d i v))] [k1, k2, k3] _ := M7.st
      have sl7 := M7.sl
      have f1_7 : a7.tmps[1]? = some (.pointer (some ⟨k1, 0, none⟩)) := M7.at (s := (.p 0 0)) (by kernel_rfl)
      have f2_7 : a7.tmps[2]? = some (.pointer (some ⟨k2, 0, none⟩)) := M7.at (s := (.p 1 0)) (by kernel_rfl)
      have f3_7 : a7.tmps[3]? = some (.pointer (some ⟨k3, 0, none⟩)) := M7.at (s := (.p 2 0)) (by kernel_rfl)
      have f4_7 : a7.tmps[4]? = some (.int .i64 ((g / 16 : Nat) : Int)) := M7.at (s := (.v (.int .i64 ((g / 16 : Nat) : Int)))) (by kernel_rfl)
      have f5_7 : a7.tmps[5]? = some (.int .i64 ((i + 4 + 1 : Nat) : Int)) := M7.at (s := (.v (.int .i64 ((i + 4 + 1 : Nat) : Int)))) (by kernel_rfl)
      show ∃ n', _
      exact ⟨m', Nat.lt_succ_self m', DG.upd d i v, i + 5, g / 16, by omega, by omega, by omega, hd, sl7, f1_7, f2_7, f3_7, f4_7, f5_7, hS7⟩
  · have hD : d = digs n := by rw [← hd, dgo_end n m d i c hi]
    have M0 : RG.M w w.heap.size [] 33 [(wn n), (dg (fun _ => 0)), (dg d)] [k1, k2, k3] [(1, (.p 0 0)), (2, (.p 1 0)), (3, (.p 2 0)), (4, (.v (.int .i64 (c : Int)))), (5, (.v (.int .i64 (i : Int))))] a _ := ⟨hS, sl, ⟨f1, f2, f3, f4, f5, trivial⟩⟩
    repeat refine wp_seq ?_
    refine M0.tx0 (F115z_4 i) [(2, (.p 1 0)), (3, (.p 2 0)), (8, (.v (.bool false)))] (by kernel_rfl) ⟨RG.st fun _ _ => by kernel_rfl, RG.cert_binc rfl .lss 3 3 7 (.int .i64 (i : Int)) (.int .i64 257) (.bool false) rfl rfl (RG.sx fun _ => by kernel_rfl) (fun w => by kernel_rfl) (lssn_f (n := 257) hi), trivial⟩ ?_
    intro a1 w1 M1
    repeat refine wp_seq ?_
    refine wp_cond_false (M1.ev (by kernel_rfl)) ?_
    refine wp_exit ?_
    dsimp only [Exit.then, Exit.inBlock]
    rw [if_pos rfl]
    repeat refine wp_seq ?_
    refine M1.tx (F115z_11 d) [] [(1, 1, (dg d))] [(wn n), (dg d), (dg d)] [(2, (.p 1 0))] (by kernel_rfl) (by kernel_rfl) ⟨RG.cert_load rfl 2 0 _ rfl rfl (by kernel_rfl) 119 3 rfl (dg d) rfl (RG.sx fun _ => by kernel_rfl) (dg_sub _) u138 (by rw [dg_length]; exact i138), RG.cert_put 1 rfl _ rfl 119 (.tmp 2) (.tmp 32) rfl rfl (by show (dg _).length = (dg _).length; rw [dg_length, dg_length]) (RG.sx fun _ => by kernel_rfl) (RG.sx fun _ => by kernel_rfl) (by show _ = some (dg _).length; rw [dg_length]; exact i138) (dg_one _), trivial⟩ ?_
    intro a2 w2 M2
    have hS2 : RG.St w w.heap.size [] [(wn n), (dg d), (dg d)] [k1, k2, k3] _ := M2.st
    have sl2 := M2.sl
    have f2_2 : a2.tmps[2]? = some (.pointer (some ⟨k2, 0, none⟩)) := M2.at (s := (.p 1 0)) (by kernel_rfl)
    refine wp_ret ?_
    refine bodyPost_ret (v := dv d) (RG.results_row hS2 2 119 rfl 1 _ rfl f2_2 u138 (by rw [dg_length]; exact i138)) sl2.defers ?_
    exact ⟨_, rfl, hS2.bel.below, by rw [hD]⟩
end Go.Proofs.Yticolhhalbbogae
namespace Go.Proofs.Yticolhhalbbogae
open Go.RowKit Go.Sort
variable {P : Nat} [NeZero P]
omit [NeZero P] in
theorem tw_length (t : T3 P) : (tw t).length = 12 := rfl
omit [NeZero P] in
theorem tw_one (t : T3 P) : (tw t).all (·.oneCell') = true := rfl
/-- The odd multiples as they are made. -/
def od (x y : Fin P) : Nat → T3 P
  | 0 => raJ x y
  | q + 1 => plJ (od x y q) (twJ (raJ x y))
theorem od_J (C : Fld P) {x y : Fin P} {p : EC.Pt P} (h : EC.Pair x y p) (hp : EC.On p) : ∀ q, JacT (od x y q) (EC.zmul ((2 * q + 1 : Nat) : Int) p)
  | 0 => by
    show JacT (raJ x y) (EC.zmul 1 p)
    rw [EC.zmul_one]
    exact raJ_J C h hp
  | q + 1 => by
    have h1 := od_J C h hp q
    have h2 := (raJ_J C h hp).twice C
    have h3 := h1.plus C h2
    have e : EC.zmul ((2 * (q + 1) + 1 : Nat) : Int) p = EC.add (EC.zmul ((2 * q + 1 : Nat) : Int) p) (EC.add p p) := by
      have : EC.add p p = EC.zmul 2 p := by
        rw [show (2 : Int) = 1 + 1 by rfl, EC.zmul_add C.cur hp, EC.zmul_one]
      rw [this, ← EC.zmul_add C.cur hp]
      congr 1
    rw [e]
    exact h3
/-- A block as fill leaves it, behind m odd multiples. -/
structure Fi (x y : Fin P) (D : Nat → Int) (C0 : List Value) (off m : Nat) (C : List Value) : Prop where
  len : C.length = C0.length
  out : ∀ j, j < off ∨ off + 353 ≤ j → C[j]? = C0[j]?
  dig : ∀ j, j < 257 → C[off + 96 + j]? = some (.int .i8 (D j))
  odd : ∀ q j, q < m → j < 12 → C[off + 12 * q + j]? = (tw (od x y q))[j]?
theorem Fi.first {x y : Fin P} {D : Nat → Int} {C0 : List Value} {off : Nat} (h : off + 353 ≤ C0.length) : Fi x y D C0 off 0 (RG.rep C0 (off + 96) (dg D)) := by
  have hl : off + 96 + (dg D).length ≤ C0.length := by rw [dg_length]; omega
  refine ⟨RG.rep_length hl, fun j hj => ?_, fun j hj => ?_, fun q j hq _ => by omega⟩
  · rw [RG.rep_at hl, if_neg (by rw [dg_length]; omega)]
  · rw [RG.rep_at hl, if_pos (by rw [dg_length]; omega), show off + 96 + j - (off + 96) = j by omega, dg_at D j hj]
theorem Fi.next {x y : Fin P} {D : Nat → Int} {C0 C : List Value} {off m : Nat} (h : off + 353 ≤ C0.length) (hF : Fi x y D C0 off m C) (hm : m < 8) : Fi x y D C0 off (m + 1) (RG.rep C (off + 12 * m) (tw (od x y m))) := by
  have hlen := hF.len
  have hl : off + 12 * m + (tw (od x y m)).length ≤ C.length := by rw [tw_length]; omega
  refine ⟨by rw [RG.rep_length hl]; exact hlen, fun j hj => ?_, fun j hj => ?_, fun q j hq hj => ?_⟩
  · rw [RG.rep_at hl, if_neg (by rw [tw_length]; omega)]
    exact hF.out j hj
  · rw [RG.rep_at hl, if_neg (by rw [tw_length]; omega)]
    exact hF.dig j hj
  · rw [RG.rep_at hl]
    by_cases hqm : q = m
    · subst hqm
      rw [if_pos (by rw [tw_length]; omega), show off + 12 * q + j - (off + 12 * q) = j by omega]
    · rw [if_neg (by rw [tw_length]; omega)]
      exact hF.odd q j (by omega) hj
theorem Fi.sub {x y : Fin P} {D : Nat → Int} {C0 C : List Value} {off m q : Nat} (h : off + 353 ≤ C0.length) (hF : Fi x y D C0 off m C) (hq : q < m) (hm : m ≤ 8) : (C.drop (off + 12 * q)).take (tw (od x y q)).length = tw (od x y q) :=
  RG.sub_of (fun j hj => hF.odd q j hq (by rw [tw_length] at hj; exact hj)) (by rw [tw_length]; have := hF.len; omega)
/-- The block behind fill. -/
def fc (x y : Fin P) (D : Nat → Int) (C0 : List Value) (off : Nat) : Nat → List Value
  | 0 => RG.rep C0 (off + 96) (dg D)
  | m + 1 => RG.rep (fc x y D C0 off m) (off + 12 * m) (tw (od x y m))
theorem fc_Fi {x y : Fin P} {D : Nat → Int} {C0 : List Value} {off : Nat} (h : off + 353 ≤ C0.length) : ∀ m, m ≤ 8 → Fi x y D C0 off m (fc x y D C0 off m)
  | 0, _ => Fi.first h
  | m + 1, hm => (fc_Fi h m (by omega)).next h (by omega)
theorem Fi.uniq {x y : Fin P} {D : Nat → Int} {C0 C C' : List Value} {off : Nat} (h : Fi x y D C0 off 8 C) (h' : Fi x y D C0 off 8 C') : C = C' := by
  apply List.ext_getElem?
  intro j
  by_cases h1 : j < off ∨ off + 353 ≤ j
  · rw [h.out j h1, h'.out j h1]
  · by_cases h2 : j < off + 96
    · have e : j = off + 12 * ((j - off) / 12) + (j - off) % 12 := by omega
      rw [e, h.odd _ _ (by omega) (by omega), h'.odd _ _ (by omega) (by omega)]
    · have e : j = off + 96 + (j - off - 96) := by omega
      rw [e, h.dig _ (by omega), h'.dig _ (by omega)]
end Go.Proofs.Yticolhhalbbogae
namespace Go.Proofs.Yticolhhalbbogae
open Go.RowKit Go.Sort
variable {P : Nat} [NeZero P]
def F107a_0 : List RG.It := [.m 4 [] 1, .m 5 [] 2]
def F107b_1 (n off : Nat) (x : Fin P) (D : Nat → Int) : List RG.It := [.s 8 [] (.p 0 off), .x 9 [] (nv n), .c 10 [(9, 1)] (dv D), .s 11 [(8, 0)] (.p 0 off), .s 12 [(11, 3)] (.p 0 (off + 96)), .u [(12, 4), (10, 2)] 0]
def F107c_2 (off : Nat) (x y : Fin P) (s0 : T3 P) : List RG.It := [.s 13 [] (.p 0 off), .x 14 [] (pv x y), .c 15 [(14, 1)] (tv s0), .s 16 [(13, 0)] (.p 0 off), .s 17 [(16, 3)] (.p 0 (off + 0)), .s 18 [(17, 4)] (.p 0 ((off + 0) + 12 * 0)), .u [(18, 5), (15, 2)] 0]
def F107d_3 (off : Nat) (x : Fin P) (s0 s2 : T3 P) : List RG.It := [.s 19 [] (.p 0 off), .s 20 [(19, 0)] (.p 0 off), .s 21 [(20, 1)] (.p 0 (off + 0)), .s 22 [(21, 2)] (.p 0 ((off + 0) + 12 * 0)), .x 23 [(22, 3)] (tv s0), .c 24 [(23, 4)] (tv s2), .m 6 [] 3, .u [(6, 6), (24, 5)] 3]
def F107d_4 (x : Fin P) : List RG.It := [.x 7 [] (.int .i64 1)]
def F107e_5 (i : Nat) (x : Fin P) : List RG.It := [.x 25 [] (.int .i64 (i : Int)), .x 26 [(25, 0)] (.bool true)]
def F107e_7 (off i : Nat) (x : Fin P) (s2 s3 sp : T3 P) : List RG.It := [.s 29 [] (.p 0 off), .x 30 [] (.int .i64 (i : Int)), .s 31 [] (.p 0 off), .x 32 [] (.int .i64 (i : Int)), .x 33 [(32, 3)] (.int .i64 ((i - 1 : Nat) : Int)), .s 34 [(31, 2)] (.p 0 off), .s 35 [(34, 5)] (.p 0 (off + 0)), .s 36 [(35, 6), (33, 4)] (.p 0 ((off + 0) + 12 * (i - 1))), .x 37 [(36, 7)] (tv sp), .x 38 [] (tv s2), .c 39 [(37, 8), (38, 9)] (tv s3), .s 40 [(29, 0)] (.p 0 off), .s 41 [(40, 11)] (.p 0 (off + 0)), .s 42 [(41, 12), (30, 1)] (.p 0 ((off + 0) + 12 * i)), .u [(42, 13), (39, 10)] 0]
def F107e_6 (i : Nat) (x : Fin P) : List RG.It := [.x 27 [] (.int .i64 (i : Int)), .x 28 [(27, 0)] (.int .i64 ((i + 1 : Nat) : Int)), .x 7 [(28, 1)] (.int .i64 ((i + 1 : Nat) : Int))]
def F107f_5 (i : Nat) (x : Fin P) : List RG.It := [.x 25 [] (.int .i64 (i : Int)), .x 26 [(25, 0)] (.bool false)]
set_option maxHeartbeats 2000000 in
set_option maxRecDepth 100000 in
theorem fill_c (F : Fld P) {n : Nat} (hn : n < top) (x y : Fin P) (C0 : List Value) (kt off : Nat) (hoff : off + 353 ≤ C0.length) (w : World) (hk : kt < w.heap.size) (ht : w.there kt 0 C0.length) (hr : w.rangeAt kt 0 C0) :
    Calls Try.prog 76 #[.pointer (some ⟨kt, off, none⟩), nv n, pv x y] w (Ret fun r w' => (∃ C, Fi x y (digs n) C0 off 8 C ∧ RG.PutTo kt C0.length C w w') ∧ r = .tuple #[]) := by
  obtain ⟨D, hDe⟩ : ∃ D, digs n = D := ⟨_, rfl⟩
  have hD : Gives 89 #[nv n] (dv D) := hDe ▸ digits_c hn
  obtain ⟨s0, hs0e⟩ : ∃ s, raJ x y = s := ⟨_, rfl⟩
  have hs0 : Gives 90 #[pv x y] (tv s0) := hs0e ▸ raJ_c F x y
  obtain ⟨s2, hs2e⟩ : ∃ s, twJ s0 = s := ⟨_, rfl⟩
  have hs2 : Gives 77 #[tv s0] (tv s2) := hs2e ▸ twJ_c F s0
  obtain ⟨C1, hC1e⟩ : ∃ c, RG.rep C0 (off + 96) (dg D) = c := ⟨_, rfl⟩
  have hlD : off + 96 + (dg D).length ≤ C0.length := by rw [dg_length]; omega
  have hC1 := hC1e ▸ RG.rep_at hlD
  have hL1 : C1.length = C0.length := hC1e ▸ RG.rep_length hlD
  have F1 : Fi x y D C0 off 0 C1 := hC1e ▸ Fi.first hoff
  obtain ⟨C2, hC2e⟩ : ∃ c, RG.rep C1 (off + 0 + 12 * 0) (tw s0) = c := ⟨_, rfl⟩
  have hlS : off + 0 + 12 * 0 + (tw s0).length ≤ C1.length := by rw [tw_length]; omega
  have hC2 := hC2e ▸ RG.rep_at hlS
  have hL2 : C2.length = C1.length := hC2e ▸ RG.rep_length hlS
  have F2 : Fi x y D C0 off 1 C2 := by
    have := F1.next hoff (by decide)
    rw [← hC2e, ← hs0e]
    exact this
  have hsub0 : (C2.drop (off + 0 + 12 * 0)).take (tw s0).length = tw s0 := by
    have := F2.sub hoff (q := 0) (by decide) (by decide)
    rw [← hs0e]
    exact this
  obtain ⟨i, hi0⟩ : ∃ i : Nat, i = 0 := ⟨_, rfl⟩
  obtain ⟨s3, -⟩ : ∃ s : T3 P, s = s0 := ⟨_, rfl⟩
  obtain ⟨sp, -⟩ : ∃ s : T3 P, s = s0 := ⟨_, rfl⟩
  go_enter Try.func76, Try.ntmps76
  refine RG.var3 (v0 := .pointer (some ⟨kt, off, none⟩)) (v1 := nv n) (v2 := pv x y) (n := 43) (by kernel_rfl) (by kernel_rfl) (by kernel_rfl) (by kernel_rfl) (by kernel_rfl) ?_
  intro a0 sl0 f0 f1 f2
  have hS0 := RG.St.lent hk hr ht
  have M0 : RG.M w w.heap.size [kt] 43 [C0] [kt] [(0, (.p 0 off)), (1, (.v (nv n))), (2, (.v (pv x y)))] a0 _ := ⟨hS0, sl0, ⟨f0, f1, f2, trivial⟩⟩
  repeat refine wp_seq ?_
  refine M0.tx F107a_0 [(0, (wn n)), (1, (ws x ++ (ws y)))] [] [C0, (wn n), (ws x ++ (ws y))] [(0, (.p 0 off)), (4, (.p 1 0)), (5, (.p 2 0))] (by kernel_rfl) (by kernel_rfl) ⟨RG.mk 1 38 fun _ _ => by kernel_rfl, RG.mk 2 64 fun _ _ => by kernel_rfl, trivial⟩ ?_
  intro j1 i1 a1 w1 M1
  have hS1 : RG.St w w.heap.size [kt] [C0, (wn n), (ws x ++ (ws y))] [kt, j1, i1] _ := M1.st
  have sl1 := M1.sl
  have f0_1 : a1.tmps[0]? = some (.pointer (some ⟨kt, off, none⟩)) := M1.at (s := (.p 0 off)) (by kernel_rfl)
  have f4_1 : a1.tmps[4]? = some (.pointer (some ⟨j1, 0, none⟩)) := M1.at (s := (.p 1 0)) (by kernel_rfl)
  have f5_1 : a1.tmps[5]? = some (.pointer (some ⟨i1, 0, none⟩)) := M1.at (s := (.p 2 0)) (by kernel_rfl)
  have M1 : RG.M w w.heap.size [kt] 43 [C0, (wn n), (ws x ++ (ws y))] [kt, j1, i1] [(0, (.p 0 off)), (4, (.p 1 0)), (5, (.p 2 0))] a1 _ := ⟨hS1, sl1, ⟨f0_1, f4_1, f5_1, trivial⟩⟩
  repeat refine wp_seq ?_
  refine M1.tx (F107b_1 n off x D) [] [(0, 5, C1)] [C1, (wn n), (ws x ++ (ws y))] [(0, (.p 0 off)), (5, (.p 2 0))] (by kernel_rfl) (congrArg (fun n => [n]) hL1) ⟨RG.st fun _ _ => by kernel_rfl, RG.ld u85 i85 (by kernel_rfl), RG.cl (hD) fun _ _ => by kernel_rfl, RG.st fun _ _ => by kernel_rfl, RG.st fun _ _ => by kernel_rfl, RG.cert_putAt 0 (off + 96) rfl _ rfl 119 (.tmp 12) (.tmp 10) (dg D) rfl rfl (RG.sx fun _ => by kernel_rfl) (RG.sx fun _ => by kernel_rfl) (by show off + 96 + (dg D).length ≤ C0.length; rw [dg_length]; omega) (hC1) (by show _ = some (dg _).length; rw [dg_length]; exact i138) (dg_one _), trivial⟩ ?_
  intro a2 w2 M2
  have hS2 : RG.St w w.heap.size [kt] [C1, (wn n), (ws x ++ (ws y))] [kt, j1, i1] _ := M2.st
  have sl2 := M2.sl
  have f0_2 : a2.tmps[0]? = some (.pointer (some ⟨kt, off, none⟩)) := M2.at (s := (.p 0 off)) (by kernel_rfl)
  have f5_2 : a2.tmps[5]? = some (.pointer (some ⟨i1, 0, none⟩)) := M2.at (s := (.p 2 0)) (by kernel_rfl)
  have M2 : RG.M w w.heap.size [kt] 43 [C1, (wn n), (ws x ++ (ws y))] [kt, j1, i1] [(0, (.p 0 off)), (5, (.p 2 0))] a2 _ := ⟨hS2, sl2, ⟨f0_2, f5_2, trivial⟩⟩
  repeat refine wp_seq ?_
  refine M2.dr (by kernel_rfl) (F107c_2 off x y s0) [] [(0, 6, C2)] [C2, (wn n), (ws x ++ (ws y))] [(0, (.p 0 off))] (by kernel_rfl) (congrArg (fun n => [n]) hL2) ⟨RG.st fun _ _ => by kernel_rfl, RG.ld u109 i109 (by kernel_rfl), RG.cl (hs0) fun _ _ => by kernel_rfl, RG.st fun _ _ => by kernel_rfl, RG.st fun _ _ => by kernel_rfl, RG.cert_idxc rfl 117 17 (.int .i64 0) rfl (.p 0 (off + 0)) (RG.sx fun _ => by kernel_rfl) (fun μ w => at136 _ _ 0 (by decide) w), RG.cert_putAt 0 ((off + 0) + 12 * 0) rfl _ rfl 116 (.tmp 18) (.tmp 15) (tw s0) rfl rfl (RG.sx fun _ => by kernel_rfl) (RG.sx fun _ => by kernel_rfl) (by show off + 0 + 12 * 0 + (tw s0).length ≤ C1.length; rw [tw_length]; omega) (hC2) i117 (tw_one _), trivial⟩ ?_
  intro a3 w3 M3
  have hS3 : RG.St w w.heap.size [kt] [C2, (wn n), (ws x ++ (ws y))] [kt, j1, i1] _ := M3.st
  have sl3 := M3.sl
  have f0_3 : a3.tmps[0]? = some (.pointer (some ⟨kt, off, none⟩)) := M3.at (s := (.p 0 off)) (by kernel_rfl)
  have M3 : RG.M w w.heap.size [kt] 43 [C2, (wn n), (ws x ++ (ws y))] [kt, j1, i1] [(0, (.p 0 off))] a3 _ := ⟨hS3, sl3, ⟨f0_3, trivial⟩⟩
  repeat refine wp_seq ?_
  refine M3.tx (F107d_3 off x s0 s2) [(6, (RG.z 12))] [(3, 7, (tw s2))] [C2, (wn n), (ws x ++ (ws y)), (tw s2)] [(0, (.p 0 off)), (6, (.p 3 0))] (by kernel_rfl) (by kernel_rfl) ⟨RG.st fun _ _ => by kernel_rfl, RG.st fun _ _ => by kernel_rfl, RG.st fun _ _ => by kernel_rfl, RG.cert_idxc rfl 117 21 (.int .i64 0) rfl (.p 0 (off + 0)) (RG.sx fun _ => by kernel_rfl) (fun μ w => at136 _ _ 0 (by decide) w), RG.cert_load rfl 0 ((off + 0) + 12 * 0) _ rfl rfl (by kernel_rfl) 116 22 rfl (tw s0) rfl (RG.sx fun _ => by kernel_rfl) (hsub0) u117 i117, RG.cl (hs2) fun _ _ => by kernel_rfl, RG.mk 3 116 fun _ _ => by kernel_rfl, RG.pt i117 (by kernel_rfl), trivial⟩ ?_
  intro j4 a4 w4 M4
  repeat refine wp_seq ?_
  refine M4.tx0 (F107d_4 x) [(0, (.p 0 off)), (6, (.p 3 0)), (7, (.v (.int .i64 1)))] (by kernel_rfl) ⟨RG.st fun _ _ => by kernel_rfl, trivial⟩ ?_
  intro a5 w5 M5
  have hS5 : RG.St w w.heap.size [kt] [C2, (wn n), (ws x ++ (ws y)), (tw s2)] [kt, j1, i1, j4] _ := M5.st
  have sl5 := M5.sl
  have f0_5 : a5.tmps[0]? = some (.pointer (some ⟨kt, off, none⟩)) := M5.at (s := (.p 0 off)) (by kernel_rfl)
  have f6_5 : a5.tmps[6]? = some (.pointer (some ⟨j4, 0, none⟩)) := M5.at (s := (.p 3 0)) (by kernel_rfl)
  have f7_5 : a5.tmps[7]? = some (.int .i64 1) := M5.at (s := (.v (.int .i64 1))) (by kernel_rfl)
  subst hDe
  subst hs0e
  subst hs2e
  clear hC1 hC2 hsub0 hL1 hL2 hlD hlS
  repeat refine wp_seq ?_
  refine wp_block ?_
  refine wp_loop_ghost (fun m a wr => ∃ (i : Nat) (C : List Value), 1 ≤ i ∧ i ≤ 8 ∧ i + m = 8 ∧ Fi x y (digs n) C0 off i C ∧ RG.Sl a 43 ∧ a.tmps[0]? = some (.pointer (some ⟨kt, off, none⟩)) ∧ a.tmps[6]? = some (.pointer (some ⟨j4, 0, none⟩)) ∧ a.tmps[7]? = some (.int .i64 (i : Int)) ∧ RG.St w w.heap.size [kt] [C, wn n, ws x ++ ws y, tw (twJ (raJ x y))] [kt, j1, i1, j4] wr) 7 ⟨1, C2, by omega, by omega, by omega, F2, sl5, f0_5, f6_5, f7_5, hS5⟩ ?_
  intro m a wr
  rintro ⟨i, C1, hi1, hi8, hm, hF, sl, g0, g6, g7, hS⟩
  generalize j1 = k1 at g6 hS
  generalize i1 = k2 at g6 hS
  generalize j4 = k3 at g6 hS
  obtain ⟨D, hDe⟩ : ∃ D, digs n = D := ⟨_, rfl⟩
  rw [hDe] at hF
  obtain ⟨s0, hs0e⟩ : ∃ s, raJ x y = s := ⟨_, rfl⟩
  obtain ⟨s2, hs2e⟩ : ∃ s, twJ (raJ x y) = s := ⟨_, rfl⟩
  rw [hs2e] at hS
  obtain ⟨sp, hspe⟩ : ∃ s, od x y (i - 1) = s := ⟨_, rfl⟩
  obtain ⟨s3, hs3e⟩ : ∃ s, plJ sp s2 = s := ⟨_, rfl⟩
  have hs3 : Gives 78 #[tv sp, tv s2] (tv s3) := hs3e ▸ plJ_c F sp s2
  have hlen := hF.len
  by_cases hi : i < 8
  · have hod : od x y i = s3 := by
      obtain ⟨q, rfl⟩ : ∃ q, i = q + 1 := ⟨i - 1, by omega⟩
      rw [← hs3e, ← hspe, ← hs2e]
      rfl
    have hsubp : (C1.drop (off + 0 + 12 * (i - 1))).take (tw sp).length = tw sp := by
      have := hF.sub hoff (q := i - 1) (by omega) (by omega)
      rw [hspe] at this
      exact this
    obtain ⟨C2, hC2e⟩ : ∃ c, RG.rep C1 (off + 0 + 12 * i) (tw s3) = c := ⟨_, rfl⟩
    have hlS : off + 0 + 12 * i + (tw s3).length ≤ C1.length := by rw [tw_length]; omega
    have hC2 := hC2e ▸ RG.rep_at hlS
    have hL2 : C2.length = C1.length := hC2e ▸ RG.rep_length hlS
    have hF2 : Fi x y D C0 off (i + 1) C2 := by
      have := hF.next hoff hi
      rw [hod] at this
      rw [← hC2e]
      exact this
    have hsb : ∀ w, (binOp .sub 3 (.int .i64 (i : Int)) (.int .i64 1)).run Try.prog w = .ok (.int .i64 ((i - 1 : Nat) : Int)) w := fun w => by
      rw [sub64i _ _ (by omega) (by omega), show (i : Int) - 1 = ((i - 1 : Nat) : Int) by omega]
    clear hs0e hC2e
    have M0 : RG.M w w.heap.size [kt] 43 [C1, (wn n), (ws x ++ (ws y)), (tw s2)] [kt, k1, k2, k3] [(0, (.p 0 off)), (6, (.p 3 0)), (7, (.v (.int .i64 (i : Int))))] a _ := ⟨hS, sl, ⟨g0, g6, g7, trivial⟩⟩
    repeat refine wp_seq ?_
    refine M0.tx0 (F107e_5 i x) [(0, (.p 0 off)), (6, (.p 3 0)), (7, (.v (.int .i64 (i : Int)))), (26, (.v (.bool true)))] (by kernel_rfl) ⟨RG.st fun _ _ => by kernel_rfl, RG.cert_binc rfl .lss 3 3 25 (.int .i64 (i : Int)) (.int .i64 8) (.bool true) rfl rfl (RG.sx fun _ => by kernel_rfl) (fun w => by kernel_rfl) (lssn_t (n := 8) hi), trivial⟩ ?_
    intro a1 w1 M1
    repeat refine wp_seq ?_
    refine wp_cond_true (M1.ev (by kernel_rfl)) ?_
    refine wp_skip ?_
    refine wp_seq ?_
    refine wp_block ?_
    repeat refine wp_seq ?_
    refine M1.dr (by kernel_rfl) (F107e_7 off i x s2 s3 sp) [] [(0, 14, C2)] [C2, (wn n), (ws x ++ (ws y)), (tw s2)] [(0, (.p 0 off)), (6, (.p 3 0)), (7, (.v (.int .i64 (i : Int))))] (by kernel_rfl) (congrArg (fun n => [n]) hL2) ⟨RG.st fun _ _ => by kernel_rfl, RG.st fun _ _ => by kernel_rfl, RG.st fun _ _ => by kernel_rfl, RG.st fun _ _ => by kernel_rfl, RG.cert_binc rfl .sub 3 3 32 (.int .i64 (i : Int)) (.int .i64 1) (.int .i64 ((i - 1 : Nat) : Int)) rfl rfl (RG.sx fun _ => by kernel_rfl) (fun w => by kernel_rfl) (hsb), RG.st fun _ _ => by kernel_rfl, RG.st fun _ _ => by kernel_rfl, RG.cert_idx rfl 117 35 33 rfl (.p 0 (off + 0)) (.int .i64 ((i - 1 : Nat) : Int)) (RG.sx fun _ => by kernel_rfl) (RG.sx fun _ => by kernel_rfl) (fun μ w => at136 _ _ (i - 1) (by omega) w), RG.cert_load rfl 0 ((off + 0) + 12 * (i - 1)) _ rfl rfl (by kernel_rfl) 116 36 rfl (tw sp) rfl (RG.sx fun _ => by kernel_rfl) (hsubp) u117 i117, RG.ld u117 i117 (by kernel_rfl), RG.cl (hs3) fun _ _ => by kernel_rfl, RG.st fun _ _ => by kernel_rfl, RG.st fun _ _ => by kernel_rfl, RG.cert_idx rfl 117 41 30 rfl (.p 0 (off + 0)) (.int .i64 (i : Int)) (RG.sx fun _ => by kernel_rfl) (RG.sx fun _ => by kernel_rfl) (fun μ w => at136 _ _ i (by omega) w), RG.cert_putAt 0 ((off + 0) + 12 * i) rfl _ rfl 116 (.tmp 42) (.tmp 39) (tw s3) rfl rfl (RG.sx fun _ => by kernel_rfl) (RG.sx fun _ => by kernel_rfl) (by show off + 0 + 12 * i + (tw s3).length ≤ C1.length; rw [tw_length]; omega) (hC2) i117 (tw_one _), trivial⟩ ?_
    intro a2 w2 M2
    repeat refine wp_seq ?_
    refine M2.tx0 (F107e_6 i x) [(0, (.p 0 off)), (6, (.p 3 0)), (7, (.v (.int .i64 ((i + 1 : Nat) : Int))))] (by kernel_rfl) ⟨RG.st fun _ _ => by kernel_rfl, RG.cert_binc rfl .add 3 3 27 (.int .i64 (i : Int)) (.int .i64 1) (.int .i64 ((i + 1 : Nat) : Int)) rfl rfl (RG.sx fun _ => by kernel_rfl) (fun w => by kernel_rfl) (addn i 1 (by omega) (by omega)), RG.st fun _ _ => by kernel_rfl, trivial⟩ ?_
    intro a3 w3 M3
    have hS3 : RG.St w w.heap.size [kt] [C2, (wn n), (ws x ++ (ws y)), (tw s2)] [kt, k1, k2, k3] _ := M3.st
    have sl3 := M3.sl
    have f0_3 : a3.tmps[0]? = some (.pointer (some ⟨kt, off, none⟩)) := M3.at (s := (.p 0 off)) (by kernel_rfl)
    have f6_3 : a3.tmps[6]? = some (.pointer (some ⟨k3, 0, none⟩)) := M3.at (s := (.p 3 0)) (by kernel_rfl)
    have f7_3 : a3.tmps[7]? = some (.int .i64 ((i + 1 : Nat) : Int)) := M3.at (s := (.v (.int .i64 ((i + 1 : Nat) : Int)))) (by kernel_rfl)
    show ∃ n', _
    exact ⟨m - 1, by omega, i + 1, C2, by omega, by omega, by omega, hDe.symm ▸ hF2, sl3, f0_3, f6_3, f7_3, by rw [hs2e]; exact hS3⟩
  · have hi9 : i = 8 := by omega
    obtain ⟨C2, -⟩ : ∃ c : List Value, c = C1 := ⟨_, rfl⟩
    have M0 : RG.M w w.heap.size [kt] 43 [C1, (wn n), (ws x ++ (ws y)), (tw s2)] [kt, k1, k2, k3] [(0, (.p 0 off)), (6, (.p 3 0)), (7, (.v (.int .i64 (i : Int))))] a _ := ⟨hS, sl, ⟨g0, g6, g7, trivial⟩⟩
    repeat refine wp_seq ?_
    refine M0.tx0 (F107f_5 i x) [(0, (.p 0 off)), (6, (.p 3 0)), (7, (.v (.int .i64 (i : Int)))), (26, (.v (.bool false)))] (by kernel_rfl) ⟨RG.st fun _ _ => by kernel_rfl, RG.cert_binc rfl .lss 3 3 25 (.int .i64 (i : Int)) (.int .i64 8) (.bool false) rfl rfl (RG.sx fun _ => by kernel_rfl) (fun w => by kernel_rfl) (lssn_f (n := 8) hi), trivial⟩ ?_
    intro a1 w1 M1
    repeat refine wp_seq ?_
    refine wp_cond_false (M1.ev (by kernel_rfl)) ?_
    refine wp_exit ?_
    dsimp only [Exit.then, Exit.inBlock]
    rw [if_pos rfl]
    have hS1 : RG.St w w.heap.size [kt] [C1, (wn n), (ws x ++ (ws y)), (tw s2)] [kt, k1, k2, k3] _ := M1.st
    have sl1 := M1.sl
    have f0_1 : a1.tmps[0]? = some (.pointer (some ⟨kt, off, none⟩)) := M1.at (s := (.p 0 off)) (by kernel_rfl)
    have f6_1 : a1.tmps[6]? = some (.pointer (some ⟨k3, 0, none⟩)) := M1.at (s := (.p 3 0)) (by kernel_rfl)
    have f7_1 : a1.tmps[7]? = some (.int .i64 (i : Int)) := M1.at (s := (.v (.int .i64 (i : Int)))) (by kernel_rfl)
    exact ⟨sl1.defers, .tuple #[], RG.results_none rfl, _, rfl, ⟨C1, hDe.symm ▸ hi9 ▸ hF, hS1.putTo hF.len⟩, rfl⟩
end Go.Proofs.Yticolhhalbbogae
namespace Go.Proofs.Yticolhhalbbogae
open Go.RowKit Go.Sort
variable {P : Nat} [NeZero P]
def F108n_0 : List RG.It := [.m 4 [] 0]
def F108n_1 (k : Nat) : List RG.It := [.x 5 [] (.int .i8 (-(2 * (k : Int) + 1))), .x 6 [(5, 0)] (.bool true)]
def F108n_2 (kt o k : Nat) (s s2 : T3 P) : List RG.It := [.x 7 [] (.pointer (some ⟨kt, o, none⟩)), .x 8 [] (.int .i8 (-(2 * (k : Int) + 1))), .x 9 [(8, 1)] (.int .i8 (2 * (k : Int) + 1)), .x 10 [(9, 2)] (.int .i8 (k : Int)), .x 11 [(7, 0)] (.pointer (some ⟨kt, o, none⟩)), .x 12 [(11, 4)] (.pointer (some ⟨kt, (o + 0), none⟩)), .x 13 [(12, 5), (10, 3)] (.pointer (some ⟨kt, ((o + 0) + 12 * k), none⟩)), .x 14 [(13, 6)] (tv s), .c 15 [(14, 7)] (tv s2), .u [(15, 8)] 0]
def F108p_0 : List RG.It := [.m 4 [] 0]
def F108p_1 (k : Nat) : List RG.It := [.x 5 [] (.int .i8 (2 * (k : Int) + 1)), .x 6 [(5, 0)] (.bool false)]
def F108p_3 (kt o k : Nat) (s : T3 P) : List RG.It := [.x 16 [] (.pointer (some ⟨kt, o, none⟩)), .x 17 [] (.int .i8 (2 * (k : Int) + 1)), .x 18 [(17, 1)] (.int .i8 (k : Int)), .x 19 [(16, 0)] (.pointer (some ⟨kt, o, none⟩)), .x 20 [(19, 3)] (.pointer (some ⟨kt, (o + 0), none⟩)), .x 21 [(20, 4), (18, 2)] (.pointer (some ⟨kt, ((o + 0) + 12 * k), none⟩)), .x 22 [(21, 5)] (tv s), .u [(22, 6)] 0]
set_option maxHeartbeats 2000000 in
set_option maxRecDepth 100000 in
theorem times_n (F : Fld P) (kt o k : Nat) (hq : k < 8) (s : T3 P) (w : World) (hk : kt < w.heap.size) (hr : w.rangeAt kt (o + 0 + 12 * k) (tw s)) : Calls Try.prog 79 #[(.pointer (some ⟨kt, o, none⟩)), (.int .i8 (-(2 * (k : Int) + 1)))] w (Ret fun e w' => Below w.heap.size w w' ∧ e = tv (opJ s)) := by
  obtain ⟨s2, hs2e⟩ : ∃ s2, opJ s = s2 := ⟨_, rfl⟩
  have hs2 : Gives 96 #[tv s] (tv s2) := hs2e ▸ opJ_c F s
  have hlss : ∀ w, (binOp .lss 118 (.int .i8 (-(2 * (k : Int) + 1))) (.int .i8 0)).run Try.prog w = .ok (.bool true) w := fun w => by
    have h1 : -(2 * (k : Int) + 1) < 0 := by omega
    go_simp
    try omega
  have hneg : ∀ w, (Op.unary .neg (.int .i8 (-(2 * (k : Int) + 1)))).run Try.prog w = .ok (.int .i8 (2 * (k : Int) + 1)) w := fun w => by
    rw [i8neg _ (by omega), Int.neg_neg]
  go_enter Try.func79, Try.ntmps79
  refine RG.var2 (v0 := (.pointer (some ⟨kt, o, none⟩))) (v1 := (.int .i8 (-(2 * (k : Int) + 1)))) (n := 23) (by kernel_rfl) (by kernel_rfl) (by kernel_rfl) (by kernel_rfl) ?_
  intro a0 sl0 f0 f1
  have hS0 := RG.St.begin w
  have M0 : RG.M w w.heap.size [] 23 [] [] [(0, (.v (.pointer (some ⟨kt, o, none⟩)))), (1, (.v (.int .i8 (-(2 * (k : Int) + 1)))))] a0 _ := ⟨hS0, sl0, ⟨f0, f1, trivial⟩⟩
  repeat refine wp_seq ?_
  refine M0.tx F108n_0 [(0, (RG.z 12))] [] [(RG.z 12)] [(0, (.v (.pointer (some ⟨kt, o, none⟩)))), (1, (.v (.int .i8 (-(2 * (k : Int) + 1))))), (4, (.p 0 0))] (by kernel_rfl) (by kernel_rfl) ⟨RG.mk 0 116 fun _ _ => by kernel_rfl, trivial⟩ ?_
  intro j1 a1 w1 M1
  repeat refine wp_seq ?_
  refine M1.tx0 (F108n_1 k) [(0, (.v (.pointer (some ⟨kt, o, none⟩)))), (1, (.v (.int .i8 (-(2 * (k : Int) + 1))))), (4, (.p 0 0)), (6, (.v (.bool true)))] (by kernel_rfl) ⟨RG.st fun _ _ => by kernel_rfl, RG.cert_binc rfl .lss 118 118 5 (.int .i8 (-(2 * (k : Int) + 1))) (.int .i8 0) (.bool true) rfl rfl (RG.sx fun _ => by kernel_rfl) (fun w => by kernel_rfl) (hlss), trivial⟩ ?_
  intro a2 w2 M2
  repeat refine wp_seq ?_
  refine wp_cond_true (M2.ev (by kernel_rfl)) ?_
  repeat refine wp_seq ?_
  refine M2.tx (F108n_2 kt o k s s2) [] [(0, 9, (tw s2))] [(tw s2)] [(4, (.p 0 0))] (by kernel_rfl) (by kernel_rfl) ⟨RG.st fun _ _ => by kernel_rfl, RG.st fun _ _ => by kernel_rfl, RG.cert_un rfl .neg 118 8 (.int .i8 (-(2 * (k : Int) + 1))) (.int .i8 (2 * (k : Int) + 1)) rfl rfl (RG.sx fun _ => by kernel_rfl) (hneg), RG.cert_binc rfl .quo 118 118 9 (.int .i8 (2 * (k : Int) + 1)) (.int .i8 2) (.int .i8 (k : Int)) rfl rfl (RG.sx fun _ => by kernel_rfl) (fun w => by kernel_rfl) (i8quo k hq), RG.st fun _ _ => by kernel_rfl, RG.st fun _ _ => by kernel_rfl, RG.cert_idx rfl 117 12 10 rfl (.v (.pointer (some ⟨kt, (o + 0), none⟩))) (.int .i8 (k : Int)) (RG.sx fun _ => by kernel_rfl) (RG.sx fun _ => by kernel_rfl) (fun μ w => at136b _ _ k hq w), RG.cert_loadB rfl kt ((o + 0) + 12 * k) hk List.not_mem_nil 116 13 rfl (tw s) rfl (RG.sx fun _ => by kernel_rfl) hr u117 i117, RG.cl (hs2) fun _ _ => by kernel_rfl, RG.pt i117 (by kernel_rfl), trivial⟩ ?_
  intro a3 w3 M3
  have hS3 : RG.St w w.heap.size [] [(tw s2)] [j1] _ := M3.st
  have sl3 := M3.sl
  have f4_3 : a3.tmps[4]? = some (.pointer (some ⟨j1, 0, none⟩)) := M3.at (s := (.p 0 0)) (by kernel_rfl)
  refine wp_ret ?_
  refine bodyPost_ret (v := tv s2) (RG.results_row hS3 4 116 rfl 0 _ rfl f4_3 u117 i117) sl3.defers ?_
  exact ⟨_, rfl, hS3.bel.below, by rw [hs2e]⟩
set_option maxHeartbeats 2000000 in
set_option maxRecDepth 100000 in
theorem times_p (F : Fld P) (kt o k : Nat) (hq : k < 8) (s : T3 P) (w : World) (hk : kt < w.heap.size) (hr : w.rangeAt kt (o + 0 + 12 * k) (tw s)) : Calls Try.prog 79 #[(.pointer (some ⟨kt, o, none⟩)), (.int .i8 (2 * (k : Int) + 1))] w (Ret fun e w' => Below w.heap.size w w' ∧ e = tv s) := by
  obtain ⟨s2, hs2e⟩ : ∃ s2, opJ s = s2 := ⟨_, rfl⟩
  have hs2 : Gives 96 #[tv s] (tv s2) := hs2e ▸ opJ_c F s
  have hlss : ∀ w, (binOp .lss 118 (.int .i8 (2 * (k : Int) + 1)) (.int .i8 0)).run Try.prog w = .ok (.bool false) w := fun w => by
    have h1 : ¬ 2 * (k : Int) + 1 < 0 := by omega
    go_simp
    try omega
  have hneg : ∀ w, (Op.unary .neg (.int .i8 (-(2 * (k : Int) + 1)))).run Try.prog w = .ok (.int .i8 (2 * (k : Int) + 1)) w := fun w => by
    rw [i8neg _ (by omega), Int.neg_neg]
  go_enter Try.func79, Try.ntmps79
  refine RG.var2 (v0 := (.pointer (some ⟨kt, o, none⟩))) (v1 := (.int .i8 (2 * (k : Int) + 1))) (n := 23) (by kernel_rfl) (by kernel_rfl) (by kernel_rfl) (by kernel_rfl) ?_
  intro a0 sl0 f0 f1
  have hS0 := RG.St.begin w
  have M0 : RG.M w w.heap.size [] 23 [] [] [(0, (.v (.pointer (some ⟨kt, o, none⟩)))), (1, (.v (.int .i8 (2 * (k : Int) + 1))))] a0 _ := ⟨hS0, sl0, ⟨f0, f1, trivial⟩⟩
  repeat refine wp_seq ?_
  refine M0.tx F108p_0 [(0, (RG.z 12))] [] [(RG.z 12)] [(0, (.v (.pointer (some ⟨kt, o, none⟩)))), (1, (.v (.int .i8 (2 * (k : Int) + 1)))), (4, (.p 0 0))] (by kernel_rfl) (by kernel_rfl) ⟨RG.mk 0 116 fun _ _ => by kernel_rfl, trivial⟩ ?_
  intro j1 a1 w1 M1
  repeat refine wp_seq ?_
  refine M1.tx0 (F108p_1 k) [(0, (.v (.pointer (some ⟨kt, o, none⟩)))), (1, (.v (.int .i8 (2 * (k : Int) + 1)))), (4, (.p 0 0)), (6, (.v (.bool false)))] (by kernel_rfl) ⟨RG.st fun _ _ => by kernel_rfl, RG.cert_binc rfl .lss 118 118 5 (.int .i8 (2 * (k : Int) + 1)) (.int .i8 0) (.bool false) rfl rfl (RG.sx fun _ => by kernel_rfl) (fun w => by kernel_rfl) (hlss), trivial⟩ ?_
  intro a2 w2 M2
  repeat refine wp_seq ?_
  refine wp_cond_false (M2.ev (by kernel_rfl)) ?_
  refine wp_skip ?_
  repeat refine wp_seq ?_
  refine M2.tx (F108p_3 kt o k s) [] [(0, 7, (tw s))] [(tw s)] [(4, (.p 0 0))] (by kernel_rfl) (by kernel_rfl) ⟨RG.st fun _ _ => by kernel_rfl, RG.st fun _ _ => by kernel_rfl, RG.cert_binc rfl .quo 118 118 17 (.int .i8 (2 * (k : Int) + 1)) (.int .i8 2) (.int .i8 (k : Int)) rfl rfl (RG.sx fun _ => by kernel_rfl) (fun w => by kernel_rfl) (i8quo k hq), RG.st fun _ _ => by kernel_rfl, RG.st fun _ _ => by kernel_rfl, RG.cert_idx rfl 117 20 18 rfl (.v (.pointer (some ⟨kt, (o + 0), none⟩))) (.int .i8 (k : Int)) (RG.sx fun _ => by kernel_rfl) (RG.sx fun _ => by kernel_rfl) (fun μ w => at136b _ _ k hq w), RG.cert_loadB rfl kt ((o + 0) + 12 * k) hk List.not_mem_nil 116 21 rfl (tw s) rfl (RG.sx fun _ => by kernel_rfl) hr u117 i117, RG.pt i117 (by kernel_rfl), trivial⟩ ?_
  intro a3 w3 M3
  have hS3 : RG.St w w.heap.size [] [(tw s)] [j1] _ := M3.st
  have sl3 := M3.sl
  have f4_3 : a3.tmps[4]? = some (.pointer (some ⟨j1, 0, none⟩)) := M3.at (s := (.p 0 0)) (by kernel_rfl)
  refine wp_ret ?_
  refine bodyPost_ret (v := tv s) (RG.results_row hS3 4 116 rfl 0 _ rfl f4_3 u117 i117) sl3.defers ?_
  exact ⟨_, rfl, hS3.bel.below, rfl⟩
end Go.Proofs.Yticolhhalbbogae
namespace Go.Proofs.Yticolhhalbbogae
open Go.RowKit Go.Sort
variable {P : Nat} [NeZero P]
/-- A term times a digit. -/
def tmJ (x y : Fin P) (d : Int) : T3 P := if d < 0 then opJ (od x y ((-d).toNat / 2)) else od x y (d.toNat / 2)
theorem tmJ_J (C : Fld P) {x y : Fin P} {p : EC.Pt P} (h : EC.Pair x y p) (hp : EC.On p) {d : Int} (hd : d % 2 = 1) : JacT (tmJ x y d) (EC.zmul d p) := by
  unfold tmJ
  by_cases hn : d < 0
  · rw [if_pos hn]
    have h1 := (od_J C h hp ((-d).toNat / 2)).neg
    rw [← EC.zmul_neg C.cur hp] at h1
    rw [show -((2 * ((-d).toNat / 2) + 1 : Nat) : Int) = d by omega] at h1
    exact h1
  · rw [if_neg hn]
    have h1 := od_J C h hp (d.toNat / 2)
    rw [show ((2 * (d.toNat / 2) + 1 : Nat) : Int) = d by omega] at h1
    exact h1
/-- What a place adds, of i terms. -/
def inn (ns : Nat → Nat) (xs ys : Nat → Fin P) (st : T3 P) (place : Nat) : Nat → T3 P
  | 0 => st
  | i + 1 => if digs (ns i) place = 0 then inn ns xs ys st place i else plJ (inn ns xs ys st place i) (tmJ (xs i) (ys i) (digs (ns i) place))
/-- The sum behind m places. -/
def sumJ (ns : Nat → Nat) (xs ys : Nat → Fin P) (N : Nat) : Nat → T3 P
  | 0 => (0, 0, 0)
  | m + 1 => inn ns xs ys (twJ (sumJ ns xs ys N m)) (256 - m) N
theorem inn_J (C : Fld P) {ns : Nat → Nat} {xs ys : Nat → Fin P} {p : Nat → EC.Pt P} {N : Nat} (hns : ∀ i, i < N → ns i < 2 ^ 256) (hp : ∀ i, i < N → EC.Pair (xs i) (ys i) (p i)) (ho : ∀ i, i < N → EC.On (p i)) {st : T3 P} {g : Nat → Int} {place : Nat}
    (h : JacT st (EC.tot p N g)) : ∀ i, i ≤ N → JacT (inn ns xs ys st place i) (EC.tot p N (fun j => if j < i then g j + digs (ns j) place else g j))
  | 0, _ => by
    have : EC.tot p N (fun j => if j < 0 then g j + digs (ns j) place else g j) = EC.tot p N g := EC.tot_congr N fun j _ => if_neg (by omega)
    rw [this]
    exact h
  | i + 1, hi => by
    have ih := inn_J C hns hp ho (place := place) h i (by omega)
    have e : EC.tot p N (fun j => if j < i + 1 then g j + digs (ns j) place else g j) = EC.add (EC.tot p N (fun j => if j < i then g j + digs (ns j) place else g j)) (EC.zmul (digs (ns i) place) (p i)) := by
      rw [← EC.tot_upd C.cur _ i (digs (ns i) place) N (by omega) ho]
      refine EC.tot_congr N fun j _ => ?_
      by_cases h1 : j = i
      · subst h1
        rw [if_pos (by omega), if_pos rfl, if_neg (by omega)]
      · rw [if_neg h1]
        by_cases h2 : j < i
        · rw [if_pos (by omega), if_pos h2]
        · rw [if_neg (by omega), if_neg h2]
    rw [e]
    unfold inn
    by_cases hz : digs (ns i) place = 0
    · rw [if_pos hz, hz, EC.zmul_zero, EC.add_none]
      exact ih
    · rw [if_neg hz]
      obtain ⟨q, c, -, hD⟩ := digs_DI (hns i (by omega))
      rcases hD.ho place with h1 | h1
      · exact absurd h1 hz
      · exact ih.plus C (tmJ_J C (hp i (by omega)) (ho i (by omega)) h1.1)
theorem sumJ_J (C : Fld P) {ns : Nat → Nat} {xs ys : Nat → Fin P} {p : Nat → EC.Pt P} {N : Nat} (hns : ∀ i, i < N → ns i < 2 ^ 256) (hp : ∀ i, i < N → EC.Pair (xs i) (ys i) (p i)) (ho : ∀ i, i < N → EC.On (p i)) :
    ∀ m, m ≤ 257 → JacT (sumJ ns xs ys N m) (EC.tot p N (fun j => DG.hor (digs (ns j)) m))
  | 0, _ => by
    rw [show EC.tot p N (fun j => DG.hor (digs (ns j)) 0) = .none from EC.tot_zero p N (fun _ _ => rfl)]
    exact JacT.none
  | m + 1, hm => by
    have ih := (sumJ_J C hns hp ho m (by omega)).twice C
    rw [← EC.tot_twice C.cur _ N ho] at ih
    have h1 := inn_J C hns hp ho (place := 256 - m) ih N (Nat.le_refl _)
    have e : EC.tot p N (fun j => DG.hor (digs (ns j)) (m + 1)) = EC.tot p N (fun j => if j < N then 2 * DG.hor (digs (ns j)) m + digs (ns j) (256 - m) else 2 * DG.hor (digs (ns j)) m) :=
      EC.tot_congr N fun j hj => by rw [if_pos hj]; rfl
    rw [e]
    exact h1
theorem sumJ_all (C : Fld P) {ns : Nat → Nat} {xs ys : Nat → Fin P} {p : Nat → EC.Pt P} {N : Nat} (hns : ∀ i, i < N → ns i < 2 ^ 256) (hp : ∀ i, i < N → EC.Pair (xs i) (ys i) (p i)) (ho : ∀ i, i < N → EC.On (p i)) :
    JacT (sumJ ns xs ys N 257) (EC.tot p N (fun j => (ns j : Int))) := by
  have h := sumJ_J C hns hp ho 257 (Nat.le_refl _)
  have e : EC.tot p N (fun j => (ns j : Int)) = EC.tot p N (fun j => DG.hor (digs (ns j)) 257) := EC.tot_congr N fun j hj => by
    obtain ⟨q, c, hq, hD⟩ := digs_DI (hns j hj)
    exact (DG.hor_all hD hq).symm
  rw [e]
  exact h
/-- The block of terms, i of them filled. -/
def cc (ns : Nat → Nat) (xs ys : Nat → Fin P) (C0 : List Value) : Nat → List Value
  | 0 => C0
  | i + 1 => fc (xs i) (ys i) (digs (ns i)) (cc ns xs ys C0 i) (353 * i) 8
theorem cc_at {ns : Nat → Nat} {xs ys : Nat → Fin P} {C0 : List Value} {N : Nat} (hl : C0.length = 353 * N) : ∀ i, i ≤ N → (cc ns xs ys C0 i).length = 353 * N ∧
    ∀ j, j < i → (∀ q, q < 257 → (cc ns xs ys C0 i)[353 * j + 96 + q]? = some (.int .i8 (digs (ns j) q))) ∧ ∀ q r, q < 8 → r < 12 → (cc ns xs ys C0 i)[353 * j + 12 * q + r]? = (tw (od (xs j) (ys j) q))[r]?
  | 0, _ => ⟨hl, fun j hj => by omega⟩
  | i + 1, hi => by
    obtain ⟨h1, h2⟩ := cc_at hl i (by omega)
    have hF := fc_Fi (x := xs i) (y := ys i) (D := digs (ns i)) (C0 := cc ns xs ys C0 i) (off := 353 * i) (by rw [h1]; omega) 8 (Nat.le_refl _)
    refine ⟨by rw [← h1]; exact hF.len, fun j hj => ?_⟩
    by_cases hji : j = i
    · subst hji
      exact ⟨hF.dig, fun q r hq hr => hF.odd q r hq hr⟩
    · obtain ⟨g1, g2⟩ := h2 j (by omega)
      exact ⟨fun q hq => (hF.out _ (by omega)).trans (g1 q hq), fun q r hq hr => (hF.out _ (by omega)).trans (g2 q r hq hr)⟩
theorem mk135 (N : Nat) (hN : N ≤ 512) : ∃ C0 : List Value, C0.length = 353 * N ∧ ∀ w : World, (Instr.makeSlice 113 (.int .i64 (N : Int)) (.int .i64 (N : Int))).run Try.prog w = .ok (.slice (some ⟨w.heap.size, 0, none⟩) N N) (w.alloc (.cells C0.toArray 121)) := by
  have hu : Try.prog.underlying 113 = some (.slice 121) := by kernel_rfl
  have hi : (Try.prog.info? 121).map (fun i => (i.size, decide (i.bytes ≤ 4000), i.zero.isSome)) = some (353, true, true) := by kernel_rfl
  obtain ⟨i, hi1, hi2⟩ := Option.map_eq_some_iff.1 hi
  simp only [Prod.mk.injEq, decide_eq_true_eq] at hi2
  obtain ⟨h1, h2, h3⟩ := hi2
  obtain ⟨z, hz⟩ := Option.isSome_iff_exists.1 h3
  refine ⟨(madeCells z.cells (N * 353)).toList, by rw [Array.length_toList, size_madeCells, Nat.mul_comm], fun w => ?_⟩
  have hb : (i.bytes : Int) * (N : Int) ≤ 281474976710656 := by
    have : i.bytes * N ≤ 4000 * 512 := Nat.mul_le_mul h2 hN
    have h5 : ((i.bytes * N : Nat) : Int) ≤ 281474976710656 := by omega
    rwa [Int.natCast_mul] at h5
  have := run_make (P := Try.prog) w 113 121 i z hu hi1 hz .i64 .i64 (N : Int) (N : Int) (by omega) (by omega) hb (by omega)
  rw [Int.toNat_natCast, h1] at this
  rw [Array.toArray_toList]
  exact this
/-- Fill, as a call that writes into a block. -/
theorem fill_put (F : Fld P) {n : Nat} (hn : n < top) (x y : Fin P) (C0 : List Value) (kt off : Nat) (hoff : off + 353 ≤ C0.length) (w : World) (ht : w.there kt 0 C0.length) (hr : w.rangeAt kt 0 C0) :
    Calls Try.prog 76 #[.pointer (some ⟨kt, off, none⟩), nv n, pv x y] w (Ret fun r w' => RG.PutTo kt C0.length (fc x y (digs n) C0 off 8) w w' ∧ r = .tuple #[]) := by
  have hk : kt < w.heap.size := by
    have h1 := (ht 0 (by omega)).1
    exact Classical.byContradiction fun hn => by
      have h2 : w.heap[kt]? = none := Array.getElem?_eq_none (by omega)
      simp [World.cell?, h2] at h1
  refine (fill_c F hn x y C0 kt off hoff w hk ht hr).mono ?_
  rintro e w' ⟨v, rfl, ⟨C, hF, hP⟩, rfl⟩
  refine ⟨_, rfl, ?_, rfl⟩
  rw [(fc_Fi hoff 8 (Nat.le_refl _)).uniq hF]
  exact hP
/-- Times, at a digit. -/
theorem times_d (F : Fld P) (kt o : Nat) (x y : Fin P) {d : Int} (hd : d % 2 = 1) (hd2 : -15 ≤ d ∧ d ≤ 15) (w : World) (hk : kt < w.heap.size) (hr : ∀ q, q < 8 → w.rangeAt kt (o + 0 + 12 * q) (tw (od x y q))) :
    Calls Try.prog 79 #[.pointer (some ⟨kt, o, none⟩), .int .i8 d] w (Ret fun e w' => Below w.heap.size w w' ∧ e = tv (tmJ x y d)) := by
  unfold tmJ
  by_cases hn : d < 0
  · rw [if_pos hn]
    have h1 := times_n F kt o ((-d).toNat / 2) (by omega) (od x y ((-d).toNat / 2)) w hk (hr _ (by omega))
    rw [show -(2 * (((-d).toNat / 2 : Nat) : Int) + 1) = d by omega] at h1
    exact h1
  · rw [if_neg hn]
    have h1 := times_p F kt o (d.toNat / 2) (by omega) (od x y (d.toNat / 2)) w hk (hr _ (by omega))
    rw [show 2 * ((d.toNat / 2 : Nat) : Int) + 1 = d by omega] at h1
    exact h1
end Go.Proofs.Yticolhhalbbogae
namespace Go.Proofs.Yticolhhalbbogae
open Go.RowKit Go.Sort
variable {P : Nat} [NeZero P]
theorem al117 {P : Nat} [NeZero P] (w : World) : (Instr.alloc 116 true (.tuple #[])).run Try.prog w = .ok (.pointer (some ⟨w.heap.size, 0, none⟩)) (w.alloc (.cells (tw ((0, 0, 0) : T3 P)).toArray 116)) := by
  show _ = Result.ok _ (w.alloc (.cells (ws (0 : Fin P) ++ (ws (0 : Fin P) ++ ws (0 : Fin P))).toArray 116))
  rw [← ws_zero]
  kernel_rfl
theorem ne8_f (w : World) : (binOp .neq 118 (.int .i8 0) (.int .i8 0)).run Try.prog w = .ok (.bool false) w := by kernel_rfl
theorem ne8_t {d : Int} (h : ¬ d = 0) (w : World) : (binOp .neq 118 (.int .i8 d) (.int .i8 0)).run Try.prog w = .ok (.bool true) w := by
  go_simp
theorem sub1' (q : Nat) (hq : q < 1000) (w : World) : (binOp .sub 3 (.int .i64 (q : Int)) (.int .i64 1)).run Try.prog w = .ok (.int .i64 ((q : Int) - 1)) w := sub64i _ _ (by omega) (by omega) w
theorem geq0' (i : Nat) (w : World) : (binOp .geq 3 (.int .i64 (i : Int)) (.int .i64 0)).run Try.prog w = .ok (.bool true) w := by
  go_simp
def F82a_0 : List RG.It := [.m 4 [] 0]
def F82a_1 (N kn : Nat) (s : T3 P) : List RG.It := [.x 11 [] (.slice (some ⟨kn, 0, none⟩) N N), .x 12 [(11, 0)] (.int .i64 (N : Int)), ⟨some 13, [(12, 1)], (.s 1 N N), .make 1⟩, .s 5 [(13, 2)] (.s 1 N N)]
def F82a_2 (N : Nat) (s : T3 P) : List RG.It := [.s 14 [] (.s 1 N N), .x 15 [(14, 0)] (.int .i64 (N : Int)), .x 16 [] (.int .i64 0)]
def F82b_3 : List RG.It := [.x 17 [] (.bool true)]
def F82b_4 (i : Nat) : List RG.It := [.x 18 [] (.int .i64 (i : Int)), .x 6 [(18, 0)] (.int .i64 (i : Int))]
def F82b_5 (N kn ka i : Nat) (ns : Nat → Nat) (xs ys : Nat → Fin P) (s : T3 P) : List RG.It := [.s 19 [] (.s 1 N N), .x 20 [] (.int .i64 (i : Int)), .s 21 [(19, 0), (20, 1)] (.p 1 (353 * i)), .x 22 [] (.slice (some ⟨kn, 0, none⟩) N N), .x 23 [] (.int .i64 (i : Int)), .x 24 [(22, 3), (23, 4)] (.pointer (some ⟨kn, (0 + 4 * i), none⟩)), .x 25 [(24, 5)] (nv (ns i)), .x 26 [] (.slice (some ⟨ka, 0, none⟩) N N), .x 27 [] (.int .i64 (i : Int)), .x 28 [(26, 7), (27, 8)] (.pointer (some ⟨ka, (0 + 8 * i), none⟩)), .x 29 [(28, 9)] (pv (xs i) (ys i)), ⟨some 30, [(21, 2), (25, 6), (29, 10)], (.v (.tuple #[])), .put 1⟩]
def F82b_6 (i : Nat) : List RG.It := [.x 31 [] (.int .i64 ((i + 1 : Nat) : Int)), .x 16 [(31, 0)] (.int .i64 ((i + 1 : Nat) : Int))]
def F82c_3 : List RG.It := [.x 17 [] (.bool false)]
def F82c_7 : List RG.It := [.m 7 [] 2]
def F82c_8 : List RG.It := [.x 8 [] (.int .i64 256)]
def F82d_9 (q : Nat) : List RG.It := [.x 32 [] (.int .i64 (q : Int)), .x 33 [(32, 0)] (.bool true)]
def F82d_11 (s s2 : T3 P) : List RG.It := [.x 36 [] (tv s), .c 37 [(36, 0)] (tv s2), .u [(37, 1)] 2]
def F82d_12 (N : Nat) (s : T3 P) : List RG.It := [.s 38 [] (.s 1 N N), .x 39 [(38, 0)] (.int .i64 (N : Int)), .x 40 [] (.int .i64 0)]
def F82e_9 : List RG.It := [.x 32 [] (.int .i64 (-1)), .x 33 [(32, 0)] (.bool false)]
def F82e_19 (s : T3 P) : List RG.It := [.x 60 [] (tv s), .c 61 [(60, 0)] (pv (s.1 * (EC.inv s.2.2 * EC.inv s.2.2)) (s.2.1 * (EC.inv s.2.2 * EC.inv s.2.2) * EC.inv s.2.2)), .u [(61, 1)] 0]
def F82f_13 : List RG.It := [.x 41 [] (.bool true)]
def F82f_14 (i : Nat) : List RG.It := [.x 42 [] (.int .i64 (i : Int)), .x 9 [(42, 0)] (.int .i64 (i : Int))]
def F82f_15 (N i q : Nat) (s : T3 P) : List RG.It := [.s 43 [] (.s 1 N N), .x 44 [] (.int .i64 (i : Int)), .x 45 [] (.int .i64 (q : Int)), .s 46 [(43, 0), (44, 1)] (.p 1 (353 * i)), .s 47 [(46, 3)] (.p 1 ((353 * i) + 96)), .s 48 [(47, 4), (45, 2)] (.p 1 (((353 * i) + 96) + q)), .x 49 [(48, 5)] (.int .i8 0), .x 10 [(49, 6)] (.int .i8 0)]
def F82f_16 : List RG.It := [.x 50 [] (.int .i8 0), .x 51 [(50, 0)] (.bool false)]
def F82f_18 (i : Nat) : List RG.It := [.x 59 [] (.int .i64 ((i + 1 : Nat) : Int)), .x 40 [(59, 0)] (.int .i64 ((i + 1 : Nat) : Int))]
def F82g_13 : List RG.It := [.x 41 [] (.bool true)]
def F82g_14 (i : Nat) : List RG.It := [.x 42 [] (.int .i64 (i : Int)), .x 9 [(42, 0)] (.int .i64 (i : Int))]
def F82g_15 (N i q : Nat) (d : Int) (s : T3 P) : List RG.It := [.s 43 [] (.s 1 N N), .x 44 [] (.int .i64 (i : Int)), .x 45 [] (.int .i64 (q : Int)), .s 46 [(43, 0), (44, 1)] (.p 1 (353 * i)), .s 47 [(46, 3)] (.p 1 ((353 * i) + 96)), .s 48 [(47, 4), (45, 2)] (.p 1 (((353 * i) + 96) + q)), .x 49 [(48, 5)] (.int .i8 d), .x 10 [(49, 6)] (.int .i8 d)]
def F82g_16 (d : Int) : List RG.It := [.x 50 [] (.int .i8 d), .x 51 [(50, 0)] (.bool true)]
def F82g_17 (N i : Nat) (d : Int) (s s3 s4 : T3 P) : List RG.It := [.x 52 [] (tv s), .s 53 [] (.s 1 N N), .x 54 [] (.int .i64 (i : Int)), .s 55 [(53, 1), (54, 2)] (.p 1 (353 * i)), .x 56 [] (.int .i8 d), .c 57 [(55, 3), (56, 4)] (tv s3), .c 58 [(52, 0), (57, 5)] (tv s4), .u [(58, 6)] 2]
def F82g_18 (i : Nat) : List RG.It := [.x 59 [] (.int .i64 ((i + 1 : Nat) : Int)), .x 40 [(59, 0)] (.int .i64 ((i + 1 : Nat) : Int))]
def F82h_13 : List RG.It := [.x 41 [] (.bool false)]
def F82h_10 (q : Nat) : List RG.It := [.x 34 [] (.int .i64 (q : Int)), .x 35 [(34, 0)] (.int .i64 ((q : Int) - 1)), .x 8 [(35, 1)] (.int .i64 ((q : Int) - 1))]
set_option maxHeartbeats 4000000 in
set_option maxRecDepth 100000 in
theorem sums_c (F : Fld P) (N : Nat) (hN : N ≤ 512) (ns : Nat → Nat) (xs ys : Nat → Fin P) (hns : ∀ i, i < N → ns i < top) (kn ka : Nat) (w : World) (hkn : kn < w.heap.size) (hka : ka < w.heap.size)
    (hn : ∀ i, i < N → w.rangeAt kn (4 * i) (wn (ns i))) (ha : ∀ i, i < N → w.rangeAt ka (8 * i) (ws (xs i) ++ ws (ys i))) :
    Calls Try.prog 56 #[(.slice (some ⟨kn, 0, none⟩) N N), (.slice (some ⟨ka, 0, none⟩) N N)] w (Ret fun e w' => Below w.heap.size w w' ∧ ∃ s, s = sumJ ns xs ys N 257 ∧ e = pv (s.1 * (EC.inv s.2.2 * EC.inv s.2.2)) (s.2.1 * (EC.inv s.2.2 * EC.inv s.2.2) * EC.inv s.2.2)) := by
  obtain ⟨C, hCl, hmk⟩ := mk135 N hN
  have hstepC : ∀ (i : Nat) (c2 : List Value), fc (xs i) (ys i) (digs (ns i)) (cc ns xs ys C i) (353 * i) 8 = c2 → cc ns xs ys C (i + 1) = c2 := fun i c2 h => h
  obtain ⟨i, -⟩ : ∃ i : Nat, i = 0 := ⟨_, rfl⟩
  obtain ⟨q, -⟩ : ∃ i : Nat, i = 0 := ⟨_, rfl⟩
  obtain ⟨d, -⟩ : ∃ i : Int, i = 0 := ⟨_, rfl⟩
  obtain ⟨C2, -⟩ : ∃ c : List Value, c = C := ⟨_, rfl⟩
  obtain ⟨s, -⟩ : ∃ s : T3 P, s = (0, 0, 0) := ⟨_, rfl⟩
  obtain ⟨s2, -⟩ : ∃ s : T3 P, s = (0, 0, 0) := ⟨_, rfl⟩
  obtain ⟨s3, -⟩ : ∃ s : T3 P, s = (0, 0, 0) := ⟨_, rfl⟩
  obtain ⟨s4, -⟩ : ∃ s : T3 P, s = (0, 0, 0) := ⟨_, rfl⟩
  go_enter Try.func56, Try.ntmps56
  refine RG.var2 (v0 := (.slice (some ⟨kn, 0, none⟩) N N)) (v1 := (.slice (some ⟨ka, 0, none⟩) N N)) (n := 62) (by kernel_rfl) (by kernel_rfl) (by kernel_rfl) (by kernel_rfl) ?_
  intro a0 sl0 f0 f1
  have hS0 := RG.St.begin w
  have M0 : RG.M w w.heap.size [] 62 [] [] [(0, (.v (.slice (some ⟨kn, 0, none⟩) N N))), (1, (.v (.slice (some ⟨ka, 0, none⟩) N N)))] a0 _ := ⟨hS0, sl0, ⟨f0, f1, trivial⟩⟩
  repeat refine wp_seq ?_
  refine M0.tx F82a_0 [(0, (RG.z 8))] [] [(RG.z 8)] [(0, (.v (.slice (some ⟨kn, 0, none⟩) N N))), (1, (.v (.slice (some ⟨ka, 0, none⟩) N N))), (4, (.p 0 0))] (by kernel_rfl) (by kernel_rfl) ⟨RG.mk 0 64 fun _ _ => by kernel_rfl, trivial⟩ ?_
  intro j1 a1 w1 M1
  repeat refine wp_seq ?_
  refine M1.tx (F82a_1 N kn s) [(2, C)] [] [(RG.z 8), C] [(0, (.v (.slice (some ⟨kn, 0, none⟩) N N))), (1, (.v (.slice (some ⟨ka, 0, none⟩) N N))), (4, (.p 0 0)), (5, (.s 1 N N))] (by kernel_rfl) (by kernel_rfl) ⟨RG.st fun _ _ => by kernel_rfl, RG.cert_one rfl 11 (.v (.slice (some ⟨kn, 0, none⟩) N N)) (.int .i64 (N : Int)) rfl (RG.sx fun _ => by kernel_rfl) (fun a w => by kernel_rfl) (fun μ w => by kernel_rfl), RG.cert_makes 1 rfl _ rfl 113 121 12 12 N rfl rfl (RG.sx fun _ => by kernel_rfl) (RG.sx fun _ => by kernel_rfl) (hmk), RG.st fun _ _ => by kernel_rfl, trivial⟩ ?_
  intro j2 a2 w2 M2
  repeat refine wp_seq ?_
  refine M2.tx0 (F82a_2 N s) [(0, (.v (.slice (some ⟨kn, 0, none⟩) N N))), (1, (.v (.slice (some ⟨ka, 0, none⟩) N N))), (4, (.p 0 0)), (5, (.s 1 N N)), (15, (.v (.int .i64 (N : Int)))), (16, (.v (.int .i64 0)))] (by kernel_rfl) ⟨RG.st fun _ _ => by kernel_rfl, RG.cert_one rfl 14 (.s 1 N N) (.int .i64 (N : Int)) rfl (RG.sx fun _ => by kernel_rfl) (fun a w => by kernel_rfl) (fun μ w => by kernel_rfl), RG.st fun _ _ => by kernel_rfl, trivial⟩ ?_
  intro a3 w3 M3
  have hS3 : RG.St w w.heap.size [] [(RG.z 8), C] [j1, j2] _ := M3.st
  have sl3 := M3.sl
  have f0_3 : a3.tmps[0]? = some (.slice (some ⟨kn, 0, none⟩) N N) := M3.at (s := (.v (.slice (some ⟨kn, 0, none⟩) N N))) (by kernel_rfl)
  have f1_3 : a3.tmps[1]? = some (.slice (some ⟨ka, 0, none⟩) N N) := M3.at (s := (.v (.slice (some ⟨ka, 0, none⟩) N N))) (by kernel_rfl)
  have f4_3 : a3.tmps[4]? = some (.pointer (some ⟨j1, 0, none⟩)) := M3.at (s := (.p 0 0)) (by kernel_rfl)
  have f5_3 : a3.tmps[5]? = some (.slice (some ⟨j2, 0, none⟩) N N) := M3.at (s := (.s 1 N N)) (by kernel_rfl)
  have f15_3 : a3.tmps[15]? = some (.int .i64 (N : Int)) := M3.at (s := (.v (.int .i64 (N : Int)))) (by kernel_rfl)
  have f16_3 : a3.tmps[16]? = some (.int .i64 0) := M3.at (s := (.v (.int .i64 0))) (by kernel_rfl)
  repeat refine wp_seq ?_
  refine wp_block ?_
  refine wp_loop_ghost (fun m a wr => ∃ i, i + m = N ∧ RG.Sl a 62 ∧ a.tmps[0]? = some (.slice (some ⟨kn, 0, none⟩) N N) ∧ a.tmps[1]? = some (.slice (some ⟨ka, 0, none⟩) N N) ∧ a.tmps[4]? = some (.pointer (some ⟨j1, 0, none⟩)) ∧ a.tmps[5]? = some (.slice (some ⟨j2, 0, none⟩) N N) ∧ a.tmps[15]? = some (.int .i64 (N : Int)) ∧ a.tmps[16]? = some (.int .i64 (i : Int)) ∧ RG.St w w.heap.size [] [[.int .u64 0, .int .u64 0, .int .u64 0, .int .u64 0, .int .u64 0, .int .u64 0, .int .u64 0, .int .u64 0], cc ns xs ys C i] [j1, j2] wr) N ⟨0, by omega, sl3, f0_3, f1_3, f4_3, f5_3, f15_3, f16_3, hS3⟩ ?_
  intro m a wr
  rintro ⟨i, him, sl, p0, p1, p4, p5, p15, p16, hSp⟩
  generalize j1 = kr at p4 hSp
  generalize j2 = kt at p5 hSp
  obtain ⟨C, hCe⟩ : ∃ c, cc ns xs ys C i = c := ⟨_, rfl⟩
  have hcc := cc_at (ns := ns) (xs := xs) (ys := ys) hCl i (by omega)
  rw [hCe] at hSp hcc
  by_cases hi : i < N
  · obtain ⟨C2, hC2e⟩ : ∃ c, fc (xs i) (ys i) (digs (ns i)) C (353 * i) 8 = c := ⟨_, rfl⟩
    have hoff : 353 * i + 353 ≤ C.length := by rw [hcc.1]; omega
    have hcl : C2.length = C.length := hC2e ▸ (fc_Fi hoff 8 (Nat.le_refl _)).len
    have hfill : ∀ (k : Nat) (w : World), w.there k 0 C.length → w.rangeAt k 0 C → Calls Try.prog 76 #[.pointer (some ⟨k, 353 * i, none⟩), nv (ns i), pv (xs i) (ys i)] w (Ret fun r w' => RG.PutTo k C.length C2 w w' ∧ r = .tuple #[]) := fun k w ht hr => hC2e ▸ fill_put F (hns i hi) (xs i) (ys i) C k (353 * i) hoff w ht hr
    have hrn : w.rangeAt kn (0 + 4 * i) (wn (ns i)) := by rw [Nat.zero_add]; exact hn i hi
    have hra : w.rangeAt ka (0 + 8 * i) (ws (xs i) ++ ws (ys i)) := by rw [Nat.zero_add]; exact ha i hi
    have M10 : RG.M w w.heap.size [] 62 [(RG.z 8), C] [kr, kt] [(0, (.v (.slice (some ⟨kn, 0, none⟩) N N))), (1, (.v (.slice (some ⟨ka, 0, none⟩) N N))), (4, (.p 0 0)), (5, (.s 1 N N)), (15, (.v (.int .i64 (N : Int)))), (16, (.v (.int .i64 (i : Int))))] a _ := ⟨hSp, sl, ⟨p0, p1, p4, p5, p15, p16, trivial⟩⟩
    repeat refine wp_seq ?_
    refine M10.tx0 F82b_3 [(0, (.v (.slice (some ⟨kn, 0, none⟩) N N))), (1, (.v (.slice (some ⟨ka, 0, none⟩) N N))), (4, (.p 0 0)), (5, (.s 1 N N)), (15, (.v (.int .i64 (N : Int)))), (16, (.v (.int .i64 (i : Int)))), (17, (.v (.bool true)))] (by kernel_rfl) ⟨RG.cert_bin rfl .lss 3 3 16 15 (.int .i64 (i : Int)) (.int .i64 (N : Int)) (.bool true) rfl rfl (RG.sx fun _ => by kernel_rfl) (RG.sx fun _ => by kernel_rfl) (fun w => by kernel_rfl) (lssn_t hi), trivial⟩ ?_
    intro a11 w11 M11
    repeat refine wp_seq ?_
    refine wp_cond_true (M11.ev (by kernel_rfl)) ?_
    refine wp_skip ?_
    refine wp_seq ?_
    refine wp_block ?_
    repeat refine wp_seq ?_
    refine M11.tx0 (F82b_4 i) [(0, (.v (.slice (some ⟨kn, 0, none⟩) N N))), (1, (.v (.slice (some ⟨ka, 0, none⟩) N N))), (4, (.p 0 0)), (5, (.s 1 N N)), (6, (.v (.int .i64 (i : Int)))), (15, (.v (.int .i64 (N : Int)))), (16, (.v (.int .i64 (i : Int))))] (by kernel_rfl) ⟨RG.st fun _ _ => by kernel_rfl, RG.st fun _ _ => by kernel_rfl, trivial⟩ ?_
    intro a12 w12 M12
    repeat refine wp_seq ?_
    refine M12.dr (by kernel_rfl) (F82b_5 N kn ka i ns xs ys s) [] [(1, 11, C2)] [(RG.z 8), C2] [(0, (.v (.slice (some ⟨kn, 0, none⟩) N N))), (1, (.v (.slice (some ⟨ka, 0, none⟩) N N))), (4, (.p 0 0)), (5, (.s 1 N N)), (15, (.v (.int .i64 (N : Int)))), (16, (.v (.int .i64 (i : Int))))] (by kernel_rfl) (congrArg (fun n => [n]) hcl) ⟨RG.st fun _ _ => by kernel_rfl, RG.st fun _ _ => by kernel_rfl, RG.cert_idx rfl 113 19 20 rfl (.s 1 N N) (.int .i64 (i : Int)) (RG.sx fun _ => by kernel_rfl) (RG.sx fun _ => by kernel_rfl) (fun μ w => at135 _ _ _ i hi w), RG.st fun _ _ => by kernel_rfl, RG.st fun _ _ => by kernel_rfl, RG.cert_idx rfl 89 22 23 rfl (.v (.slice (some ⟨kn, 0, none⟩) N N)) (.int .i64 (i : Int)) (RG.sx fun _ => by kernel_rfl) (RG.sx fun _ => by kernel_rfl) (fun μ w => at82 _ _ _ _ i hi w), RG.cert_loadB rfl kn (0 + 4 * i) hkn List.not_mem_nil 38 24 rfl (wn (ns i)) rfl (RG.sx fun _ => by kernel_rfl) hrn u85 i85, RG.st fun _ _ => by kernel_rfl, RG.st fun _ _ => by kernel_rfl, RG.cert_idx rfl 92 26 27 rfl (.v (.slice (some ⟨ka, 0, none⟩) N N)) (.int .i64 (i : Int)) (RG.sx fun _ => by kernel_rfl) (RG.sx fun _ => by kernel_rfl) (fun μ w => at112 _ _ _ _ i hi w), RG.cert_loadB rfl ka (0 + 8 * i) hka List.not_mem_nil 64 28 rfl (ws (xs i) ++ ws (ys i)) rfl (RG.sx fun _ => by kernel_rfl) hra u109 i109, RG.cert_callput3 1 rfl _ rfl 76 21 25 29 (.p 1 (353 * i)) (nv (ns i)) (pv (xs i) (ys i)) (.tuple #[]) rfl (fun a w => by kernel_rfl) (RG.sx fun _ => by kernel_rfl) (RG.sx fun _ => by kernel_rfl) (RG.sx fun _ => by kernel_rfl) (fun μ w ht hr => hfill (μ 1) w ht hr), trivial⟩ ?_
    intro a13 w13 M13
    repeat refine wp_seq ?_
    refine M13.tx0 (F82b_6 i) [(0, (.v (.slice (some ⟨kn, 0, none⟩) N N))), (1, (.v (.slice (some ⟨ka, 0, none⟩) N N))), (4, (.p 0 0)), (5, (.s 1 N N)), (15, (.v (.int .i64 (N : Int)))), (16, (.v (.int .i64 ((i + 1 : Nat) : Int))))] (by kernel_rfl) ⟨RG.cert_binc rfl .add 3 3 16 (.int .i64 (i : Int)) (.int .i64 1) (.int .i64 ((i + 1 : Nat) : Int)) rfl rfl (RG.sx fun _ => by kernel_rfl) (fun w => by kernel_rfl) (addn i 1 (by omega) (by omega)), RG.st fun _ _ => by kernel_rfl, trivial⟩ ?_
    intro a14 w14 M14
    have hS14 : RG.St w w.heap.size [] [(RG.z 8), C2] [kr, kt] _ := M14.st
    have sl14 := M14.sl
    have f0_14 : a14.tmps[0]? = some (.slice (some ⟨kn, 0, none⟩) N N) := M14.at (s := (.v (.slice (some ⟨kn, 0, none⟩) N N))) (by kernel_rfl)
    have f1_14 : a14.tmps[1]? = some (.slice (some ⟨ka, 0, none⟩) N N) := M14.at (s := (.v (.slice (some ⟨ka, 0, none⟩) N N))) (by kernel_rfl)
    have f4_14 : a14.tmps[4]? = some (.pointer (some ⟨kr, 0, none⟩)) := M14.at (s := (.p 0 0)) (by kernel_rfl)
    have f5_14 : a14.tmps[5]? = some (.slice (some ⟨kt, 0, none⟩) N N) := M14.at (s := (.s 1 N N)) (by kernel_rfl)
    have f15_14 : a14.tmps[15]? = some (.int .i64 (N : Int)) := M14.at (s := (.v (.int .i64 (N : Int)))) (by kernel_rfl)
    have f16_14 : a14.tmps[16]? = some (.int .i64 ((i + 1 : Nat) : Int)) := M14.at (s := (.v (.int .i64 ((i + 1 : Nat) : Int)))) (by kernel_rfl)
    show ∃ n', _
    refine ⟨m - 1, by omega, i + 1, by omega, sl14, f0_14, f1_14, f4_14, f5_14, f15_14, f16_14, ?_⟩
    rw [hstepC i C2 (by rw [hCe]; exact hC2e)]
    exact hS14
  · have hiN : i = N := by omega
    rw [hiN] at hcc
    have hcN := hcc.2
    have M20 : RG.M w w.heap.size [] 62 [(RG.z 8), C] [kr, kt] [(0, (.v (.slice (some ⟨kn, 0, none⟩) N N))), (1, (.v (.slice (some ⟨ka, 0, none⟩) N N))), (4, (.p 0 0)), (5, (.s 1 N N)), (15, (.v (.int .i64 (N : Int)))), (16, (.v (.int .i64 (i : Int))))] a _ := ⟨hSp, sl, ⟨p0, p1, p4, p5, p15, p16, trivial⟩⟩
    repeat refine wp_seq ?_
    refine M20.tx0 F82c_3 [(4, (.p 0 0)), (5, (.s 1 N N)), (17, (.v (.bool false)))] (by kernel_rfl) ⟨RG.cert_bin rfl .lss 3 3 16 15 (.int .i64 (i : Int)) (.int .i64 (N : Int)) (.bool false) rfl rfl (RG.sx fun _ => by kernel_rfl) (RG.sx fun _ => by kernel_rfl) (fun w => by kernel_rfl) (lssn_f hi), trivial⟩ ?_
    intro a21 w21 M21
    repeat refine wp_seq ?_
    refine wp_cond_false (M21.ev (by kernel_rfl)) ?_
    refine wp_exit ?_
    dsimp only [Exit.then, Exit.inBlock]
    rw [if_pos rfl]
    repeat refine wp_seq ?_
    refine M21.tx F82c_7 [(0, (tw ((0, 0, 0) : T3 P)))] [] [(RG.z 8), C, (tw ((0, 0, 0) : T3 P))] [(4, (.p 0 0)), (5, (.s 1 N N)), (7, (.p 2 0))] (by kernel_rfl) (by kernel_rfl) ⟨RG.cert_alloc 2 rfl rfl _ rfl 116 rfl (al117), trivial⟩ ?_
    intro j22 a22 w22 M22
    repeat refine wp_seq ?_
    refine M22.tx0 F82c_8 [(4, (.p 0 0)), (5, (.s 1 N N)), (7, (.p 2 0)), (8, (.v (.int .i64 256)))] (by kernel_rfl) ⟨RG.st fun _ _ => by kernel_rfl, trivial⟩ ?_
    intro a23 w23 M23
    have hS23 : RG.St w w.heap.size [] [(RG.z 8), C, (tw ((0, 0, 0) : T3 P))] [kr, kt, j22] _ := M23.st
    have sl23 := M23.sl
    have f4_23 : a23.tmps[4]? = some (.pointer (some ⟨kr, 0, none⟩)) := M23.at (s := (.p 0 0)) (by kernel_rfl)
    have f5_23 : a23.tmps[5]? = some (.slice (some ⟨kt, 0, none⟩) N N) := M23.at (s := (.s 1 N N)) (by kernel_rfl)
    have f7_23 : a23.tmps[7]? = some (.pointer (some ⟨j22, 0, none⟩)) := M23.at (s := (.p 2 0)) (by kernel_rfl)
    have f8_23 : a23.tmps[8]? = some (.int .i64 256) := M23.at (s := (.v (.int .i64 256))) (by kernel_rfl)
    repeat refine wp_seq ?_
    refine wp_block ?_
    refine wp_loop_ghost (fun m a wr => m ≤ 257 ∧ RG.Sl a 62 ∧ a.tmps[4]? = some (.pointer (some ⟨kr, 0, none⟩)) ∧ a.tmps[5]? = some (.slice (some ⟨kt, 0, none⟩) N N) ∧ a.tmps[7]? = some (.pointer (some ⟨j22, 0, none⟩)) ∧ a.tmps[8]? = some (.int .i64 ((m : Int) - 1)) ∧ RG.St w w.heap.size [] [[.int .u64 0, .int .u64 0, .int .u64 0, .int .u64 0, .int .u64 0, .int .u64 0, .int .u64 0, .int .u64 0], C, tw (sumJ ns xs ys N (257 - m))] [kr, kt, j22] wr) 257 ⟨Nat.le_refl _, sl23, f4_23, f5_23, f7_23, f8_23, ?_⟩ ?_
    · rw [Nat.sub_self, sumJ]
      exact hS23
    intro m b wr
    rintro ⟨hm, slb, q4, q5, q7, q8, hSq⟩
    generalize j22 = kl at q7 hSq
    by_cases hz : m = 0
    · subst hz
      rw [show 257 - 0 = 257 from rfl] at hSq
      obtain ⟨s, hse⟩ : ∃ s, sumJ ns xs ys N 257 = s := ⟨_, rfl⟩
      rw [hse] at hSq
      have M40 : RG.M w w.heap.size [] 62 [(RG.z 8), C, (tw s)] [kr, kt, kl] [(4, (.p 0 0)), (5, (.s 1 N N)), (7, (.p 2 0)), (8, (.v (.int .i64 (-1))))] b _ := ⟨hSq, slb, ⟨q4, q5, q7, q8, trivial⟩⟩
      repeat refine wp_seq ?_
      refine M40.tx0 F82e_9 [(4, (.p 0 0)), (7, (.p 2 0)), (33, (.v (.bool false)))] (by kernel_rfl) ⟨RG.st fun _ _ => by kernel_rfl, RG.st fun _ _ => by kernel_rfl, trivial⟩ ?_
      intro a41 w41 M41
      repeat refine wp_seq ?_
      refine wp_cond_false (M41.ev (by kernel_rfl)) ?_
      refine wp_exit ?_
      dsimp only [Exit.then, Exit.inBlock]
      rw [if_pos rfl]
      repeat refine wp_seq ?_
      refine M41.tx (F82e_19 s) [] [(0, 2, (ws (s.1 * (EC.inv s.2.2 * EC.inv s.2.2)) ++ (ws (s.2.1 * (EC.inv s.2.2 * EC.inv s.2.2) * EC.inv s.2.2))))] [(ws (s.1 * (EC.inv s.2.2 * EC.inv s.2.2)) ++ (ws (s.2.1 * (EC.inv s.2.2 * EC.inv s.2.2) * EC.inv s.2.2))), C, (tw s)] [(4, (.p 0 0))] (by kernel_rfl) (by kernel_rfl) ⟨RG.ld u117 i117 (by kernel_rfl), RG.cl (ptJ_c F s) fun _ _ => by kernel_rfl, RG.pt i109 (by kernel_rfl), trivial⟩ ?_
      intro a42 w42 M42
      have hS42 : RG.St w w.heap.size [] [(ws (s.1 * (EC.inv s.2.2 * EC.inv s.2.2)) ++ (ws (s.2.1 * (EC.inv s.2.2 * EC.inv s.2.2) * EC.inv s.2.2))), C, (tw s)] [kr, kt, kl] _ := M42.st
      have sl42 := M42.sl
      have f4_42 : a42.tmps[4]? = some (.pointer (some ⟨kr, 0, none⟩)) := M42.at (s := (.p 0 0)) (by kernel_rfl)
      refine wp_ret ?_
      refine bodyPost_ret (v := pv (s.1 * (EC.inv s.2.2 * EC.inv s.2.2)) (s.2.1 * (EC.inv s.2.2 * EC.inv s.2.2) * EC.inv s.2.2)) (RG.results_row hS42 4 64 rfl 0 _ rfl f4_42 u109 i109) sl42.defers ?_
      exact ⟨_, rfl, hS42.bel.below, s, hse.symm, rfl⟩
    · obtain ⟨q, rfl⟩ : ∃ q, m = q + 1 := ⟨m - 1, by omega⟩
      have hq : q < 257 := by omega
      replace q8 : b.tmps[8]? = some (.int .i64 (q : Int)) := by rw [q8]; congr 2; omega
      obtain ⟨s, hse⟩ : ∃ s, sumJ ns xs ys N (257 - (q + 1)) = s := ⟨_, rfl⟩
      rw [hse] at hSq
      obtain ⟨s2, hs2e⟩ : ∃ t, twJ s = t := ⟨_, rfl⟩
      have hs2 : Gives 77 #[tv s] (tv s2) := hs2e ▸ twJ_c F s
      have hnext : sumJ ns xs ys N (257 - q) = inn ns xs ys s2 q N := by
        rw [show 257 - q = 257 - (q + 1) + 1 by omega]
        show inn ns xs ys (twJ (sumJ ns xs ys N (257 - (q + 1)))) (256 - (257 - (q + 1))) N = _
        rw [hse, hs2e, show 256 - (257 - (q + 1)) = q by omega]
      have M30 : RG.M w w.heap.size [] 62 [(RG.z 8), C, (tw s)] [kr, kt, kl] [(4, (.p 0 0)), (5, (.s 1 N N)), (7, (.p 2 0)), (8, (.v (.int .i64 (q : Int))))] b _ := ⟨hSq, slb, ⟨q4, q5, q7, q8, trivial⟩⟩
      repeat refine wp_seq ?_
      refine M30.tx0 (F82d_9 q) [(4, (.p 0 0)), (5, (.s 1 N N)), (7, (.p 2 0)), (8, (.v (.int .i64 (q : Int)))), (33, (.v (.bool true)))] (by kernel_rfl) ⟨RG.st fun _ _ => by kernel_rfl, RG.cert_binc rfl .geq 3 3 32 (.int .i64 (q : Int)) (.int .i64 0) (.bool true) rfl rfl (RG.sx fun _ => by kernel_rfl) (fun w => by kernel_rfl) (geq0' q), trivial⟩ ?_
      intro a31 w31 M31
      repeat refine wp_seq ?_
      refine wp_cond_true (M31.ev (by kernel_rfl)) ?_
      refine wp_skip ?_
      refine wp_seq ?_
      refine wp_block ?_
      repeat refine wp_seq ?_
      refine M31.tx (F82d_11 s s2) [] [(2, 2, (tw s2))] [(RG.z 8), C, (tw s2)] [(4, (.p 0 0)), (5, (.s 1 N N)), (7, (.p 2 0)), (8, (.v (.int .i64 (q : Int))))] (by kernel_rfl) (by kernel_rfl) ⟨RG.ld u117 i117 (by kernel_rfl), RG.cl (hs2) fun _ _ => by kernel_rfl, RG.pt i117 (by kernel_rfl), trivial⟩ ?_
      intro a32 w32 M32
      repeat refine wp_seq ?_
      refine M32.tx0 (F82d_12 N s) [(4, (.p 0 0)), (5, (.s 1 N N)), (7, (.p 2 0)), (8, (.v (.int .i64 (q : Int)))), (39, (.v (.int .i64 (N : Int)))), (40, (.v (.int .i64 0)))] (by kernel_rfl) ⟨RG.st fun _ _ => by kernel_rfl, RG.cert_one rfl 38 (.s 1 N N) (.int .i64 (N : Int)) rfl (RG.sx fun _ => by kernel_rfl) (fun a w => by kernel_rfl) (fun μ w => by kernel_rfl), RG.st fun _ _ => by kernel_rfl, trivial⟩ ?_
      intro a33 w33 M33
      have hS33 : RG.St w w.heap.size [] [(RG.z 8), C, (tw s2)] [kr, kt, kl] _ := M33.st
      have sl33 := M33.sl
      have f4_33 : a33.tmps[4]? = some (.pointer (some ⟨kr, 0, none⟩)) := M33.at (s := (.p 0 0)) (by kernel_rfl)
      have f5_33 : a33.tmps[5]? = some (.slice (some ⟨kt, 0, none⟩) N N) := M33.at (s := (.s 1 N N)) (by kernel_rfl)
      have f7_33 : a33.tmps[7]? = some (.pointer (some ⟨kl, 0, none⟩)) := M33.at (s := (.p 2 0)) (by kernel_rfl)
      have f8_33 : a33.tmps[8]? = some (.int .i64 (q : Int)) := M33.at (s := (.v (.int .i64 (q : Int)))) (by kernel_rfl)
      have f39_33 : a33.tmps[39]? = some (.int .i64 (N : Int)) := M33.at (s := (.v (.int .i64 (N : Int)))) (by kernel_rfl)
      have f40_33 : a33.tmps[40]? = some (.int .i64 0) := M33.at (s := (.v (.int .i64 0))) (by kernel_rfl)
      repeat refine wp_seq ?_
      refine wp_block ?_
      refine wp_loop_ghost (fun m a wr => ∃ i, i + m = N ∧ RG.Sl a 62 ∧ a.tmps[4]? = some (.pointer (some ⟨kr, 0, none⟩)) ∧ a.tmps[5]? = some (.slice (some ⟨kt, 0, none⟩) N N) ∧ a.tmps[7]? = some (.pointer (some ⟨kl, 0, none⟩)) ∧ a.tmps[8]? = some (.int .i64 (q : Int)) ∧ a.tmps[39]? = some (.int .i64 (N : Int)) ∧ a.tmps[40]? = some (.int .i64 (i : Int)) ∧ RG.St w w.heap.size [] [[.int .u64 0, .int .u64 0, .int .u64 0, .int .u64 0, .int .u64 0, .int .u64 0, .int .u64 0, .int .u64 0], C, tw (inn ns xs ys s2 q i)] [kr, kt, kl] wr) N ⟨0, by omega, sl33, f4_33, f5_33, f7_33, f8_33, f39_33, f40_33, hS33⟩ ?_
      intro m' c wr
      rintro ⟨i, him, slc, r4, r5, r7, r8, r39, r40, hSr⟩
      obtain ⟨s, hse3⟩ : ∃ s, inn ns xs ys s2 q i = s := ⟨_, rfl⟩
      rw [hse3] at hSr
      by_cases hi : i < N
      · obtain ⟨h1, h2⟩ := hcN i hi
        obtain ⟨d, hde⟩ : ∃ d, digs (ns i) q = d := ⟨_, rfl⟩
        have hdig : C[353 * i + 96 + q]? = some (.int .i8 d) := hde ▸ h1 q hq
        have hCne : C ≠ [] := by intro h; rw [h] at hdig; simp at hdig
        have hstep : inn ns xs ys s2 q (i + 1) = if d = 0 then s else plJ s (tmJ (xs i) (ys i) d) := by rw [← hse3, ← hde]; rfl
        by_cases hdz : d = 0
        · rw [if_pos hdz] at hstep
          rw [hdz] at hdig
          have M50 : RG.M w w.heap.size [] 62 [(RG.z 8), C, (tw s)] [kr, kt, kl] [(4, (.p 0 0)), (5, (.s 1 N N)), (7, (.p 2 0)), (8, (.v (.int .i64 (q : Int)))), (39, (.v (.int .i64 (N : Int)))), (40, (.v (.int .i64 (i : Int))))] c _ := ⟨hSr, slc, ⟨r4, r5, r7, r8, r39, r40, trivial⟩⟩
          repeat refine wp_seq ?_
          refine M50.tx0 F82f_13 [(4, (.p 0 0)), (5, (.s 1 N N)), (7, (.p 2 0)), (8, (.v (.int .i64 (q : Int)))), (39, (.v (.int .i64 (N : Int)))), (40, (.v (.int .i64 (i : Int)))), (41, (.v (.bool true)))] (by kernel_rfl) ⟨RG.cert_bin rfl .lss 3 3 40 39 (.int .i64 (i : Int)) (.int .i64 (N : Int)) (.bool true) rfl rfl (RG.sx fun _ => by kernel_rfl) (RG.sx fun _ => by kernel_rfl) (fun w => by kernel_rfl) (lssn_t hi), trivial⟩ ?_
          intro a51 w51 M51
          repeat refine wp_seq ?_
          refine wp_cond_true (M51.ev (by kernel_rfl)) ?_
          refine wp_skip ?_
          refine wp_seq ?_
          refine wp_block ?_
          repeat refine wp_seq ?_
          refine M51.tx0 (F82f_14 i) [(4, (.p 0 0)), (5, (.s 1 N N)), (7, (.p 2 0)), (8, (.v (.int .i64 (q : Int)))), (9, (.v (.int .i64 (i : Int)))), (39, (.v (.int .i64 (N : Int)))), (40, (.v (.int .i64 (i : Int))))] (by kernel_rfl) ⟨RG.st fun _ _ => by kernel_rfl, RG.st fun _ _ => by kernel_rfl, trivial⟩ ?_
          intro a52 w52 M52
          repeat refine wp_seq ?_
          refine M52.tx0 (F82f_15 N i q s) [(4, (.p 0 0)), (5, (.s 1 N N)), (7, (.p 2 0)), (8, (.v (.int .i64 (q : Int)))), (10, (.v (.int .i8 0))), (39, (.v (.int .i64 (N : Int)))), (40, (.v (.int .i64 (i : Int))))] (by kernel_rfl) ⟨RG.st fun _ _ => by kernel_rfl, RG.st fun _ _ => by kernel_rfl, RG.st fun _ _ => by kernel_rfl, RG.cert_idx rfl 113 43 44 rfl (.s 1 N N) (.int .i64 (i : Int)) (RG.sx fun _ => by kernel_rfl) (RG.sx fun _ => by kernel_rfl) (fun μ w => at135 _ _ _ i hi w), RG.st fun _ _ => by kernel_rfl, RG.cert_idx rfl 119 47 45 rfl (.p 1 ((353 * i) + 96)) (.int .i64 (q : Int)) (RG.sx fun _ => by kernel_rfl) (RG.sx fun _ => by kernel_rfl) (fun μ w => at138 _ _ q hq w), RG.cert_load1 rfl 1 (((353 * i) + 96) + q) _ rfl rfl (by kernel_rfl) 118 48 rfl (.int .i8 0) rfl (RG.sx fun _ => by kernel_rfl) hdig u137, RG.st fun _ _ => by kernel_rfl, trivial⟩ ?_
          intro a53 w53 M53
          repeat refine wp_seq ?_
          refine M53.tx0 F82f_16 [(4, (.p 0 0)), (5, (.s 1 N N)), (7, (.p 2 0)), (8, (.v (.int .i64 (q : Int)))), (39, (.v (.int .i64 (N : Int)))), (40, (.v (.int .i64 (i : Int)))), (51, (.v (.bool false)))] (by kernel_rfl) ⟨RG.st fun _ _ => by kernel_rfl, RG.cert_binc rfl .neq 118 118 50 (.int .i8 0) (.int .i8 0) (.bool false) rfl rfl (RG.sx fun _ => by kernel_rfl) (fun w => by kernel_rfl) (ne8_f), trivial⟩ ?_
          intro a54 w54 M54
          repeat refine wp_seq ?_
          refine wp_cond_false (M54.ev (by kernel_rfl)) ?_
          refine wp_skip ?_
          repeat refine wp_seq ?_
          refine M54.tx0 (F82f_18 i) [(4, (.p 0 0)), (5, (.s 1 N N)), (7, (.p 2 0)), (8, (.v (.int .i64 (q : Int)))), (39, (.v (.int .i64 (N : Int)))), (40, (.v (.int .i64 ((i + 1 : Nat) : Int))))] (by kernel_rfl) ⟨RG.cert_binc rfl .add 3 3 40 (.int .i64 (i : Int)) (.int .i64 1) (.int .i64 ((i + 1 : Nat) : Int)) rfl rfl (RG.sx fun _ => by kernel_rfl) (fun w => by kernel_rfl) (addn i 1 (by omega) (by omega)), RG.st fun _ _ => by kernel_rfl, trivial⟩ ?_
          intro a55 w55 M55
          have hS55 : RG.St w w.heap.size [] [(RG.z 8), C, (tw s)] [kr, kt, kl] _ := M55.st
          have sl55 := M55.sl
          have f4_55 : a55.tmps[4]? = some (.pointer (some ⟨kr, 0, none⟩)) := M55.at (s := (.p 0 0)) (by kernel_rfl)
          have f5_55 : a55.tmps[5]? = some (.slice (some ⟨kt, 0, none⟩) N N) := M55.at (s := (.s 1 N N)) (by kernel_rfl)
          have f7_55 : a55.tmps[7]? = some (.pointer (some ⟨kl, 0, none⟩)) := M55.at (s := (.p 2 0)) (by kernel_rfl)
          have f8_55 : a55.tmps[8]? = some (.int .i64 (q : Int)) := M55.at (s := (.v (.int .i64 (q : Int)))) (by kernel_rfl)
          have f39_55 : a55.tmps[39]? = some (.int .i64 (N : Int)) := M55.at (s := (.v (.int .i64 (N : Int)))) (by kernel_rfl)
          have f40_55 : a55.tmps[40]? = some (.int .i64 ((i + 1 : Nat) : Int)) := M55.at (s := (.v (.int .i64 ((i + 1 : Nat) : Int)))) (by kernel_rfl)
          show ∃ n', _
          exact ⟨m' - 1, by omega, i + 1, by omega, sl55, f4_55, f5_55, f7_55, f8_55, f39_55, f40_55, by rw [hstep]; exact hS55⟩
        · rw [if_neg hdz] at hstep
          have hodd : d % 2 = 1 ∧ -15 ≤ d ∧ d ≤ 15 := by
            obtain ⟨_, _, -, hD⟩ := digs_DI (show ns i < 2 ^ 256 from hns i hi)
            rcases hD.ho q with h | h
            · exact absurd (hde ▸ h) hdz
            · exact hde ▸ h
          obtain ⟨s3, hs3e⟩ : ∃ t, tmJ (xs i) (ys i) d = t := ⟨_, rfl⟩
          obtain ⟨s4, hs4e⟩ : ∃ t, plJ s s3 = t := ⟨_, rfl⟩
          have hs4 : Gives 78 #[tv s, tv s3] (tv s4) := hs4e ▸ plJ_c F s s3
          have htm : ∀ (k : Nat) (w : World), k < w.heap.size → w.rangeAt k 0 C → Calls Try.prog 79 #[.pointer (some ⟨k, 353 * i, none⟩), .int .i8 d] w (Ret fun r w' => Below w.heap.size w w' ∧ r = tv s3) := fun k w hlt hr =>
            hs3e ▸ times_d F k (353 * i) (xs i) (ys i) hodd.1 hodd.2 w hlt (fun qq hqq => RG.range_sub hr (fun j hj => by rw [Nat.add_zero]; exact h2 qq j hqq (by rw [tw_length] at hj; exact hj)))
          rw [hs3e, hs4e] at hstep
          have M50 : RG.M w w.heap.size [] 62 [(RG.z 8), C, (tw s)] [kr, kt, kl] [(4, (.p 0 0)), (5, (.s 1 N N)), (7, (.p 2 0)), (8, (.v (.int .i64 (q : Int)))), (39, (.v (.int .i64 (N : Int)))), (40, (.v (.int .i64 (i : Int))))] c _ := ⟨hSr, slc, ⟨r4, r5, r7, r8, r39, r40, trivial⟩⟩
          repeat refine wp_seq ?_
          refine M50.tx0 F82g_13 [(4, (.p 0 0)), (5, (.s 1 N N)), (7, (.p 2 0)), (8, (.v (.int .i64 (q : Int)))), (39, (.v (.int .i64 (N : Int)))), (40, (.v (.int .i64 (i : Int)))), (41, (.v (.bool true)))] (by kernel_rfl) ⟨RG.cert_bin rfl .lss 3 3 40 39 (.int .i64 (i : Int)) (.int .i64 (N : Int)) (.bool true) rfl rfl (RG.sx fun _ => by kernel_rfl) (RG.sx fun _ => by kernel_rfl) (fun w => by kernel_rfl) (lssn_t hi), trivial⟩ ?_
          intro a51 w51 M51
          repeat refine wp_seq ?_
          refine wp_cond_true (M51.ev (by kernel_rfl)) ?_
          refine wp_skip ?_
          refine wp_seq ?_
          refine wp_block ?_
          repeat refine wp_seq ?_
          refine M51.tx0 (F82g_14 i) [(4, (.p 0 0)), (5, (.s 1 N N)), (7, (.p 2 0)), (8, (.v (.int .i64 (q : Int)))), (9, (.v (.int .i64 (i : Int)))), (39, (.v (.int .i64 (N : Int)))), (40, (.v (.int .i64 (i : Int))))] (by kernel_rfl) ⟨RG.st fun _ _ => by kernel_rfl, RG.st fun _ _ => by kernel_rfl, trivial⟩ ?_
          intro a52 w52 M52
          repeat refine wp_seq ?_
          refine M52.tx0 (F82g_15 N i q d s) [(4, (.p 0 0)), (5, (.s 1 N N)), (7, (.p 2 0)), (8, (.v (.int .i64 (q : Int)))), (9, (.v (.int .i64 (i : Int)))), (10, (.v (.int .i8 d))), (39, (.v (.int .i64 (N : Int)))), (40, (.v (.int .i64 (i : Int))))] (by kernel_rfl) ⟨RG.st fun _ _ => by kernel_rfl, RG.st fun _ _ => by kernel_rfl, RG.st fun _ _ => by kernel_rfl, RG.cert_idx rfl 113 43 44 rfl (.s 1 N N) (.int .i64 (i : Int)) (RG.sx fun _ => by kernel_rfl) (RG.sx fun _ => by kernel_rfl) (fun μ w => at135 _ _ _ i hi w), RG.st fun _ _ => by kernel_rfl, RG.cert_idx rfl 119 47 45 rfl (.p 1 ((353 * i) + 96)) (.int .i64 (q : Int)) (RG.sx fun _ => by kernel_rfl) (RG.sx fun _ => by kernel_rfl) (fun μ w => at138 _ _ q hq w), RG.cert_load1 rfl 1 (((353 * i) + 96) + q) _ rfl rfl (by kernel_rfl) 118 48 rfl (.int .i8 d) rfl (RG.sx fun _ => by kernel_rfl) hdig u137, RG.st fun _ _ => by kernel_rfl, trivial⟩ ?_
          intro a53 w53 M53
          repeat refine wp_seq ?_
          refine M53.tx0 (F82g_16 d) [(4, (.p 0 0)), (5, (.s 1 N N)), (7, (.p 2 0)), (8, (.v (.int .i64 (q : Int)))), (9, (.v (.int .i64 (i : Int)))), (10, (.v (.int .i8 d))), (39, (.v (.int .i64 (N : Int)))), (40, (.v (.int .i64 (i : Int)))), (51, (.v (.bool true)))] (by kernel_rfl) ⟨RG.st fun _ _ => by kernel_rfl, RG.cert_binc rfl .neq 118 118 50 (.int .i8 d) (.int .i8 0) (.bool true) rfl rfl (RG.sx fun _ => by kernel_rfl) (fun w => by kernel_rfl) (ne8_t hdz), trivial⟩ ?_
          intro a54 w54 M54
          repeat refine wp_seq ?_
          refine wp_cond_true (M54.ev (by kernel_rfl)) ?_
          repeat refine wp_seq ?_
          refine M54.dr (by kernel_rfl) (F82g_17 N i d s s3 s4) [] [(2, 7, (tw s4))] [(RG.z 8), C, (tw s4)] [(4, (.p 0 0)), (5, (.s 1 N N)), (7, (.p 2 0)), (8, (.v (.int .i64 (q : Int)))), (39, (.v (.int .i64 (N : Int)))), (40, (.v (.int .i64 (i : Int))))] (by kernel_rfl) (by kernel_rfl) ⟨RG.ld u117 i117 (by kernel_rfl), RG.st fun _ _ => by kernel_rfl, RG.st fun _ _ => by kernel_rfl, RG.cert_idx rfl 113 53 54 rfl (.s 1 N N) (.int .i64 (i : Int)) (RG.sx fun _ => by kernel_rfl) (RG.sx fun _ => by kernel_rfl) (fun μ w => at135 _ _ _ i hi w), RG.st fun _ _ => by kernel_rfl, RG.cert_callM2 rfl 1 _ rfl rfl (by kernel_rfl) hCne 79 55 56 (.p 1 (353 * i)) (.int .i8 d) (tv s3) rfl (fun a w => by kernel_rfl) (RG.sx fun _ => by kernel_rfl) (RG.sx fun _ => by kernel_rfl) (fun μ w hlt hr => htm (μ 1) w hlt hr), RG.cl (hs4) fun _ _ => by kernel_rfl, RG.pt i117 (by kernel_rfl), trivial⟩ ?_
          intro a55 w55 M55
          repeat refine wp_seq ?_
          refine M55.tx0 (F82g_18 i) [(4, (.p 0 0)), (5, (.s 1 N N)), (7, (.p 2 0)), (8, (.v (.int .i64 (q : Int)))), (39, (.v (.int .i64 (N : Int)))), (40, (.v (.int .i64 ((i + 1 : Nat) : Int))))] (by kernel_rfl) ⟨RG.cert_binc rfl .add 3 3 40 (.int .i64 (i : Int)) (.int .i64 1) (.int .i64 ((i + 1 : Nat) : Int)) rfl rfl (RG.sx fun _ => by kernel_rfl) (fun w => by kernel_rfl) (addn i 1 (by omega) (by omega)), RG.st fun _ _ => by kernel_rfl, trivial⟩ ?_
          intro a56 w56 M56
          have hS56 : RG.St w w.heap.size [] [(RG.z 8), C, (tw s4)] [kr, kt, kl] _ := M56.st
          have sl56 := M56.sl
          have f4_56 : a56.tmps[4]? = some (.pointer (some ⟨kr, 0, none⟩)) := M56.at (s := (.p 0 0)) (by kernel_rfl)
          have f5_56 : a56.tmps[5]? = some (.slice (some ⟨kt, 0, none⟩) N N) := M56.at (s := (.s 1 N N)) (by kernel_rfl)
          have f7_56 : a56.tmps[7]? = some (.pointer (some ⟨kl, 0, none⟩)) := M56.at (s := (.p 2 0)) (by kernel_rfl)
          have f8_56 : a56.tmps[8]? = some (.int .i64 (q : Int)) := M56.at (s := (.v (.int .i64 (q : Int)))) (by kernel_rfl)
          have f39_56 : a56.tmps[39]? = some (.int .i64 (N : Int)) := M56.at (s := (.v (.int .i64 (N : Int)))) (by kernel_rfl)
          have f40_56 : a56.tmps[40]? = some (.int .i64 ((i + 1 : Nat) : Int)) := M56.at (s := (.v (.int .i64 ((i + 1 : Nat) : Int)))) (by kernel_rfl)
          show ∃ n', _
          exact ⟨m' - 1, by omega, i + 1, by omega, sl56, f4_56, f5_56, f7_56, f8_56, f39_56, f40_56, by rw [hstep]; exact hS56⟩
      · have hiN3 : i = N := by omega
        rw [hiN3] at hse3
        rw [hse3] at hnext
        have M60 : RG.M w w.heap.size [] 62 [(RG.z 8), C, (tw s)] [kr, kt, kl] [(4, (.p 0 0)), (5, (.s 1 N N)), (7, (.p 2 0)), (8, (.v (.int .i64 (q : Int)))), (39, (.v (.int .i64 (N : Int)))), (40, (.v (.int .i64 (i : Int))))] c _ := ⟨hSr, slc, ⟨r4, r5, r7, r8, r39, r40, trivial⟩⟩
        repeat refine wp_seq ?_
        refine M60.tx0 F82h_13 [(4, (.p 0 0)), (5, (.s 1 N N)), (7, (.p 2 0)), (8, (.v (.int .i64 (q : Int)))), (41, (.v (.bool false)))] (by kernel_rfl) ⟨RG.cert_bin rfl .lss 3 3 40 39 (.int .i64 (i : Int)) (.int .i64 (N : Int)) (.bool false) rfl rfl (RG.sx fun _ => by kernel_rfl) (RG.sx fun _ => by kernel_rfl) (fun w => by kernel_rfl) (lssn_f hi), trivial⟩ ?_
        intro a61 w61 M61
        repeat refine wp_seq ?_
        refine wp_cond_false (M61.ev (by kernel_rfl)) ?_
        refine wp_exit ?_
        dsimp only [Exit.then, Exit.inBlock]
        rw [if_pos rfl]
        repeat refine wp_seq ?_
        refine M61.tx0 (F82h_10 q) [(4, (.p 0 0)), (5, (.s 1 N N)), (7, (.p 2 0)), (8, (.v (.int .i64 ((q : Int) - 1))))] (by kernel_rfl) ⟨RG.st fun _ _ => by kernel_rfl, RG.cert_binc rfl .sub 3 3 34 (.int .i64 (q : Int)) (.int .i64 1) (.int .i64 ((q : Int) - 1)) rfl rfl (RG.sx fun _ => by kernel_rfl) (fun w => by kernel_rfl) (sub1' q (by omega)), RG.st fun _ _ => by kernel_rfl, trivial⟩ ?_
        intro a62 w62 M62
        have hS62 : RG.St w w.heap.size [] [(RG.z 8), C, (tw s)] [kr, kt, kl] _ := M62.st
        have sl62 := M62.sl
        have f4_62 : a62.tmps[4]? = some (.pointer (some ⟨kr, 0, none⟩)) := M62.at (s := (.p 0 0)) (by kernel_rfl)
        have f5_62 : a62.tmps[5]? = some (.slice (some ⟨kt, 0, none⟩) N N) := M62.at (s := (.s 1 N N)) (by kernel_rfl)
        have f7_62 : a62.tmps[7]? = some (.pointer (some ⟨kl, 0, none⟩)) := M62.at (s := (.p 2 0)) (by kernel_rfl)
        have f8_62 : a62.tmps[8]? = some (.int .i64 ((q : Int) - 1)) := M62.at (s := (.v (.int .i64 ((q : Int) - 1)))) (by kernel_rfl)
        show ∃ n', _
        exact ⟨q, Nat.lt_succ_self q, by omega, sl62, f4_62, f5_62, f7_62, f8_62, by rw [hnext]; exact hS62⟩
end Go.Proofs.Yticolhhalbbogae
set_option linter.unusedVariables false
set_option linter.unusedSimpArgs false
namespace Go.Proofs.Yticolhhalbbogae
open Go.RowKit Go.Sort
variable {P : Nat} [NeZero P]
theorem ws_one (h : Fld P) : ([.int .u64 1, .int .u64 0, .int .u64 0, .int .u64 0] : List Value) = ws (1 : Fin P) := by
  have h := one_fv h
  unfold nv at h
  injection h with h
  exact congrArg Array.toList h
/-- The even root of a number, if there is one. -/
def rt (m : Fin P) : Option (Fin P) := if m.val ^ (P / 4 + 1) % P * (m.val ^ (P / 4 + 1) % P) % P = m.val then some (Fin.ofNat P (even P (m.val ^ (P / 4 + 1) % P))) else none
omit [NeZero P] in
theorem even_lt {r : Nat} (hP : 0 < P) (h : r < P) : even P r < P := by unfold even; split <;> omega
theorem rt_four {m y : Fin P} {v : Value} (h : rt m = some y) (hF : Four v (even P (m.val ^ (P / 4 + 1) % P))) : v = fv y := by
  unfold rt at h
  split at h
  · obtain rfl := Option.some.inj h
    have : (Fin.ofNat P (even P (m.val ^ (P / 4 + 1) % P))).val = even P (m.val ^ (P / 4 + 1) % P) := Nat.mod_eq_of_lt (even_lt (Nat.pos_of_neZero P) (Nat.mod_lt _ (Nat.pos_of_neZero P)))
    show v = nv _
    rw [this]
    exact hF.nv
  · cases h
theorem rt_yes {m y : Fin P} (h : rt m = some y) : m.val ^ (P / 4 + 1) % P * (m.val ^ (P / 4 + 1) % P) % P = m.val := by
  unfold rt at h
  split at h
  · assumption
  · cases h
theorem rt_no {m : Fin P} (h : rt m = none) : ¬ m.val ^ (P / 4 + 1) % P * (m.val ^ (P / 4 + 1) % P) % P = m.val := by
  unfold rt at h
  split at h
  · cases h
  · assumption
theorem RootR.val {m : Fin P} {e : Value} (h : RootR P m.val (m.val ^ (P / 4 + 1) % P) e) : (∀ y, rt m = some y → e = .tuple #[fv y, .bool true]) ∧ (rt m = none → e = .tuple #[fv (0 : Fin P), .bool false]) := by
  obtain ⟨ya, yb, yc, yd, ok, rfl, h1, h2, h3⟩ := h
  refine ⟨fun y hy => ?_, fun hn => ?_⟩
  · cases ok with
    | true => rw [rt_four hy (h1 rfl).2]
    | false => exact absurd (rt_yes hy) (h2 rfl)
  · cases ok with
    | true => exact absurd (h1 rfl).1 (rt_no hn)
    | false =>
      obtain ⟨rfl, rfl, rfl, rfl⟩ := h3 rfl
      rw [← zero_fv]
      rfl
theorem Root_y (h : Fld P) {m y : Fin P} (e : rt m = some y) : Gives 101 #[gv0, fv m] (.tuple #[fv y, .bool true]) := fun w =>
  (Root_any 4294968273 0 0 P _ m.val h.gap h.p4 (h.four m) w).mono (by rintro e' w' ⟨v, rfl, hb, hF⟩; exact ⟨_, rfl, hb, hF.val.1 y e⟩)
theorem Root_n (h : Fld P) {m : Fin P} (e : rt m = none) : Gives 101 #[gv0, fv m] (.tuple #[fv (0 : Fin P), .bool false]) := fun w =>
  (Root_any 4294968273 0 0 P _ m.val h.gap h.p4 (h.four m) w).mono (by rintro e' w' ⟨v, rfl, hb, hF⟩; exact ⟨_, rfl, hb, hF.val.2 e⟩)
end Go.Proofs.Yticolhhalbbogae
namespace Go.Proofs.Yticolhhalbbogae
open Go.RowKit Go.Sort
variable {P : Nat} [NeZero P]
def gl0 : List Value := [.int .u64 4294968273, .int .u64 0, .int .u64 0, .int .u64 0]
def F99y_0 (x : Fin P) : List RG.It := [.m 1 [] 0, .m 2 [] 1, .x 3 [] (.bool false)]
def F99y_1 : List RG.It := [.c 8 [] gv0, .m 4 [] 2, .u [(4, 1), (8, 0)] 2]
def F99y_2 (x c1 c2 c3 : Fin P) : List RG.It := [.x 9 [] gv0, .x 10 [] gv0, .x 11 [] gv0, .x 12 [] (fv x), .x 13 [] (fv x), .c 14 [(11, 2), (12, 3), (13, 4)] (fv c1), .x 15 [] (fv x), .c 16 [(10, 1), (14, 5), (15, 6)] (fv c2), .x 17 [] (fv (7 : Fin P)), .c 18 [(9, 0), (16, 7), (17, 8)] (fv c3), .m 5 [] 3, .u [(5, 10), (18, 9)] 3]
def F99y_3 (x y c3 : Fin P) : List RG.It := [.x 20 [] gv0, .x 21 [] (fv c3), .c 22 [(20, 0), (21, 1)] (.tuple #[(fv y), (.bool true)]), .x 19 [(22, 2)] (.tuple #[(fv y), (.bool true)]), .x 23 [(19, 3)] (fv y), .x 24 [(19, 3)] (.bool true), .m 6 [] 4, .u [(6, 6), (23, 4)] 4, .x 7 [(24, 5)] (.bool true)]
def F99y_4 (x : Fin P) : List RG.It := [.x 25 [] (.bool true), .x 26 [(25, 0)] (.bool false)]
def F99y_6 (x y : Fin P) : List RG.It := [.x 28 [] (fv x), .x 29 [] (fv y), .x 30 [(28, 0), (29, 1)] (pv x y), .u [(30, 2)] 1, .x 3 [] (.bool true)]
set_option maxHeartbeats 2000000 in
set_option maxRecDepth 100000 in
theorem above_y_c (C : Fld P) (x y : Fin P)(hr : rt (x * x * x + 7) = some y)  : Gives 87 #[(fv x)] (.tuple #[pv x y, .bool true]) := by
  intro w
  obtain ⟨c1, hc1⟩ : ∃ c, c = x * x := ⟨_, rfl⟩
  obtain ⟨c2, hc2⟩ : ∃ c, c = c1 * x := ⟨_, rfl⟩
  obtain ⟨c3, hc3⟩ : ∃ c, c = c2 + (7 : Fin P) := ⟨_, rfl⟩
  have hfin : ((.tuple #[(pv x y), (.bool true)]) : Value) = (.tuple #[pv x y, .bool true]) := by
    subst_vars; rfl
  rw [← hfin]
  go_enter Try.func87, Try.ntmps87
  refine RG.M.enter [(0, (.v (fv x)))] 31 (by kernel_rfl) ?_
  intro a0 M0
  repeat refine wp_seq ?_
  refine M0.tx (F99y_0 x) [(0, (ws x)), (1, (RG.z 8))] [] [(ws x), (RG.z 8)] [(1, (.p 0 0)), (2, (.p 1 0)), (3, (.v (.bool false)))] (by kernel_rfl) (by kernel_rfl) ⟨RG.mk 0 38 fun _ _ => by kernel_rfl, RG.mk 1 64 fun _ _ => by kernel_rfl, RG.st fun _ _ => by kernel_rfl, trivial⟩ ?_
  intro j1 i1 a1 w1 M1
  repeat refine wp_seq ?_
  refine M1.tx F99y_1 [(1, (RG.z 4))] [(2, 2, gl0)] [(ws x), (RG.z 8), gl0] [(1, (.p 0 0)), (2, (.p 1 0)), (3, (.v (.bool false))), (4, (.p 2 0))] (by kernel_rfl) (by kernel_rfl) ⟨RG.cl (Coordinates_c) fun _ _ => by kernel_rfl, RG.mk 2 71 fun _ _ => by kernel_rfl, RG.pt i79 (by kernel_rfl), trivial⟩ ?_
  intro j2 a2 w2 M2
  repeat refine wp_seq ?_
  refine M2.dr (by kernel_rfl) (F99y_2 x c1 c2 c3) [(10, (RG.z 4))] [(3, 11, (ws c3))] [(ws x), (RG.z 8), gl0, (ws c3)] [(1, (.p 0 0)), (2, (.p 1 0)), (3, (.v (.bool false))), (4, (.p 2 0)), (5, (.p 3 0))] (by kernel_rfl) (by kernel_rfl) ⟨RG.ld u79 i79 (by kernel_rfl), RG.ld u79 i79 (by kernel_rfl), RG.ld u79 i79 (by kernel_rfl), RG.ld u85 i85 (by kernel_rfl), RG.ld u85 i85 (by kernel_rfl), RG.cl ((PTimes_c C x x).e hc1) fun _ _ => by kernel_rfl, RG.ld u85 i85 (by kernel_rfl), RG.cl ((PTimes_c C c1 x).e hc2) fun _ _ => by kernel_rfl, RG.se (seven_fv C) fun _ _ => by kernel_rfl, RG.cl ((PPlus_c C c2 (7 : Fin P)).e hc3) fun _ _ => by kernel_rfl, RG.mk 3 38 fun _ _ => by kernel_rfl, RG.pt i85 (by kernel_rfl), trivial⟩ ?_
  intro j3 a3 w3 M3
  repeat refine wp_seq ?_
  refine M3.tx (F99y_3 x y c3) [(6, (RG.z 4))] [(4, 7, (ws y))] [(ws x), (RG.z 8), gl0, (ws c3), (ws y)] [(1, (.p 0 0)), (2, (.p 1 0)), (3, (.v (.bool false))), (6, (.p 4 0)), (7, (.v (.bool true)))] (by kernel_rfl) (by kernel_rfl) ⟨RG.ld u79 i79 (by kernel_rfl), RG.ld u85 i85 (by kernel_rfl), RG.cl (f := 101) (args := #[gv0, (fv c3)]) (v := (.tuple #[(fv y), (.bool true)])) (Root_y C (by subst_vars; exact hr)) fun _ _ => by kernel_rfl, RG.st fun _ _ => by kernel_rfl, RG.st fun _ _ => by kernel_rfl, RG.st fun _ _ => by kernel_rfl, RG.mk 4 38 fun _ _ => by kernel_rfl, RG.pt i85 (by kernel_rfl), RG.st fun _ _ => by kernel_rfl, trivial⟩ ?_
  intro j4 a4 w4 M4
  repeat refine wp_seq ?_
  refine M4.tx0 (F99y_4 x) [(1, (.p 0 0)), (2, (.p 1 0)), (3, (.v (.bool false))), (6, (.p 4 0)), (26, (.v (.bool false)))] (by kernel_rfl) ⟨RG.st fun _ _ => by kernel_rfl, RG.st fun _ _ => by kernel_rfl, trivial⟩ ?_
  intro a5 w5 M5
  repeat refine wp_seq ?_
  refine wp_cond_false (M5.ev (by kernel_rfl)) ?_
  refine wp_skip ?_
  repeat refine wp_seq ?_
  refine M5.tx (F99y_6 x y) [] [(1, 3, (ws x ++ (ws y)))] [(ws x), (ws x ++ (ws y)), gl0, (ws c3), (ws y)] [(2, (.p 1 0)), (3, (.v (.bool true)))] (by kernel_rfl) (by kernel_rfl) ⟨RG.ld u85 i85 (by kernel_rfl), RG.ld u85 i85 (by kernel_rfl), RG.st fun _ _ => by kernel_rfl, RG.pt i109 (by kernel_rfl), RG.st fun _ _ => by kernel_rfl, trivial⟩ ?_
  intro a6 w6 M6
  refine wp_ret ?_
  refine bodyPost_ret (v := (.tuple #[(pv x y), (.bool true)])) (RG.results_rt M6.st 2 3 64 rfl 1 _ rfl (M6.at (s := (.p 1 0)) (by kernel_rfl)) _ (M6.at (s := (.v (.bool true))) (by kernel_rfl)) u109 i109) M6.sl.defers ?_
  exact ⟨_, rfl, M6.st.bel.below, rfl⟩
def F99n_0 (x : Fin P) : List RG.It := [.m 1 [] 0, .m 2 [] 1, .x 3 [] (.bool false)]
def F99n_1 : List RG.It := [.c 8 [] gv0, .m 4 [] 2, .u [(4, 1), (8, 0)] 2]
def F99n_2 (x c1 c2 c3 : Fin P) : List RG.It := [.x 9 [] gv0, .x 10 [] gv0, .x 11 [] gv0, .x 12 [] (fv x), .x 13 [] (fv x), .c 14 [(11, 2), (12, 3), (13, 4)] (fv c1), .x 15 [] (fv x), .c 16 [(10, 1), (14, 5), (15, 6)] (fv c2), .x 17 [] (fv (7 : Fin P)), .c 18 [(9, 0), (16, 7), (17, 8)] (fv c3), .m 5 [] 3, .u [(5, 10), (18, 9)] 3]
def F99n_3 (x c3 : Fin P) : List RG.It := [.x 20 [] gv0, .x 21 [] (fv c3), .c 22 [(20, 0), (21, 1)] (.tuple #[(fv (0 : Fin P)), (.bool false)]), .x 19 [(22, 2)] (.tuple #[(fv (0 : Fin P)), (.bool false)]), .x 23 [(19, 3)] (fv (0 : Fin P)), .x 24 [(19, 3)] (.bool false), .m 6 [] 4, .u [(6, 6), (23, 4)] 4, .x 7 [(24, 5)] (.bool false)]
def F99n_4 (x : Fin P) : List RG.It := [.x 25 [] (.bool false), .x 26 [(25, 0)] (.bool true)]
def F99n_5 (x : Fin P) : List RG.It := [.x 27 [] (pv (0 : Fin P) (0 : Fin P)), .u [(27, 0)] 1, .x 3 [] (.bool false)]
set_option maxHeartbeats 2000000 in
set_option maxRecDepth 100000 in
theorem above_n_c (C : Fld P) (x : Fin P)(hr : rt (x * x * x + 7) = none)  : Gives 87 #[(fv x)] (.tuple #[pv (0 : Fin P) 0, .bool false]) := by
  intro w
  obtain ⟨c1, hc1⟩ : ∃ c, c = x * x := ⟨_, rfl⟩
  obtain ⟨c2, hc2⟩ : ∃ c, c = c1 * x := ⟨_, rfl⟩
  obtain ⟨c3, hc3⟩ : ∃ c, c = c2 + (7 : Fin P) := ⟨_, rfl⟩
  have hfin : ((.tuple #[(pv (0 : Fin P) (0 : Fin P)), (.bool false)]) : Value) = (.tuple #[pv (0 : Fin P) 0, .bool false]) := by
    subst_vars; rfl
  rw [← hfin]
  go_enter Try.func87, Try.ntmps87
  refine RG.M.enter [(0, (.v (fv x)))] 31 (by kernel_rfl) ?_
  intro a0 M0
  repeat refine wp_seq ?_
  refine M0.tx (F99n_0 x) [(0, (ws x)), (1, (RG.z 8))] [] [(ws x), (RG.z 8)] [(1, (.p 0 0)), (2, (.p 1 0)), (3, (.v (.bool false)))] (by kernel_rfl) (by kernel_rfl) ⟨RG.mk 0 38 fun _ _ => by kernel_rfl, RG.mk 1 64 fun _ _ => by kernel_rfl, RG.st fun _ _ => by kernel_rfl, trivial⟩ ?_
  intro j1 i1 a1 w1 M1
  repeat refine wp_seq ?_
  refine M1.tx F99n_1 [(1, (RG.z 4))] [(2, 2, gl0)] [(ws x), (RG.z 8), gl0] [(1, (.p 0 0)), (2, (.p 1 0)), (3, (.v (.bool false))), (4, (.p 2 0))] (by kernel_rfl) (by kernel_rfl) ⟨RG.cl (Coordinates_c) fun _ _ => by kernel_rfl, RG.mk 2 71 fun _ _ => by kernel_rfl, RG.pt i79 (by kernel_rfl), trivial⟩ ?_
  intro j2 a2 w2 M2
  repeat refine wp_seq ?_
  refine M2.dr (by kernel_rfl) (F99n_2 x c1 c2 c3) [(10, (RG.z 4))] [(3, 11, (ws c3))] [(ws x), (RG.z 8), gl0, (ws c3)] [(2, (.p 1 0)), (3, (.v (.bool false))), (4, (.p 2 0)), (5, (.p 3 0))] (by kernel_rfl) (by kernel_rfl) ⟨RG.ld u79 i79 (by kernel_rfl), RG.ld u79 i79 (by kernel_rfl), RG.ld u79 i79 (by kernel_rfl), RG.ld u85 i85 (by kernel_rfl), RG.ld u85 i85 (by kernel_rfl), RG.cl ((PTimes_c C x x).e hc1) fun _ _ => by kernel_rfl, RG.ld u85 i85 (by kernel_rfl), RG.cl ((PTimes_c C c1 x).e hc2) fun _ _ => by kernel_rfl, RG.se (seven_fv C) fun _ _ => by kernel_rfl, RG.cl ((PPlus_c C c2 (7 : Fin P)).e hc3) fun _ _ => by kernel_rfl, RG.mk 3 38 fun _ _ => by kernel_rfl, RG.pt i85 (by kernel_rfl), trivial⟩ ?_
  intro j3 a3 w3 M3
  repeat refine wp_seq ?_
  refine M3.tx (F99n_3 x c3) [(6, (RG.z 4))] [(4, 7, (ws (0 : Fin P)))] [(ws x), (RG.z 8), gl0, (ws c3), (ws (0 : Fin P))] [(2, (.p 1 0)), (3, (.v (.bool false))), (7, (.v (.bool false)))] (by kernel_rfl) (by kernel_rfl) ⟨RG.ld u79 i79 (by kernel_rfl), RG.ld u85 i85 (by kernel_rfl), RG.cl (f := 101) (args := #[gv0, (fv c3)]) (v := (.tuple #[(fv (0 : Fin P)), (.bool false)])) (Root_n C (by subst_vars; exact hr)) fun _ _ => by kernel_rfl, RG.st fun _ _ => by kernel_rfl, RG.st fun _ _ => by kernel_rfl, RG.st fun _ _ => by kernel_rfl, RG.mk 4 38 fun _ _ => by kernel_rfl, RG.pt i85 (by kernel_rfl), RG.st fun _ _ => by kernel_rfl, trivial⟩ ?_
  intro j4 a4 w4 M4
  repeat refine wp_seq ?_
  refine M4.tx0 (F99n_4 x) [(2, (.p 1 0)), (3, (.v (.bool false))), (26, (.v (.bool true)))] (by kernel_rfl) ⟨RG.st fun _ _ => by kernel_rfl, RG.st fun _ _ => by kernel_rfl, trivial⟩ ?_
  intro a5 w5 M5
  repeat refine wp_seq ?_
  refine wp_cond_true (M5.ev (by kernel_rfl)) ?_
  repeat refine wp_seq ?_
  refine M5.tx (F99n_5 x) [] [(1, 1, (ws (0 : Fin P) ++ (ws (0 : Fin P))))] [(ws x), (ws (0 : Fin P) ++ (ws (0 : Fin P))), gl0, (ws c3), (ws (0 : Fin P))] [(2, (.p 1 0)), (3, (.v (.bool false)))] (by kernel_rfl) (by kernel_rfl) ⟨RG.se (zero_pv (P := P)) fun _ _ => by kernel_rfl, RG.pt i109 (by kernel_rfl), RG.st fun _ _ => by kernel_rfl, trivial⟩ ?_
  intro a6 w6 M6
  refine wp_ret ?_
  refine bodyPost_ret (v := (.tuple #[(pv (0 : Fin P) (0 : Fin P)), (.bool false)])) (RG.results_rt M6.st 2 3 64 rfl 1 _ rfl (M6.at (s := (.p 1 0)) (by kernel_rfl)) _ (M6.at (s := (.v (.bool false))) (by kernel_rfl)) u109 i109) M6.sl.defers ?_
  exact ⟨_, rfl, M6.st.bel.below, rfl⟩
def F77_0 : List RG.It := [.m 1 [] 0, .m 2 [] 1]
def F77_1 (x y c1 : Fin P) : List RG.It := [.s 3 [] (.p 0 0), .x 4 [(3, 0)] (fv x), .c 5 [] gv0, .x 6 [] (fv (0 : Fin P)), .s 7 [] (.p 0 4), .x 8 [(7, 4)] (fv y), .c 9 [(5, 2), (6, 3), (8, 5)] (fv c1), .x 10 [(4, 1), (9, 6)] (pv x c1), .u [(10, 7)] 1]
set_option maxHeartbeats 2000000 in
set_option maxRecDepth 100000 in
theorem popp_c (C : Fld P) (x y : Fin P) : Gives 88 #[(pv x y)] (pv x (0 - y)) := by
  intro w
  obtain ⟨c1, hc1⟩ : ∃ c, c = (0 : Fin P) - y := ⟨_, rfl⟩
  have hfin : ((pv x c1) : Value) = (pv x (0 - y)) := by
    subst_vars; rfl
  rw [← hfin]
  go_enter Try.func88, Try.ntmps88
  refine RG.M.enter [(0, (.v (pv x y)))] 11 (by kernel_rfl) ?_
  intro a0 M0
  repeat refine wp_seq ?_
  refine M0.tx F77_0 [(0, (ws x ++ (ws y))), (1, (RG.z 8))] [] [(ws x ++ (ws y)), (RG.z 8)] [(1, (.p 0 0)), (2, (.p 1 0))] (by kernel_rfl) (by kernel_rfl) ⟨RG.mk 0 64 fun _ _ => by kernel_rfl, RG.mk 1 64 fun _ _ => by kernel_rfl, trivial⟩ ?_
  intro j1 i1 a1 w1 M1
  repeat refine wp_seq ?_
  refine M1.dr (by kernel_rfl) (F77_1 x y c1) [] [(1, 8, (ws x ++ (ws c1)))] [(ws x ++ (ws y)), (ws x ++ (ws c1))] [(2, (.p 1 0))] (by kernel_rfl) (by kernel_rfl) ⟨RG.st fun _ _ => by kernel_rfl, RG.ld u85 i85 (by kernel_rfl), RG.cl (Coordinates_c) fun _ _ => by kernel_rfl, RG.se (zero_fv (P := P)) fun _ _ => by kernel_rfl, RG.st fun _ _ => by kernel_rfl, RG.ld u85 i85 (by kernel_rfl), RG.cl ((PMinus_c C (0 : Fin P) y).e hc1) fun _ _ => by kernel_rfl, RG.st fun _ _ => by kernel_rfl, RG.pt i109 (by kernel_rfl), trivial⟩ ?_
  intro a2 w2 M2
  refine wp_ret ?_
  refine bodyPost_ret (v := (pv x c1)) (RG.results_row M2.st 2 64 rfl 1 _ rfl (M2.at (s := (.p 1 0)) (by kernel_rfl)) u109 i109) M2.sl.defers ?_
  exact ⟨_, rfl, M2.st.bel.below, rfl⟩
end Go.Proofs.Yticolhhalbbogae
namespace Go.Proofs.Yticolhhalbbogae
open Go.RowKit Go.Sort Go.Deep
theorem readS_of {w W : World} {k0 k1 k6 a b c d g0 g1 g2 : Nat} (h : Kept w k0 [⟨k6, 0, a, b, c, d⟩, ⟨k0, 0, g0, g1, g2, 0⟩, ⟨k1, 0, 0, 0, 0, 0⟩] W) : W.cell? ⟨k6, 0, none⟩ = some (.int .u64 (a : Int)) ∧ W.cell? ⟨k6, 1, none⟩ = some (.int .u64 (b : Int)) ∧ W.cell? ⟨k6, 2, none⟩ = some (.int .u64 (c : Int)) ∧ W.cell? ⟨k6, 3, none⟩ = some (.int .u64 (d : Int)) ∧ W.cell? ⟨k0, 0, none⟩ = some (.int .u64 (g0 : Int)) ∧ W.cell? ⟨k0, 1, none⟩ = some (.int .u64 (g1 : Int)) ∧ W.cell? ⟨k0, 2, none⟩ = some (.int .u64 (g2 : Int)) ∧ W.cell? ⟨k0, 3, none⟩ = some (.int .u64 0) ∧ Kept w k0 [⟨k6, 0, a, b, c, d⟩, ⟨k0, 0, g0, g1, g2, 0⟩, ⟨k1, 0, 0, 0, 0, 0⟩] W := ⟨h.head.c0, h.head.c1, h.head.c2, h.head.c3, h.tail.head.c0, h.tail.head.c1, h.tail.head.c2, h.tail.head.c3, h⟩
theorem readS_get {w W : World} {k0 k1 k6 a b c d g0 g1 g2 : Nat} (h : W.cell? ⟨k6, 0, none⟩ = some (.int .u64 (a : Int)) ∧ W.cell? ⟨k6, 1, none⟩ = some (.int .u64 (b : Int)) ∧ W.cell? ⟨k6, 2, none⟩ = some (.int .u64 (c : Int)) ∧ W.cell? ⟨k6, 3, none⟩ = some (.int .u64 (d : Int)) ∧ W.cell? ⟨k0, 0, none⟩ = some (.int .u64 (g0 : Int)) ∧ W.cell? ⟨k0, 1, none⟩ = some (.int .u64 (g1 : Int)) ∧ W.cell? ⟨k0, 2, none⟩ = some (.int .u64 (g2 : Int)) ∧ W.cell? ⟨k0, 3, none⟩ = some (.int .u64 0) ∧ Kept w k0 [⟨k6, 0, a, b, c, d⟩, ⟨k0, 0, g0, g1, g2, 0⟩, ⟨k1, 0, 0, 0, 0, 0⟩] W) : Kept w k0 [⟨k6, 0, a, b, c, d⟩, ⟨k0, 0, g0, g1, g2, 0⟩, ⟨k1, 0, 0, 0, 0, 0⟩] W := h.2.2.2.2.2.2.2.2
theorem readS_alloc {w W : World} {k0 k1 k6 a b c d g0 g1 g2 : Nat} {o : Obj} (h : W.cell? ⟨k6, 0, none⟩ = some (.int .u64 (a : Int)) ∧ W.cell? ⟨k6, 1, none⟩ = some (.int .u64 (b : Int)) ∧ W.cell? ⟨k6, 2, none⟩ = some (.int .u64 (c : Int)) ∧ W.cell? ⟨k6, 3, none⟩ = some (.int .u64 (d : Int)) ∧ W.cell? ⟨k0, 0, none⟩ = some (.int .u64 (g0 : Int)) ∧ W.cell? ⟨k0, 1, none⟩ = some (.int .u64 (g1 : Int)) ∧ W.cell? ⟨k0, 2, none⟩ = some (.int .u64 (g2 : Int)) ∧ W.cell? ⟨k0, 3, none⟩ = some (.int .u64 0) ∧ Kept w k0 [⟨k6, 0, a, b, c, d⟩, ⟨k0, 0, g0, g1, g2, 0⟩, ⟨k1, 0, 0, 0, 0, 0⟩] W) : (W.alloc o).cell? ⟨k6, 0, none⟩ = some (.int .u64 (a : Int)) ∧ (W.alloc o).cell? ⟨k6, 1, none⟩ = some (.int .u64 (b : Int)) ∧ (W.alloc o).cell? ⟨k6, 2, none⟩ = some (.int .u64 (c : Int)) ∧ (W.alloc o).cell? ⟨k6, 3, none⟩ = some (.int .u64 (d : Int)) ∧ (W.alloc o).cell? ⟨k0, 0, none⟩ = some (.int .u64 (g0 : Int)) ∧ (W.alloc o).cell? ⟨k0, 1, none⟩ = some (.int .u64 (g1 : Int)) ∧ (W.alloc o).cell? ⟨k0, 2, none⟩ = some (.int .u64 (g2 : Int)) ∧ (W.alloc o).cell? ⟨k0, 3, none⟩ = some (.int .u64 0) ∧ Kept w k0 [⟨k6, 0, a, b, c, d⟩, ⟨k0, 0, g0, g1, g2, 0⟩, ⟨k1, 0, 0, 0, 0, 0⟩] (W.alloc o) := readS_of ((readS_get h).alloc o)
theorem readS_allocd {w W : World} {k0 k1 k6 a b c d g0 g1 g2 : Nat} {o : Obj} (h : W.drew.cell? ⟨k6, 0, none⟩ = some (.int .u64 (a : Int)) ∧ W.drew.cell? ⟨k6, 1, none⟩ = some (.int .u64 (b : Int)) ∧ W.drew.cell? ⟨k6, 2, none⟩ = some (.int .u64 (c : Int)) ∧ W.drew.cell? ⟨k6, 3, none⟩ = some (.int .u64 (d : Int)) ∧ W.drew.cell? ⟨k0, 0, none⟩ = some (.int .u64 (g0 : Int)) ∧ W.drew.cell? ⟨k0, 1, none⟩ = some (.int .u64 (g1 : Int)) ∧ W.drew.cell? ⟨k0, 2, none⟩ = some (.int .u64 (g2 : Int)) ∧ W.drew.cell? ⟨k0, 3, none⟩ = some (.int .u64 0) ∧ Kept w k0 [⟨k6, 0, a, b, c, d⟩, ⟨k0, 0, g0, g1, g2, 0⟩, ⟨k1, 0, 0, 0, 0, 0⟩] W.drew) : (W.alloc o).drew.cell? ⟨k6, 0, none⟩ = some (.int .u64 (a : Int)) ∧ (W.alloc o).drew.cell? ⟨k6, 1, none⟩ = some (.int .u64 (b : Int)) ∧ (W.alloc o).drew.cell? ⟨k6, 2, none⟩ = some (.int .u64 (c : Int)) ∧ (W.alloc o).drew.cell? ⟨k6, 3, none⟩ = some (.int .u64 (d : Int)) ∧ (W.alloc o).drew.cell? ⟨k0, 0, none⟩ = some (.int .u64 (g0 : Int)) ∧ (W.alloc o).drew.cell? ⟨k0, 1, none⟩ = some (.int .u64 (g1 : Int)) ∧ (W.alloc o).drew.cell? ⟨k0, 2, none⟩ = some (.int .u64 (g2 : Int)) ∧ (W.alloc o).drew.cell? ⟨k0, 3, none⟩ = some (.int .u64 0) ∧ Kept w k0 [⟨k6, 0, a, b, c, d⟩, ⟨k0, 0, g0, g1, g2, 0⟩, ⟨k1, 0, 0, 0, 0, 0⟩] (W.alloc o).drew := readS_of (((readS_get h).undrew).alloc o).drew
set_option maxHeartbeats 1000000 in
theorem Read_len (pv : Value) (p : Option Addr) (n cap : Nat) (w : World) (g0 g1 g2 : Nat) (hp : pv = .agg #[.int .u64 (g0 : Int), .int .u64 (g1 : Int), .int .u64 (g2 : Int), .int .u64 0]) (hn : n ≠ 32) :
    Calls Try.prog 32 #[pv, .slice p n cap] w (Ret fun e w' => Below w.heap.size w w' ∧ e = .tuple #[.agg #[.int .u64 0, .int .u64 0, .int .u64 0, .int .u64 0], .bool false]) := by
  subst hp
  have h1 : ¬ (n : Int) = 32 := by omega
  go_enter Try.func32, Try.ntmps32
  go_wp2
  refine bodyPost_ret (v := ?v) ?hr rfl ?hR
  case hr => simp [results, Try.results32, go_sem]; rfl
  exact ⟨_, rfl, below2 _ _ _, rfl⟩
set_option maxHeartbeats 4000000 in
set_option maxRecDepth 100000 in
theorem Read_any (g0 g1 g2 P g o cap : Nat) (bs : Bs) (hG : Gap g0 g1 g2 P) (w : World) (hs : bs.size = 32) (hc : 32 ≤ cap) (hg : g < w.heap.size) (hB : Holds encB w g o bs) :
    Calls Try.prog 32 #[.agg #[.int .u64 (g0 : Int), .int .u64 (g1 : Int), .int .u64 (g2 : Int), .int .u64 0], .slice (some ⟨g, o, none⟩) 32 cap] w
      (Ret fun e w' => Below w.heap.size w w' ∧ ((beV bs.toList < P ∧ ∃ v, e = .tuple #[v, .bool true] ∧ Four v (beV bs.toList)) ∨ (P ≤ beV bs.toList ∧ e = .tuple #[.agg #[.int .u64 0, .int .u64 0, .int .u64 0, .int .u64 0], .bool false]))) := by
  have HG : Hid (Gap g0 g1 g2 P) := hG
  have HBS : Hid (Holds encB w g o bs) := hB
  have HS : Hid (bs.size = 32) := hs
  clear hG hB hs
  go_enter Try.func32, Try.ntmps32
  go_wp2_with fail
  have PR := (At4.made w 71 g0 g1 g2 0 rfl).alloc (.cells #[.int .u64 0, .int .u64 0, .int .u64 0, .int .u64 0] 38)
  have RE := At4.made (w.alloc (.cells #[.int .u64 (g0 : Int), .int .u64 (g1 : Int), .int .u64 (g2 : Int), .int .u64 0] 71)) 38 0 0 0 0 (World.size_alloc _ _)
  have KP0 := ((Kept.mk1 (below2 w (.cells #[.int .u64 (g0 : Int), .int .u64 (g1 : Int), .int .u64 (g2 : Int), .int .u64 0] 71) (.cells #[.int .u64 0, .int .u64 0, .int .u64 0, .int .u64 0] 38)) (below2 w (.cells #[.int .u64 (g0 : Int), .int .u64 (g1 : Int), .int .u64 (g2 : Int), .int .u64 0] 71) (.cells #[.int .u64 0, .int .u64 0, .int .u64 0, .int .u64 0] 38)).size).cons RE.blk).cons PR.blk
  have HB0 := Holds.below HBS.out (below2 w (.cells #[.int .u64 (g0 : Int), .int .u64 (g1 : Int), .int .u64 (g2 : Int), .int .u64 0] 71) (.cells #[.int .u64 0, .int .u64 0, .int .u64 0, .int .u64 0] 38)) hg
  clear PR RE
  generalize World.alloc _ _ = W0 at KP0 HB0 ⊢
  refine (fromBytes_any (some ⟨g, o, none⟩) g o 32 cap bs _ (Nat.le_refl 32) hc HS.out (Or.inr ⟨rfl, HB0⟩)).mono ?_
  rintro e w1 ⟨v, rfl, hb1, hF⟩
  obtain ⟨a, b, c, d, rfl, ha, hb, hc', hd, es⟩ := id hF
  have HF : Hid (Four _ _) := hF
  have K1 := KP0.call hb1
  clear es hF hb1 KP0 HB0
  go_wp2_with fail
  have KP := (K1.alloc (.cells #[.int .u64 (a : Int), .int .u64 (b : Int), .int .u64 (c : Int), .int .u64 (d : Int)] 38)).cons (At4.made w1 38 a b c d rfl).blk
  have q60 : w1.heap.size ≠ w.heap.size := Nat.ne_of_gt K1.head.lt
  clear K1
  generalize World.alloc _ _ = W1 at KP ⊢
  generalize w1.heap.size = k6 at KP q60 ⊢
  generalize h1 : w.heap.size + 1 = k1 at KP ⊢
  have Q1 : Hid (w.heap.size ≤ k1) := by unfold Hid; omega
  generalize h0 : w.heap.size = k0 at KP Q1 hg q60 ⊢
  have H0 : Hid (w.heap.size = k0) := h0
  clear h0 h1
  go_cut [8] (fun s8 wx => ∃ k : Nat, s8 = .int .u64 (k : Int) ∧ k ≤ 1 ∧ Hid (∃ t, t < top ∧ t + top * k = beV bs.toList + val g0 g1 g2 0) ∧ Kept w k0 [⟨k6, 0, a, b, c, d⟩, ⟨k0, 0, g0, g1, g2, 0⟩, ⟨k1, 0, 0, 0, 0, 0⟩] wx)
  case first =>
    go_region_held3 (fun w' => w'.cell? ⟨k6, 0, none⟩ = some (.int .u64 (a : Int)) ∧ w'.cell? ⟨k6, 1, none⟩ = some (.int .u64 (b : Int)) ∧ w'.cell? ⟨k6, 2, none⟩ = some (.int .u64 (c : Int)) ∧ w'.cell? ⟨k6, 3, none⟩ = some (.int .u64 (d : Int)) ∧ w'.cell? ⟨k0, 0, none⟩ = some (.int .u64 (g0 : Int)) ∧ w'.cell? ⟨k0, 1, none⟩ = some (.int .u64 (g1 : Int)) ∧ w'.cell? ⟨k0, 2, none⟩ = some (.int .u64 (g2 : Int)) ∧ w'.cell? ⟨k0, 3, none⟩ = some (.int .u64 0) ∧ Kept w k0 [⟨k6, 0, a, b, c, d⟩, ⟨k0, 0, g0, g1, g2, 0⟩, ⟨k1, 0, 0, 0, 0, 0⟩] w') (first | (with_reducible exact readS_of KP) | (with_reducible exact readS_of KP.drew) | (with_reducible exact readS_allocd (by assumption)) | (with_reducible exact readS_alloc (by assumption)) | (with_reducible exact readS_of (KP.alloc _)) | (with_reducible exact readS_of (KP.set4' M7 (fun x hx => Nat.ne_of_gt (N7 x hx)) _ _ _ _)) | (with_reducible exact readS_of (KP.alloc _).drew) | (with_reducible exact readS_of (KP.set4' M7 (fun x hx => Nat.ne_of_gt (N7 x hx)) _ _ _ _).drew) | fail) (first | (go_at_call 60; refine (four_any _ _ HF.out _).mono ?_; rintro e w2 ⟨v, rfl, hb1, rfl⟩; (try (with_reducible have T1 := T.call hb1; clear T; have T := T1; clear T1)); (try (first | (with_reducible have T := (At4.made _ 69 0 0 0 0 rfl).call hb1) | (with_reducible have T := (At4.made _ 69 0 0 0 0 rfl).drew.call hb1)); have N7 := KP.lts; have M7 := KP.le); have KP1 := Kept.call (readS_get (by assumption)) hb1; clear KP; have KP := KP1; clear KP1 hb1) | (go_at_call 59; refine (plus_any _ _ _ _ HF.out (Four.mk HG.out.h0 HG.out.h1 HG.out.h2 (by decide) rfl) _).mono ?_; rintro e w2 ⟨v, rfl, hb1, v2, t, k, rfl, hF2, hk, he⟩; obtain ⟨a', b', c', d', rfl, ha', hb', hc', hd', es⟩ := id hF2; have HT : Hid (t < top ∧ t + top * k = beV bs.toList + val g0 g1 g2 0) := ⟨hF2.lt, he⟩; clear es he hF2; (try (with_reducible have T1 := T.call hb1; clear T; have T := T1; clear T1)); (try (first | (with_reducible have T := (At4.made _ 69 0 0 0 0 rfl).call hb1) | (with_reducible have T := (At4.made _ 69 0 0 0 0 rfl).drew.call hb1)); have N7 := KP.lts; have M7 := KP.le); have KP1 := Kept.call (readS_get (by assumption)) hb1; clear KP; have KP := KP1; clear KP1 hb1; (try (obtain ⟨tc0, tc1, tc2, tc3, tf⟩ := id T; have zt := T.lt))))
    all_goals (try go_wp2)
    all_goals (have HX : Hid (∃ t, t < top ∧ t + top * k = beV bs.toList + val g0 g1 g2 0) := ⟨t, HT.out⟩)
    all_goals (go_meet; first | (with_reducible exact ⟨k, rfl, hk, HX, KP.alloc _⟩) | (with_reducible exact ⟨k, rfl, hk, HX, (KP.alloc _).drew⟩) | (with_reducible exact ⟨k, rfl, hk, HX, KP.set4' M7 (fun x hx => Nat.ne_of_gt (N7 x hx)) _ _ _ _⟩) | (with_reducible exact ⟨k, rfl, hk, HX, (KP.set4' M7 (fun x hx => Nat.ne_of_gt (N7 x hx)) _ _ _ _).drew⟩) | fail)
  case rest =>
    clear KP
    obtain ⟨k, rfl, hk, HE, KP⟩ := hcut
    have hk' : k = 0 ∨ k = 1 := by omega
    rcases hk' with rfl | rfl
    · obtain ⟨xc0, xc1, xc2, xc3, xf⟩ := KP.head.at4
      obtain ⟨rc0, rc1, rc2, rc3, rf⟩ := KP.tail.tail.head.at4
      have z1 := KP.tail.tail.head.lt
      go_wp2
      have RF := KP.tail.tail.head.at4.self4 a b c d
      unfold set4 at RF
      refine bodyPost_ret (v := ?v0) ?hr0 rfl ?hR0
      case hr0 => simp [results, Try.results32, go_sem, RF.c0, RF.c1, RF.c2, RF.c3]; rfl
      refine ⟨_, rfl, ?_, Or.inl ⟨?_, _, rfl, HF.out⟩⟩
      · rw [H0.out]; exact below_set4 KP.bl Q1.out _ _ _ _
      · obtain ⟨t, h1, h2⟩ := HE.out
        have := HG.out.hP
        omega
    · obtain ⟨rc0, rc1, rc2, rc3, rf⟩ := KP.tail.tail.head.at4
      have z1 := KP.tail.tail.head.lt
      go_wp2
      have RF : At4 (set4 wc k1 (.int .u64 0) (.int .u64 0) (.int .u64 0) (.int .u64 0)) k1 0 0 0 0 := KP.tail.tail.head.at4.self4 0 0 0 0
      unfold set4 at RF
      refine bodyPost_ret (v := ?v1) ?hr1 rfl ?hR1
      case hr1 => simp [results, Try.results32, go_sem, RF.c0, RF.c1, RF.c2, RF.c3]; rfl
      refine ⟨_, rfl, ?_, Or.inr ⟨?_, rfl⟩⟩
      · rw [H0.out]; exact below_set4 KP.bl Q1.out _ _ _ _
      · obtain ⟨t, h1, h2⟩ := HE.out
        have := HG.out.hP
        omega
end Go.Proofs.Yticolhhalbbogae
namespace Go.Proofs.Yticolhhalbbogae
open Go.RowKit Go.Sort Go.Deep
/-- Numbers of four words, one behind the other, in a block: the first i of n are f. -/
def Nums (W : World) (k n i : Nat) (f : Nat → Nat) : Prop := ∀ j, j < n → ∃ a b c d : Nat, (Blk.mk k (j * 4) a b c d).at W ∧ (j < i → Four (.agg #[.int .u64 (a : Int), .int .u64 (b : Int), .int .u64 (c : Int), .int .u64 (d : Int)]) (f j))
theorem Nums.call {W w1 : World} {k n i : Nat} {f : Nat → Nat} (h : Nums W k n i f) (hb : Below W.heap.size W w1) : Nums w1 k n i f := fun j hj => by
  obtain ⟨a, b, c, d, h1, h2⟩ := h j hj
  exact ⟨a, b, c, d, h1.call hb, h2⟩
theorem Nums.drew {W : World} {k n i : Nat} {f : Nat → Nat} (h : Nums W k n i f) : Nums W.drew k n i f := fun j hj => by
  obtain ⟨a, b, c, d, h1, h2⟩ := h j hj
  exact ⟨a, b, c, d, ⟨h1.c0, h1.c1, h1.c2, h1.c3, h1.f⟩, h2⟩
theorem Nums.put {W : World} {k n i x y z t : Nat} {f : Nat → Nat} (h : Nums W k n i f) (hi : i < n) (hF : Four (.agg #[.int .u64 (x : Int), .int .u64 (y : Int), .int .u64 (z : Int), .int .u64 (t : Int)]) (f i)) :
    Nums ((((W.setCell ⟨k, i * 4, none⟩ (.int .u64 (x : Int))).setCell ⟨k, i * 4 + 1, none⟩ (.int .u64 (y : Int))).setCell ⟨k, i * 4 + 2, none⟩ (.int .u64 (z : Int))).setCell ⟨k, i * 4 + 3, none⟩ (.int .u64 (t : Int))) k n (i + 1) f := fun j hj => by
  obtain ⟨a, b, c, d, h1, h2⟩ := h j hj
  by_cases hji : j = i
  · subst hji
    exact ⟨x, y, z, t, h1.put x y z t, fun _ => hF⟩
  · refine ⟨a, b, c, d, ?_, fun h3 => h2 (by omega)⟩
    exact (((h1.off (by simp only; omega) _).off (by simp only; omega) _).off (by simp only; omega) _).off (by simp only; omega) _
theorem made_at (N j : Nat) (hj : j < N) : (madeCells #[.int .u64 0, .int .u64 0, .int .u64 0, .int .u64 0] N)[j]? = some (.int .u64 0) := by
  unfold madeCells
  rw [Array.getElem?_map, Array.getElem?_range]
  have h : j % 4 = 0 ∨ j % 4 = 1 ∨ j % 4 = 2 ∨ j % 4 = 3 := by omega
  simp only [hj, if_true, Option.map_some, List.size_toArray, List.length_cons, List.length_nil, Nat.zero_add]
  rcases h with h | h | h | h <;> rw [h] <;> rfl
theorem Nums.new (w : World) (t : TypeId) (n : Nat) (f : Nat → Nat) : Nums (w.alloc (.cells (madeCells #[.int .u64 0, .int .u64 0, .int .u64 0, .int .u64 0] (n * 4)) t)) w.heap.size n 0 f := fun j hj =>
  ⟨0, 0, 0, 0, ⟨by rw [World.cell?_alloc_new]; exact made_at _ _ (by simp only; omega), by rw [World.cell?_alloc_new]; exact made_at _ _ (by simp only; omega), by rw [World.cell?_alloc_new]; exact made_at _ _ (by simp only; omega), by rw [World.cell?_alloc_new]; exact made_at _ _ (by simp only; omega), fun o => World.frozen?_alloc_new _ _ _ _⟩, fun h => by omega⟩
theorem infoN : (Try.prog.info? 38).map (fun i => (i.zero, i.size, i.bytes)) = some (some (.agg #[.int .u64 0, .int .u64 0, .int .u64 0, .int .u64 0]), 4, 32) := by kernel_rfl
theorem sliceN : Try.prog.underlying 89 = some (.slice 38) := by kernel_rfl
theorem mkNums (n : Nat) (hn : n ≤ 1048576) (w : World) : (Instr.makeSlice 89 (.int .i64 (n : Int)) (.int .i64 (n : Int))).run Try.prog w = .ok (.slice (some ⟨w.heap.size, 0, none⟩) n n) (w.alloc (.cells (madeCells #[.int .u64 0, .int .u64 0, .int .u64 0, .int .u64 0] (n * 4)) 38)) := by
  obtain ⟨i, hi, hzz⟩ := Option.map_eq_some_iff.1 infoN
  simp only [Prod.mk.injEq] at hzz
  obtain ⟨hz, hs, hb⟩ := hzz
  have h := run_make (P := Try.prog) w 89 38 i _ sliceN hi hz .i64 .i64 (n : Int) (n : Int) (by omega) (Int.le_refl _) (by rw [hb]; omega) (by omega)
  rw [hs] at h
  exact h
/-- Bytes as an argument: where there are 32, they lie there. -/
def Arg (w : World) (v : Value) (bs : Bs) : Prop := ∃ (p : Option Addr) (n cap : Nat), v = .slice p n cap ∧ bs.size = n ∧ (n = 32 → ∃ g o, p = some ⟨g, o, none⟩ ∧ 32 ≤ cap ∧ g < w.heap.size ∧ Holds encB w g o bs)
theorem Arg.below {w w1 : World} {v : Value} {bs : Bs} (h : Arg w v bs) (hb : Below w.heap.size w w1) : Arg w1 v bs := by
  obtain ⟨p, n, cap, rfl, hs, h1⟩ := h
  refine ⟨p, n, cap, rfl, hs, fun h2 => ?_⟩
  obtain ⟨g, o, h3, h4, h6, h7⟩ := h1 h2
  exact ⟨g, o, h3, h4, Nat.lt_of_lt_of_le h6 hb.size, Holds.below h7 hb h6⟩
/-- Bytes are a number of the prime. -/
def IsNum (P : Nat) (bs : Bs) : Prop := bs.size = 32 ∧ beV bs.toList < P
theorem Read_arg (g0 g1 g2 P : Nat) (v : Value) (bs : Bs) (hG : Gap g0 g1 g2 P) (w : World) (hv : Arg w v bs) :
    Calls Try.prog 32 #[.agg #[.int .u64 (g0 : Int), .int .u64 (g1 : Int), .int .u64 (g2 : Int), .int .u64 0], v] w
      (Ret fun e w' => Below w.heap.size w w' ∧ ∃ (a b c d : Nat) (ok : Bool), e = .tuple #[.agg #[.int .u64 (a : Int), .int .u64 (b : Int), .int .u64 (c : Int), .int .u64 (d : Int)], .bool ok] ∧ (ok = true → IsNum P bs ∧ Four (.agg #[.int .u64 (a : Int), .int .u64 (b : Int), .int .u64 (c : Int), .int .u64 (d : Int)]) (beV bs.toList)) ∧ (ok = false → ¬ IsNum P bs)) := by
  obtain ⟨p, n, cap, rfl, hs, h1⟩ := hv
  by_cases hn : n = 32
  · subst hn
    obtain ⟨g, o, rfl, h4, h6, h7⟩ := h1 rfl
    refine (Read_any g0 g1 g2 P g o cap bs hG w hs h4 h6 h7).mono ?_
    rintro e w' ⟨v, rfl, hb, ⟨hl, v', rfl, a, b, c, d, rfl, h8⟩ | ⟨hl, rfl⟩⟩
    · exact ⟨_, rfl, hb, a, b, c, d, true, rfl, fun _ => ⟨⟨hs, hl⟩, ⟨a, b, c, d, rfl, h8⟩⟩, fun h => Bool.noConfusion h⟩
    · exact ⟨_, rfl, hb, 0, 0, 0, 0, false, rfl, fun h => Bool.noConfusion h, fun _ h => Nat.not_le_of_lt h.2 hl⟩
  · refine (Read_len _ p n cap w g0 g1 g2 rfl hn).mono ?_
    rintro e w' ⟨v, rfl, hb, rfl⟩
    exact ⟨_, rfl, hb, 0, 0, 0, 0, false, rfl, fun h => Bool.noConfusion h, fun _ h => hn (hs.symm.trans h.1)⟩
/-- A list of arguments in a block. -/
def Args (w : World) (q : Option Addr) (n : Nat) (L : Nat → Bs) : Prop := 0 < n → ∃ gg, q = some ⟨gg, 0, none⟩ ∧ gg < w.heap.size ∧ ∀ j, j < n → ∃ v, w.cell? ⟨gg, j, none⟩ = some v ∧ Arg w v (L j)
/-- What numbers answers. -/
def NumsR (w : World) (P n : Nat) (L : Nat → Bs) (e : Value) (w' : World) : Prop :=
  ((∀ j, j < n → IsNum P (L j)) ∧ ∃ k, w.heap.size ≤ k ∧ e = .tuple #[.slice (some ⟨k, 0, none⟩) n n, .int .i64 0] ∧ Nums w' k n n (fun j => beV (L j).toList)) ∨
  ((∃ j, j < n ∧ ¬ IsNum P (L j)) ∧ e = .tuple #[.slice none 0 0, .int .i64 3])
end Go.Proofs.Yticolhhalbbogae
namespace Go.Proofs.Yticolhhalbbogae
open Go.RowKit Go.Sort
theorem u131 : (Try.prog.underlying 133).map (·.isRow) = some true := by kernel_rfl
theorem i131 : (Try.prog.info? 133).map (·.size) = some 33 := by kernel_rfl
theorem u5 : (Try.prog.underlying 5).map (·.isRow) = some false := by kernel_rfl
theorem und131 : Try.prog.underlying 133 = some (.array 33 5) := by kernel_rfl
theorem und5 : Try.prog.underlying 5 = some (.int .u8) := by kernel_rfl
theorem cells5 : Try.prog.cellsOf 5 = 1 := by kernel_rfl
theorem sl33 (g o cap : Nat) (hc : 33 ≤ cap) (w : World) : (Instr.sliceAt 22 (.slice (some ⟨g, o, none⟩) 33 cap) (some (.int .i64 1)) none none).run Try.prog w = .ok (.slice (some ⟨g, o + 1, none⟩) 32 (cap - 1)) w := by
  go_simp
  omega
theorem arr33 (g o cap : Nat) (w : World) : (Instr.arrayAt 133 (.slice (some ⟨g, o, none⟩) 33 cap)).run Try.prog w = .ok (.pointer (some ⟨g, o, none⟩)) w := by kernel_rfl
theorem at23 (g o n cap : Nat) (hn : 0 < n) (w : World) : (Instr.indexAt 22 (.slice (some ⟨g, o, none⟩) n cap) (.int .i64 0)).run Try.prog w = .ok (.pointer (some ⟨g, o, none⟩)) w := by
  have h : (0 : Int) < (n : Int) := by omega
  go_simp
theorem part5 (xs : Array Value) (i : Nat) (v : Value) (h : xs[i]? = some v) (w : World) : (part 5 xs i).run Try.prog w = .ok v w := by
  go_simp
theorem eqI (xs ys : Array Value) (a b : Nat → Int) (D : Nat) (w : World) : ∀ (is : List Nat), (∀ i ∈ is, xs[i]? = some (.int .u8 (a i))) → (∀ i ∈ is, ys[i]? = some (.int .u8 (b i))) →
    (Op.eqItems (D + 1) 5 1 xs ys is).run Try.prog w = .ok (decide (∀ i ∈ is, a i = b i)) w
  | [], _, _ => by
    rw [Op.eqItems]
    simp
  | i :: is, hx, hy => by
    have ih := eqI xs ys a b D w is (fun j hj => hx j (List.mem_cons_of_mem _ hj)) (fun j hj => hy j (List.mem_cons_of_mem _ hj))
    have p1 := part5 xs (i * 1) _ (by rw [Nat.mul_one]; exact hx i List.mem_cons_self) w
    have p2 := part5 ys (i * 1) _ (by rw [Nat.mul_one]; exact hy i List.mem_cons_self) w
    have p3 := run_equalIn_int (P := Try.prog) w D 5 .u8 .u8 (a i) (b i) und5
    rw [Op.eqItems]
    simp only [Sem.run_bind, p1, p2, p3, Result.andThen_ok]
    by_cases h : a i = b i
    · simp only [h, beq_self_eq_true, Bool.not_true, Bool.false_eq_true, if_false, ih, List.forall_mem_cons, true_and]
    · have h2 : (a i == b i) = false := by simpa using h
      simp only [h2, Bool.not_false, if_true, Sem.run_pure, List.forall_mem_cons, h, false_and, decide_false]
/-- 33 bytes as cells. -/
def bl33 (bs : Bs) : List Value := bs.toList.map encB
def z33 : List Value := List.replicate 33 (.int .u8 0)
theorem bl33_at (bs : Bs) (i : Nat) (h : i < bs.size) : (bl33 bs)[i]? = some (.int .u8 (ub bs[i]!)) := by
  unfold bl33
  rw [List.getElem?_map, Array.getElem?_toList, Array.getElem?_eq_getElem h, getElem!_pos bs i h]
  rfl
theorem eqz (bs : Bs) (h : bs.size = 33) (w : World) : (binOp .eql 133 (.agg (bl33 bs).toArray) (.agg z33.toArray)).run Try.prog w = .ok (.bool (decide (∀ i ∈ List.range 33, ub bs[i]! = 0))) w := by
  have hi : (Try.prog.info? 5).isSome = true := by kernel_rfl
  obtain ⟨inf, hinf⟩ := Option.isSome_iff_exists.1 hi
  rw [run_eql_struct, run_equalIn_array w 9999 _ _ und131 hinf, cells5,
    eqI _ _ (fun i => ub bs[i]!) (fun _ => 0) 9998 w (List.range 33) (fun i hi => by
      rw [List.getElem?_toArray]
      exact bl33_at bs i (by rw [h]; exact List.mem_range.1 hi)) (fun i hi => by
      rw [List.getElem?_toArray]
      unfold z33
      rw [List.getElem?_replicate, if_pos (List.mem_range.1 hi)])]
  rfl
@[reducible] def Zero33 (bs : Bs) : Prop := ∀ i ∈ List.range 33, ub bs[i]! = 0
theorem eqz_t {bs : Bs} (h : bs.size = 33) (hz : Zero33 bs) (w : World) : (binOp .eql 133 (.agg (bl33 bs).toArray) (.agg z33.toArray)).run Try.prog w = .ok (.bool true) w := by rw [eqz bs h, decide_eq_true (show ∀ i ∈ List.range 33, ub bs[i]! = 0 from hz)]
theorem eqz_f {bs : Bs} (h : bs.size = 33) (hz : ¬ Zero33 bs) (w : World) : (binOp .eql 133 (.agg (bl33 bs).toArray) (.agg z33.toArray)).run Try.prog w = .ok (.bool false) w := by rw [eqz bs h, decide_eq_false (show ¬ ∀ i ∈ List.range 33, ub bs[i]! = 0 from hz)]
theorem bl33_length {bs : Bs} (h : bs.size = 33) : (bl33 bs).length = 33 := by unfold bl33; rw [List.length_map, Array.length_toList, h]
theorem bl33_range {bs : Bs} {w : World} {g o : Nat} (hB : Holds encB w g o bs) : w.rangeAt g o (bl33 bs) := fun j v hv => by
  have hj : j < bs.size := by
    have := (List.getElem?_eq_some_iff.1 hv).1
    unfold bl33 at this
    rwa [List.length_map, Array.length_toList] at this
  rw [bl33_at bs j hj] at hv
  rw [(hB j hj).1]
  exact hv
/-- All but the first. -/
def tl33 (bs : Bs) : Bs := bs.extract 1 33
theorem tl33_size {bs : Bs} (h : bs.size = 33) : (tl33 bs).size = 32 := by unfold tl33; rw [Array.size_extract, h]; rfl
theorem tl33_holds {bs : Bs} {w : World} {g o : Nat} (h : bs.size = 33) (hB : Holds encB w g o bs) : Holds encB w g (o + 1) (tl33 bs) :=
  Holds.part hB (by rw [tl33_size h, h]; decide) (fun j hj => by
    rw [tl33_size h] at hj
    unfold tl33
    rw [getElem!_pos _ j (by rw [Array.size_extract, h]; omega), getElem!_pos _ (1 + j) (by rw [h]; omega), Array.getElem_extract])
variable {P : Nat} [NeZero P]
theorem Read_y (C : Fld P) {g o cap : Nat} {bs : Bs} (hs : bs.size = 32) (hc : 32 ≤ cap) {x : Fin P} (hx : beV bs.toList = x.val) {w : World} (hg : g < w.heap.size) (hB : Holds encB w g o bs) :
    Calls Try.prog 32 #[gv0, .slice (some ⟨g, o, none⟩) 32 cap] w (Ret fun e w' => Below w.heap.size w w' ∧ e = .tuple #[fv x, .bool true]) :=
  (Read_any 4294968273 0 0 P g o cap bs C.gap w hs hc hg hB).mono (by
    rintro e w' ⟨v, rfl, hb, ⟨hl, v', rfl, h8⟩ | ⟨hl, rfl⟩⟩
    · refine ⟨_, rfl, hb, ?_⟩
      rw [hx] at h8
      rw [h8.nv]
    · have := x.isLt
      omega)
theorem Read_n (C : Fld P) {g o cap : Nat} {bs : Bs} (hs : bs.size = 32) (hc : 32 ≤ cap) (hx : ¬ beV bs.toList < P) {w : World} (hg : g < w.heap.size) (hB : Holds encB w g o bs) :
    Calls Try.prog 32 #[gv0, .slice (some ⟨g, o, none⟩) 32 cap] w (Ret fun e w' => Below w.heap.size w w' ∧ e = .tuple #[fv (0 : Fin P), .bool false]) :=
  (Read_any 4294968273 0 0 P g o cap bs C.gap w hs hc hg hB).mono (by
    rintro e w' ⟨v, rfl, hb, ⟨hl, v', rfl, h8⟩ | ⟨hl, rfl⟩⟩
    · exact absurd hl hx
    · refine ⟨_, rfl, hb, ?_⟩
      rw [← zero_fv])
/-- Bytes as a pair. -/
def rdx (P : Nat) [NeZero P] (bs : Bs) : Fin P := Fin.ofNat P (beV (tl33 bs).toList)
def rd (P : Nat) [NeZero P] (bs : Bs) : Option (Fin P × Fin P) :=
  if bs.size = 33 then
    if Zero33 bs then some (0, 0) else
    if ub bs[0]! = 2 ∨ ub bs[0]! = 3 then
      if beV (tl33 bs).toList < P then
        (rt (rdx P bs * rdx P bs * rdx P bs + 7)).map (fun y => (rdx P bs, if ub bs[0]! = 3 then 0 - y else y))
      else none
    else none
  else none
def rdV : Option (Fin P × Fin P) → Value
  | none => .tuple #[pv (0 : Fin P) 0, .bool false]
  | some p => .tuple #[pv p.1 p.2, .bool true]
end Go.Proofs.Yticolhhalbbogae
