import Derived.Deep.LoopGhost
import Derived.Lib.ConvBytes
import Derived.Deep.RegionHeld3
import Derived.ChangeOld
import Derived.Below
import Derived.WalkKit
import Derived.ProofKit
import Derived.OpenShut
import Derived.ShutString
import Derived.Test.YticolhhalbbogaeSE5
set_option linter.unusedVariables false
set_option linter.unusedSimpArgs false
set_option linter.unusedVariables false
namespace Go.Proofs.Yticolhhalbbogae
open Go.RowKit Go.Sort Go.Deep
variable {N : Nat}
theorem u22 : (Try.prog.underlying 22).map (·.isRow) = some false := by kernel_rfl
theorem at62 (k o n c i : Nat) (hi : i < n) (w : World) : (Instr.indexAt 62 (.slice (some ⟨k, o, none⟩) n c) (.int .i64 (i : Int))).run Try.prog w = .ok (.pointer (some ⟨k, o + i, none⟩)) w := by
  have h1 : ¬ (i : Int) < 0 := by omega
  have h2 : (i : Int) < n := by omega
  go_simp
theorem at33 (k o n c i : Nat) (hi : i < n) (w : World) : (Instr.indexAt 33 (.slice (some ⟨k, o, none⟩) n c) (.int .i64 (i : Int))).run Try.prog w = .ok (.pointer (some ⟨k, o + 4 * i, none⟩)) w := by
  have h1 : ¬ (i : Int) < 0 := by omega
  have h2 : (i : Int) < n := by omega
  go_simp
theorem mkSL (N : Nat) (hN : N ≤ 512) : ∃ C0 : List Value, C0.length = 4 * N ∧ ∀ w : World, (Instr.makeSlice 33 (.int .i64 (N : Int)) (.int .i64 (N : Int))).run Try.prog w = .ok (.slice (some ⟨w.heap.size, 0, none⟩) N N) (w.alloc (.cells C0.toArray 40)) := by
  have hu : Try.prog.underlying 33 = some (.slice 40) := by kernel_rfl
  have hi : (Try.prog.info? 40).map (fun i => (i.size, decide (i.bytes ≤ 4000), i.zero.isSome)) = some (4, true, true) := by kernel_rfl
  obtain ⟨i, hi1, hi2⟩ := Option.map_eq_some_iff.1 hi
  simp only [Prod.mk.injEq, decide_eq_true_eq] at hi2
  obtain ⟨h1, h2, h3⟩ := hi2
  obtain ⟨z, hz⟩ := Option.isSome_iff_exists.1 h3
  refine ⟨(madeCells z.cells (N * 4)).toList, by rw [Array.length_toList, size_madeCells, Nat.mul_comm], fun w => ?_⟩
  have hb : (i.bytes : Int) * (N : Int) ≤ 281474976710656 := by
    have : i.bytes * N ≤ 4000 * 512 := Nat.mul_le_mul h2 hN
    have h5 : ((i.bytes * N : Nat) : Int) ≤ 281474976710656 := by omega
    rwa [Int.natCast_mul] at h5
  have := run_make (P := Try.prog) w 33 40 i z hu hi1 hz .i64 .i64 (N : Int) (N : Int) (by omega) (by omega) hb (by omega)
  rw [Int.toNat_natCast, h1] at this
  rw [Array.toArray_toList]
  exact this
def FAa_0 : List RG.It := [.x 4 [] (.slice none 0 0), .x 5 [] (.bool false)]
def FAa_1 (q : Option Addr) (n cap : Nat) : List RG.It := [.x 11 [] (.slice q n cap), .x 12 [(11, 0)] (.int .i64 (n : Int)), ⟨some 13, [(12, 1)], (.s 0 n n), .make 0⟩, .s 6 [(13, 2)] (.s 0 n n)]
def FAa_2 (q : Option Addr) (n cap : Nat) : List RG.It := [.x 14 [] (.slice q n cap), .x 15 [(14, 0)] (.int .i64 (n : Int)), .x 16 [] (.int .i64 0)]
def FAb_3 : List RG.It := [.x 17 [] (.bool true)]
def FAb_4 (gg i : Nat) (v : Value) : List RG.It := [.x 18 [] (.int .i64 (i : Int)), .x 19 [] (.pointer (some ⟨gg, (0 + i), none⟩)), .x 20 [(19, 1)] v, .x 7 [(18, 0)] (.int .i64 (i : Int)), .x 8 [(20, 2)] v]
def FAb_5 (m : Nat) (v : Value) : List RG.It := [.x 22 [] (.func (.func 12) #[] #[]), .x 23 [] v, .c 24 [(22, 0), (23, 1)] (.tuple #[(nv m), (.bool true)]), .x 21 [(24, 2)] (.tuple #[(nv m), (.bool true)]), .x 25 [(21, 3)] (nv m), .x 26 [(21, 3)] (.bool true), .m 9 [] 1, .u [(9, 6), (25, 4)] 1, .x 10 [(26, 5)] (.bool true)]
def FAb_6 : List RG.It := [.x 27 [] (.bool true), .x 28 [(27, 0)] (.bool false)]
def FAb_8 (n i m : Nat) : List RG.It := [.s 29 [] (.s 0 n n), .x 30 [] (.int .i64 (i : Int)), .x 31 [] (nv m), .s 32 [(29, 0), (30, 1)] (.p 0 (0 + 4 * i)), .u [(32, 3), (31, 2)] 0]
def FAb_9 (i : Nat) : List RG.It := [.x 33 [] (.int .i64 ((i + 1 : Nat) : Int)), .x 16 [(33, 0)] (.int .i64 ((i + 1 : Nat) : Int))]
def FAf_3 : List RG.It := [.x 17 [] (.bool true)]
def FAf_4 (gg i : Nat) (v : Value) : List RG.It := [.x 18 [] (.int .i64 (i : Int)), .x 19 [] (.pointer (some ⟨gg, (0 + i), none⟩)), .x 20 [(19, 1)] v, .x 7 [(18, 0)] (.int .i64 (i : Int)), .x 8 [(20, 2)] v]
def FAf_5 (m : Nat) (v : Value) : List RG.It := [.x 22 [] (.func (.func 12) #[] #[]), .x 23 [] v, .c 24 [(22, 0), (23, 1)] (.tuple #[(nv m), (.bool false)]), .x 21 [(24, 2)] (.tuple #[(nv m), (.bool false)]), .x 25 [(21, 3)] (nv m), .x 26 [(21, 3)] (.bool false), .m 9 [] 1, .u [(9, 6), (25, 4)] 1, .x 10 [(26, 5)] (.bool false)]
def FAf_6 : List RG.It := [.x 27 [] (.bool false), .x 28 [(27, 0)] (.bool true)]
def FAf_7 : List RG.It := [.x 4 [] (.slice none 0 0), .x 5 [] (.bool false)]
def FAe_3 : List RG.It := [.x 17 [] (.bool false)]
def FAe_10 (n : Nat) : List RG.It := [.s 34 [] (.s 0 n n), .s 4 [(34, 0)] (.s 0 n n), .x 5 [] (.bool true)]
/-- What allOf answers. -/
def AllR (N : Nat) (w : World) (n : Nat) (L : Nat → Bs) (e : Value) (w' : World) : Prop :=
  ((∃ j, j < n ∧ rq N (L j) = none) ∧ Below w.heap.size w w' ∧ e = .tuple #[.slice none 0 0, .bool false]) ∨
  ((∀ j, j < n → (rq N (L j)).isSome = true) ∧ ∃ k C, RG.Made w k C w' ∧ Rows 4 n (fun j => wn ((rq N (L j)).getD 0)) n C ∧ e = .tuple #[.slice (some ⟨k, 0, none⟩) n n, .bool true])
set_option maxHeartbeats 4000000 in
set_option maxRecDepth 100000 in
theorem allOf_c (O : Ord N) (n cap : Nat) (hn : n ≤ 512) (q : Option Addr) (L : Nat → Bs) (w : World) (hA : Args w q n L) : Calls Try.prog 11 #[(.func (.func 12) #[] #[]), .slice q n cap] w (Ret fun e w' => AllR N w n L e w') := by
  obtain ⟨C, hCl, hmk⟩ := mkSL n hn
  go_enter Try.func11, Try.ntmps11
  refine RG.M.enter [(0, .v (.func (.func 12) #[] #[])), (1, .v (.slice q n cap))] 35 (by kernel_rfl) ?_
  intro a0 M0
  repeat refine wp_seq ?_
  refine M0.tx0 FAa_0 [(0, (.v (.func (.func 12) #[] #[]))), (1, (.v (.slice q n cap)))] (by kernel_rfl) ⟨RG.st fun _ _ => by kernel_rfl, RG.st fun _ _ => by kernel_rfl, trivial⟩ ?_
  intro a1 w1 M1
  repeat refine wp_seq ?_
  refine M1.tx (FAa_1 q n cap) [(2, C)] [] [C] [(0, (.v (.func (.func 12) #[] #[]))), (1, (.v (.slice q n cap))), (6, (.s 0 n n))] (by kernel_rfl) (by kernel_rfl) ⟨RG.st fun _ _ => by kernel_rfl, RG.st fun _ _ => by kernel_rfl, RG.cert_makes 0 rfl _ rfl 33 40 12 12 n rfl rfl (RG.sx fun _ => by kernel_rfl) (RG.sx fun _ => by kernel_rfl) (hmk), RG.st fun _ _ => by kernel_rfl, trivial⟩ ?_
  intro j2 a2 w2 M2
  repeat refine wp_seq ?_
  refine M2.tx0 (FAa_2 q n cap) [(0, (.v (.func (.func 12) #[] #[]))), (6, (.s 0 n n)), (14, (.v (.slice q n cap))), (15, (.v (.int .i64 (n : Int)))), (16, (.v (.int .i64 0)))] (by kernel_rfl) ⟨RG.st fun _ _ => by kernel_rfl, RG.st fun _ _ => by kernel_rfl, RG.st fun _ _ => by kernel_rfl, trivial⟩ ?_
  intro a3 w3 M3
  repeat refine wp_seq ?_
  refine wp_block ?_
  refine wp_loop_ghost (fun m a wr => ∃ (i : Nat) (C : List Value) (kt : Nat), i + m = n ∧ (∀ j, j < i → (rq N (L j)).isSome = true) ∧ Rows 4 n (fun j => wn ((rq N (L j)).getD 0)) i C ∧ RG.M w w.heap.size [] 35 [C] [kt] [(0, .v (.func (.func 12) #[] #[])), (6, .s 0 n n), (14, .v (.slice q n cap)), (15, .v (.int .i64 (n : Int))), (16, .v (.int .i64 (i : Int)))] a wr) n ⟨0, C, _, by omega, fun j hj => by omega, ⟨hCl, fun j r hj => by omega⟩, M3⟩ ?_
  clear hmk
  intro m' a wr
  rintro ⟨i, C, kt, him, hall, hR, M20⟩
  by_cases hi : i < n
  · obtain ⟨gg, hqe, hgg, hc⟩ := hA (by omega)
    subst hqe
    obtain ⟨v, hv, harg⟩ := hc i hi
    have hcell : w.cell? ⟨gg, 0 + i, none⟩ = some v := by rw [Nat.zero_add]; exact hv
    have hrd0 := fun w' (hb : RG.BelX w.heap.size [] w w') => sread_c O v (L i) w' (harg.below hb.below)
    obtain ⟨m, hm⟩ : ∃ m, m = (rq N (L i)).getD 0 := ⟨_, rfl⟩
    cases hok : (rq N (L i)).isSome with
    | true =>
      have hrd : ∀ w', RG.BelX w.heap.size [] w w' → Calls Try.prog 12 #[v] w' (Ret fun e w'' => Below w'.heap.size w' w'' ∧ e = .tuple #[nv m, .bool true]) := fun w' hb => by
        have h := hrd0 w' hb
        rw [hok, ← hm] at h
        exact h
      have hlen := hR.len
      have hoff : 0 + 4 * i + (wn m).length ≤ C.length := by rw [hlen]; show 0 + 4 * i + 4 ≤ 4 * n; omega
      obtain ⟨C2, hC2e⟩ : ∃ c, RG.rep C (0 + 4 * i) (wn m) = c := ⟨_, rfl⟩
      have hC2 := hC2e ▸ RG.rep_at hoff
      have hcl : C2.length = C.length := hC2e ▸ RG.rep_length hoff
      have hR2 : Rows 4 n (fun j => wn ((rq N (L j)).getD 0)) (i + 1) C2 := by
        have := hR.next hi rfl
        rw [← hC2e, hm]
        exact this
      repeat refine wp_seq ?_
      refine M20.tx0 FAb_3 [(0, (.v (.func (.func 12) #[] #[]))), (6, (.s 0 n n)), (14, (.v (.slice (some ⟨gg, 0, none⟩) n cap))), (15, (.v (.int .i64 (n : Int)))), (16, (.v (.int .i64 (i : Int)))), (17, (.v (.bool true)))] (by kernel_rfl) ⟨RG.cert_bin rfl .lss 3 3 16 15 (.int .i64 (i : Int)) (.int .i64 (n : Int)) (.bool true) rfl rfl (RG.sx fun _ => by kernel_rfl) (RG.sx fun _ => by kernel_rfl) (fun w => by kernel_rfl) (lssn_t hi), trivial⟩ ?_
      intro a21 w21 M21
      repeat refine wp_seq ?_
      refine wp_cond_true (M21.ev (by kernel_rfl)) ?_
      refine wp_skip ?_
      refine wp_seq ?_
      refine wp_block ?_
      repeat refine wp_seq ?_
      refine M21.tx0 (FAb_4 gg i v) [(0, (.v (.func (.func 12) #[] #[]))), (6, (.s 0 n n)), (7, (.v (.int .i64 (i : Int)))), (8, (.v v)), (14, (.v (.slice (some ⟨gg, 0, none⟩) n cap))), (15, (.v (.int .i64 (n : Int)))), (16, (.v (.int .i64 (i : Int))))] (by kernel_rfl) ⟨RG.st fun _ _ => by kernel_rfl, RG.cert_idx rfl 62 14 16 rfl (.v (.slice (some ⟨gg, 0, none⟩) n cap)) (.int .i64 (i : Int)) (RG.sx fun _ => by kernel_rfl) (RG.sx fun _ => by kernel_rfl) (fun μ w => at62 _ 0 _ _ i hi w), RG.cert_load1B rfl gg (0 + i) hgg List.not_mem_nil 22 19 rfl v rfl (RG.sx fun _ => by kernel_rfl) hcell u22, RG.st fun _ _ => by kernel_rfl, RG.st fun _ _ => by kernel_rfl, trivial⟩ ?_
      intro a22 w22 M22
      repeat refine wp_seq ?_
      refine M22.tx (FAb_5 m v) [(6, (RG.z 4))] [(1, 7, (wn m))] [C, (wn m)] [(0, (.v (.func (.func 12) #[] #[]))), (6, (.s 0 n n)), (7, (.v (.int .i64 (i : Int)))), (9, (.p 1 0)), (10, (.v (.bool true))), (14, (.v (.slice (some ⟨gg, 0, none⟩) n cap))), (15, (.v (.int .i64 (n : Int)))), (16, (.v (.int .i64 (i : Int))))] (by kernel_rfl) (by kernel_rfl) ⟨RG.st fun _ _ => by kernel_rfl, RG.st fun _ _ => by kernel_rfl, RG.clB (fun _ _ => by kernel_rfl) hrd, RG.st fun _ _ => by kernel_rfl, RG.st fun _ _ => by kernel_rfl, RG.st fun _ _ => by kernel_rfl, RG.mk 1 40 fun _ _ => by kernel_rfl, RG.pt i40 (by kernel_rfl), RG.st fun _ _ => by kernel_rfl, trivial⟩ ?_
      intro j23 a23 w23 M23
      repeat refine wp_seq ?_
      refine M23.tx0 FAb_6 [(0, (.v (.func (.func 12) #[] #[]))), (6, (.s 0 n n)), (7, (.v (.int .i64 (i : Int)))), (9, (.p 1 0)), (14, (.v (.slice (some ⟨gg, 0, none⟩) n cap))), (15, (.v (.int .i64 (n : Int)))), (16, (.v (.int .i64 (i : Int)))), (28, (.v (.bool false)))] (by kernel_rfl) ⟨RG.st fun _ _ => by kernel_rfl, RG.st fun _ _ => by kernel_rfl, trivial⟩ ?_
      intro a24 w24 M24
      repeat refine wp_seq ?_
      refine wp_cond_false (M24.ev (by kernel_rfl)) ?_
      refine wp_skip ?_
      repeat refine wp_seq ?_
      refine M24.tx (FAb_8 n i m) [] [(0, 4, C2)] [C2, (wn m)] [(0, (.v (.func (.func 12) #[] #[]))), (6, (.s 0 n n)), (14, (.v (.slice (some ⟨gg, 0, none⟩) n cap))), (15, (.v (.int .i64 (n : Int)))), (16, (.v (.int .i64 (i : Int))))] (by kernel_rfl) (congrArg (fun n => [n]) hcl) ⟨RG.st fun _ _ => by kernel_rfl, RG.st fun _ _ => by kernel_rfl, RG.ld u40 i40 (by kernel_rfl), RG.cert_idx rfl 33 29 30 rfl (.s 0 n n) (.int .i64 (i : Int)) (RG.sx fun _ => by kernel_rfl) (RG.sx fun _ => by kernel_rfl) (fun μ w => at33 _ 0 _ _ i hi w), RG.cert_putAt 0 (0 + 4 * i) rfl _ rfl 40 (.tmp 32) (.tmp 31) (wn m) rfl rfl (RG.sx fun _ => by kernel_rfl) (RG.sx fun _ => by kernel_rfl) hoff hC2 i40 rfl, trivial⟩ ?_
      intro a25 w25 M25
      repeat refine wp_seq ?_
      refine M25.tx0 (FAb_9 i) [(0, (.v (.func (.func 12) #[] #[]))), (6, (.s 0 n n)), (14, (.v (.slice (some ⟨gg, 0, none⟩) n cap))), (15, (.v (.int .i64 (n : Int)))), (16, (.v (.int .i64 ((i + 1 : Nat) : Int))))] (by kernel_rfl) ⟨RG.cert_binc rfl .add 3 3 16 (.int .i64 (i : Int)) (.int .i64 1) (.int .i64 ((i + 1 : Nat) : Int)) rfl rfl (RG.sx fun _ => by kernel_rfl) (fun w => by kernel_rfl) (addn i 1 (by omega) (by omega)), RG.st fun _ _ => by kernel_rfl, trivial⟩ ?_
      intro a26 w26 M26
      show ∃ n', _
      exact ⟨m' - 1, by omega, i + 1, C2, kt, by omega, fun j hj => (by
        by_cases hji : j = i
        · rw [hji]; exact hok
        · exact hall j (by omega)), hR2, RG.M.drop (cs := [C2]) (cs2 := [_]) (ks := [kt]) (ks2 := [_]) M26 rfl rfl⟩
    | false =>
      have hrd : ∀ w', RG.BelX w.heap.size [] w w' → Calls Try.prog 12 #[v] w' (Ret fun e w'' => Below w'.heap.size w' w'' ∧ e = .tuple #[nv m, .bool false]) := fun w' hb => by
        have h := hrd0 w' hb
        rw [hok, ← hm] at h
        exact h
      repeat refine wp_seq ?_
      refine M20.tx0 FAf_3 [(0, (.v (.func (.func 12) #[] #[]))), (14, (.v (.slice (some ⟨gg, 0, none⟩) n cap))), (16, (.v (.int .i64 (i : Int)))), (17, (.v (.bool true)))] (by kernel_rfl) ⟨RG.cert_bin rfl .lss 3 3 16 15 (.int .i64 (i : Int)) (.int .i64 (n : Int)) (.bool true) rfl rfl (RG.sx fun _ => by kernel_rfl) (RG.sx fun _ => by kernel_rfl) (fun w => by kernel_rfl) (lssn_t hi), trivial⟩ ?_
      intro a21 w21 M21
      repeat refine wp_seq ?_
      refine wp_cond_true (M21.ev (by kernel_rfl)) ?_
      refine wp_skip ?_
      refine wp_seq ?_
      refine wp_block ?_
      repeat refine wp_seq ?_
      refine M21.tx0 (FAf_4 gg i v) [(0, (.v (.func (.func 12) #[] #[]))), (8, (.v v))] (by kernel_rfl) ⟨RG.st fun _ _ => by kernel_rfl, RG.cert_idx rfl 62 14 16 rfl (.v (.slice (some ⟨gg, 0, none⟩) n cap)) (.int .i64 (i : Int)) (RG.sx fun _ => by kernel_rfl) (RG.sx fun _ => by kernel_rfl) (fun μ w => at62 _ 0 _ _ i hi w), RG.cert_load1B rfl gg (0 + i) hgg List.not_mem_nil 22 19 rfl v rfl (RG.sx fun _ => by kernel_rfl) hcell u22, RG.st fun _ _ => by kernel_rfl, RG.st fun _ _ => by kernel_rfl, trivial⟩ ?_
      intro a22 w22 M22
      repeat refine wp_seq ?_
      refine M22.tx (FAf_5 m v) [(6, (RG.z 4))] [(1, 7, (wn m))] [C, (wn m)] [(10, (.v (.bool false)))] (by kernel_rfl) (by kernel_rfl) ⟨RG.st fun _ _ => by kernel_rfl, RG.st fun _ _ => by kernel_rfl, RG.clB (fun _ _ => by kernel_rfl) hrd, RG.st fun _ _ => by kernel_rfl, RG.st fun _ _ => by kernel_rfl, RG.st fun _ _ => by kernel_rfl, RG.mk 1 40 fun _ _ => by kernel_rfl, RG.pt i40 (by kernel_rfl), RG.st fun _ _ => by kernel_rfl, trivial⟩ ?_
      intro j23 a23 w23 M23
      repeat refine wp_seq ?_
      refine M23.tx0 FAf_6 [(28, (.v (.bool true)))] (by kernel_rfl) ⟨RG.st fun _ _ => by kernel_rfl, RG.st fun _ _ => by kernel_rfl, trivial⟩ ?_
      intro a24 w24 M24
      repeat refine wp_seq ?_
      refine wp_cond_true (M24.ev (by kernel_rfl)) ?_
      repeat refine wp_seq ?_
      refine M24.tx0 FAf_7 [(4, (.v (.slice none 0 0))), (5, (.v (.bool false)))] (by kernel_rfl) ⟨RG.st fun _ _ => by kernel_rfl, RG.st fun _ _ => by kernel_rfl, trivial⟩ ?_
      intro a25 w25 M25
      refine wp_ret ?_
      refine bodyPost_ret (v := .tuple #[.slice none 0 0, .bool false]) (RG.results_tt 4 5 rfl (.slice none 0 0) (.bool false) (M25.av (by kernel_rfl)) (M25.av (by kernel_rfl))) M25.sl.defers ?_
      exact ⟨_, rfl, Or.inl ⟨⟨i, hi, by simpa using hok⟩, M25.st.bel.below, rfl⟩⟩
  · have hiN : i = n := by omega
    rw [hiN] at hall hR
    repeat refine wp_seq ?_
    refine M20.tx0 FAe_3 [(6, (.s 0 n n)), (17, (.v (.bool false)))] (by kernel_rfl) ⟨RG.cert_bin rfl .lss 3 3 16 15 (.int .i64 (i : Int)) (.int .i64 (n : Int)) (.bool false) rfl rfl (RG.sx fun _ => by kernel_rfl) (RG.sx fun _ => by kernel_rfl) (fun w => by kernel_rfl) (lssn_f hi), trivial⟩ ?_
    intro a21 w21 M21
    repeat refine wp_seq ?_
    refine wp_cond_false (M21.ev (by kernel_rfl)) ?_
    refine wp_exit ?_
    dsimp only [Exit.then, Exit.inBlock]
    rw [if_pos rfl]
    repeat refine wp_seq ?_
    refine M21.tx0 (FAe_10 n) [(4, (.s 0 n n)), (5, (.v (.bool true)))] (by kernel_rfl) ⟨RG.st fun _ _ => by kernel_rfl, RG.st fun _ _ => by kernel_rfl, RG.st fun _ _ => by kernel_rfl, trivial⟩ ?_
    intro a22 w22 M22
    refine wp_ret ?_
    refine bodyPost_ret (v := _) (RG.results_tt 4 5 rfl _ (.bool true) (M22.at (s := .s 0 n n) (by kernel_rfl)) (M22.av (by kernel_rfl))) M22.sl.defers ?_
    exact ⟨_, rfl, Or.inr ⟨hall, _, C, M22.st.made (b := 0) rfl, hR, rfl⟩⟩
theorem rows4 {f : Nat → List Value} {C : List Value} (h : Rows 4 4 f 4 C) (h0 : ∀ j, (f j).length = 4) : C = f 0 ++ (f 1 ++ (f 2 ++ f 3)) := by
  apply List.ext_getElem?
  intro j
  have hl := h.len
  by_cases hj : j < 16
  · have e : j = 4 * (j / 4) + j % 4 := by omega
    have hr := h.row (j / 4) (j % 4) (by omega) (by omega)
    rw [← e] at hr
    rw [hr]
    have h3 : j / 4 = 0 ∨ j / 4 = 1 ∨ j / 4 = 2 ∨ j / 4 = 3 := by omega
    rcases h3 with h3 | h3 | h3 | h3
    · rw [h3, List.getElem?_append_left (by rw [h0]; omega)]; congr 1; omega
    · rw [h3, List.getElem?_append_right (by rw [h0]; omega), List.getElem?_append_left (by rw [h0, h0]; omega), h0]; congr 1; omega
    · rw [h3, List.getElem?_append_right (by rw [h0]; omega), List.getElem?_append_right (by rw [h0, h0]; omega), List.getElem?_append_left (by rw [h0, h0, h0]; omega), h0, h0]; congr 1; omega
    · rw [h3, List.getElem?_append_right (by rw [h0]; omega), List.getElem?_append_right (by rw [h0, h0]; omega), List.getElem?_append_right (by rw [h0, h0, h0]; omega), h0, h0, h0]; congr 1; omega
  · rw [List.getElem?_eq_none (by omega), List.getElem?_eq_none (by simp only [List.length_append, h0]; omega)]
end Go.Proofs.Yticolhhalbbogae
set_option linter.unusedVariables false
namespace Go.Proofs.Yticolhhalbbogae
open Go.RowKit Go.Sort Go.Deep
variable {N : Nat}
def FEa_0 : List RG.It := [.x 8 [] (.slice none 0 0), .x 9 [] (.int .i64 0)]
def FEa_1 (p0 p1 p2 p3 : Option Addr) (n0 n1 n2 n3 c0 c1 c2 c3 : Nat) : List RG.It := [.x 15 [] (.slice p0 n0 c0), .x 16 [] (.slice p1 n1 c1), .x 17 [] (.slice p2 n2 c2), .x 18 [] (.slice p3 n3 c3), ⟨some 19, [(15, 0), (16, 1), (17, 2), (18, 3)], (.s 0 4 4), .make 0⟩, .c 20 [(19, 4)] (.tuple #[(.slice none 0 0), (.bool false)]), .x 14 [(20, 5)] (.tuple #[(.slice none 0 0), (.bool false)]), .x 21 [(14, 6)] (.slice none 0 0), .x 22 [(14, 6)] (.bool false), .x 10 [(21, 7)] (.slice none 0 0), .x 11 [(22, 8)] (.bool false)]
def FEa_2 : List RG.It := [.x 23 [] (.bool false), .x 24 [(23, 0)] (.bool true)]
def FEa_3 : List RG.It := [.x 8 [] (.slice none 0 0), .x 9 [] (.int .i64 3)]
def FEb_0 : List RG.It := [.x 8 [] (.slice none 0 0), .x 9 [] (.int .i64 0)]
def FEb_1 (p0 p1 p2 p3 : Option Addr) (n0 n1 n2 n3 c0 c1 c2 c3 : Nat) : List RG.It := [.x 15 [] (.slice p0 n0 c0), .x 16 [] (.slice p1 n1 c1), .x 17 [] (.slice p2 n2 c2), .x 18 [] (.slice p3 n3 c3), ⟨some 19, [(15, 0), (16, 1), (17, 2), (18, 3)], (.s 0 4 4), .make 0⟩, ⟨some 20, [(19, 4)], (.t 1 4 4 (.bool true)), .make 1⟩, .s 14 [(20, 5)] (.t 1 4 4 (.bool true)), .s 21 [(14, 6)] (.s 1 4 4), .x 22 [(14, 6)] (.bool true), .s 10 [(21, 7)] (.s 1 4 4), .x 11 [(22, 8)] (.bool true)]
def FEb_2 : List RG.It := [.x 23 [] (.bool true), .x 24 [(23, 0)] (.bool false)]
def FEb_4 (a c : Nat) : List RG.It := [.s 25 [] (.s 1 4 4), .s 26 [(25, 0)] (.p 1 0), .x 27 [(26, 1)] (nv a), .s 28 [] (.s 1 4 4), .s 29 [(28, 3)] (.p 1 8), .x 30 [(29, 4)] (nv c), .x 31 [(27, 2), (30, 5)] (.bool true)]
def FEb_5 : List RG.It := [.x 8 [] (.slice none 0 0), .x 9 [] (.int .i64 6)]
def FEc_0 : List RG.It := [.x 8 [] (.slice none 0 0), .x 9 [] (.int .i64 0)]
def FEc_1 (p0 p1 p2 p3 : Option Addr) (n0 n1 n2 n3 c0 c1 c2 c3 : Nat) : List RG.It := [.x 15 [] (.slice p0 n0 c0), .x 16 [] (.slice p1 n1 c1), .x 17 [] (.slice p2 n2 c2), .x 18 [] (.slice p3 n3 c3), ⟨some 19, [(15, 0), (16, 1), (17, 2), (18, 3)], (.s 0 4 4), .make 0⟩, ⟨some 20, [(19, 4)], (.t 1 4 4 (.bool true)), .make 1⟩, .s 14 [(20, 5)] (.t 1 4 4 (.bool true)), .s 21 [(14, 6)] (.s 1 4 4), .x 22 [(14, 6)] (.bool true), .s 10 [(21, 7)] (.s 1 4 4), .x 11 [(22, 8)] (.bool true)]
def FEc_2 : List RG.It := [.x 23 [] (.bool true), .x 24 [(23, 0)] (.bool false)]
def FEc_4 (a c : Nat) : List RG.It := [.s 25 [] (.s 1 4 4), .s 26 [(25, 0)] (.p 1 0), .x 27 [(26, 1)] (nv a), .s 28 [] (.s 1 4 4), .s 29 [(28, 3)] (.p 1 8), .x 30 [(29, 4)] (nv c), .x 31 [(27, 2), (30, 5)] (.bool false)]
def FEc_6 (N a b c d : Nat) : List RG.It := [.s 32 [] (.s 1 4 4), .s 33 [(32, 0)] (.p 1 0), .x 34 [(33, 1)] (nv a), .s 35 [] (.s 1 4 4), .s 36 [(35, 3)] (.p 1 8), .x 37 [(36, 4)] (nv c), .c 38 [(34, 2), (37, 5)] (nv (sMi N a c)), .s 39 [] (.s 1 4 4), .s 40 [(39, 7)] (.p 1 4), .x 41 [(40, 8)] (nv b), .s 42 [] (.s 1 4 4), .s 43 [(42, 10)] (.p 1 12), .x 44 [(43, 11)] (nv d), .c 45 [(41, 9), (44, 12)] (nv (sMi N b d)), .m 12 [] 2, .m 13 [] 3, .u [(12, 14), (38, 6)] 2, .u [(13, 15), (45, 13)] 3]
def FEc_7 (N a b c d : Nat) : List RG.It := [.x 46 [] (nv (sMi N b d)), .x 47 [] (nv (sMi N a c)), .c 48 [(47, 1)] (nv (sIn N (sMi N a c))), .c 49 [(46, 0), (48, 2)] (nv (sTi N (sMi N b d) (sIn N (sMi N a c)))), ⟨some 50, [(49, 3)], (.s 4 32 32), .make 4⟩, .s 8 [(50, 4)] (.s 4 32 32), .x 9 [] (.int .i64 0)]
/-- What Extract answers. -/
def ExR (N : Nat) (w : World) (L : Nat → Bs) (e : Value) (w' : World) : Prop :=
  ((∃ j, j < 4 ∧ rq N (L j) = none) ∧ Below w.heap.size w w' ∧ e = .tuple #[.slice none 0 0, .int .i64 3]) ∨
  ((∀ j, j < 4 → (rq N (L j)).isSome = true) ∧ ((nuV (L 0) = nuV (L 2) ∧ Below w.heap.size w w' ∧ e = .tuple #[.slice none 0 0, .int .i64 6]) ∨
    (¬ nuV (L 0) = nuV (L 2) ∧ ∃ k, RG.Made w k (cb (bx (sTi N (sMi N (nuV (L 1)) (nuV (L 3))) (sIn N (sMi N (nuV (L 0)) (nuV (L 2))))))) w' ∧ e = .tuple #[.slice (some ⟨k, 0, none⟩) 32 32, .int .i64 0])))
theorem rq_get {bs : Bs} (h : (rq N bs).isSome = true) : (rq N bs).getD 0 = nuV bs ∧ nuV bs < N := by
  obtain ⟨n, hn⟩ := Option.isSome_iff_exists.1 h
  rw [hn]
  have e := rq_nu hn
  refine ⟨e, ?_⟩
  unfold rq at hn
  split at hn
  · rename_i hc
    rw [← e, ← Option.some.inj hn]
    exact hc.2
  · cases hn
set_option maxHeartbeats 4000000 in
set_option maxRecDepth 100000 in
theorem ext_a (O : Ord N) (p0 p1 p2 p3 : Option Addr) (n0 n1 n2 n3 c0 c1 c2 c3 a b c d : Nat) (w : World) (hall : ∀ (k : Nat) (w' : World), RG.BelX w.heap.size [] w w' → (w'.rangeAt k 0 [(.slice p0 n0 c0), (.slice p1 n1 c1), (.slice p2 n2 c2), (.slice p3 n3 c3)] ∧ k < w'.heap.size) → Calls Try.prog 11 #[(.func (.func 12) #[] #[]), .slice (some ⟨k, 0, none⟩) 4 4] w' (Ret fun e w'' => Below w'.heap.size w' w'' ∧ e = .tuple #[.slice none 0 0, .bool false])) :
    Calls Try.prog 5 #[(.slice p0 n0 c0), (.slice p1 n1 c1), (.slice p2 n2 c2), (.slice p3 n3 c3)] w (Ret fun e w' => Below w.heap.size w w' ∧ e = .tuple #[.slice none 0 0, .int .i64 3]) := by
  go_enter Try.func5, Try.ntmps5
  refine RG.M.enter [(0, .v (.slice p0 n0 c0)), (1, .v (.slice p1 n1 c1)), (2, .v (.slice p2 n2 c2)), (3, .v (.slice p3 n3 c3))] 51 (by kernel_rfl) ?_
  intro a0 M0
  repeat refine wp_seq ?_
  refine M0.tx0 FEa_0 [(0, (.v (.slice p0 n0 c0))), (1, (.v (.slice p1 n1 c1))), (2, (.v (.slice p2 n2 c2))), (3, (.v (.slice p3 n3 c3))), (8, (.v (.slice none 0 0))), (9, (.v (.int .i64 0)))] (by kernel_rfl) ⟨RG.st fun _ _ => by kernel_rfl, RG.st fun _ _ => by kernel_rfl, trivial⟩ ?_
  intro a1 w1 M1
  repeat refine wp_seq ?_
  refine M1.tx (FEa_1 p0 p1 p2 p3 n0 n1 n2 n3 c0 c1 c2 c3) [(4, [(.slice p0 n0 c0), (.slice p1 n1 c1), (.slice p2 n2 c2), (.slice p3 n3 c3)])] [] [[(.slice p0 n0 c0), (.slice p1 n1 c1), (.slice p2 n2 c2), (.slice p3 n3 c3)]] [(8, (.v (.slice none 0 0))), (9, (.v (.int .i64 0))), (11, (.v (.bool false)))] (by kernel_rfl) (by kernel_rfl) ⟨RG.st fun _ _ => by kernel_rfl, RG.st fun _ _ => by kernel_rfl, RG.st fun _ _ => by kernel_rfl, RG.st fun _ _ => by kernel_rfl, RG.mk 0 22 fun _ _ => by kernel_rfl, RG.cr [0] (fun μ w' hb hs => hall (μ 0) w' hb (hs 0 (List.Mem.head _) _ rfl (List.cons_ne_nil _ _))) fun _ _ => by kernel_rfl, RG.st fun _ _ => by kernel_rfl, RG.st fun _ _ => by kernel_rfl, RG.st fun _ _ => by kernel_rfl, RG.st fun _ _ => by kernel_rfl, RG.st fun _ _ => by kernel_rfl, trivial⟩ ?_
  intro j2 a2 w2 M2
  repeat refine wp_seq ?_
  refine M2.tx0 FEa_2 [(8, (.v (.slice none 0 0))), (9, (.v (.int .i64 0))), (24, (.v (.bool true)))] (by kernel_rfl) ⟨RG.st fun _ _ => by kernel_rfl, RG.st fun _ _ => by kernel_rfl, trivial⟩ ?_
  intro a3 w3 M3
  repeat refine wp_seq ?_
  refine wp_cond_true (M3.ev (by kernel_rfl)) ?_
  repeat refine wp_seq ?_
  refine M3.tx0 FEa_3 [(8, (.v (.slice none 0 0))), (9, (.v (.int .i64 3)))] (by kernel_rfl) ⟨RG.st fun _ _ => by kernel_rfl, RG.st fun _ _ => by kernel_rfl, trivial⟩ ?_
  intro a4 w4 M4
  refine wp_ret ?_
  refine bodyPost_ret (v := _) (RG.results_tt 8 9 rfl (.slice none 0 0) (.int .i64 3) (M4.av (by kernel_rfl)) (M4.av (by kernel_rfl))) M4.sl.defers ?_
  exact ⟨_, rfl, M4.st.bel.below, rfl⟩
set_option maxHeartbeats 4000000 in
set_option maxRecDepth 100000 in
theorem ext_b (O : Ord N) (p0 p1 p2 p3 : Option Addr) (n0 n1 n2 n3 c0 c1 c2 c3 a b c d : Nat) (w : World) (hA : a < N) (hB : b < N) (hC : c < N) (hD : d < N) (hAt : a < top) (hCt : c < top) (hac : a = c) (hall : ∀ (k : Nat) (w' : World), RG.BelX w.heap.size [] w w' → (w'.rangeAt k 0 [(.slice p0 n0 c0), (.slice p1 n1 c1), (.slice p2 n2 c2), (.slice p3 n3 c3)] ∧ k < w'.heap.size) → Calls Try.prog 11 #[(.func (.func 12) #[] #[]), .slice (some ⟨k, 0, none⟩) 4 4] w' (Ret fun e w'' => ∃ k', RG.Made w' k' (wn a ++ (wn b ++ (wn c ++ wn d))) w'' ∧ e = .tuple #[.slice (some ⟨k', 0, none⟩) 4 4, .bool true])) :
    Calls Try.prog 5 #[(.slice p0 n0 c0), (.slice p1 n1 c1), (.slice p2 n2 c2), (.slice p3 n3 c3)] w (Ret fun e w' => Below w.heap.size w w' ∧ e = .tuple #[.slice none 0 0, .int .i64 6]) := by
  go_enter Try.func5, Try.ntmps5
  refine RG.M.enter [(0, .v (.slice p0 n0 c0)), (1, .v (.slice p1 n1 c1)), (2, .v (.slice p2 n2 c2)), (3, .v (.slice p3 n3 c3))] 51 (by kernel_rfl) ?_
  intro a0 M0
  repeat refine wp_seq ?_
  refine M0.tx0 FEb_0 [(0, (.v (.slice p0 n0 c0))), (1, (.v (.slice p1 n1 c1))), (2, (.v (.slice p2 n2 c2))), (3, (.v (.slice p3 n3 c3))), (8, (.v (.slice none 0 0))), (9, (.v (.int .i64 0)))] (by kernel_rfl) ⟨RG.st fun _ _ => by kernel_rfl, RG.st fun _ _ => by kernel_rfl, trivial⟩ ?_
  intro a1 w1 M1
  repeat refine wp_seq ?_
  refine M1.tx (FEb_1 p0 p1 p2 p3 n0 n1 n2 n3 c0 c1 c2 c3) [(4, [(.slice p0 n0 c0), (.slice p1 n1 c1), (.slice p2 n2 c2), (.slice p3 n3 c3)]), (5, (wn a ++ (wn b ++ (wn c ++ wn d))))] [] [[(.slice p0 n0 c0), (.slice p1 n1 c1), (.slice p2 n2 c2), (.slice p3 n3 c3)], (wn a ++ (wn b ++ (wn c ++ wn d)))] [(8, (.v (.slice none 0 0))), (9, (.v (.int .i64 0))), (10, (.s 1 4 4)), (11, (.v (.bool true)))] (by kernel_rfl) (by kernel_rfl) ⟨RG.st fun _ _ => by kernel_rfl, RG.st fun _ _ => by kernel_rfl, RG.st fun _ _ => by kernel_rfl, RG.st fun _ _ => by kernel_rfl, RG.mk 0 22 fun _ _ => by kernel_rfl, RG.crm 1 [0] (fun μ w' hb hs => hall (μ 0) w' hb (hs 0 (List.Mem.head _) _ rfl (List.cons_ne_nil _ _))) fun _ _ => by kernel_rfl, RG.st fun _ _ => by kernel_rfl, RG.st fun _ _ => by kernel_rfl, RG.st fun _ _ => by kernel_rfl, RG.st fun _ _ => by kernel_rfl, RG.st fun _ _ => by kernel_rfl, trivial⟩ ?_
  intro j2 i2 a2 w2 M2
  repeat refine wp_seq ?_
  refine M2.tx0 FEb_2 [(8, (.v (.slice none 0 0))), (9, (.v (.int .i64 0))), (10, (.s 1 4 4)), (24, (.v (.bool false)))] (by kernel_rfl) ⟨RG.st fun _ _ => by kernel_rfl, RG.st fun _ _ => by kernel_rfl, trivial⟩ ?_
  intro a3 w3 M3
  repeat refine wp_seq ?_
  refine wp_cond_false (M3.ev (by kernel_rfl)) ?_
  refine wp_skip ?_
  repeat refine wp_seq ?_
  refine M3.dr0 (by kernel_rfl) (FEb_4 a c) [(8, (.v (.slice none 0 0))), (9, (.v (.int .i64 0))), (31, (.v (.bool true)))] (by kernel_rfl) ⟨RG.st fun _ _ => by kernel_rfl, RG.st fun _ _ => by kernel_rfl, RG.ld u40 i40 (by kernel_rfl), RG.st fun _ _ => by kernel_rfl, RG.st fun _ _ => by kernel_rfl, RG.ld u40 i40 (by kernel_rfl), RG.cert_bin rfl .eql 40 40 27 30 (nv a) (nv c) (.bool true) rfl rfl (RG.sx fun _ => by kernel_rfl) (RG.sx fun _ => by kernel_rfl) (fun w => by kernel_rfl) (fun w => by rw [eqS hAt hCt, decide_eq_true hac]), trivial⟩ ?_
  intro a4 w4 M4
  repeat refine wp_seq ?_
  refine wp_cond_true (M4.ev (by kernel_rfl)) ?_
  repeat refine wp_seq ?_
  refine M4.tx0 FEb_5 [(8, (.v (.slice none 0 0))), (9, (.v (.int .i64 6)))] (by kernel_rfl) ⟨RG.st fun _ _ => by kernel_rfl, RG.st fun _ _ => by kernel_rfl, trivial⟩ ?_
  intro a5 w5 M5
  refine wp_ret ?_
  refine bodyPost_ret (v := _) (RG.results_tt 8 9 rfl (.slice none 0 0) (.int .i64 6) (M5.av (by kernel_rfl)) (M5.av (by kernel_rfl))) M5.sl.defers ?_
  exact ⟨_, rfl, M5.st.bel.below, rfl⟩
set_option maxHeartbeats 4000000 in
set_option maxRecDepth 100000 in
theorem ext_c (O : Ord N) (p0 p1 p2 p3 : Option Addr) (n0 n1 n2 n3 c0 c1 c2 c3 a b c d : Nat) (w : World) (hA : a < N) (hB : b < N) (hC : c < N) (hD : d < N) (hAt : a < top) (hCt : c < top) (hac : ¬ a = c) (hall : ∀ (k : Nat) (w' : World), RG.BelX w.heap.size [] w w' → (w'.rangeAt k 0 [(.slice p0 n0 c0), (.slice p1 n1 c1), (.slice p2 n2 c2), (.slice p3 n3 c3)] ∧ k < w'.heap.size) → Calls Try.prog 11 #[(.func (.func 12) #[] #[]), .slice (some ⟨k, 0, none⟩) 4 4] w' (Ret fun e w'' => ∃ k', RG.Made w' k' (wn a ++ (wn b ++ (wn c ++ wn d))) w'' ∧ e = .tuple #[.slice (some ⟨k', 0, none⟩) 4 4, .bool true])) :
    Calls Try.prog 5 #[(.slice p0 n0 c0), (.slice p1 n1 c1), (.slice p2 n2 c2), (.slice p3 n3 c3)] w (Ret fun e w' => ∃ k, RG.Made w k (cb (bx (sTi N (sMi N b d) (sIn N (sMi N a c))))) w' ∧ e = .tuple #[.slice (some ⟨k, 0, none⟩) 32 32, .int .i64 0]) := by
  go_enter Try.func5, Try.ntmps5
  refine RG.M.enter [(0, .v (.slice p0 n0 c0)), (1, .v (.slice p1 n1 c1)), (2, .v (.slice p2 n2 c2)), (3, .v (.slice p3 n3 c3))] 51 (by kernel_rfl) ?_
  intro a0 M0
  repeat refine wp_seq ?_
  refine M0.tx0 FEc_0 [(0, (.v (.slice p0 n0 c0))), (1, (.v (.slice p1 n1 c1))), (2, (.v (.slice p2 n2 c2))), (3, (.v (.slice p3 n3 c3))), (8, (.v (.slice none 0 0))), (9, (.v (.int .i64 0)))] (by kernel_rfl) ⟨RG.st fun _ _ => by kernel_rfl, RG.st fun _ _ => by kernel_rfl, trivial⟩ ?_
  intro a1 w1 M1
  repeat refine wp_seq ?_
  refine M1.tx (FEc_1 p0 p1 p2 p3 n0 n1 n2 n3 c0 c1 c2 c3) [(4, [(.slice p0 n0 c0), (.slice p1 n1 c1), (.slice p2 n2 c2), (.slice p3 n3 c3)]), (5, (wn a ++ (wn b ++ (wn c ++ wn d))))] [] [[(.slice p0 n0 c0), (.slice p1 n1 c1), (.slice p2 n2 c2), (.slice p3 n3 c3)], (wn a ++ (wn b ++ (wn c ++ wn d)))] [(8, (.v (.slice none 0 0))), (9, (.v (.int .i64 0))), (10, (.s 1 4 4)), (11, (.v (.bool true)))] (by kernel_rfl) (by kernel_rfl) ⟨RG.st fun _ _ => by kernel_rfl, RG.st fun _ _ => by kernel_rfl, RG.st fun _ _ => by kernel_rfl, RG.st fun _ _ => by kernel_rfl, RG.mk 0 22 fun _ _ => by kernel_rfl, RG.crm 1 [0] (fun μ w' hb hs => hall (μ 0) w' hb (hs 0 (List.Mem.head _) _ rfl (List.cons_ne_nil _ _))) fun _ _ => by kernel_rfl, RG.st fun _ _ => by kernel_rfl, RG.st fun _ _ => by kernel_rfl, RG.st fun _ _ => by kernel_rfl, RG.st fun _ _ => by kernel_rfl, RG.st fun _ _ => by kernel_rfl, trivial⟩ ?_
  intro j2 i2 a2 w2 M2
  repeat refine wp_seq ?_
  refine M2.tx0 FEc_2 [(8, (.v (.slice none 0 0))), (9, (.v (.int .i64 0))), (10, (.s 1 4 4)), (24, (.v (.bool false)))] (by kernel_rfl) ⟨RG.st fun _ _ => by kernel_rfl, RG.st fun _ _ => by kernel_rfl, trivial⟩ ?_
  intro a3 w3 M3
  repeat refine wp_seq ?_
  refine wp_cond_false (M3.ev (by kernel_rfl)) ?_
  refine wp_skip ?_
  repeat refine wp_seq ?_
  refine M3.dr0 (by kernel_rfl) (FEc_4 a c) [(8, (.v (.slice none 0 0))), (9, (.v (.int .i64 0))), (10, (.s 1 4 4)), (31, (.v (.bool false)))] (by kernel_rfl) ⟨RG.st fun _ _ => by kernel_rfl, RG.st fun _ _ => by kernel_rfl, RG.ld u40 i40 (by kernel_rfl), RG.st fun _ _ => by kernel_rfl, RG.st fun _ _ => by kernel_rfl, RG.ld u40 i40 (by kernel_rfl), RG.cert_bin rfl .eql 40 40 27 30 (nv a) (nv c) (.bool false) rfl rfl (RG.sx fun _ => by kernel_rfl) (RG.sx fun _ => by kernel_rfl) (fun w => by kernel_rfl) (fun w => by rw [eqS hAt hCt, decide_eq_false hac]), trivial⟩ ?_
  intro a4 w4 M4
  repeat refine wp_seq ?_
  refine wp_cond_false (M4.ev (by kernel_rfl)) ?_
  refine wp_skip ?_
  repeat refine wp_seq ?_
  refine M4.dr (by kernel_rfl) (FEc_6 N a b c d) [(14, (RG.z 4)), (15, (RG.z 4))] [(2, 16, (wn (sMi N a c))), (3, 17, (wn (sMi N b d)))] [[(.slice p0 n0 c0), (.slice p1 n1 c1), (.slice p2 n2 c2), (.slice p3 n3 c3)], (wn a ++ (wn b ++ (wn c ++ wn d))), (wn (sMi N a c)), (wn (sMi N b d))] [(8, (.v (.slice none 0 0))), (9, (.v (.int .i64 0))), (12, (.p 2 0)), (13, (.p 3 0))] (by kernel_rfl) (by kernel_rfl) ⟨RG.st fun _ _ => by kernel_rfl, RG.st fun _ _ => by kernel_rfl, RG.ld u40 i40 (by kernel_rfl), RG.st fun _ _ => by kernel_rfl, RG.st fun _ _ => by kernel_rfl, RG.ld u40 i40 (by kernel_rfl), RG.cl (sMin_c O a c hA hC) fun _ _ => by kernel_rfl, RG.st fun _ _ => by kernel_rfl, RG.st fun _ _ => by kernel_rfl, RG.ld u40 i40 (by kernel_rfl), RG.st fun _ _ => by kernel_rfl, RG.st fun _ _ => by kernel_rfl, RG.ld u40 i40 (by kernel_rfl), RG.cl (sMin_c O b d hB hD) fun _ _ => by kernel_rfl, RG.mk 2 40 fun _ _ => by kernel_rfl, RG.mk 3 40 fun _ _ => by kernel_rfl, RG.pt i40 (by kernel_rfl), RG.pt i40 (by kernel_rfl), trivial⟩ ?_
  intro j5 i5 a5 w5 M5
  repeat refine wp_seq ?_
  refine M5.dr (by kernel_rfl) (FEc_7 N a b c d) [(4, (cb (bx (sTi N (sMi N b d) (sIn N (sMi N a c))))))] [] [[(.slice p0 n0 c0), (.slice p1 n1 c1), (.slice p2 n2 c2), (.slice p3 n3 c3)], (wn a ++ (wn b ++ (wn c ++ wn d))), (wn (sMi N a c)), (wn (sMi N b d)), (cb (bx (sTi N (sMi N b d) (sIn N (sMi N a c)))))] [(8, (.s 4 32 32)), (9, (.v (.int .i64 0)))] (by kernel_rfl) (by kernel_rfl) ⟨RG.ld u40 i40 (by kernel_rfl), RG.ld u40 i40 (by kernel_rfl), RG.cl (sInv2_c O (sMi N a c) (O.mi a c)) fun _ _ => by kernel_rfl, RG.cl (sTim_c O (sMi N b d) (sIn N (sMi N a c)) (O.mi b d) (O.inv (sMi N a c))) fun _ _ => by kernel_rfl, RG.cm 4 (fun w _ => sbytes_c O (O.ti (sMi N b d) (sIn N (sMi N a c))) w) fun _ _ => by kernel_rfl, RG.st fun _ _ => by kernel_rfl, RG.st fun _ _ => by kernel_rfl, trivial⟩ ?_
  intro j6 a6 w6 M6
  refine wp_ret ?_
  refine bodyPost_ret (v := _) (RG.results_tt 8 9 rfl _ (.int .i64 0) (M6.at (s := .s 4 32 32) (by kernel_rfl)) (M6.av (by kernel_rfl))) M6.sl.defers ?_
  exact ⟨_, rfl, _, M6.st.made (b := 4) rfl, rfl⟩
theorem extract_c (O : Ord N) (va vb vc vd : Value) (L : Nat → Bs) (w : World) (h0 : Arg w va (L 0)) (h1 : Arg w vb (L 1)) (h2 : Arg w vc (L 2)) (h3 : Arg w vd (L 3)) : Calls Try.prog 5 #[va, vb, vc, vd] w (Ret fun e w' => ExR N w L e w') := by
  have g0 := h0
  have g1 := h1
  have g2 := h2
  have g3 := h3
  obtain ⟨p0, n0, c0, rfl, -, -⟩ := h0
  obtain ⟨p1, n1, c1, rfl, -, -⟩ := h1
  obtain ⟨p2, n2, c2, rfl, -, -⟩ := h2
  obtain ⟨p3, n3, c3, rfl, -, -⟩ := h3
  have hargs : ∀ (k : Nat) (w' : World), RG.BelX w.heap.size [] w w' → (w'.rangeAt k 0 [(.slice p0 n0 c0), (.slice p1 n1 c1), (.slice p2 n2 c2), (.slice p3 n3 c3)] ∧ k < w'.heap.size) → Args w' (some ⟨k, 0, none⟩) 4 L := fun k w' hb hr _ => ⟨k, rfl, hr.2, fun j hj => by
    have h4 : j = 0 ∨ j = 1 ∨ j = 2 ∨ j = 3 := by omega
    have hc := fun (j : Nat) (v : Value) (h : [(.slice p0 n0 c0), (.slice p1 n1 c1), (.slice p2 n2 c2), (.slice p3 n3 c3)][j]? = some v) => hr.1 j v h
    simp only [Nat.zero_add] at hc
    rcases h4 with rfl | rfl | rfl | rfl
    · exact ⟨_, hc 0 _ rfl, g0.below hb.below⟩
    · exact ⟨_, hc 1 _ rfl, g1.below hb.below⟩
    · exact ⟨_, hc 2 _ rfl, g2.below hb.below⟩
    · exact ⟨_, hc 3 _ rfl, g3.below hb.below⟩⟩
  by_cases hall : ∀ j, j < 4 → (rq N (L j)).isSome = true
  · obtain ⟨ea, la⟩ := rq_get (hall 0 (by omega))
    obtain ⟨eb, lb⟩ := rq_get (hall 1 (by omega))
    obtain ⟨ec, lc⟩ := rq_get (hall 2 (by omega))
    obtain ⟨ed, ld⟩ := rq_get (hall 3 (by omega))
    have hok : ∀ (k : Nat) (w' : World), RG.BelX w.heap.size [] w w' → (w'.rangeAt k 0 [(.slice p0 n0 c0), (.slice p1 n1 c1), (.slice p2 n2 c2), (.slice p3 n3 c3)] ∧ k < w'.heap.size) → Calls Try.prog 11 #[(.func (.func 12) #[] #[]), .slice (some ⟨k, 0, none⟩) 4 4] w' (Ret fun e w'' => ∃ k', RG.Made w' k' (wn (nuV (L 0)) ++ (wn (nuV (L 1)) ++ (wn (nuV (L 2)) ++ wn (nuV (L 3))))) w'' ∧ e = .tuple #[.slice (some ⟨k', 0, none⟩) 4 4, .bool true]) := fun k w' hb hr =>
      (allOf_c O 4 4 (by decide) _ L w' (hargs k w' hb hr)).mono (by
        rintro e w'' ⟨v, rfl, ⟨⟨j, hj, hn⟩, -⟩ | ⟨-, k', C, hm, hR, rfl⟩⟩
        · have := hall j hj; rw [hn] at this; cases this
        · have hC := rows4 hR (fun _ => rfl)
          simp only [ea, eb, ec, ed] at hC
          rw [hC] at hm
          exact ⟨_, rfl, k', hm, rfl⟩)
    have lt : ∀ {x : Nat}, x < N → x < top := fun h => Nat.lt_of_lt_of_le h O.le
    by_cases hac : nuV (L 0) = nuV (L 2)
    · refine (ext_b O p0 p1 p2 p3 n0 n1 n2 n3 c0 c1 c2 c3 _ _ _ _ w la lb lc ld (lt la) (lt lc) hac hok).mono ?_
      rintro e w' ⟨v, rfl, hb, rfl⟩
      exact ⟨_, rfl, Or.inr ⟨hall, Or.inl ⟨hac, hb, rfl⟩⟩⟩
    · refine (ext_c O p0 p1 p2 p3 n0 n1 n2 n3 c0 c1 c2 c3 _ _ _ _ w la lb lc ld (lt la) (lt lc) hac hok).mono ?_
      rintro e w' ⟨v, rfl, k, hm, rfl⟩
      exact ⟨_, rfl, Or.inr ⟨hall, Or.inr ⟨hac, k, hm, rfl⟩⟩⟩
  · have hex : ∃ j, j < 4 ∧ rq N (L j) = none := Classical.byContradiction fun hn => hall fun j hj => by
      cases hr : rq N (L j) with
      | none => exact absurd ⟨j, hj, hr⟩ hn
      | some n => rfl
    refine (ext_a O p0 p1 p2 p3 n0 n1 n2 n3 c0 c1 c2 c3 0 0 0 0 w (fun k w' hb hr => (allOf_c O 4 4 (by decide) _ L w' (hargs k w' hb hr)).mono (by
      rintro e w'' ⟨v, rfl, ⟨-, hb', rfl⟩ | ⟨h, -⟩⟩
      · exact ⟨_, rfl, hb', rfl⟩
      · exact absurd h hall))).mono ?_
    rintro e w' ⟨v, rfl, hb, rfl⟩
    exact ⟨_, rfl, Or.inl ⟨hex, hb, rfl⟩⟩
end Go.Proofs.Yticolhhalbbogae
set_option linter.unusedVariables false
namespace Go.Proofs.Yticolhhalbbogae
open Go.RowKit Go.Sort Go.Deep
variable {N : Nat}
def FQa_0 : List RG.It := [.x 8 [] (.string ⟨#[]⟩), .x 9 [] (.int .i64 0)]
def FQa_1 (s0 : ByteArray) (a : Nat) : List RG.It := [.x 20 [] (.string s0), .c 21 [(20, 0)] (.tuple #[(nv a), (.bool false)]), .x 19 [(21, 1)] (.tuple #[(nv a), (.bool false)]), .x 22 [(19, 2)] (nv a), .x 23 [(19, 2)] (.bool false), .m 10 [] 0, .u [(10, 5), (22, 3)] 0, .x 11 [(23, 4)] (.bool false)]
def FQa_2 (s1 : ByteArray) (b : Nat) (o1 : Bool) : List RG.It := [.x 25 [] (.string s1), .c 26 [(25, 0)] (.tuple #[(nv b), (.bool o1)]), .x 24 [(26, 1)] (.tuple #[(nv b), (.bool o1)]), .x 27 [(24, 2)] (nv b), .x 28 [(24, 2)] (.bool o1), .m 12 [] 1, .u [(12, 5), (27, 3)] 1, .x 13 [(28, 4)] (.bool o1)]
def FQa_3 (s2 : ByteArray) (c : Nat) (o2 : Bool) : List RG.It := [.x 30 [] (.string s2), .c 31 [(30, 0)] (.tuple #[(nv c), (.bool o2)]), .x 29 [(31, 1)] (.tuple #[(nv c), (.bool o2)]), .x 32 [(29, 2)] (nv c), .x 33 [(29, 2)] (.bool o2), .m 14 [] 2, .u [(14, 5), (32, 3)] 2, .x 15 [(33, 4)] (.bool o2)]
def FQa_4 (s3 : ByteArray) (d : Nat) (o3 : Bool) : List RG.It := [.x 35 [] (.string s3), .c 36 [(35, 0)] (.tuple #[(nv d), (.bool o3)]), .x 34 [(36, 1)] (.tuple #[(nv d), (.bool o3)]), .x 37 [(34, 2)] (nv d), .x 38 [(34, 2)] (.bool o3), .m 16 [] 3, .u [(16, 5), (37, 3)] 3, .x 17 [(38, 4)] (.bool o3)]
def FQa_5 : List RG.It := [.x 39 [] (.bool false), .x 40 [(39, 0)] (.bool true), .x 41 [(40, 1)] (.bool true), ⟨some 42, [], (.v undef), .pass⟩, ⟨some 43, [], (.v undef), .pass⟩, .x 44 [(41, 2), (43, 4)] (.bool true), .x 45 [(44, 5)] (.bool true), ⟨some 46, [], (.v undef), .pass⟩, ⟨some 47, [], (.v undef), .pass⟩, .x 48 [(45, 6), (47, 8)] (.bool true), .x 49 [(48, 9)] (.bool true), ⟨some 50, [], (.v undef), .pass⟩, ⟨some 51, [], (.v undef), .pass⟩, .x 52 [(49, 10), (51, 12)] (.bool true)]
def FQa_6 : List RG.It := [.x 8 [] (.string ⟨#[]⟩), .x 9 [] (.int .i64 3)]
set_option maxHeartbeats 4000000 in
set_option maxRecDepth 100000 in
theorem qe_0 (O : Ord N) (s0 s1 s2 s3 : ByteArray) (a b c d : Nat) (o1 o2 o3 : Bool) (hq0 : Gives 17 #[.string s0] (.tuple #[nv a, .bool false])) (hq1 : Gives 17 #[.string s1] (.tuple #[nv b, .bool o1])) (hq2 : Gives 17 #[.string s2] (.tuple #[nv c, .bool o2])) (hq3 : Gives 17 #[.string s3] (.tuple #[nv d, .bool o3])) : Gives 6 #[.string s0, .string s1, .string s2, .string s3] (.tuple #[(.string ⟨#[]⟩), (.int .i64 3)]) := by
  intro w
  go_enter Try.func6, Try.ntmps6
  refine RG.M.enter [(0, .v (.string s0)), (1, .v (.string s1)), (2, .v (.string s2)), (3, .v (.string s3))] 70 (by kernel_rfl) ?_
  intro a0 M0
  repeat refine wp_seq ?_
  refine M0.tx0 FQa_0 [(0, (.v (.string s0))), (1, (.v (.string s1))), (2, (.v (.string s2))), (3, (.v (.string s3))), (8, (.v (.string ⟨#[]⟩))), (9, (.v (.int .i64 0)))] (by kernel_rfl) ⟨RG.st fun _ _ => by kernel_rfl, RG.st fun _ _ => by kernel_rfl, trivial⟩ ?_
  intro a1 w1 M1
  repeat refine wp_seq ?_
  refine M1.tx (FQa_1 s0 a) [(5, (RG.z 4))] [(0, 6, (wn a))] [(wn a)] [(1, (.v (.string s1))), (2, (.v (.string s2))), (3, (.v (.string s3))), (8, (.v (.string ⟨#[]⟩))), (9, (.v (.int .i64 0))), (11, (.v (.bool false)))] (by kernel_rfl) (by kernel_rfl) ⟨RG.st fun _ _ => by kernel_rfl, RG.cl (hq0) fun _ _ => by kernel_rfl, RG.st fun _ _ => by kernel_rfl, RG.st fun _ _ => by kernel_rfl, RG.st fun _ _ => by kernel_rfl, RG.mk 0 44 fun _ _ => by kernel_rfl, RG.pt i44 (by kernel_rfl), RG.st fun _ _ => by kernel_rfl, trivial⟩ ?_
  intro j2 a2 w2 M2
  repeat refine wp_seq ?_
  refine M2.tx (FQa_2 s1 b o1) [(5, (RG.z 4))] [(1, 6, (wn b))] [(wn a), (wn b)] [(2, (.v (.string s2))), (3, (.v (.string s3))), (8, (.v (.string ⟨#[]⟩))), (9, (.v (.int .i64 0))), (11, (.v (.bool false)))] (by kernel_rfl) (by kernel_rfl) ⟨RG.st fun _ _ => by kernel_rfl, RG.cl (hq1) fun _ _ => by kernel_rfl, RG.st fun _ _ => by kernel_rfl, RG.st fun _ _ => by kernel_rfl, RG.st fun _ _ => by kernel_rfl, RG.mk 1 44 fun _ _ => by kernel_rfl, RG.pt i44 (by kernel_rfl), RG.st fun _ _ => by kernel_rfl, trivial⟩ ?_
  intro j3 a3 w3 M3
  repeat refine wp_seq ?_
  refine M3.tx (FQa_3 s2 c o2) [(5, (RG.z 4))] [(2, 6, (wn c))] [(wn a), (wn b), (wn c)] [(3, (.v (.string s3))), (8, (.v (.string ⟨#[]⟩))), (9, (.v (.int .i64 0))), (11, (.v (.bool false)))] (by kernel_rfl) (by kernel_rfl) ⟨RG.st fun _ _ => by kernel_rfl, RG.cl (hq2) fun _ _ => by kernel_rfl, RG.st fun _ _ => by kernel_rfl, RG.st fun _ _ => by kernel_rfl, RG.st fun _ _ => by kernel_rfl, RG.mk 2 44 fun _ _ => by kernel_rfl, RG.pt i44 (by kernel_rfl), RG.st fun _ _ => by kernel_rfl, trivial⟩ ?_
  intro j4 a4 w4 M4
  repeat refine wp_seq ?_
  refine M4.tx (FQa_4 s3 d o3) [(5, (RG.z 4))] [(3, 6, (wn d))] [(wn a), (wn b), (wn c), (wn d)] [(8, (.v (.string ⟨#[]⟩))), (9, (.v (.int .i64 0))), (11, (.v (.bool false)))] (by kernel_rfl) (by kernel_rfl) ⟨RG.st fun _ _ => by kernel_rfl, RG.cl (hq3) fun _ _ => by kernel_rfl, RG.st fun _ _ => by kernel_rfl, RG.st fun _ _ => by kernel_rfl, RG.st fun _ _ => by kernel_rfl, RG.mk 3 44 fun _ _ => by kernel_rfl, RG.pt i44 (by kernel_rfl), RG.st fun _ _ => by kernel_rfl, trivial⟩ ?_
  intro j5 a5 w5 M5
  repeat refine wp_seq ?_
  refine M5.tx0 FQa_5 [(8, (.v (.string ⟨#[]⟩))), (9, (.v (.int .i64 0))), (52, (.v (.bool true)))] (by kernel_rfl) ⟨RG.st fun _ _ => by kernel_rfl, RG.st fun _ _ => by kernel_rfl, RG.st fun _ _ => by kernel_rfl, RG.cert_pass rfl rfl, RG.cert_pass rfl rfl, RG.st fun _ _ => by kernel_rfl, RG.st fun _ _ => by kernel_rfl, RG.cert_pass rfl rfl, RG.cert_pass rfl rfl, RG.st fun _ _ => by kernel_rfl, RG.st fun _ _ => by kernel_rfl, RG.cert_pass rfl rfl, RG.cert_pass rfl rfl, RG.st fun _ _ => by kernel_rfl, trivial⟩ ?_
  intro a6 w6 M6
  repeat refine wp_seq ?_
  refine wp_cond_true (M6.ev (by kernel_rfl)) ?_
  repeat refine wp_seq ?_
  refine M6.tx0 FQa_6 [(8, (.v (.string ⟨#[]⟩))), (9, (.v (.int .i64 3)))] (by kernel_rfl) ⟨RG.st fun _ _ => by kernel_rfl, RG.st fun _ _ => by kernel_rfl, trivial⟩ ?_
  intro a7 w7 M7
  refine wp_ret ?_
  refine bodyPost_ret (v := _) (RG.results_tt 8 9 rfl (.string ⟨#[]⟩) (.int .i64 3) (M7.av (by kernel_rfl)) (M7.av (by kernel_rfl))) M7.sl.defers ?_
  exact ⟨_, rfl, M7.st.bel.below, rfl⟩
def FQb_0 : List RG.It := [.x 8 [] (.string ⟨#[]⟩), .x 9 [] (.int .i64 0)]
def FQb_1 (s0 : ByteArray) (a : Nat) : List RG.It := [.x 20 [] (.string s0), .c 21 [(20, 0)] (.tuple #[(nv a), (.bool true)]), .x 19 [(21, 1)] (.tuple #[(nv a), (.bool true)]), .x 22 [(19, 2)] (nv a), .x 23 [(19, 2)] (.bool true), .m 10 [] 0, .u [(10, 5), (22, 3)] 0, .x 11 [(23, 4)] (.bool true)]
def FQb_2 (s1 : ByteArray) (b : Nat) : List RG.It := [.x 25 [] (.string s1), .c 26 [(25, 0)] (.tuple #[(nv b), (.bool false)]), .x 24 [(26, 1)] (.tuple #[(nv b), (.bool false)]), .x 27 [(24, 2)] (nv b), .x 28 [(24, 2)] (.bool false), .m 12 [] 1, .u [(12, 5), (27, 3)] 1, .x 13 [(28, 4)] (.bool false)]
def FQb_3 (s2 : ByteArray) (c : Nat) (o2 : Bool) : List RG.It := [.x 30 [] (.string s2), .c 31 [(30, 0)] (.tuple #[(nv c), (.bool o2)]), .x 29 [(31, 1)] (.tuple #[(nv c), (.bool o2)]), .x 32 [(29, 2)] (nv c), .x 33 [(29, 2)] (.bool o2), .m 14 [] 2, .u [(14, 5), (32, 3)] 2, .x 15 [(33, 4)] (.bool o2)]
def FQb_4 (s3 : ByteArray) (d : Nat) (o3 : Bool) : List RG.It := [.x 35 [] (.string s3), .c 36 [(35, 0)] (.tuple #[(nv d), (.bool o3)]), .x 34 [(36, 1)] (.tuple #[(nv d), (.bool o3)]), .x 37 [(34, 2)] (nv d), .x 38 [(34, 2)] (.bool o3), .m 16 [] 3, .u [(16, 5), (37, 3)] 3, .x 17 [(38, 4)] (.bool o3)]
def FQb_5 : List RG.It := [.x 39 [] (.bool true), .x 40 [(39, 0)] (.bool false), .x 41 [(40, 1)] (.bool false), .x 42 [] (.bool false), .x 43 [(42, 3)] (.bool true), .x 44 [(41, 2), (43, 4)] (.bool true), .x 45 [(44, 5)] (.bool true), ⟨some 46, [], (.v undef), .pass⟩, ⟨some 47, [], (.v undef), .pass⟩, .x 48 [(45, 6), (47, 8)] (.bool true), .x 49 [(48, 9)] (.bool true), ⟨some 50, [], (.v undef), .pass⟩, ⟨some 51, [], (.v undef), .pass⟩, .x 52 [(49, 10), (51, 12)] (.bool true)]
def FQb_6 : List RG.It := [.x 8 [] (.string ⟨#[]⟩), .x 9 [] (.int .i64 3)]
set_option maxHeartbeats 4000000 in
set_option maxRecDepth 100000 in
theorem qe_1 (O : Ord N) (s0 s1 s2 s3 : ByteArray) (a b c d : Nat) (o1 o2 o3 : Bool) (hq0 : Gives 17 #[.string s0] (.tuple #[nv a, .bool true])) (hq1 : Gives 17 #[.string s1] (.tuple #[nv b, .bool false])) (hq2 : Gives 17 #[.string s2] (.tuple #[nv c, .bool o2])) (hq3 : Gives 17 #[.string s3] (.tuple #[nv d, .bool o3])) : Gives 6 #[.string s0, .string s1, .string s2, .string s3] (.tuple #[(.string ⟨#[]⟩), (.int .i64 3)]) := by
  intro w
  go_enter Try.func6, Try.ntmps6
  refine RG.M.enter [(0, .v (.string s0)), (1, .v (.string s1)), (2, .v (.string s2)), (3, .v (.string s3))] 70 (by kernel_rfl) ?_
  intro a0 M0
  repeat refine wp_seq ?_
  refine M0.tx0 FQb_0 [(0, (.v (.string s0))), (1, (.v (.string s1))), (2, (.v (.string s2))), (3, (.v (.string s3))), (8, (.v (.string ⟨#[]⟩))), (9, (.v (.int .i64 0)))] (by kernel_rfl) ⟨RG.st fun _ _ => by kernel_rfl, RG.st fun _ _ => by kernel_rfl, trivial⟩ ?_
  intro a1 w1 M1
  repeat refine wp_seq ?_
  refine M1.tx (FQb_1 s0 a) [(5, (RG.z 4))] [(0, 6, (wn a))] [(wn a)] [(1, (.v (.string s1))), (2, (.v (.string s2))), (3, (.v (.string s3))), (8, (.v (.string ⟨#[]⟩))), (9, (.v (.int .i64 0))), (11, (.v (.bool true)))] (by kernel_rfl) (by kernel_rfl) ⟨RG.st fun _ _ => by kernel_rfl, RG.cl (hq0) fun _ _ => by kernel_rfl, RG.st fun _ _ => by kernel_rfl, RG.st fun _ _ => by kernel_rfl, RG.st fun _ _ => by kernel_rfl, RG.mk 0 44 fun _ _ => by kernel_rfl, RG.pt i44 (by kernel_rfl), RG.st fun _ _ => by kernel_rfl, trivial⟩ ?_
  intro j2 a2 w2 M2
  repeat refine wp_seq ?_
  refine M2.tx (FQb_2 s1 b) [(5, (RG.z 4))] [(1, 6, (wn b))] [(wn a), (wn b)] [(2, (.v (.string s2))), (3, (.v (.string s3))), (8, (.v (.string ⟨#[]⟩))), (9, (.v (.int .i64 0))), (11, (.v (.bool true))), (13, (.v (.bool false)))] (by kernel_rfl) (by kernel_rfl) ⟨RG.st fun _ _ => by kernel_rfl, RG.cl (hq1) fun _ _ => by kernel_rfl, RG.st fun _ _ => by kernel_rfl, RG.st fun _ _ => by kernel_rfl, RG.st fun _ _ => by kernel_rfl, RG.mk 1 44 fun _ _ => by kernel_rfl, RG.pt i44 (by kernel_rfl), RG.st fun _ _ => by kernel_rfl, trivial⟩ ?_
  intro j3 a3 w3 M3
  repeat refine wp_seq ?_
  refine M3.tx (FQb_3 s2 c o2) [(5, (RG.z 4))] [(2, 6, (wn c))] [(wn a), (wn b), (wn c)] [(3, (.v (.string s3))), (8, (.v (.string ⟨#[]⟩))), (9, (.v (.int .i64 0))), (11, (.v (.bool true))), (13, (.v (.bool false)))] (by kernel_rfl) (by kernel_rfl) ⟨RG.st fun _ _ => by kernel_rfl, RG.cl (hq2) fun _ _ => by kernel_rfl, RG.st fun _ _ => by kernel_rfl, RG.st fun _ _ => by kernel_rfl, RG.st fun _ _ => by kernel_rfl, RG.mk 2 44 fun _ _ => by kernel_rfl, RG.pt i44 (by kernel_rfl), RG.st fun _ _ => by kernel_rfl, trivial⟩ ?_
  intro j4 a4 w4 M4
  repeat refine wp_seq ?_
  refine M4.tx (FQb_4 s3 d o3) [(5, (RG.z 4))] [(3, 6, (wn d))] [(wn a), (wn b), (wn c), (wn d)] [(8, (.v (.string ⟨#[]⟩))), (9, (.v (.int .i64 0))), (11, (.v (.bool true))), (13, (.v (.bool false)))] (by kernel_rfl) (by kernel_rfl) ⟨RG.st fun _ _ => by kernel_rfl, RG.cl (hq3) fun _ _ => by kernel_rfl, RG.st fun _ _ => by kernel_rfl, RG.st fun _ _ => by kernel_rfl, RG.st fun _ _ => by kernel_rfl, RG.mk 3 44 fun _ _ => by kernel_rfl, RG.pt i44 (by kernel_rfl), RG.st fun _ _ => by kernel_rfl, trivial⟩ ?_
  intro j5 a5 w5 M5
  repeat refine wp_seq ?_
  refine M5.tx0 FQb_5 [(8, (.v (.string ⟨#[]⟩))), (9, (.v (.int .i64 0))), (52, (.v (.bool true)))] (by kernel_rfl) ⟨RG.st fun _ _ => by kernel_rfl, RG.st fun _ _ => by kernel_rfl, RG.st fun _ _ => by kernel_rfl, RG.st fun _ _ => by kernel_rfl, RG.st fun _ _ => by kernel_rfl, RG.st fun _ _ => by kernel_rfl, RG.st fun _ _ => by kernel_rfl, RG.cert_pass rfl rfl, RG.cert_pass rfl rfl, RG.st fun _ _ => by kernel_rfl, RG.st fun _ _ => by kernel_rfl, RG.cert_pass rfl rfl, RG.cert_pass rfl rfl, RG.st fun _ _ => by kernel_rfl, trivial⟩ ?_
  intro a6 w6 M6
  repeat refine wp_seq ?_
  refine wp_cond_true (M6.ev (by kernel_rfl)) ?_
  repeat refine wp_seq ?_
  refine M6.tx0 FQb_6 [(8, (.v (.string ⟨#[]⟩))), (9, (.v (.int .i64 3)))] (by kernel_rfl) ⟨RG.st fun _ _ => by kernel_rfl, RG.st fun _ _ => by kernel_rfl, trivial⟩ ?_
  intro a7 w7 M7
  refine wp_ret ?_
  refine bodyPost_ret (v := _) (RG.results_tt 8 9 rfl (.string ⟨#[]⟩) (.int .i64 3) (M7.av (by kernel_rfl)) (M7.av (by kernel_rfl))) M7.sl.defers ?_
  exact ⟨_, rfl, M7.st.bel.below, rfl⟩
def FQc_0 : List RG.It := [.x 8 [] (.string ⟨#[]⟩), .x 9 [] (.int .i64 0)]
def FQc_1 (s0 : ByteArray) (a : Nat) : List RG.It := [.x 20 [] (.string s0), .c 21 [(20, 0)] (.tuple #[(nv a), (.bool true)]), .x 19 [(21, 1)] (.tuple #[(nv a), (.bool true)]), .x 22 [(19, 2)] (nv a), .x 23 [(19, 2)] (.bool true), .m 10 [] 0, .u [(10, 5), (22, 3)] 0, .x 11 [(23, 4)] (.bool true)]
def FQc_2 (s1 : ByteArray) (b : Nat) : List RG.It := [.x 25 [] (.string s1), .c 26 [(25, 0)] (.tuple #[(nv b), (.bool true)]), .x 24 [(26, 1)] (.tuple #[(nv b), (.bool true)]), .x 27 [(24, 2)] (nv b), .x 28 [(24, 2)] (.bool true), .m 12 [] 1, .u [(12, 5), (27, 3)] 1, .x 13 [(28, 4)] (.bool true)]
def FQc_3 (s2 : ByteArray) (c : Nat) : List RG.It := [.x 30 [] (.string s2), .c 31 [(30, 0)] (.tuple #[(nv c), (.bool false)]), .x 29 [(31, 1)] (.tuple #[(nv c), (.bool false)]), .x 32 [(29, 2)] (nv c), .x 33 [(29, 2)] (.bool false), .m 14 [] 2, .u [(14, 5), (32, 3)] 2, .x 15 [(33, 4)] (.bool false)]
def FQc_4 (s3 : ByteArray) (d : Nat) (o3 : Bool) : List RG.It := [.x 35 [] (.string s3), .c 36 [(35, 0)] (.tuple #[(nv d), (.bool o3)]), .x 34 [(36, 1)] (.tuple #[(nv d), (.bool o3)]), .x 37 [(34, 2)] (nv d), .x 38 [(34, 2)] (.bool o3), .m 16 [] 3, .u [(16, 5), (37, 3)] 3, .x 17 [(38, 4)] (.bool o3)]
def FQc_5 : List RG.It := [.x 39 [] (.bool true), .x 40 [(39, 0)] (.bool false), .x 41 [(40, 1)] (.bool false), .x 42 [] (.bool true), .x 43 [(42, 3)] (.bool false), .x 44 [(41, 2), (43, 4)] (.bool false), .x 45 [(44, 5)] (.bool false), .x 46 [] (.bool false), .x 47 [(46, 7)] (.bool true), .x 48 [(45, 6), (47, 8)] (.bool true), .x 49 [(48, 9)] (.bool true), ⟨some 50, [], (.v undef), .pass⟩, ⟨some 51, [], (.v undef), .pass⟩, .x 52 [(49, 10), (51, 12)] (.bool true)]
def FQc_6 : List RG.It := [.x 8 [] (.string ⟨#[]⟩), .x 9 [] (.int .i64 3)]
set_option maxHeartbeats 4000000 in
set_option maxRecDepth 100000 in
theorem qe_2 (O : Ord N) (s0 s1 s2 s3 : ByteArray) (a b c d : Nat) (o1 o2 o3 : Bool) (hq0 : Gives 17 #[.string s0] (.tuple #[nv a, .bool true])) (hq1 : Gives 17 #[.string s1] (.tuple #[nv b, .bool true])) (hq2 : Gives 17 #[.string s2] (.tuple #[nv c, .bool false])) (hq3 : Gives 17 #[.string s3] (.tuple #[nv d, .bool o3])) : Gives 6 #[.string s0, .string s1, .string s2, .string s3] (.tuple #[(.string ⟨#[]⟩), (.int .i64 3)]) := by
  intro w
  go_enter Try.func6, Try.ntmps6
  refine RG.M.enter [(0, .v (.string s0)), (1, .v (.string s1)), (2, .v (.string s2)), (3, .v (.string s3))] 70 (by kernel_rfl) ?_
  intro a0 M0
  repeat refine wp_seq ?_
  refine M0.tx0 FQc_0 [(0, (.v (.string s0))), (1, (.v (.string s1))), (2, (.v (.string s2))), (3, (.v (.string s3))), (8, (.v (.string ⟨#[]⟩))), (9, (.v (.int .i64 0)))] (by kernel_rfl) ⟨RG.st fun _ _ => by kernel_rfl, RG.st fun _ _ => by kernel_rfl, trivial⟩ ?_
  intro a1 w1 M1
  repeat refine wp_seq ?_
  refine M1.tx (FQc_1 s0 a) [(5, (RG.z 4))] [(0, 6, (wn a))] [(wn a)] [(1, (.v (.string s1))), (2, (.v (.string s2))), (3, (.v (.string s3))), (8, (.v (.string ⟨#[]⟩))), (9, (.v (.int .i64 0))), (11, (.v (.bool true)))] (by kernel_rfl) (by kernel_rfl) ⟨RG.st fun _ _ => by kernel_rfl, RG.cl (hq0) fun _ _ => by kernel_rfl, RG.st fun _ _ => by kernel_rfl, RG.st fun _ _ => by kernel_rfl, RG.st fun _ _ => by kernel_rfl, RG.mk 0 44 fun _ _ => by kernel_rfl, RG.pt i44 (by kernel_rfl), RG.st fun _ _ => by kernel_rfl, trivial⟩ ?_
  intro j2 a2 w2 M2
  repeat refine wp_seq ?_
  refine M2.tx (FQc_2 s1 b) [(5, (RG.z 4))] [(1, 6, (wn b))] [(wn a), (wn b)] [(2, (.v (.string s2))), (3, (.v (.string s3))), (8, (.v (.string ⟨#[]⟩))), (9, (.v (.int .i64 0))), (11, (.v (.bool true))), (13, (.v (.bool true)))] (by kernel_rfl) (by kernel_rfl) ⟨RG.st fun _ _ => by kernel_rfl, RG.cl (hq1) fun _ _ => by kernel_rfl, RG.st fun _ _ => by kernel_rfl, RG.st fun _ _ => by kernel_rfl, RG.st fun _ _ => by kernel_rfl, RG.mk 1 44 fun _ _ => by kernel_rfl, RG.pt i44 (by kernel_rfl), RG.st fun _ _ => by kernel_rfl, trivial⟩ ?_
  intro j3 a3 w3 M3
  repeat refine wp_seq ?_
  refine M3.tx (FQc_3 s2 c) [(5, (RG.z 4))] [(2, 6, (wn c))] [(wn a), (wn b), (wn c)] [(3, (.v (.string s3))), (8, (.v (.string ⟨#[]⟩))), (9, (.v (.int .i64 0))), (11, (.v (.bool true))), (13, (.v (.bool true))), (15, (.v (.bool false)))] (by kernel_rfl) (by kernel_rfl) ⟨RG.st fun _ _ => by kernel_rfl, RG.cl (hq2) fun _ _ => by kernel_rfl, RG.st fun _ _ => by kernel_rfl, RG.st fun _ _ => by kernel_rfl, RG.st fun _ _ => by kernel_rfl, RG.mk 2 44 fun _ _ => by kernel_rfl, RG.pt i44 (by kernel_rfl), RG.st fun _ _ => by kernel_rfl, trivial⟩ ?_
  intro j4 a4 w4 M4
  repeat refine wp_seq ?_
  refine M4.tx (FQc_4 s3 d o3) [(5, (RG.z 4))] [(3, 6, (wn d))] [(wn a), (wn b), (wn c), (wn d)] [(8, (.v (.string ⟨#[]⟩))), (9, (.v (.int .i64 0))), (11, (.v (.bool true))), (13, (.v (.bool true))), (15, (.v (.bool false)))] (by kernel_rfl) (by kernel_rfl) ⟨RG.st fun _ _ => by kernel_rfl, RG.cl (hq3) fun _ _ => by kernel_rfl, RG.st fun _ _ => by kernel_rfl, RG.st fun _ _ => by kernel_rfl, RG.st fun _ _ => by kernel_rfl, RG.mk 3 44 fun _ _ => by kernel_rfl, RG.pt i44 (by kernel_rfl), RG.st fun _ _ => by kernel_rfl, trivial⟩ ?_
  intro j5 a5 w5 M5
  repeat refine wp_seq ?_
  refine M5.tx0 FQc_5 [(8, (.v (.string ⟨#[]⟩))), (9, (.v (.int .i64 0))), (52, (.v (.bool true)))] (by kernel_rfl) ⟨RG.st fun _ _ => by kernel_rfl, RG.st fun _ _ => by kernel_rfl, RG.st fun _ _ => by kernel_rfl, RG.st fun _ _ => by kernel_rfl, RG.st fun _ _ => by kernel_rfl, RG.st fun _ _ => by kernel_rfl, RG.st fun _ _ => by kernel_rfl, RG.st fun _ _ => by kernel_rfl, RG.st fun _ _ => by kernel_rfl, RG.st fun _ _ => by kernel_rfl, RG.st fun _ _ => by kernel_rfl, RG.cert_pass rfl rfl, RG.cert_pass rfl rfl, RG.st fun _ _ => by kernel_rfl, trivial⟩ ?_
  intro a6 w6 M6
  repeat refine wp_seq ?_
  refine wp_cond_true (M6.ev (by kernel_rfl)) ?_
  repeat refine wp_seq ?_
  refine M6.tx0 FQc_6 [(8, (.v (.string ⟨#[]⟩))), (9, (.v (.int .i64 3)))] (by kernel_rfl) ⟨RG.st fun _ _ => by kernel_rfl, RG.st fun _ _ => by kernel_rfl, trivial⟩ ?_
  intro a7 w7 M7
  refine wp_ret ?_
  refine bodyPost_ret (v := _) (RG.results_tt 8 9 rfl (.string ⟨#[]⟩) (.int .i64 3) (M7.av (by kernel_rfl)) (M7.av (by kernel_rfl))) M7.sl.defers ?_
  exact ⟨_, rfl, M7.st.bel.below, rfl⟩
def FQd_0 : List RG.It := [.x 8 [] (.string ⟨#[]⟩), .x 9 [] (.int .i64 0)]
def FQd_1 (s0 : ByteArray) (a : Nat) : List RG.It := [.x 20 [] (.string s0), .c 21 [(20, 0)] (.tuple #[(nv a), (.bool true)]), .x 19 [(21, 1)] (.tuple #[(nv a), (.bool true)]), .x 22 [(19, 2)] (nv a), .x 23 [(19, 2)] (.bool true), .m 10 [] 0, .u [(10, 5), (22, 3)] 0, .x 11 [(23, 4)] (.bool true)]
def FQd_2 (s1 : ByteArray) (b : Nat) : List RG.It := [.x 25 [] (.string s1), .c 26 [(25, 0)] (.tuple #[(nv b), (.bool true)]), .x 24 [(26, 1)] (.tuple #[(nv b), (.bool true)]), .x 27 [(24, 2)] (nv b), .x 28 [(24, 2)] (.bool true), .m 12 [] 1, .u [(12, 5), (27, 3)] 1, .x 13 [(28, 4)] (.bool true)]
def FQd_3 (s2 : ByteArray) (c : Nat) : List RG.It := [.x 30 [] (.string s2), .c 31 [(30, 0)] (.tuple #[(nv c), (.bool true)]), .x 29 [(31, 1)] (.tuple #[(nv c), (.bool true)]), .x 32 [(29, 2)] (nv c), .x 33 [(29, 2)] (.bool true), .m 14 [] 2, .u [(14, 5), (32, 3)] 2, .x 15 [(33, 4)] (.bool true)]
def FQd_4 (s3 : ByteArray) (d : Nat) : List RG.It := [.x 35 [] (.string s3), .c 36 [(35, 0)] (.tuple #[(nv d), (.bool false)]), .x 34 [(36, 1)] (.tuple #[(nv d), (.bool false)]), .x 37 [(34, 2)] (nv d), .x 38 [(34, 2)] (.bool false), .m 16 [] 3, .u [(16, 5), (37, 3)] 3, .x 17 [(38, 4)] (.bool false)]
def FQd_5 : List RG.It := [.x 39 [] (.bool true), .x 40 [(39, 0)] (.bool false), .x 41 [(40, 1)] (.bool false), .x 42 [] (.bool true), .x 43 [(42, 3)] (.bool false), .x 44 [(41, 2), (43, 4)] (.bool false), .x 45 [(44, 5)] (.bool false), .x 46 [] (.bool true), .x 47 [(46, 7)] (.bool false), .x 48 [(45, 6), (47, 8)] (.bool false), .x 49 [(48, 9)] (.bool false), .x 50 [] (.bool false), .x 51 [(50, 11)] (.bool true), .x 52 [(49, 10), (51, 12)] (.bool true)]
def FQd_6 : List RG.It := [.x 8 [] (.string ⟨#[]⟩), .x 9 [] (.int .i64 3)]
set_option maxHeartbeats 4000000 in
set_option maxRecDepth 100000 in
theorem qe_3 (O : Ord N) (s0 s1 s2 s3 : ByteArray) (a b c d : Nat) (o1 o2 o3 : Bool) (hq0 : Gives 17 #[.string s0] (.tuple #[nv a, .bool true])) (hq1 : Gives 17 #[.string s1] (.tuple #[nv b, .bool true])) (hq2 : Gives 17 #[.string s2] (.tuple #[nv c, .bool true])) (hq3 : Gives 17 #[.string s3] (.tuple #[nv d, .bool false])) : Gives 6 #[.string s0, .string s1, .string s2, .string s3] (.tuple #[(.string ⟨#[]⟩), (.int .i64 3)]) := by
  intro w
  go_enter Try.func6, Try.ntmps6
  refine RG.M.enter [(0, .v (.string s0)), (1, .v (.string s1)), (2, .v (.string s2)), (3, .v (.string s3))] 70 (by kernel_rfl) ?_
  intro a0 M0
  repeat refine wp_seq ?_
  refine M0.tx0 FQd_0 [(0, (.v (.string s0))), (1, (.v (.string s1))), (2, (.v (.string s2))), (3, (.v (.string s3))), (8, (.v (.string ⟨#[]⟩))), (9, (.v (.int .i64 0)))] (by kernel_rfl) ⟨RG.st fun _ _ => by kernel_rfl, RG.st fun _ _ => by kernel_rfl, trivial⟩ ?_
  intro a1 w1 M1
  repeat refine wp_seq ?_
  refine M1.tx (FQd_1 s0 a) [(5, (RG.z 4))] [(0, 6, (wn a))] [(wn a)] [(1, (.v (.string s1))), (2, (.v (.string s2))), (3, (.v (.string s3))), (8, (.v (.string ⟨#[]⟩))), (9, (.v (.int .i64 0))), (11, (.v (.bool true)))] (by kernel_rfl) (by kernel_rfl) ⟨RG.st fun _ _ => by kernel_rfl, RG.cl (hq0) fun _ _ => by kernel_rfl, RG.st fun _ _ => by kernel_rfl, RG.st fun _ _ => by kernel_rfl, RG.st fun _ _ => by kernel_rfl, RG.mk 0 44 fun _ _ => by kernel_rfl, RG.pt i44 (by kernel_rfl), RG.st fun _ _ => by kernel_rfl, trivial⟩ ?_
  intro j2 a2 w2 M2
  repeat refine wp_seq ?_
  refine M2.tx (FQd_2 s1 b) [(5, (RG.z 4))] [(1, 6, (wn b))] [(wn a), (wn b)] [(2, (.v (.string s2))), (3, (.v (.string s3))), (8, (.v (.string ⟨#[]⟩))), (9, (.v (.int .i64 0))), (11, (.v (.bool true))), (13, (.v (.bool true)))] (by kernel_rfl) (by kernel_rfl) ⟨RG.st fun _ _ => by kernel_rfl, RG.cl (hq1) fun _ _ => by kernel_rfl, RG.st fun _ _ => by kernel_rfl, RG.st fun _ _ => by kernel_rfl, RG.st fun _ _ => by kernel_rfl, RG.mk 1 44 fun _ _ => by kernel_rfl, RG.pt i44 (by kernel_rfl), RG.st fun _ _ => by kernel_rfl, trivial⟩ ?_
  intro j3 a3 w3 M3
  repeat refine wp_seq ?_
  refine M3.tx (FQd_3 s2 c) [(5, (RG.z 4))] [(2, 6, (wn c))] [(wn a), (wn b), (wn c)] [(3, (.v (.string s3))), (8, (.v (.string ⟨#[]⟩))), (9, (.v (.int .i64 0))), (11, (.v (.bool true))), (13, (.v (.bool true))), (15, (.v (.bool true)))] (by kernel_rfl) (by kernel_rfl) ⟨RG.st fun _ _ => by kernel_rfl, RG.cl (hq2) fun _ _ => by kernel_rfl, RG.st fun _ _ => by kernel_rfl, RG.st fun _ _ => by kernel_rfl, RG.st fun _ _ => by kernel_rfl, RG.mk 2 44 fun _ _ => by kernel_rfl, RG.pt i44 (by kernel_rfl), RG.st fun _ _ => by kernel_rfl, trivial⟩ ?_
  intro j4 a4 w4 M4
  repeat refine wp_seq ?_
  refine M4.tx (FQd_4 s3 d) [(5, (RG.z 4))] [(3, 6, (wn d))] [(wn a), (wn b), (wn c), (wn d)] [(8, (.v (.string ⟨#[]⟩))), (9, (.v (.int .i64 0))), (11, (.v (.bool true))), (13, (.v (.bool true))), (15, (.v (.bool true))), (17, (.v (.bool false)))] (by kernel_rfl) (by kernel_rfl) ⟨RG.st fun _ _ => by kernel_rfl, RG.cl (hq3) fun _ _ => by kernel_rfl, RG.st fun _ _ => by kernel_rfl, RG.st fun _ _ => by kernel_rfl, RG.st fun _ _ => by kernel_rfl, RG.mk 3 44 fun _ _ => by kernel_rfl, RG.pt i44 (by kernel_rfl), RG.st fun _ _ => by kernel_rfl, trivial⟩ ?_
  intro j5 a5 w5 M5
  repeat refine wp_seq ?_
  refine M5.tx0 FQd_5 [(8, (.v (.string ⟨#[]⟩))), (9, (.v (.int .i64 0))), (52, (.v (.bool true)))] (by kernel_rfl) ⟨RG.st fun _ _ => by kernel_rfl, RG.st fun _ _ => by kernel_rfl, RG.st fun _ _ => by kernel_rfl, RG.st fun _ _ => by kernel_rfl, RG.st fun _ _ => by kernel_rfl, RG.st fun _ _ => by kernel_rfl, RG.st fun _ _ => by kernel_rfl, RG.st fun _ _ => by kernel_rfl, RG.st fun _ _ => by kernel_rfl, RG.st fun _ _ => by kernel_rfl, RG.st fun _ _ => by kernel_rfl, RG.st fun _ _ => by kernel_rfl, RG.st fun _ _ => by kernel_rfl, RG.st fun _ _ => by kernel_rfl, trivial⟩ ?_
  intro a6 w6 M6
  repeat refine wp_seq ?_
  refine wp_cond_true (M6.ev (by kernel_rfl)) ?_
  repeat refine wp_seq ?_
  refine M6.tx0 FQd_6 [(8, (.v (.string ⟨#[]⟩))), (9, (.v (.int .i64 3)))] (by kernel_rfl) ⟨RG.st fun _ _ => by kernel_rfl, RG.st fun _ _ => by kernel_rfl, trivial⟩ ?_
  intro a7 w7 M7
  refine wp_ret ?_
  refine bodyPost_ret (v := _) (RG.results_tt 8 9 rfl (.string ⟨#[]⟩) (.int .i64 3) (M7.av (by kernel_rfl)) (M7.av (by kernel_rfl))) M7.sl.defers ?_
  exact ⟨_, rfl, M7.st.bel.below, rfl⟩
def FQe_0 : List RG.It := [.x 8 [] (.string ⟨#[]⟩), .x 9 [] (.int .i64 0)]
def FQe_1 (s0 : ByteArray) (a : Nat) : List RG.It := [.x 20 [] (.string s0), .c 21 [(20, 0)] (.tuple #[(nv a), (.bool true)]), .x 19 [(21, 1)] (.tuple #[(nv a), (.bool true)]), .x 22 [(19, 2)] (nv a), .x 23 [(19, 2)] (.bool true), .m 10 [] 0, .u [(10, 5), (22, 3)] 0, .x 11 [(23, 4)] (.bool true)]
def FQe_2 (s1 : ByteArray) (b : Nat) : List RG.It := [.x 25 [] (.string s1), .c 26 [(25, 0)] (.tuple #[(nv b), (.bool true)]), .x 24 [(26, 1)] (.tuple #[(nv b), (.bool true)]), .x 27 [(24, 2)] (nv b), .x 28 [(24, 2)] (.bool true), .m 12 [] 1, .u [(12, 5), (27, 3)] 1, .x 13 [(28, 4)] (.bool true)]
def FQe_3 (s2 : ByteArray) (c : Nat) : List RG.It := [.x 30 [] (.string s2), .c 31 [(30, 0)] (.tuple #[(nv c), (.bool true)]), .x 29 [(31, 1)] (.tuple #[(nv c), (.bool true)]), .x 32 [(29, 2)] (nv c), .x 33 [(29, 2)] (.bool true), .m 14 [] 2, .u [(14, 5), (32, 3)] 2, .x 15 [(33, 4)] (.bool true)]
def FQe_4 (s3 : ByteArray) (d : Nat) : List RG.It := [.x 35 [] (.string s3), .c 36 [(35, 0)] (.tuple #[(nv d), (.bool true)]), .x 34 [(36, 1)] (.tuple #[(nv d), (.bool true)]), .x 37 [(34, 2)] (nv d), .x 38 [(34, 2)] (.bool true), .m 16 [] 3, .u [(16, 5), (37, 3)] 3, .x 17 [(38, 4)] (.bool true)]
def FQe_5 : List RG.It := [.x 39 [] (.bool true), .x 40 [(39, 0)] (.bool false), .x 41 [(40, 1)] (.bool false), .x 42 [] (.bool true), .x 43 [(42, 3)] (.bool false), .x 44 [(41, 2), (43, 4)] (.bool false), .x 45 [(44, 5)] (.bool false), .x 46 [] (.bool true), .x 47 [(46, 7)] (.bool false), .x 48 [(45, 6), (47, 8)] (.bool false), .x 49 [(48, 9)] (.bool false), .x 50 [] (.bool true), .x 51 [(50, 11)] (.bool false), .x 52 [(49, 10), (51, 12)] (.bool false)]
def FQe_7 (a c : Nat) : List RG.It := [.x 53 [] (nv a), .x 54 [] (nv c), .x 55 [(53, 0), (54, 1)] (.bool true)]
def FQe_8 : List RG.It := [.x 8 [] (.string ⟨#[]⟩), .x 9 [] (.int .i64 6)]
set_option maxHeartbeats 4000000 in
set_option maxRecDepth 100000 in
theorem qe_s (O : Ord N) (s0 s1 s2 s3 : ByteArray) (a b c d : Nat) (o1 o2 o3 : Bool) (hq0 : Gives 17 #[.string s0] (.tuple #[nv a, .bool true])) (hq1 : Gives 17 #[.string s1] (.tuple #[nv b, .bool true])) (hq2 : Gives 17 #[.string s2] (.tuple #[nv c, .bool true])) (hq3 : Gives 17 #[.string s3] (.tuple #[nv d, .bool true])) (hA : a < N) (hB : b < N) (hC : c < N) (hD : d < N) (hac : a = c) : Gives 6 #[.string s0, .string s1, .string s2, .string s3] (.tuple #[(.string ⟨#[]⟩), (.int .i64 6)]) := by
  intro w
  go_enter Try.func6, Try.ntmps6
  refine RG.M.enter [(0, .v (.string s0)), (1, .v (.string s1)), (2, .v (.string s2)), (3, .v (.string s3))] 70 (by kernel_rfl) ?_
  intro a0 M0
  repeat refine wp_seq ?_
  refine M0.tx0 FQe_0 [(0, (.v (.string s0))), (1, (.v (.string s1))), (2, (.v (.string s2))), (3, (.v (.string s3))), (8, (.v (.string ⟨#[]⟩))), (9, (.v (.int .i64 0)))] (by kernel_rfl) ⟨RG.st fun _ _ => by kernel_rfl, RG.st fun _ _ => by kernel_rfl, trivial⟩ ?_
  intro a1 w1 M1
  repeat refine wp_seq ?_
  refine M1.tx (FQe_1 s0 a) [(5, (RG.z 4))] [(0, 6, (wn a))] [(wn a)] [(1, (.v (.string s1))), (2, (.v (.string s2))), (3, (.v (.string s3))), (8, (.v (.string ⟨#[]⟩))), (9, (.v (.int .i64 0))), (10, (.p 0 0)), (11, (.v (.bool true)))] (by kernel_rfl) (by kernel_rfl) ⟨RG.st fun _ _ => by kernel_rfl, RG.cl (hq0) fun _ _ => by kernel_rfl, RG.st fun _ _ => by kernel_rfl, RG.st fun _ _ => by kernel_rfl, RG.st fun _ _ => by kernel_rfl, RG.mk 0 44 fun _ _ => by kernel_rfl, RG.pt i44 (by kernel_rfl), RG.st fun _ _ => by kernel_rfl, trivial⟩ ?_
  intro j2 a2 w2 M2
  repeat refine wp_seq ?_
  refine M2.tx (FQe_2 s1 b) [(5, (RG.z 4))] [(1, 6, (wn b))] [(wn a), (wn b)] [(2, (.v (.string s2))), (3, (.v (.string s3))), (8, (.v (.string ⟨#[]⟩))), (9, (.v (.int .i64 0))), (10, (.p 0 0)), (11, (.v (.bool true))), (13, (.v (.bool true)))] (by kernel_rfl) (by kernel_rfl) ⟨RG.st fun _ _ => by kernel_rfl, RG.cl (hq1) fun _ _ => by kernel_rfl, RG.st fun _ _ => by kernel_rfl, RG.st fun _ _ => by kernel_rfl, RG.st fun _ _ => by kernel_rfl, RG.mk 1 44 fun _ _ => by kernel_rfl, RG.pt i44 (by kernel_rfl), RG.st fun _ _ => by kernel_rfl, trivial⟩ ?_
  intro j3 a3 w3 M3
  repeat refine wp_seq ?_
  refine M3.tx (FQe_3 s2 c) [(5, (RG.z 4))] [(2, 6, (wn c))] [(wn a), (wn b), (wn c)] [(3, (.v (.string s3))), (8, (.v (.string ⟨#[]⟩))), (9, (.v (.int .i64 0))), (10, (.p 0 0)), (11, (.v (.bool true))), (13, (.v (.bool true))), (14, (.p 2 0)), (15, (.v (.bool true)))] (by kernel_rfl) (by kernel_rfl) ⟨RG.st fun _ _ => by kernel_rfl, RG.cl (hq2) fun _ _ => by kernel_rfl, RG.st fun _ _ => by kernel_rfl, RG.st fun _ _ => by kernel_rfl, RG.st fun _ _ => by kernel_rfl, RG.mk 2 44 fun _ _ => by kernel_rfl, RG.pt i44 (by kernel_rfl), RG.st fun _ _ => by kernel_rfl, trivial⟩ ?_
  intro j4 a4 w4 M4
  repeat refine wp_seq ?_
  refine M4.tx (FQe_4 s3 d) [(5, (RG.z 4))] [(3, 6, (wn d))] [(wn a), (wn b), (wn c), (wn d)] [(8, (.v (.string ⟨#[]⟩))), (9, (.v (.int .i64 0))), (10, (.p 0 0)), (11, (.v (.bool true))), (13, (.v (.bool true))), (14, (.p 2 0)), (15, (.v (.bool true))), (17, (.v (.bool true)))] (by kernel_rfl) (by kernel_rfl) ⟨RG.st fun _ _ => by kernel_rfl, RG.cl (hq3) fun _ _ => by kernel_rfl, RG.st fun _ _ => by kernel_rfl, RG.st fun _ _ => by kernel_rfl, RG.st fun _ _ => by kernel_rfl, RG.mk 3 44 fun _ _ => by kernel_rfl, RG.pt i44 (by kernel_rfl), RG.st fun _ _ => by kernel_rfl, trivial⟩ ?_
  intro j5 a5 w5 M5
  repeat refine wp_seq ?_
  refine M5.tx0 FQe_5 [(8, (.v (.string ⟨#[]⟩))), (9, (.v (.int .i64 0))), (10, (.p 0 0)), (14, (.p 2 0)), (52, (.v (.bool false)))] (by kernel_rfl) ⟨RG.st fun _ _ => by kernel_rfl, RG.st fun _ _ => by kernel_rfl, RG.st fun _ _ => by kernel_rfl, RG.st fun _ _ => by kernel_rfl, RG.st fun _ _ => by kernel_rfl, RG.st fun _ _ => by kernel_rfl, RG.st fun _ _ => by kernel_rfl, RG.st fun _ _ => by kernel_rfl, RG.st fun _ _ => by kernel_rfl, RG.st fun _ _ => by kernel_rfl, RG.st fun _ _ => by kernel_rfl, RG.st fun _ _ => by kernel_rfl, RG.st fun _ _ => by kernel_rfl, RG.st fun _ _ => by kernel_rfl, trivial⟩ ?_
  intro a6 w6 M6
  repeat refine wp_seq ?_
  refine wp_cond_false (M6.ev (by kernel_rfl)) ?_
  refine wp_skip ?_
  repeat refine wp_seq ?_
  refine M6.tx0 (FQe_7 a c) [(8, (.v (.string ⟨#[]⟩))), (9, (.v (.int .i64 0))), (55, (.v (.bool true)))] (by kernel_rfl) ⟨RG.ld u44 i44 (by kernel_rfl), RG.ld u44 i44 (by kernel_rfl), RG.cert_bin rfl .eql 44 44 53 54 (nv a) (nv c) (.bool true) rfl rfl (RG.sx fun _ => by kernel_rfl) (RG.sx fun _ => by kernel_rfl) (fun w => by kernel_rfl) (fun w => by rw [eqN (Nat.lt_of_lt_of_le hA O.le) (Nat.lt_of_lt_of_le hC O.le), decide_eq_true hac]), trivial⟩ ?_
  intro a7 w7 M7
  repeat refine wp_seq ?_
  refine wp_cond_true (M7.ev (by kernel_rfl)) ?_
  repeat refine wp_seq ?_
  refine M7.tx0 FQe_8 [(8, (.v (.string ⟨#[]⟩))), (9, (.v (.int .i64 6)))] (by kernel_rfl) ⟨RG.st fun _ _ => by kernel_rfl, RG.st fun _ _ => by kernel_rfl, trivial⟩ ?_
  intro a8 w8 M8
  refine wp_ret ?_
  refine bodyPost_ret (v := _) (RG.results_tt 8 9 rfl (.string ⟨#[]⟩) (.int .i64 6) (M8.av (by kernel_rfl)) (M8.av (by kernel_rfl))) M8.sl.defers ?_
  exact ⟨_, rfl, M8.st.bel.below, rfl⟩
def FQf_0 : List RG.It := [.x 8 [] (.string ⟨#[]⟩), .x 9 [] (.int .i64 0)]
def FQf_1 (s0 : ByteArray) (a : Nat) : List RG.It := [.x 20 [] (.string s0), .c 21 [(20, 0)] (.tuple #[(nv a), (.bool true)]), .x 19 [(21, 1)] (.tuple #[(nv a), (.bool true)]), .x 22 [(19, 2)] (nv a), .x 23 [(19, 2)] (.bool true), .m 10 [] 0, .u [(10, 5), (22, 3)] 0, .x 11 [(23, 4)] (.bool true)]
def FQf_2 (s1 : ByteArray) (b : Nat) : List RG.It := [.x 25 [] (.string s1), .c 26 [(25, 0)] (.tuple #[(nv b), (.bool true)]), .x 24 [(26, 1)] (.tuple #[(nv b), (.bool true)]), .x 27 [(24, 2)] (nv b), .x 28 [(24, 2)] (.bool true), .m 12 [] 1, .u [(12, 5), (27, 3)] 1, .x 13 [(28, 4)] (.bool true)]
def FQf_3 (s2 : ByteArray) (c : Nat) : List RG.It := [.x 30 [] (.string s2), .c 31 [(30, 0)] (.tuple #[(nv c), (.bool true)]), .x 29 [(31, 1)] (.tuple #[(nv c), (.bool true)]), .x 32 [(29, 2)] (nv c), .x 33 [(29, 2)] (.bool true), .m 14 [] 2, .u [(14, 5), (32, 3)] 2, .x 15 [(33, 4)] (.bool true)]
def FQf_4 (s3 : ByteArray) (d : Nat) : List RG.It := [.x 35 [] (.string s3), .c 36 [(35, 0)] (.tuple #[(nv d), (.bool true)]), .x 34 [(36, 1)] (.tuple #[(nv d), (.bool true)]), .x 37 [(34, 2)] (nv d), .x 38 [(34, 2)] (.bool true), .m 16 [] 3, .u [(16, 5), (37, 3)] 3, .x 17 [(38, 4)] (.bool true)]
def FQf_5 : List RG.It := [.x 39 [] (.bool true), .x 40 [(39, 0)] (.bool false), .x 41 [(40, 1)] (.bool false), .x 42 [] (.bool true), .x 43 [(42, 3)] (.bool false), .x 44 [(41, 2), (43, 4)] (.bool false), .x 45 [(44, 5)] (.bool false), .x 46 [] (.bool true), .x 47 [(46, 7)] (.bool false), .x 48 [(45, 6), (47, 8)] (.bool false), .x 49 [(48, 9)] (.bool false), .x 50 [] (.bool true), .x 51 [(50, 11)] (.bool false), .x 52 [(49, 10), (51, 12)] (.bool false)]
def FQf_7 (a c : Nat) : List RG.It := [.x 53 [] (nv a), .x 54 [] (nv c), .x 55 [(53, 0), (54, 1)] (.bool false)]
def FQf_9 : List RG.It := [.c 56 [] rv1, .m 18 [] 4, .u [(18, 1), (56, 0)] 4]
def FQf_10 (N a b c d : Nat) : List RG.It := [.x 57 [] rv1, .x 58 [] rv1, .x 59 [] (nv b), .x 60 [] (nv d), .c 61 [(58, 1), (59, 2), (60, 3)] (nv (sMi N b d)), .x 62 [] rv1, .x 63 [] rv1, .x 64 [] (nv a), .x 65 [] (nv c), .c 66 [(63, 6), (64, 7), (65, 8)] (nv (sMi N a c)), .c 67 [(62, 5), (66, 9)] (nv (sIn N (sMi N a c))), .c 68 [(57, 0), (61, 4), (67, 10)] (nv (sTi N (sMi N b d) (sIn N (sMi N a c)))), .c 69 [(68, 11)] (.string ⟨bx (sTi N (sMi N b d) (sIn N (sMi N a c)))⟩), .x 8 [(69, 12)] (.string ⟨bx (sTi N (sMi N b d) (sIn N (sMi N a c)))⟩), .x 9 [] (.int .i64 0)]
set_option maxHeartbeats 4000000 in
set_option maxRecDepth 100000 in
theorem qe_o (O : Ord N) (s0 s1 s2 s3 : ByteArray) (a b c d : Nat) (o1 o2 o3 : Bool) (hq0 : Gives 17 #[.string s0] (.tuple #[nv a, .bool true])) (hq1 : Gives 17 #[.string s1] (.tuple #[nv b, .bool true])) (hq2 : Gives 17 #[.string s2] (.tuple #[nv c, .bool true])) (hq3 : Gives 17 #[.string s3] (.tuple #[nv d, .bool true])) (hA : a < N) (hB : b < N) (hC : c < N) (hD : d < N) (hac : ¬ a = c) : Gives 6 #[.string s0, .string s1, .string s2, .string s3] (.tuple #[(.string ⟨bx (sTi N (sMi N b d) (sIn N (sMi N a c)))⟩), (.int .i64 0)]) := by
  intro w
  go_enter Try.func6, Try.ntmps6
  refine RG.M.enter [(0, .v (.string s0)), (1, .v (.string s1)), (2, .v (.string s2)), (3, .v (.string s3))] 70 (by kernel_rfl) ?_
  intro a0 M0
  repeat refine wp_seq ?_
  refine M0.tx0 FQf_0 [(0, (.v (.string s0))), (1, (.v (.string s1))), (2, (.v (.string s2))), (3, (.v (.string s3))), (8, (.v (.string ⟨#[]⟩))), (9, (.v (.int .i64 0)))] (by kernel_rfl) ⟨RG.st fun _ _ => by kernel_rfl, RG.st fun _ _ => by kernel_rfl, trivial⟩ ?_
  intro a1 w1 M1
  repeat refine wp_seq ?_
  refine M1.tx (FQf_1 s0 a) [(5, (RG.z 4))] [(0, 6, (wn a))] [(wn a)] [(1, (.v (.string s1))), (2, (.v (.string s2))), (3, (.v (.string s3))), (8, (.v (.string ⟨#[]⟩))), (9, (.v (.int .i64 0))), (10, (.p 0 0)), (11, (.v (.bool true)))] (by kernel_rfl) (by kernel_rfl) ⟨RG.st fun _ _ => by kernel_rfl, RG.cl (hq0) fun _ _ => by kernel_rfl, RG.st fun _ _ => by kernel_rfl, RG.st fun _ _ => by kernel_rfl, RG.st fun _ _ => by kernel_rfl, RG.mk 0 44 fun _ _ => by kernel_rfl, RG.pt i44 (by kernel_rfl), RG.st fun _ _ => by kernel_rfl, trivial⟩ ?_
  intro j2 a2 w2 M2
  repeat refine wp_seq ?_
  refine M2.tx (FQf_2 s1 b) [(5, (RG.z 4))] [(1, 6, (wn b))] [(wn a), (wn b)] [(2, (.v (.string s2))), (3, (.v (.string s3))), (8, (.v (.string ⟨#[]⟩))), (9, (.v (.int .i64 0))), (10, (.p 0 0)), (11, (.v (.bool true))), (12, (.p 1 0)), (13, (.v (.bool true)))] (by kernel_rfl) (by kernel_rfl) ⟨RG.st fun _ _ => by kernel_rfl, RG.cl (hq1) fun _ _ => by kernel_rfl, RG.st fun _ _ => by kernel_rfl, RG.st fun _ _ => by kernel_rfl, RG.st fun _ _ => by kernel_rfl, RG.mk 1 44 fun _ _ => by kernel_rfl, RG.pt i44 (by kernel_rfl), RG.st fun _ _ => by kernel_rfl, trivial⟩ ?_
  intro j3 a3 w3 M3
  repeat refine wp_seq ?_
  refine M3.tx (FQf_3 s2 c) [(5, (RG.z 4))] [(2, 6, (wn c))] [(wn a), (wn b), (wn c)] [(3, (.v (.string s3))), (8, (.v (.string ⟨#[]⟩))), (9, (.v (.int .i64 0))), (10, (.p 0 0)), (11, (.v (.bool true))), (12, (.p 1 0)), (13, (.v (.bool true))), (14, (.p 2 0)), (15, (.v (.bool true)))] (by kernel_rfl) (by kernel_rfl) ⟨RG.st fun _ _ => by kernel_rfl, RG.cl (hq2) fun _ _ => by kernel_rfl, RG.st fun _ _ => by kernel_rfl, RG.st fun _ _ => by kernel_rfl, RG.st fun _ _ => by kernel_rfl, RG.mk 2 44 fun _ _ => by kernel_rfl, RG.pt i44 (by kernel_rfl), RG.st fun _ _ => by kernel_rfl, trivial⟩ ?_
  intro j4 a4 w4 M4
  repeat refine wp_seq ?_
  refine M4.tx (FQf_4 s3 d) [(5, (RG.z 4))] [(3, 6, (wn d))] [(wn a), (wn b), (wn c), (wn d)] [(8, (.v (.string ⟨#[]⟩))), (9, (.v (.int .i64 0))), (10, (.p 0 0)), (11, (.v (.bool true))), (12, (.p 1 0)), (13, (.v (.bool true))), (14, (.p 2 0)), (15, (.v (.bool true))), (16, (.p 3 0)), (17, (.v (.bool true)))] (by kernel_rfl) (by kernel_rfl) ⟨RG.st fun _ _ => by kernel_rfl, RG.cl (hq3) fun _ _ => by kernel_rfl, RG.st fun _ _ => by kernel_rfl, RG.st fun _ _ => by kernel_rfl, RG.st fun _ _ => by kernel_rfl, RG.mk 3 44 fun _ _ => by kernel_rfl, RG.pt i44 (by kernel_rfl), RG.st fun _ _ => by kernel_rfl, trivial⟩ ?_
  intro j5 a5 w5 M5
  repeat refine wp_seq ?_
  refine M5.tx0 FQf_5 [(8, (.v (.string ⟨#[]⟩))), (9, (.v (.int .i64 0))), (10, (.p 0 0)), (12, (.p 1 0)), (14, (.p 2 0)), (16, (.p 3 0)), (52, (.v (.bool false)))] (by kernel_rfl) ⟨RG.st fun _ _ => by kernel_rfl, RG.st fun _ _ => by kernel_rfl, RG.st fun _ _ => by kernel_rfl, RG.st fun _ _ => by kernel_rfl, RG.st fun _ _ => by kernel_rfl, RG.st fun _ _ => by kernel_rfl, RG.st fun _ _ => by kernel_rfl, RG.st fun _ _ => by kernel_rfl, RG.st fun _ _ => by kernel_rfl, RG.st fun _ _ => by kernel_rfl, RG.st fun _ _ => by kernel_rfl, RG.st fun _ _ => by kernel_rfl, RG.st fun _ _ => by kernel_rfl, RG.st fun _ _ => by kernel_rfl, trivial⟩ ?_
  intro a6 w6 M6
  repeat refine wp_seq ?_
  refine wp_cond_false (M6.ev (by kernel_rfl)) ?_
  refine wp_skip ?_
  repeat refine wp_seq ?_
  refine M6.tx0 (FQf_7 a c) [(8, (.v (.string ⟨#[]⟩))), (9, (.v (.int .i64 0))), (10, (.p 0 0)), (12, (.p 1 0)), (14, (.p 2 0)), (16, (.p 3 0)), (55, (.v (.bool false)))] (by kernel_rfl) ⟨RG.ld u44 i44 (by kernel_rfl), RG.ld u44 i44 (by kernel_rfl), RG.cert_bin rfl .eql 44 44 53 54 (nv a) (nv c) (.bool false) rfl rfl (RG.sx fun _ => by kernel_rfl) (RG.sx fun _ => by kernel_rfl) (fun w => by kernel_rfl) (fun w => by rw [eqN (Nat.lt_of_lt_of_le hA O.le) (Nat.lt_of_lt_of_le hC O.le), decide_eq_false hac]), trivial⟩ ?_
  intro a7 w7 M7
  repeat refine wp_seq ?_
  refine wp_cond_false (M7.ev (by kernel_rfl)) ?_
  refine wp_skip ?_
  repeat refine wp_seq ?_
  refine M7.tx FQf_9 [(1, (RG.z 8))] [(4, 2, rl1)] [(wn a), (wn b), (wn c), (wn d), rl1] [(8, (.v (.string ⟨#[]⟩))), (9, (.v (.int .i64 0))), (10, (.p 0 0)), (12, (.p 1 0)), (14, (.p 2 0)), (16, (.p 3 0)), (18, (.p 4 0))] (by kernel_rfl) (by kernel_rfl) ⟨RG.cl (Q3_c) fun _ _ => by kernel_rfl, RG.mk 4 48 fun _ _ => by kernel_rfl, RG.pt i48 (by kernel_rfl), trivial⟩ ?_
  intro j8 a8 w8 M8
  repeat refine wp_seq ?_
  refine M8.dr0 (by kernel_rfl) (FQf_10 N a b c d) [(8, (.v (.string ⟨bx (sTi N (sMi N b d) (sIn N (sMi N a c)))⟩))), (9, (.v (.int .i64 0)))] (by kernel_rfl) ⟨RG.ld u48 i48 (by kernel_rfl), RG.ld u48 i48 (by kernel_rfl), RG.ld u44 i44 (by kernel_rfl), RG.ld u44 i44 (by kernel_rfl), RG.cl (qSub_c O hB hD) fun _ _ => by kernel_rfl, RG.ld u48 i48 (by kernel_rfl), RG.ld u48 i48 (by kernel_rfl), RG.ld u44 i44 (by kernel_rfl), RG.ld u44 i44 (by kernel_rfl), RG.cl (qSub_c O hA hC) fun _ _ => by kernel_rfl, RG.cl (qInv_c O (O.mi a c)) fun _ _ => by kernel_rfl, RG.cl (qMul_c O (O.mi b d) (O.inv (sMi N a c))) fun _ _ => by kernel_rfl, RG.cl (qBytes_c O (O.ti (sMi N b d) (sIn N (sMi N a c)))) fun _ _ => by kernel_rfl, RG.st fun _ _ => by kernel_rfl, RG.st fun _ _ => by kernel_rfl, trivial⟩ ?_
  intro a9 w9 M9
  refine wp_ret ?_
  refine bodyPost_ret (v := _) (RG.results_tt 8 9 rfl (.string ⟨bx (sTi N (sMi N b d) (sIn N (sMi N a c)))⟩) (.int .i64 0) (M9.av (by kernel_rfl)) (M9.av (by kernel_rfl))) M9.sl.defers ?_
  exact ⟨_, rfl, M9.st.bel.below, rfl⟩
open Classical in
/-- What is asked of Extract. -/
noncomputable def exT (N : Nat) (L : Nat → Bs) : Bs × Int :=
  if ∀ j, j < 4 → (rq N (L j)).isSome = true then if nuV (L 0) = nuV (L 2) then (#[], 6) else (bx (sTi N (sMi N (nuV (L 1)) (nuV (L 3))) (sIn N (sMi N (nuV (L 0)) (nuV (L 2))))), 0) else (#[], 3)
theorem qextract_c (O : Ord N) (S : Nat → ByteArray) : Gives 6 #[.string (S 0), .string (S 1), .string (S 2), .string (S 3)] (.tuple #[.string ⟨(exT N (fun j => (S j).data)).1⟩, .int .i64 (exT N (fun j => (S j).data)).2]) := by
  have q0 := qscal_c O (S 0)
  have q1 := qscal_c O (S 1)
  have q2 := qscal_c O (S 2)
  have q3 := qscal_c O (S 3)
  unfold exT
  by_cases h0 : (rq N (S 0).data).isSome = true
  · by_cases h1 : (rq N (S 1).data).isSome = true
    · by_cases h2 : (rq N (S 2).data).isSome = true
      · by_cases h3 : (rq N (S 3).data).isSome = true
        · have hall : ∀ j, j < 4 → (rq N (S j).data).isSome = true := fun j hj => by
            have h4 : j = 0 ∨ j = 1 ∨ j = 2 ∨ j = 3 := by omega
            rcases h4 with rfl | rfl | rfl | rfl <;> assumption
          rw [h0] at q0
          rw [h1] at q1
          rw [h2] at q2
          rw [h3] at q3
          rw [if_pos hall]
          by_cases hac : nuV (S 0).data = nuV (S 2).data
          · rw [if_pos hac]
            exact qe_s O (S 0) (S 1) (S 2) (S 3) _ _ _ _ true true true q0 q1 q2 q3 (rq_get h0).2 (rq_get h1).2 (rq_get h2).2 (rq_get h3).2 hac
          · rw [if_neg hac]
            exact qe_o O (S 0) (S 1) (S 2) (S 3) _ _ _ _ true true true q0 q1 q2 q3 (rq_get h0).2 (rq_get h1).2 (rq_get h2).2 (rq_get h3).2 hac
        · rw [h0] at q0
          rw [h1] at q1
          rw [h2] at q2
          rw [if_neg (fun h => h3 (h 3 (by omega)))]
          rw [Bool.not_eq_true] at h3
          rw [h3] at q3
          exact qe_3 O (S 0) (S 1) (S 2) (S 3) _ _ _ _ true true true q0 q1 q2 q3
      · rw [h0] at q0
        rw [h1] at q1
        rw [if_neg (fun h => h2 (h 2 (by omega)))]
        rw [Bool.not_eq_true] at h2
        rw [h2] at q2
        exact qe_2 O (S 0) (S 1) (S 2) (S 3) _ _ _ _ true true _ q0 q1 q2 q3
    · rw [h0] at q0
      rw [if_neg (fun h => h1 (h 1 (by omega)))]
      rw [Bool.not_eq_true] at h1
      rw [h1] at q1
      exact qe_1 O (S 0) (S 1) (S 2) (S 3) _ _ _ _ true _ _ q0 q1 q2 q3
  · rw [if_neg (fun h => h0 (h 0 (by omega)))]
    rw [Bool.not_eq_true] at h0
    rw [h0] at q0
    exact qe_0 O (S 0) (S 1) (S 2) (S 3) _ _ _ _ _ _ _ q0 q1 q2 q3
end Go.Proofs.Yticolhhalbbogae
namespace Go.Proofs.Yticolhhalbbogae
open Go.RowKit Go.Sort Go.Deep
/-- A text as bytes of one's own. -/
theorem conv_of (s : ByteArray) (w : World) :
    ∃ cap w', (convert 9 22 (.string s)).run Try.prog w = .ok (.slice (some ⟨w.heap.size, 0, none⟩) s.size cap) w' ∧ s.size ≤ cap ∧ Below w.heap.size w w' ∧ Holds encB w' w.heap.size 0 s.data ∧ w.heap.size < w'.heap.size := by
  have h := Lib.run_convert_string_bytes (P := Try.prog) w 9 22 5 s str9 slice22 int5
  have hcap : s.size ≤ grownCap w s.size 0 5 := by
    unfold grownCap Question.cut
    exact Nat.le_add_right _ _
  have hl : s.data.size = s.size := rfl
  refine ⟨_, _, h, hcap, ?_, ?_, by rw [Lib.bytesWorld_size]; omega⟩
  · refine ⟨?_, ?_, ?_, ?_, fun k hk => Lib.bytesWorld_at_old w 5 s k hk⟩
    · unfold Lib.bytesWorld World.freeze
      rw [if_neg (by decide)]
      rfl
    · unfold Lib.bytesWorld World.freeze
      rw [if_neg (by decide)]
      rfl
    · unfold Lib.bytesWorld World.freeze
      rw [if_neg (by decide)]
      rfl
    · rw [Lib.bytesWorld_size]; omega
  · intro j hj
    have hb := Lib.bytesWorld_at_new w 5 s
    have hsz : (Lib.bytesCells w 5 s).size = grownCap w s.size 0 5 := by
      unfold Lib.bytesCells
      rw [Array.size_append, Array.size_map, Array.size_replicate]
      omega
    have hc : (Lib.bytesCells w 5 s) = (s.data ++ Array.replicate (grownCap w s.size 0 5 - s.size) 0).map encB := by
      unfold Lib.bytesCells
      rw [Array.map_append, Array.map_replicate]
      rfl
    have hj2 : j < (s.data ++ Array.replicate (grownCap w s.size 0 5 - s.size) 0).size := by rw [Array.size_append, Array.size_replicate]; omega
    have hget : (s.data ++ Array.replicate (grownCap w s.size 0 5 - s.size) 0)[j] = s.data[j]! := by
      rw [Array.getElem_append_left hj, getElem!_pos s.data j hj]
    constructor
    · unfold World.cell?
      rw [hb]
      simp only [Nat.zero_add]
      rw [if_neg (by decide), hc, Array.getElem?_map, Array.getElem?_eq_getElem hj2, Option.map_some, hget]
    · unfold World.frozen?
      rw [hb]
      simp only [Nat.zero_add, hsz]
      simp
      omega
end Go.Proofs.Yticolhhalbbogae
namespace Go.Proofs.Yticolhhalbbogae
open Go.RowKit Go.Sort Go.Deep
variable {N : Nat}
/-- Bytes that were answered: T. -/
def AnsB (W : World) (T : Bs) (q : Option Addr) (n cap : Nat) : Prop := (∃ g, q = some ⟨g, 0, none⟩ ∧ g < W.heap.size ∧ T.size = n ∧ 0 < n ∧ Holds encB W g 0 T) ∨ (q = none ∧ n = 0 ∧ cap = 0 ∧ T = #[])
theorem AnsB.call {W W' : World} {T : Bs} {q : Option Addr} {n cap : Nat} (h : AnsB W T q n cap) (hb : Below W.heap.size W W') : AnsB W' T q n cap := by
  rcases h with ⟨g, h1, h2, h3, h4, h5⟩ | h
  · exact Or.inl ⟨g, h1, Nat.lt_of_lt_of_le h2 hb.size, h3, h4, Holds.below h5 hb h2⟩
  · exact Or.inr h
theorem AnsB.conv {W : World} {T : Bs} {q : Option Addr} {n cap : Nat} (h : AnsB W T q n cap) : (convert 22 9 (.slice q n cap)).run Try.prog W = .ok (.string ⟨T⟩) W := by
  rcases h with ⟨g, rfl, h2, h3, h4, h5⟩ | ⟨rfl, rfl, rfl, rfl⟩
  · exact conv_str Try.prog 22 9 5 slice22 int5 str9 W g 0 n cap T h5 h3
  · kernel_rfl
theorem ExR.ans {w w' : World} {L : Nat → Bs} {e : Value} (h : ExR N w L e w') : Below w.heap.size w w' ∧ ∃ q n cap, e = .tuple #[.slice q n cap, .int .i64 (exT N L).2] ∧ AnsB w' (exT N L).1 q n cap := by
  unfold exT
  rcases h with ⟨⟨j, hj, hn⟩, hb, rfl⟩ | ⟨hall, ⟨hac, hb, rfl⟩ | ⟨hac, k, hm, rfl⟩⟩
  · rw [if_neg (fun h => by have := h j hj; rw [hn] at this; cases this)]
    exact ⟨hb, _, _, _, rfl, Or.inr ⟨rfl, rfl, rfl, rfl⟩⟩
  · rw [if_pos hall, if_pos hac]
    exact ⟨hb, _, _, _, rfl, Or.inr ⟨rfl, rfl, rfl, rfl⟩⟩
  · rw [if_pos hall, if_neg hac]
    exact ⟨hm.bel, _, _, _, rfl, Or.inl ⟨k, rfl, hm.lt, bx_size _, by decide, cb_holds hm.range hm.there⟩⟩
def four4 (a b c d : ByteArray) (j : Nat) : ByteArray := if j = 0 then a else if j = 1 then b else if j = 2 then c else d
theorem str_eqX (a : Bs) : ((⟨a⟩ : ByteArray).toList == (⟨a⟩ : ByteArray).toList) = true := by simp
set_option maxHeartbeats 4000000 in
set_option maxRecDepth 100000 in
theorem extracts_few (O : Ord N) (a b c d : ByteArray) (w0 : World) (ha : a.size ≤ 4096) (hb : b.size ≤ 4096) (hc : c.size ≤ 4096) (hd : d.size ≤ 4096) :
    Calls Try.prog 3 #[.string a, .string b, .string c, .string d] w0 fun e w' => e = .returned (.bool true) ∧ Below w0.heap.size w0 w' := by
  have HO : Hid (Ord N) := O
  have g1 : ¬ (4096 : Int) < (a.size : Int) := by omega
  have g2 : ¬ (4096 : Int) < (b.size : Int) := by omega
  have g3 : ¬ (4096 : Int) < (c.size : Int) := by omega
  have g4 : ¬ (4096 : Int) < (d.size : Int) := by omega
  obtain ⟨k1, W1, v1, l1, b1, H1, s1⟩ := conv_of a w0
  obtain ⟨k2, W2, v2, l2, b2, H2, s2⟩ := conv_of b W1
  obtain ⟨k3, W3, v3, l3, b3, H3, s3⟩ := conv_of c W2
  obtain ⟨k4, W4, v4, l4, b4, H4, s4⟩ := conv_of d W3
  have HA : Hid (Arg W4 (.slice (some ⟨w0.heap.size, 0, none⟩) a.size k1) a.data ∧ Arg W4 (.slice (some ⟨W1.heap.size, 0, none⟩) b.size k2) b.data ∧ Arg W4 (.slice (some ⟨W2.heap.size, 0, none⟩) c.size k3) c.data ∧ Arg W4 (.slice (some ⟨W3.heap.size, 0, none⟩) d.size k4) d.data ∧ Below w0.heap.size w0 W4) := by
    have a1 : Arg W1 (.slice (some ⟨w0.heap.size, 0, none⟩) a.size k1) a.data := ⟨_, _, _, rfl, rfl, fun h => ⟨w0.heap.size, 0, rfl, by omega, s1, H1⟩⟩
    have a2 : Arg W2 (.slice (some ⟨W1.heap.size, 0, none⟩) b.size k2) b.data := ⟨_, _, _, rfl, rfl, fun h => ⟨W1.heap.size, 0, rfl, by omega, s2, H2⟩⟩
    have a3 : Arg W3 (.slice (some ⟨W2.heap.size, 0, none⟩) c.size k3) c.data := ⟨_, _, _, rfl, rfl, fun h => ⟨W2.heap.size, 0, rfl, by omega, s3, H3⟩⟩
    have a4 : Arg W4 (.slice (some ⟨W3.heap.size, 0, none⟩) d.size k4) d.data := ⟨_, _, _, rfl, rfl, fun h => ⟨W3.heap.size, 0, rfl, by omega, s4, H4⟩⟩
    exact ⟨((a1.below b2).below b3).below b4, (a2.below b3).below b4, a3.below b4, a4, ((b1.trans (b2.mono b1.size)).trans (b3.mono (Nat.le_trans b1.size b2.size))).trans (b4.mono (Nat.le_trans (Nat.le_trans b1.size b2.size) b3.size))⟩
  clear l1 l2 l3 l4 b1 b2 b3 b4 H1 H2 H3 H4 s1 s2 s3 s4 O ha hb hc hd
  go_enter Try.func3, Try.ntmps3
  go_wp2_with fail
  clear v1 v2 v3 v4 g1 g2 g3 g4
  refine (extract_c HO.out _ _ _ _ (fun j => (four4 a b c d j).data) _ HA.out.1 HA.out.2.1 HA.out.2.2.1 HA.out.2.2.2.1).mono ?_
  rintro e w5 ⟨v, rfl, hans0⟩
  obtain ⟨hb5, q5, n5, c5, rfl, hans⟩ := hans0.ans
  have HB5 : Hid (Below w0.heap.size w0 w5) := HA.out.2.2.2.2.trans (hb5.mono HA.out.2.2.2.2.size)
  have HQ := qextract_c HO.out (four4 a b c d)
  obtain ⟨T, hT⟩ : ∃ t, t = (exT N (fun j => (four4 a b c d j).data)).1 := ⟨_, rfl⟩
  obtain ⟨cd, hcd⟩ : ∃ t, t = (exT N (fun j => (four4 a b c d j).data)).2 := ⟨_, rfl⟩
  rw [← hT] at hans
  rw [← hT, ← hcd] at HQ
  rw [← hcd]
  have HAN : Hid (AnsB w5 T q5 n5 c5) := hans
  have HQ2 : Hid (Gives 6 #[.string a, .string b, .string c, .string d] (.tuple #[.string ⟨T⟩, .int .i64 cd])) := HQ
  clear hans hans0 hb5 hT hcd HQ HA
  go_wp2_with fail
  refine (HQ2.out _).mono ?_
  rintro e w6 ⟨v, rfl, hb6, rfl⟩
  have hcv := AnsB.conv (AnsB.call HAN.out hb6)
  have HB6 : Hid (Below w0.heap.size w0 w6) := HB5.out.trans (hb6.mono HB5.out.size)
  have hse := str_eqX T
  clear HAN HB5 hb6 HQ2 HO
  go_wp2
  go_ret
  exact ⟨by simp, HB6.out⟩
set_option maxHeartbeats 2000000 in
set_option maxRecDepth 100000 in
theorem extracts_any (O : Ord N) (a b c d : ByteArray) (w0 : World) :
    Calls Try.prog 3 #[.string a, .string b, .string c, .string d] w0 fun e w' => e = .returned (.bool true) ∧ Below w0.heap.size w0 w' := by
  by_cases ha : a.size ≤ 4096
  · have g1 : ¬ (4096 : Int) < (a.size : Int) := by omega
    by_cases hb : b.size ≤ 4096
    · have g2 : ¬ (4096 : Int) < (b.size : Int) := by omega
      by_cases hc : c.size ≤ 4096
      · have g3 : ¬ (4096 : Int) < (c.size : Int) := by omega
        by_cases hd : d.size ≤ 4096
        · exact extracts_few O a b c d w0 ha hb hc hd
        · have g4 : (4096 : Int) < (d.size : Int) := by omega
          clear O
          go_enter Try.func3, Try.ntmps3
          go_wp2
          go_ret
          exact ⟨by simp, Below.refl _ _⟩
      · have g3 : (4096 : Int) < (c.size : Int) := by omega
        clear O
        go_enter Try.func3, Try.ntmps3
        go_wp2
        go_ret
        exact ⟨by simp, Below.refl _ _⟩
    · have g2 : (4096 : Int) < (b.size : Int) := by omega
      clear O
      go_enter Try.func3, Try.ntmps3
      go_wp2
      go_ret
      exact ⟨by simp, Below.refl _ _⟩
  · have g1 : (4096 : Int) < (a.size : Int) := by omega
    clear O
    go_enter Try.func3, Try.ntmps3
    go_wp2
    go_ret
    exact ⟨by simp, Below.refl _ _⟩
theorem ord : Ord Go.Proofs.Yticolhhalbbogae.p1 := ⟨gap1, refP1, by decide +kernel, by decide +kernel⟩
end Go.Proofs.Yticolhhalbbogae
/-
  THE ROW OF 'SigmaExtracts' round its walk; the frame by the guide's program (howto/shells), the world behind the call told by 'Below'.
-/
namespace Go.Proofs.Yticolhhalbbogae.sigmaExtracts
open Go.ChangeShapes Go.WideShapes Go.ChangeAt Go.RowKit
open Go.ChangeMaps (open_string shut_string)
theorem own : ownKnob Try.prog.godebug = none := by kernel_rfl
set_option maxRecDepth 100000 in
theorem lifted (os : Os) (started : os.Started) (H : Type) (enc : TypeId × Value → H) :
    ReturnsInHanded {} Try.checked os 3 .any (Rows.sigmaExtractsSpec.pre6 enc Try.prog Try.f3 Rows.sigmaExtractsRow.domain false) (Rows.sigmaExtractsSpec.post enc Try.prog Try.f3 false true false false) := by
  refine returnsInHanded_of_change (C := Try.checked) own started (by kernel_rfl) Try.func3
    (ChangeSpec.witness6 (enc := enc) (C := Try.checked) false ⟨#[], #[.string ByteArray.empty, .string ByteArray.empty, .string ByteArray.empty, .string ByteArray.empty], []⟩ 8 (by kernel_rfl) (by kernel_rfl) (by kernel_rfl) (by kernel_rfl)) ?_
  intro W base args ds gs before hval0 hW hcnd _
  have hval : ∀ (j : Nat) t v, Try.f3.params[j]? = some t → args[j]? = some v → Value.okWide Try.prog W .any base t v := hval0
  have hW' := hW
  obtain ⟨p, q, hA0, hV, rfl, hfz, hnd⟩ := hW
  have hA : DataW.TrodAll enc Try.prog W 0 (fun _ => true) true Try.f3.params.toList args.toList ds p := hA0
  rw [Try.params3] at hA hval
  obtain ⟨v0, vs0, d0, ds0, p0, q0, hargs, rfl, rfl, h0, r0⟩ := trodAll_cons hA
  obtain ⟨v1, vs1, d1, ds1, p1, q1, rfl, rfl, rfl, h1, r1⟩ := trodAll_cons r0
  obtain ⟨v2, vs2, d2, ds2, p2, q2, rfl, rfl, rfl, h2, r2⟩ := trodAll_cons r1
  obtain ⟨v3, vs3, d3, ds3, p3, q3, rfl, rfl, rfl, h3, r3⟩ := trodAll_cons r2
  obtain ⟨rfl, rfl, rfl⟩ := trodAll_nil r3
  obtain rfl : args = #[v0, v1, v2, v3] := by cases args; simp_all
  obtain ⟨rfl, rfl⟩ := trodVars_none hV
  obtain ⟨a0, rfl, rfl, rfl, w0⟩ := open_string Try.underlying9 (hval 0 9 v0 rfl rfl) h0
  obtain ⟨a1, rfl, rfl, rfl, w1⟩ := open_string Try.underlying9 (hval 1 9 v1 rfl rfl) h1
  obtain ⟨a2, rfl, rfl, rfl, w2⟩ := open_string Try.underlying9 (hval 2 9 v2 rfl rfl) h2
  obtain ⟨a3, rfl, rfl, rfl, w3⟩ := open_string Try.underlying9 (hval 3 9 v3 rfl rfl) h3
  clear hA0 hval0
  refine (extracts_any ord a0 a1 a2 a3 W).mono fun e W' ⟨he, bel⟩ => ?_
  subst he
  exact ⟨_, rfl, _, _, _, [], _, [], hW', (trodAll_cons_mk (shut_bool Try.underlying4 _) trodAll_mk0), (trodAll_cons_mk (shut_string Try.underlying9 w0) (trodAll_cons_mk (shut_string Try.underlying9 w1) (trodAll_cons_mk (shut_string Try.underlying9 w2) (trodAll_cons_mk (shut_string Try.underlying9 w3) trodAll_mk0)))), rfl, bel.frame _, fun h => by cases h⟩
theorem over : Rows.sigmaExtractsRow.holds Try.pinned (OpenSpec.ofChange Rows.sigmaExtractsSpec) :=
  OpenClaim.holds_of_wide 3 Try.f3 rfl rfl rfl rfl rfl rfl rfl ⟨rfl, rfl, rfl, rfl, rfl⟩ rfl rfl rfl rfl rfl (by kernel_rfl) Try.func3 (by kernel_rfl)
    (of_decide_eq_true (by kernel_rfl)) (by unfold Func.isWrapper; first | (rw [if_pos (by decide +kernel)]; kernel_rfl) | (rw [if_neg (by decide +kernel)]; exact ⟨rfl, rfl⟩))
    (fun os started H enc _ => lifted os started H enc)
theorem proved : Rows.SigmaExtractsSaid :=
  over
end Go.Proofs.Yticolhhalbbogae.sigmaExtracts
namespace Go.Proofs.Yticolhhalbbogae
/-- THE STATEMENT. -/
theorem sigmaExtracts_holds : Rows.SigmaExtractsSaid := sigmaExtracts.proved
#print axioms sigmaExtracts_holds
end Go.Proofs.Yticolhhalbbogae
