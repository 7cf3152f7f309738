import Derived.Test.YtdeidgbknlmhjabAJ
import Derived.Test.YtdeidgbknlmhjabDG
import Derived.Test.YtdeidgbknlmhjabJ4
set_option linter.unusedVariables false
set_option linter.unusedSimpArgs false
namespace Go.Proofs.Ytdeidgbknlmhjab
open Go.RowKit Go.Sort
theorem at138 (k o i : Nat) (hi : i < 257) (w : World) : (Instr.indexAt 138 (.pointer (some ⟨k, o, none⟩)) (.int .i64 (i : Int))).run Try.prog w = .ok (.pointer (some ⟨k, o + i, none⟩)) w := by
  have h1 : ¬ (i : Int) < 0 := by omega
  have h2 : (i : Int) < 257 := by omega
  go_simp
theorem at138z (k i : Nat) (hi : i < 257) (w : World) : (Instr.indexAt 138 (.pointer (some ⟨k, 0, none⟩)) (.int .i64 (i : Int))).run Try.prog w = .ok (.pointer (some ⟨k, i, none⟩)) w := by
  rw [at138 k 0 i hi, Nat.zero_add]
theorem at136 (k o i : Nat) (hi : i < 8) (w : World) : (Instr.indexAt 136 (.pointer (some ⟨k, o, none⟩)) (.int .i64 (i : Int))).run Try.prog w = .ok (.pointer (some ⟨k, o + 12 * i, none⟩)) w := by
  have h1 : ¬ (i : Int) < 0 := by omega
  have h2 : (i : Int) < 8 := by omega
  go_simp
theorem at136b (k o i : Nat) (hi : i < 8) (w : World) : (Instr.indexAt 136 (.pointer (some ⟨k, o, none⟩)) (.int .i8 (i : Int))).run Try.prog w = .ok (.pointer (some ⟨k, o + 12 * i, none⟩)) w := by
  have h1 : ¬ (i : Int) < 0 := by omega
  have h2 : (i : Int) < 8 := by omega
  go_simp
theorem at135 (k n c i : Nat) (hi : i < n) (w : World) : (Instr.indexAt 135 (.slice (some ⟨k, 0, none⟩) n c) (.int .i64 (i : Int))).run Try.prog w = .ok (.pointer (some ⟨k, 353 * i, none⟩)) w := by
  have h1 : ¬ (i : Int) < 0 := by omega
  have h2 : (i : Int) < n := by omega
  go_simp
theorem at82 (k o n c i : Nat) (hi : i < n) (w : World) : (Instr.indexAt 82 (.slice (some ⟨k, o, none⟩) n c) (.int .i64 (i : Int))).run Try.prog w = .ok (.pointer (some ⟨k, o + 4 * i, none⟩)) w := by
  have h1 : ¬ (i : Int) < 0 := by omega
  have h2 : (i : Int) < n := by omega
  go_simp
theorem at112 (k o n c i : Nat) (hi : i < n) (w : World) : (Instr.indexAt 112 (.slice (some ⟨k, o, none⟩) n c) (.int .i64 (i : Int))).run Try.prog w = .ok (.pointer (some ⟨k, o + 8 * i, none⟩)) w := by
  have h1 : ¬ (i : Int) < 0 := by omega
  have h2 : (i : Int) < n := by omega
  go_simp
theorem i8neg (d : Int) (hd : -15 ≤ d ∧ d ≤ 15) (w : World) : (Op.unary .neg (.int .i8 d)).run Try.prog w = .ok (.int .i8 (-d)) w := by
  have h := IntWalk.i8_in (-d) (by omega)
  go_simp
theorem i8quo (k : Nat) (hk : k < 8) (w : World) : (binOp .quo 137 (.int .i8 (2 * (k : Int) + 1)) (.int .i8 2)).run Try.prog w = .ok (.int .i8 (k : Int)) w := by
  have h0 : (2 * (k : Int) + 1).tdiv 2 = (k : Int) := by rw [Int.tdiv_eq_ediv_of_nonneg (by omega)]; omega
  have h := IntWalk.i8_in (k : Int) (by omega)
  go_simp
theorem shr4 (g : Nat) (hg : g < 32) (w : World) : (binOp .shr 3 (.int .i64 (g : Int)) (.int .u64 4)).run Try.prog w = .ok (.int .i64 ((g / 16 : Nat) : Int)) w := by
  go_simp
theorem shl5 (g : Nat) (hg : g < 32) (w : World) : (binOp .shl 3 (.int .i64 (g : Int)) (.int .u64 5)).run Try.prog w = .ok (.int .i64 (32 * (g : Int))) w := by
  have h := IntWalk.i64_in (32 * (g : Int)) (by omega)
  have h2 : (g : Int) * 32 = 32 * (g : Int) := by omega
  go_simp
theorem sub64i (a b : Int) (ha : -1000 ≤ a ∧ a ≤ 1000) (hb : -1000 ≤ b ∧ b ≤ 1000) (w : World) : (binOp .sub 3 (.int .i64 a) (.int .i64 b)).run Try.prog w = .ok (.int .i64 (a - b)) w := by
  have h := IntWalk.i64_in (a - b) (by omega)
  go_simp
theorem addn (a b : Nat) (ha : a ≤ 1000000) (hb : b ≤ 1000000) (w : World) : (binOp .add 3 (.int .i64 (a : Int)) (.int .i64 (b : Int))).run Try.prog w = .ok (.int .i64 ((a + b : Nat) : Int)) w := by
  have h := IntWalk.i64_in ((a : Int) + (b : Int)) (by omega)
  go_simp
theorem cv8 (v : Int) (hv : -15 ≤ v ∧ v ≤ 15) (w : World) : (convert 3 137 (.int .i64 v)).run Try.prog w = .ok (.int .i8 v) w := by
  have h := IntWalk.i8_in v (by omega)
  go_simp
theorem cmp_t {b c : Nat} (e : b = c) (w : World) : (binOp .eql 3 (.int .i64 (b : Int)) (.int .i64 (c : Int))).run Try.prog w = .ok (.bool true) w := by
  subst e
  go_simp
theorem cmp_f {b c : Nat} (e : ¬ b = c) (w : World) : (binOp .eql 3 (.int .i64 (b : Int)) (.int .i64 (c : Int))).run Try.prog w = .ok (.bool false) w := by
  have h : ¬ (b : Int) = (c : Int) := by omega
  go_simp
theorem lssn_t {i n : Nat} (e : i < n) (w : World) : (binOp .lss 3 (.int .i64 (i : Int)) (.int .i64 (n : Int))).run Try.prog w = .ok (.bool true) w := by
  have h : (i : Int) < (n : Int) := by omega
  go_simp
theorem lssn_f {i n : Nat} (e : ¬ i < n) (w : World) : (binOp .lss 3 (.int .i64 (i : Int)) (.int .i64 (n : Int))).run Try.prog w = .ok (.bool false) w := by
  have h : ¬ (i : Int) < (n : Int) := by omega
  go_simp
theorem Bits_c {n f c : Nat} (hn : n < top) (hf : f ≤ 256) (hc : c ≤ 32) : Gives 112 #[nv n, .int .i64 (f : Int), .int .i64 (c : Int)] (.int .i64 ((n / 2 ^ f % 2 ^ c : Nat) : Int)) := fun w =>
  (Bits_any _ n f c (four_nv hn) hf hc w).mono (by rintro e w' ⟨v, rfl, hb, rfl⟩; exact ⟨_, rfl, hb, rfl⟩)

/-- 257 digits. -/
def dg (d : Nat → Int) : List Value := (List.range 257).map (fun j => Value.int .i8 (d j))
def dv (d : Nat → Int) : Value := .agg (dg d).toArray
theorem dg_length (d : Nat → Int) : (dg d).length = 257 := by unfold dg; rw [List.length_map, List.length_range]
theorem dg_at (d : Nat → Int) (j : Nat) (hj : j < 257) : (dg d)[j]? = some (.int .i8 (d j)) := by
  unfold dg
  rw [List.getElem?_map, List.getElem?_range hj]
  rfl
theorem dg_set (d : Nat → Int) (i : Nat) (v : Int) : dg (DG.upd d i v) = (dg d).set i (.int .i8 v) := by
  apply List.ext_getElem?
  intro j
  rw [List.getElem?_set]
  by_cases hj : j < 257
  · rw [dg_at _ j hj, dg_at _ j hj]
    by_cases hij : i = j
    · subst hij
      rw [if_pos rfl, if_pos (by rw [dg_length]; exact hj), DG.upd_same]
    · rw [if_neg hij, DG.upd_other (fun h => hij h.symm)]
  · rw [List.getElem?_eq_none (by rw [dg_length]; omega)]
    by_cases hij : i = j
    · rw [if_pos hij, if_neg (by rw [dg_length]; omega)]
    · rw [if_neg hij, List.getElem?_eq_none (by rw [dg_length]; omega)]
theorem dg_one (d : Nat → Int) : (dg d).all (·.oneCell') = true := by
  unfold dg
  rw [List.all_map]
  exact List.all_eq_true.2 fun _ _ => rfl
theorem dg_sub (d : Nat → Int) : ((dg d).drop 0).take (dg d).length = dg d := by rw [List.drop_zero, List.take_length]

/-- The digits, as they come. -/
def dgo (n : Nat) : Nat → (Nat → Int) → Nat → Nat → (Nat → Int)
  | 0, d, _, _ => d
  | f + 1, d, i, c => if i < 257 then (if n / 2 ^ i % 2 = c then dgo n f d (i + 1) c else
      dgo n f (DG.upd d i (((n / 2 ^ i % 32 + c : Nat) : Int) - 32 * (((n / 2 ^ i % 32 + c) / 16 : Nat) : Int))) (i + 5) ((n / 2 ^ i % 32 + c) / 16)) else d
theorem dgo_end (n : Nat) (f : Nat) (d : Nat → Int) (i c : Nat) (h : ¬ i < 257) : dgo n f d i c = d := by
  cases f with
  | zero => rfl
  | succ f => rw [dgo, if_neg h]
theorem dgo_DI {n : Nat} (hn : n < 2 ^ 256) : ∀ (f : Nat) (d : Nat → Int) (i c : Nat), DG.DI n d i c → 257 ≤ i + f → ∃ i' c', 257 ≤ i' ∧ DG.DI n (dgo n f d i c) i' c'
  | 0, d, i, c, h, hf => ⟨i, c, by omega, h⟩
  | f + 1, d, i, c, h, hf => by
    by_cases hi : i < 257
    · rw [dgo, if_pos hi]
      by_cases hb : n / 2 ^ i % 2 = c
      · rw [if_pos hb]
        exact dgo_DI hn f d (i + 1) c (h.skip hn hi hb) (by omega)
      · rw [if_neg hb]
        exact dgo_DI hn f _ (i + 5) _ (h.take hn hi hb) (by omega)
    · rw [dgo_end n _ d i c hi]
      exact ⟨i, c, by omega, h⟩
def digs (n : Nat) : Nat → Int := dgo n 257 (fun _ => 0) 0 0
theorem digs_DI {n : Nat} (hn : n < 2 ^ 256) : ∃ i c, 257 ≤ i ∧ DG.DI n (digs n) i c := dgo_DI hn 257 _ 0 0 (DG.DI.start n) (by omega)
end Go.Proofs.Ytdeidgbknlmhjab
