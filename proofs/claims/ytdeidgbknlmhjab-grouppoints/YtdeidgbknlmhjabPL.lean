import Derived.Test.YtdeidgbknlmhjabBY
import Derived.Test.YtdeidgbknlmhjabRG8
import Derived.Test.YtdeidgbknlmhjabSM
namespace Go.Proofs.Ytdeidgbknlmhjab
open Go.RowKit Go.Sort Go.Deep
theorem u23 : (Try.prog.underlying 23).map (·.isRow) = some false := by kernel_rfl
theorem at46 (k o n c i : Nat) (hi : i < n) (w : World) : (Instr.indexAt 46 (.slice (some ⟨k, o, none⟩) n c) (.int .i64 (i : Int))).run Try.prog w = .ok (.pointer (some ⟨k, o + i, none⟩)) w := by
  have h1 : ¬ (i : Int) < 0 := by omega
  have h2 : (i : Int) < n := by omega
  go_simp
theorem mk112 (N : Nat) (hN : N ≤ 512) : ∃ C0 : List Value, C0.length = 8 * N ∧ ∀ w : World, (Instr.makeSlice 112 (.int .i64 (N : Int)) (.int .i64 (N : Int))).run Try.prog w = .ok (.slice (some ⟨w.heap.size, 0, none⟩) N N) (w.alloc (.cells C0.toArray 109)) := by
  have hu : Try.prog.underlying 112 = some (.slice 109) := by kernel_rfl
  have hi : (Try.prog.info? 109).map (fun i => (i.size, decide (i.bytes ≤ 4000), i.zero.isSome)) = some (8, true, true) := by kernel_rfl
  obtain ⟨i, hi1, hi2⟩ := Option.map_eq_some_iff.1 hi
  simp only [Prod.mk.injEq, decide_eq_true_eq] at hi2
  obtain ⟨h1, h2, h3⟩ := hi2
  obtain ⟨z, hz⟩ := Option.isSome_iff_exists.1 h3
  refine ⟨(madeCells z.cells (N * 8)).toList, by rw [Array.length_toList, size_madeCells, Nat.mul_comm], fun w => ?_⟩
  have hb : (i.bytes : Int) * (N : Int) ≤ 281474976710656 := by
    have : i.bytes * N ≤ 4000 * 512 := Nat.mul_le_mul h2 hN
    have h5 : ((i.bytes * N : Nat) : Int) ≤ 281474976710656 := by omega
    rwa [Int.natCast_mul] at h5
  have := run_make (P := Try.prog) w 112 109 i z hu hi1 hz .i64 .i64 (N : Int) (N : Int) (by omega) (by omega) hb (by omega)
  rw [Int.toNat_natCast, h1] at this
  rw [Array.toArray_toList]
  exact this
theorem mk82 (N : Nat) (hN : N ≤ 512) : ∃ C0 : List Value, C0.length = 4 * N ∧ ∀ w : World, (Instr.makeSlice 82 (.int .i64 (N : Int)) (.int .i64 (N : Int))).run Try.prog w = .ok (.slice (some ⟨w.heap.size, 0, none⟩) N N) (w.alloc (.cells C0.toArray 85)) := by
  have hu : Try.prog.underlying 82 = some (.slice 85) := by kernel_rfl
  have hi : (Try.prog.info? 85).map (fun i => (i.size, decide (i.bytes ≤ 4000), i.zero.isSome)) = some (4, true, true) := by kernel_rfl
  obtain ⟨i, hi1, hi2⟩ := Option.map_eq_some_iff.1 hi
  simp only [Prod.mk.injEq, decide_eq_true_eq] at hi2
  obtain ⟨h1, h2, h3⟩ := hi2
  obtain ⟨z, hz⟩ := Option.isSome_iff_exists.1 h3
  refine ⟨(madeCells z.cells (N * 4)).toList, by rw [Array.length_toList, size_madeCells, Nat.mul_comm], fun w => ?_⟩
  have hb : (i.bytes : Int) * (N : Int) ≤ 281474976710656 := by
    have : i.bytes * N ≤ 4000 * 512 := Nat.mul_le_mul h2 hN
    have h5 : ((i.bytes * N : Nat) : Int) ≤ 281474976710656 := by omega
    rwa [Int.natCast_mul] at h5
  have := run_make (P := Try.prog) w 82 85 i z hu hi1 hz .i64 .i64 (N : Int) (N : Int) (by omega) (by omega) hb (by omega)
  rw [Int.toNat_natCast, h1] at this
  rw [Array.toArray_toList]
  exact this

/-- Rows of sz cells: m of them are there. -/
structure Rows (sz N : Nat) (cell : Nat → List Value) (m : Nat) (C : List Value) : Prop where
  len : C.length = sz * N
  row : ∀ j r, j < m → r < sz → C[sz * j + r]? = (cell j)[r]?
theorem Rows.next {sz N m : Nat} {cell : Nat → List Value} {C : List Value} (h : Rows sz N cell m C) (hm : m < N) (hc : (cell m).length = sz) : Rows sz N cell (m + 1) (RG.rep C (0 + sz * m) (cell m)) := by
  have hlen := h.len
  have hb : sz * m + sz ≤ sz * N := by rw [← Nat.mul_succ]; exact Nat.mul_le_mul_left _ hm
  have hl : 0 + sz * m + (cell m).length ≤ C.length := by rw [hc]; omega
  refine ⟨by rw [RG.rep_length hl]; exact hlen, fun j r hj hr => ?_⟩
  rw [RG.rep_at hl]
  by_cases hjm : j = m
  · subst hjm
    rw [if_pos (by rw [hc]; omega), show sz * j + r - (0 + sz * j) = r by omega]
  · have h2 : sz * j + sz ≤ sz * m := by rw [← Nat.mul_succ]; exact Nat.mul_le_mul_left _ (by omega)
    rw [if_neg (by rw [hc]; omega)]
    exact h.row j r (by omega) hr
/-- Bytes as a number of the order. -/
def rq (N : Nat) (bs : Bs) : Option Nat := if bs.size = 32 ∧ beV bs.toList < N then some (beV bs.toList) else none
def rqV : Option Nat → Value
  | none => .tuple #[nv 0, .bool false]
  | some n => .tuple #[nv n, .bool true]
theorem Scalars_c : Gives 88 #[] gv1 := fun w => (Scalars_any w).mono (by rintro e w' ⟨rfl, rfl⟩; exact ⟨_, rfl, below1 _ _, rfl⟩)
theorem readQ_c {N : Nat} (hG : Gap 4624529908474429119 4994812053365940164 1 N) (v : Value) (bs : Bs) (w : World) (hv : Arg w v bs) : Calls Try.prog 89 #[gv1, v] w (Ret fun e w' => Below w.heap.size w w' ∧ e = rqV (rq N bs)) := by
  obtain ⟨p, n, cap, rfl, hs, h1⟩ := hv
  unfold rq
  by_cases hn : n = 32
  · subst hn
    obtain ⟨g, o, rfl, h4, h6, h7⟩ := h1 rfl
    refine (Read_any _ _ _ N g o cap bs hG w hs h4 h6 h7).mono ?_
    rintro e w' ⟨v, rfl, hb, ⟨hl, v', rfl, h8⟩ | ⟨hl, rfl⟩⟩
    · rw [if_pos ⟨hs, hl⟩]
      exact ⟨_, rfl, hb, by rw [h8.nv]; rfl⟩
    · rw [if_neg (fun h => by omega)]
      exact ⟨_, rfl, hb, rfl⟩
  · refine (Read_len _ p n cap w _ _ _ rfl hn).mono ?_
    rintro e w' ⟨v, rfl, hb, rfl⟩
    rw [if_neg (fun h => hn (hs.symm.trans h.1))]
    exact ⟨_, rfl, hb, rfl⟩
end Go.Proofs.Ytdeidgbknlmhjab
