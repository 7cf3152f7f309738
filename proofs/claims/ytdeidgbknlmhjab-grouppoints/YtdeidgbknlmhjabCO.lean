import Derived.Test.YtdeidgbknlmhjabRG5
import Derived.Test.YtdeidgbknlmhjabEC9
import Derived.Test.YtdeidgbknlmhjabJ8
namespace Go.Proofs.Ytdeidgbknlmhjab
open Go.RowKit Go.Sort

/-- The four words of a number. -/
def wn (n : Nat) : List Value := [.int .u64 ((n % 18446744073709551616 : Nat) : Int), .int .u64 ((n / 18446744073709551616 % 18446744073709551616 : Nat) : Int), .int .u64 ((n / 340282366920938463463374607431768211456 % 18446744073709551616 : Nat) : Int), .int .u64 ((n / 6277101735386680763835789423207666416102355444464034512896 % 18446744073709551616 : Nat) : Int)]
def nv (n : Nat) : Value := .agg (wn n).toArray
theorem four_nv {n : Nat} (h : n < top) : Four (nv n) n := by
  refine ⟨n % 18446744073709551616, n / 18446744073709551616 % 18446744073709551616, n / 340282366920938463463374607431768211456 % 18446744073709551616, n / 6277101735386680763835789423207666416102355444464034512896 % 18446744073709551616, rfl, ?_, ?_, ?_, ?_, ?_⟩
  · omega
  · omega
  · omega
  · omega
  · unfold val; unfold top at h; omega
theorem Four.nv {v : Value} {n : Nat} (h : Four v n) : v = Go.Proofs.Ytdeidgbknlmhjab.nv n := h.inj (four_nv h.lt)

variable {P : Nat} [NeZero P]
abbrev ws (x : Fin P) : List Value := wn x.val
abbrev fv (x : Fin P) : Value := nv x.val
def pv (x y : Fin P) : Value := .agg (ws x ++ ws y).toArray
def rv (x y z : Fin P) : Value := .agg (ws x ++ (ws y ++ ws z)).toArray

/-- A call answers v, and changes nothing that was there. -/
def Gives (f : FuncId) (args : Array Value) (v : Value) : Prop := ∀ w, Calls Try.prog f args w (Ret fun e w' => Below w.heap.size w w' ∧ e = v)

/-- The field and its curve. -/
structure Fld (P : Nat) [NeZero P] : Prop where
  gap : Gap 4294968273 0 0 P
  cur : EC.Cur P
  p2 : 2 ≤ P % 18446744073709551616
  p4 : P / 4 % 18446744073709551616 < 18446744073709551615
  p3 : P % 4 = 3
  p7 : 7 < P
theorem Fld.lt (_ : Fld P) (x : Fin P) : x.val < P := x.isLt
theorem Fld.top (h : Fld P) (x : Fin P) : x.val < top := by have := h.gap.hP; have := x.isLt; omega
theorem Fld.four (h : Fld P) (x : Fin P) : Four (fv x) x.val := four_nv (h.top x)
theorem zero_fv : (Value.agg #[.int .u64 0, .int .u64 0, .int .u64 0, .int .u64 0]) = fv (0 : Fin P) := by
  have h : Four (Value.agg #[.int .u64 0, .int .u64 0, .int .u64 0, .int .u64 0]) (0 : Fin P).val := by
    rw [EC.val_zero]
    exact Four.mk (a := 0) (b := 0) (c := 0) (d := 0) (by decide) (by decide) (by decide) (by decide) rfl
  exact h.nv
theorem one_fv (h : Fld P) : (Value.agg #[.int .u64 1, .int .u64 0, .int .u64 0, .int .u64 0]) = fv (1 : Fin P) := by
  have h : Four (Value.agg #[.int .u64 1, .int .u64 0, .int .u64 0, .int .u64 0]) (1 : Fin P).val := by
    rw [EC.val_one h.cur.pr]
    exact Four.mk (a := 1) (b := 0) (c := 0) (d := 0) (by decide) (by decide) (by decide) (by decide) rfl
  exact h.nv

theorem Coordinates_c : Gives 63 #[] gv0 := fun w => (Coordinates_any w).mono (by rintro e w' ⟨rfl, rfl⟩; exact ⟨_, rfl, below1 _ _, rfl⟩)
theorem sum_c (h : Fld P) (x y : Fin P) : Gives 83 #[gv0, fv x, fv y] (fv (x + y)) := fun w =>
  (sum_any 4294968273 0 0 P _ _ x.val y.val h.gap (h.four x) (h.four y) x.isLt y.isLt w).mono (by
    rintro e w' ⟨v, rfl, hb, hF⟩
    exact ⟨_, rfl, hb, hF.nv⟩)
omit [NeZero P] in
theorem sub_fin (x y : Fin P) : (x.val + P - y.val) % P = (x - y).val := by
  rw [Fin.sub_def]
  show _ = (P - y.val + x.val) % P
  congr 1
  have := y.isLt
  omega
theorem difference_c (h : Fld P) (x y : Fin P) : Gives 86 #[gv0, fv x, fv y] (fv (x - y)) := fun w =>
  (difference_any 4294968273 0 0 P _ _ x.val y.val h.gap (h.four x) (h.four y) x.isLt y.isLt w).mono (by
    rintro e w' ⟨v, rfl, hb, hF⟩
    rw [sub_fin] at hF
    exact ⟨_, rfl, hb, hF.nv⟩)
theorem product_c (h : Fld P) (x y : Fin P) : Gives 87 #[gv0, fv x, fv y] (fv (x * y)) := fun w =>
  (product_any 4294968273 0 0 P _ _ x.val y.val h.gap (h.four x) (h.four y) w).mono (by
    rintro e w' ⟨v, rfl, hb, hF⟩
    exact ⟨_, rfl, hb, hF.nv⟩)
theorem four_c (h : Fld P) (x : Fin P) : Gives 84 #[fv x] (fv x) := fun w => (four_any _ _ (h.four x) w).mono (by rintro e w' ⟨v, rfl, hb, rfl⟩; exact ⟨_, rfl, hb, rfl⟩)
theorem number_c (h : Fld P) (x : Fin P) : Gives 85 #[fv x] (fv x) := fun w => (number_any _ _ (h.four x) w).mono (by rintro e w' ⟨v, rfl, hb, rfl⟩; exact ⟨_, rfl, hb, rfl⟩)
theorem PTimes_c (h : Fld P) (x y : Fin P) : Gives 47 #[gv0, fv x, fv y] (fv (x * y)) := fun w =>
  (Times_any 4294968273 0 0 P _ _ x.val y.val h.gap (h.four x) (h.four y) w).mono (by
    rintro e w' ⟨v, rfl, hb, hF⟩
    exact ⟨_, rfl, hb, hF.nv⟩)
theorem PPlus_c (h : Fld P) (x y : Fin P) : Gives 45 #[gv0, fv x, fv y] (fv (x + y)) := fun w =>
  (Plus_any 4294968273 0 0 P _ _ x.val y.val h.gap (h.four x) (h.four y) x.isLt y.isLt w).mono (by
    rintro e w' ⟨v, rfl, hb, hF⟩
    exact ⟨_, rfl, hb, hF.nv⟩)
theorem PMinus_c (h : Fld P) (x y : Fin P) : Gives 46 #[gv0, fv x, fv y] (fv (x - y)) := fun w =>
  (Minus_any 4294968273 0 0 P _ _ x.val y.val h.gap (h.four x) (h.four y) x.isLt y.isLt w).mono (by
    rintro e w' ⟨v, rfl, hb, hF⟩
    rw [sub_fin] at hF
    exact ⟨_, rfl, hb, hF.nv⟩)
theorem seven_fv (h : Fld P) : (Value.agg #[.int .u64 7, .int .u64 0, .int .u64 0, .int .u64 0]) = fv (7 : Fin P) := by
  have h : Four (Value.agg #[.int .u64 7, .int .u64 0, .int .u64 0, .int .u64 0]) (7 : Fin P).val := by
    have h7 : (7 : Fin P).val = 7 % P := rfl
    rw [h7, Nat.mod_eq_of_lt h.p7]
    exact Four.mk (a := 7) (b := 0) (c := 0) (d := 0) (by decide) (by decide) (by decide) (by decide) rfl
  exact h.nv
theorem ws_zero : ([.int .u64 0, .int .u64 0, .int .u64 0, .int .u64 0] : List Value) = ws (0 : Fin P) := by
  have h := zero_fv (P := P)
  unfold nv at h
  injection h with h
  exact congrArg Array.toList h
theorem zero_pv : (Value.agg #[.int .u64 0, .int .u64 0, .int .u64 0, .int .u64 0, .int .u64 0, .int .u64 0, .int .u64 0, .int .u64 0]) = pv (0 : Fin P) 0 := by
  unfold pv
  rw [← ws_zero]
  rfl
theorem zero_rv : (Value.agg #[.int .u64 0, .int .u64 0, .int .u64 0, .int .u64 0, .int .u64 0, .int .u64 0, .int .u64 0, .int .u64 0, .int .u64 0, .int .u64 0, .int .u64 0, .int .u64 0]) = rv (0 : Fin P) 0 0 := by
  unfold rv
  rw [← ws_zero]
  rfl
theorem Inverse_c (h : Fld P) (x : Fin P) : Gives 50 #[gv0, fv x] (fv (EC.inv x)) := fun w =>
  (Inverse_any 4294968273 0 0 P _ x.val h.gap h.p2 (h.four x) w).mono (by
    rintro e w' ⟨v, rfl, hb, hF⟩
    exact ⟨_, rfl, hb, hF.nv⟩)
end Go.Proofs.Ytdeidgbknlmhjab
