import Derived.Test.YtdeidgbknlmhjabCE
import Derived.Test.YtdeidgbknlmhjabR5
set_option linter.unusedVariables false
set_option linter.unusedSimpArgs false
namespace Go.Proofs.Ytdeidgbknlmhjab
open Go.RowKit Go.Sort
variable {P : Nat} [NeZero P]

def rl0 : List Value := [.int .u64 18446744069414583343, .int .u64 18446744073709551615, .int .u64 18446744073709551615, .int .u64 18446744073709551615, .int .u64 4294968273, .int .u64 0, .int .u64 0, .int .u64 0]
def rv0 : Value := .agg rl0.toArray
/-- The reference's prime, too. -/
structure Fl3 (P : Nat) [NeZero P] : Prop extends Fld P where
  ref : RefP 18446744069414583343 18446744073709551615 18446744073709551615 18446744073709551615 4294968273 0 0 0 P

theorem rMake_c : Gives 16 #[.int .i64 0] rv0 := fun w => (rMake0 w).mono (by rintro e w' ⟨v, rfl, hb, rfl⟩; exact ⟨_, rfl, hb, rfl⟩)
theorem rAdd_c (h : Fl3 P) (x y : Fin P) : Gives 18 #[rv0, fv x, fv y] (fv (x + y)) := fun w =>
  (rAdd_R h.ref (h.four x) (h.four y) w).mono (by rintro e w' ⟨v, rfl, hb, hF⟩; exact ⟨_, rfl, hb, hF.nv⟩)
theorem rMul_c (h : Fl3 P) (x y : Fin P) : Gives 20 #[rv0, fv x, fv y] (fv (x * y)) := fun w =>
  (rMul_R h.ref (h.four x) (h.four y) w).mono (by rintro e w' ⟨v, rfl, hb, hF⟩; exact ⟨_, rfl, hb, hF.nv⟩)
theorem rSub_c (h : Fl3 P) (x y : Fin P) : Gives 19 #[rv0, fv x, fv y] (fv (x - y)) := fun w =>
  (rSub_any _ _ _ _ _ _ _ _ P _ _ x.val y.val h.ref (h.four x) (h.four y) y.isLt w).mono (by rintro e w' ⟨v, rfl, hb, hF⟩; rw [sub_fin] at hF; exact ⟨_, rfl, hb, hF.nv⟩)
theorem rNeg_c (h : Fl3 P) (x : Fin P) : Gives 57 #[rv0, fv x] (fv (0 - x)) := fun w =>
  (rNeg_any _ _ _ _ _ _ _ _ P _ x.val h.ref (h.four x) x.isLt w).mono (by
    rintro e w' ⟨v, rfl, hb, hF⟩
    rw [show (P - x.val) % P = (0 - x : Fin P).val by rw [← sub_fin, EC.val_zero, Nat.zero_add]] at hF
    exact ⟨_, rfl, hb, hF.nv⟩)
theorem rInv_c (h : Fl3 P) (x : Fin P) : Gives 21 #[rv0, fv x] (fv (EC.inv x)) := fun w =>
  (rInv_any _ _ _ _ _ _ _ _ P _ x.val h.ref (h.four x) w).mono (by rintro e w' ⟨v, rfl, hb, hF⟩; exact ⟨_, rfl, hb, hF.nv⟩)
theorem rZero_t (h : Fl3 P) {x : Fin P} (e : x = 0) : Gives 79 #[fv x] (.bool true) := fun w =>
  (rZero_any _ _ (h.four x) w).mono (by
    rintro e w' ⟨v, rfl, hb, rfl⟩
    refine ⟨_, rfl, hb, ?_⟩
    rw [decide_eq_true (by rw [e, EC.val_zero])])
theorem rZero_f (h : Fl3 P) {x : Fin P} (e : ¬ x = 0) : Gives 79 #[fv x] (.bool false) := fun w =>
  (rZero_any _ _ (h.four x) w).mono (by
    rintro e w' ⟨v, rfl, hb, rfl⟩
    refine ⟨_, rfl, hb, ?_⟩
    rw [decide_eq_false (fun h => e (Fin.ext (by rw [EC.val_zero]; exact h)))])
theorem rSmall1_c (h : Fl3 P) : Gives 66 #[.int .u64 1] (fv (1 : Fin P)) := fun w =>
  (rSmall_any 1 (by decide) w).mono (by rintro e w' ⟨v, rfl, hb, rfl⟩; exact ⟨_, rfl, hb, one_fv h.toFld⟩)
theorem rSmall7_c (h : Fl3 P) : Gives 66 #[.int .u64 7] (fv (7 : Fin P)) := fun w =>
  (rSmall_any 7 (by decide) w).mono (by rintro e w' ⟨v, rfl, hb, rfl⟩; exact ⟨_, rfl, hb, seven_fv h.toFld⟩)
theorem eqR (h : Fld P) (x y : Fin P) (w : World) : (binOp .eql 33 (fv x) (fv y)).run Try.prog w = .ok (.bool (decide (x = y))) w := by
  have h1 : (binOp .eql 33 (fv x) (fv y)).run Try.prog w = .ok (.bool (decide (x.val % 18446744073709551616 = y.val % 18446744073709551616 ∧ x.val / 18446744073709551616 % 18446744073709551616 = y.val / 18446744073709551616 % 18446744073709551616 ∧ x.val / 340282366920938463463374607431768211456 % 18446744073709551616 = y.val / 340282366920938463463374607431768211456 % 18446744073709551616 ∧ x.val / 6277101735386680763835789423207666416102355444464034512896 % 18446744073709551616 = y.val / 6277101735386680763835789423207666416102355444464034512896 % 18446744073709551616))) w := by
    show (binOp .eql 33 (.agg _) (.agg _)).run Try.prog w = _
    rw [run_eql_struct]
    have h2 := eqR_d 9998 (x.val % 18446744073709551616) (x.val / 18446744073709551616 % 18446744073709551616) (x.val / 340282366920938463463374607431768211456 % 18446744073709551616) (x.val / 6277101735386680763835789423207666416102355444464034512896 % 18446744073709551616) (y.val % 18446744073709551616) (y.val / 18446744073709551616 % 18446744073709551616) (y.val / 340282366920938463463374607431768211456 % 18446744073709551616) (y.val / 6277101735386680763835789423207666416102355444464034512896 % 18446744073709551616) w
    unfold wn
    rw [h2, Result.andThen_ok]
  rw [h1]
  simp only [wn_inj (h.top x) (h.top y), ← Fin.ext_iff]
theorem eqR_t (h : Fld P) {x y : Fin P} (e : x = y) (w : World) : (binOp .eql 33 (fv x) (fv y)).run Try.prog w = .ok (.bool true) w := by rw [eqR h, decide_eq_true e]
theorem eqR_f (h : Fld P) {x y : Fin P} (e : ¬ x = y) (w : World) : (binOp .eql 33 (fv x) (fv y)).run Try.prog w = .ok (.bool false) w := by rw [eqR h, decide_eq_false e]
theorem neR (h : Fld P) (x y : Fin P) (w : World) : (binOp .neq 33 (fv x) (fv y)).run Try.prog w = .ok (.bool (!decide (x = y))) w := by
  have h1 : (binOp .neq 33 (fv x) (fv y)).run Try.prog w = .ok (.bool (!decide (x.val % 18446744073709551616 = y.val % 18446744073709551616 ∧ x.val / 18446744073709551616 % 18446744073709551616 = y.val / 18446744073709551616 % 18446744073709551616 ∧ x.val / 340282366920938463463374607431768211456 % 18446744073709551616 = y.val / 340282366920938463463374607431768211456 % 18446744073709551616 ∧ x.val / 6277101735386680763835789423207666416102355444464034512896 % 18446744073709551616 = y.val / 6277101735386680763835789423207666416102355444464034512896 % 18446744073709551616))) w := neqR _ _ _ _ _ _ _ _ w
  rw [h1]
  simp only [wn_inj (h.top x) (h.top y), ← Fin.ext_iff]
theorem neR_f (h : Fld P) {x y : Fin P} (e : x = y) (w : World) : (binOp .neq 33 (fv x) (fv y)).run Try.prog w = .ok (.bool false) w := by rw [neR h, decide_eq_true e]; rfl
theorem neR_t (h : Fld P) {x y : Fin P} (e : ¬ x = y) (w : World) : (binOp .neq 33 (fv x) (fv y)).run Try.prog w = .ok (.bool true) w := by rw [neR h, decide_eq_false e]; rfl
theorem ws_none : Value.agg #[.int .u64 0, .int .u64 0, .int .u64 0, .int .u64 0, .int .u64 1, .int .u64 0, .int .u64 0, .int .u64 0, .int .u64 0, .int .u64 0, .int .u64 0, .int .u64 0] = .agg (([.int .u64 0, .int .u64 0, .int .u64 0, .int .u64 0] : List Value) ++ (([.int .u64 1, .int .u64 0, .int .u64 0, .int .u64 0] : List Value) ++ ([.int .u64 0, .int .u64 0, .int .u64 0, .int .u64 0] : List Value))).toArray := rfl
theorem ws_one (h : Fld P) : ([.int .u64 1, .int .u64 0, .int .u64 0, .int .u64 0] : List Value) = ws (1 : Fin P) := by
  have h := one_fv h
  unfold nv at h
  injection h with h
  exact congrArg Array.toList h
theorem build_none (h : Fld P) (w : World) : (Instr.build 56 #[(1, fv (1 : Fin P))]).run Try.prog w = .ok (rv (0 : Fin P) 1 0) w := by
  unfold rv
  rw [← ws_zero, ← ws_one h, ← one_fv h, ← ws_none]
  kernel_rfl

/-- The even root of a number, if there is one. -/
def rt (m : Fin P) : Option (Fin P) := if m.val ^ (P / 4 + 1) % P * (m.val ^ (P / 4 + 1) % P) % P = m.val then some (Fin.ofNat P (even P (m.val ^ (P / 4 + 1) % P))) else none
omit [NeZero P] in
theorem even_lt {r : Nat} (hP : 0 < P) (h : r < P) : even P r < P := by unfold even; split <;> omega
theorem rt_four {m y : Fin P} {v : Value} (h : rt m = some y) (hF : Four v (even P (m.val ^ (P / 4 + 1) % P))) : v = fv y := by
  unfold rt at h
  split at h
  · obtain rfl := Option.some.inj h
    have : (Fin.ofNat P (even P (m.val ^ (P / 4 + 1) % P))).val = even P (m.val ^ (P / 4 + 1) % P) := Nat.mod_eq_of_lt (even_lt (Nat.pos_of_neZero P) (Nat.mod_lt _ (Nat.pos_of_neZero P)))
    show v = nv _
    rw [this]
    exact hF.nv
  · cases h
theorem rt_yes {m y : Fin P} (h : rt m = some y) : m.val ^ (P / 4 + 1) % P * (m.val ^ (P / 4 + 1) % P) % P = m.val := by
  unfold rt at h
  split at h
  · assumption
  · cases h
theorem rt_no {m : Fin P} (h : rt m = none) : ¬ m.val ^ (P / 4 + 1) % P * (m.val ^ (P / 4 + 1) % P) % P = m.val := by
  unfold rt at h
  split at h
  · cases h
  · assumption
theorem RootR.val {m : Fin P} {e : Value} (h : RootR P m.val (m.val ^ (P / 4 + 1) % P) e) : (∀ y, rt m = some y → e = .tuple #[fv y, .bool true]) ∧ (rt m = none → e = .tuple #[fv (0 : Fin P), .bool false]) := by
  obtain ⟨ya, yb, yc, yd, ok, rfl, h1, h2, h3⟩ := h
  refine ⟨fun y hy => ?_, fun hn => ?_⟩
  · cases ok with
    | true => rw [rt_four hy (h1 rfl).2]
    | false => exact absurd (rt_yes hy) (h2 rfl)
  · cases ok with
    | true => exact absurd (h1 rfl).1 (rt_no hn)
    | false =>
      obtain ⟨rfl, rfl, rfl, rfl⟩ := h3 rfl
      rw [← zero_fv]
      rfl
theorem Root_y (h : Fld P) {m y : Fin P} (e : rt m = some y) : Gives 64 #[gv0, fv m] (.tuple #[fv y, .bool true]) := fun w =>
  (Root_any 4294968273 0 0 P _ m.val h.gap h.p4 (h.four m) w).mono (by rintro e' w' ⟨v, rfl, hb, hF⟩; exact ⟨_, rfl, hb, hF.val.1 y e⟩)
theorem Root_n (h : Fld P) {m : Fin P} (e : rt m = none) : Gives 64 #[gv0, fv m] (.tuple #[fv (0 : Fin P), .bool false]) := fun w =>
  (Root_any 4294968273 0 0 P _ m.val h.gap h.p4 (h.four m) w).mono (by rintro e' w' ⟨v, rfl, hb, hF⟩; exact ⟨_, rfl, hb, hF.val.2 e⟩)
theorem rSqrt_y (h : Fl3 P) {m y : Fin P} (e : rt m = some y) : Gives 24 #[rv0, fv m] (.tuple #[fv y, .bool true]) := fun w =>
  (rSqrt_any _ _ _ _ _ _ _ _ P _ m.val h.ref h.p4 (h.four m) w).mono (by rintro e' w' ⟨v, rfl, hb, hF⟩; exact ⟨_, rfl, hb, hF.val.1 y e⟩)
theorem rSqrt_n (h : Fl3 P) {m : Fin P} (e : rt m = none) : Gives 24 #[rv0, fv m] (.tuple #[fv (0 : Fin P), .bool false]) := fun w =>
  (rSqrt_any _ _ _ _ _ _ _ _ P _ m.val h.ref h.p4 (h.four m) w).mono (by rintro e' w' ⟨v, rfl, hb, hF⟩; exact ⟨_, rfl, hb, hF.val.2 e⟩)
end Go.Proofs.Ytdeidgbknlmhjab
