import Derived.Test.YtdeidgbknlmhjabCO
import Derived.Test.YtdeidgbknlmhjabRG6
import Derived.Test.YtdeidgbknlmhjabQ1
namespace Go.Proofs.Ytdeidgbknlmhjab
open Go.RowKit Go.Sort
variable {P : Nat} [NeZero P]

theorem eqW (a b c d p q r s : Int) (w : World) : (binOp .eql 115 (.agg #[.int .u64 a, .int .u64 b, .int .u64 c, .int .u64 d]) (.agg #[.int .u64 p, .int .u64 q, .int .u64 r, .int .u64 s])).run Try.prog w = .ok (.bool (decide (a = p ∧ b = q ∧ c = r ∧ d = s))) w := by
  go_simp
  by_cases h0 : a = p <;> by_cases h1 : b = q <;> by_cases h2 : c = r <;> by_cases h3 : d = s <;> simp [h0, h1, h2, h3]
theorem wn_inj {m n : Nat} (hm : m < top) (hn : n < top) : (m % 18446744073709551616 = n % 18446744073709551616 ∧ m / 18446744073709551616 % 18446744073709551616 = n / 18446744073709551616 % 18446744073709551616 ∧ m / 340282366920938463463374607431768211456 % 18446744073709551616 = n / 340282366920938463463374607431768211456 % 18446744073709551616 ∧ m / 6277101735386680763835789423207666416102355444464034512896 % 18446744073709551616 = n / 6277101735386680763835789423207666416102355444464034512896 % 18446744073709551616) ↔ m = n := by
  constructor
  · rintro ⟨h0, h1, h2, h3⟩
    unfold top at hm hn
    omega
  · rintro rfl
    exact ⟨rfl, rfl, rfl, rfl⟩
theorem eqC (h : Fld P) (x y : Fin P) (w : World) : (binOp .eql 115 (fv x) (fv y)).run Try.prog w = .ok (.bool (decide (x = y))) w := by
  have h1 := eqW ((x.val % 18446744073709551616 : Nat) : Int) ((x.val / 18446744073709551616 % 18446744073709551616 : Nat) : Int) ((x.val / 340282366920938463463374607431768211456 % 18446744073709551616 : Nat) : Int) ((x.val / 6277101735386680763835789423207666416102355444464034512896 % 18446744073709551616 : Nat) : Int) ((y.val % 18446744073709551616 : Nat) : Int) ((y.val / 18446744073709551616 % 18446744073709551616 : Nat) : Int) ((y.val / 340282366920938463463374607431768211456 % 18446744073709551616 : Nat) : Int) ((y.val / 6277101735386680763835789423207666416102355444464034512896 % 18446744073709551616 : Nat) : Int) w
  refine h1.trans ?_
  have h2 := wn_inj (h.top x) (h.top y)
  simp only [Int.ofNat_inj, h2, ← Fin.ext_iff]
theorem eqC_t (h : Fld P) {x y : Fin P} (e : x = y) (w : World) : (binOp .eql 115 (fv x) (fv y)).run Try.prog w = .ok (.bool true) w := by rw [eqC h, decide_eq_true e]
theorem eqC_f (h : Fld P) {x y : Fin P} (e : ¬ x = y) (w : World) : (binOp .eql 115 (fv x) (fv y)).run Try.prog w = .ok (.bool false) w := by rw [eqC h, decide_eq_false e]
theorem eqPt2 (a b c d p q r s a' b' c' d' p' q' r' s' : Nat) (w : World) : (binOp .eql 109 (.agg #[.int .u64 (a : Int), .int .u64 (b : Int), .int .u64 (c : Int), .int .u64 (d : Int), .int .u64 (a' : Int), .int .u64 (b' : Int), .int .u64 (c' : Int), .int .u64 (d' : Int)]) (.agg #[.int .u64 (p : Int), .int .u64 (q : Int), .int .u64 (r : Int), .int .u64 (s : Int), .int .u64 (p' : Int), .int .u64 (q' : Int), .int .u64 (r' : Int), .int .u64 (s' : Int)])).run Try.prog w = .ok (.bool (decide (a = p ∧ b = q ∧ c = r ∧ d = s) && decide (a' = p' ∧ b' = q' ∧ c' = r' ∧ d' = s'))) w := by
  go_simp
  rw [eqP_d 9997, Result.andThen_ok]
  by_cases h1 : a = p ∧ b = q ∧ c = r ∧ d = s
  · rw [decide_eq_true h1]
    simp only [Bool.true_eq_false, if_false]
    rw [eqP_d 9997, Result.andThen_ok]
    by_cases h2 : a' = p' ∧ b' = q' ∧ c' = r' ∧ d' = s'
    · rw [decide_eq_true h2]
      simp [h1.1, h1.2.1, h1.2.2.1, h1.2.2.2, h2.1, h2.2.1, h2.2.2.1, h2.2.2.2]
    · rw [decide_eq_false h2]
      simp only [if_true, Result.andThen_ok]
      have h3 : (decide (a' = p') && (decide (b' = q') && (decide (c' = r') && decide (d' = s')))) = false := by simpa using h2
      rw [h3, Bool.and_false]
  · rw [decide_eq_false h1]
    simp only [if_true, Result.andThen_ok]
    have h3 : (decide (a = p) && (decide (b = q) && (decide (c = r) && decide (d = s)))) = false := by simpa using h1
    rw [h3, Bool.false_and]
theorem eqPt (h : Fld P) (x y z t : Fin P) (w : World) : (binOp .eql 109 (pv x y) (pv z t)).run Try.prog w = .ok (.bool (decide (x = z ∧ y = t))) w := by
  refine (eqPt2 (x.val % 18446744073709551616) (x.val / 18446744073709551616 % 18446744073709551616) (x.val / 340282366920938463463374607431768211456 % 18446744073709551616) (x.val / 6277101735386680763835789423207666416102355444464034512896 % 18446744073709551616) (z.val % 18446744073709551616) (z.val / 18446744073709551616 % 18446744073709551616) (z.val / 340282366920938463463374607431768211456 % 18446744073709551616) (z.val / 6277101735386680763835789423207666416102355444464034512896 % 18446744073709551616) (y.val % 18446744073709551616) (y.val / 18446744073709551616 % 18446744073709551616) (y.val / 340282366920938463463374607431768211456 % 18446744073709551616) (y.val / 6277101735386680763835789423207666416102355444464034512896 % 18446744073709551616) (t.val % 18446744073709551616) (t.val / 18446744073709551616 % 18446744073709551616) (t.val / 340282366920938463463374607431768211456 % 18446744073709551616) (t.val / 6277101735386680763835789423207666416102355444464034512896 % 18446744073709551616) w).trans ?_
  simp only [wn_inj (h.top x) (h.top z), wn_inj (h.top y) (h.top t), ← Fin.ext_iff, Bool.decide_and]
theorem eqPt_t (h : Fld P) {x y z t : Fin P} (e : x = z ∧ y = t) (w : World) : (binOp .eql 109 (pv x y) (pv z t)).run Try.prog w = .ok (.bool true) w := by rw [eqPt h, decide_eq_true e]
theorem eqPt_f (h : Fld P) {x y z t : Fin P} (e : ¬ (x = z ∧ y = t)) (w : World) : (binOp .eql 109 (pv x y) (pv z t)).run Try.prog w = .ok (.bool false) w := by rw [eqPt h, decide_eq_false e]
end Go.Proofs.Ytdeidgbknlmhjab
