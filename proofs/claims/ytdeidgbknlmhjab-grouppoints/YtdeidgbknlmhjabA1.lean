import Derived.WalkKit
namespace Go.Proofs.Ytdeidgbknlmhjab
open Go.RowKit

/-- Four words, the lowest first. -/
def val (a b c d : Nat) : Nat := a + 18446744073709551616 * b + 340282366920938463463374607431768211456 * c + 6277101735386680763835789423207666416102355444464034512896 * d

def ag (a b c d : Nat) : Value := .agg #[.int .u64 (a : Int), .int .u64 (b : Int), .int .u64 (c : Int), .int .u64 (d : Int)]

/-- A value of four words is the number n. -/
def Four (v : Value) (n : Nat) : Prop := ∃ a b c d : Nat, v = .agg #[.int .u64 (a : Int), .int .u64 (b : Int), .int .u64 (c : Int), .int .u64 (d : Int)] ∧
  a < 18446744073709551616 ∧ b < 18446744073709551616 ∧ c < 18446744073709551616 ∧ d < 18446744073709551616 ∧ n = val a b c d

def top : Nat := 115792089237316195423570985008687907853269984665640564039457584007913129639936

theorem val_lt {a b c d : Nat} (ha : a < 18446744073709551616) (hb : b < 18446744073709551616) (hc : c < 18446744073709551616) (hd : d < 18446744073709551616) : val a b c d < top := by
  unfold val top; omega

theorem Four.lt {v : Value} {n : Nat} (h : Four v n) : n < top := by
  obtain ⟨a, b, c, d, -, ha, hb, hc, hd, rfl⟩ := h
  exact val_lt ha hb hc hd

theorem val_inj {a b c d p q r s : Nat} (ha : a < 18446744073709551616) (hb : b < 18446744073709551616) (hc : c < 18446744073709551616)
    (hp : p < 18446744073709551616) (hq : q < 18446744073709551616) (hr : r < 18446744073709551616) (h : val a b c d = val p q r s) : a = p ∧ b = q ∧ c = r ∧ d = s := by
  unfold val at h; omega

theorem Four.inj {v v' : Value} {n : Nat} (h : Four v n) (h' : Four v' n) : v = v' := by
  obtain ⟨a, b, c, d, rfl, ha, hb, hc, hd, e⟩ := h
  obtain ⟨p, q, r, s, rfl, hp, hq, hr, hs, e'⟩ := h'
  obtain ⟨rfl, rfl, rfl, rfl⟩ := val_inj ha hb hc hp hq hr (e.symm.trans e')
  rfl

theorem Four.num {v : Value} {n m : Nat} (h : Four v n) (h' : Four v m) : n = m := by
  obtain ⟨a, b, c, d, rfl, ha, hb, hc, hd, rfl⟩ := h
  obtain ⟨p, q, r, s, e, hp, hq, hr, hs, rfl⟩ := h'
  simp only [Value.agg.injEq, Array.mk.injEq, List.cons.injEq, Value.int.injEq, true_and, and_true, Int.ofNat_inj] at e
  obtain ⟨rfl, rfl, rfl, rfl⟩ := e
  rfl

theorem Four.mk {a b c d n : Nat} (ha : a < 18446744073709551616) (hb : b < 18446744073709551616) (hc : c < 18446744073709551616) (hd : d < 18446744073709551616) (hn : n = val a b c d) :
    Four (.agg #[.int .u64 (a : Int), .int .u64 (b : Int), .int .u64 (c : Int), .int .u64 (d : Int)]) n := ⟨a, b, c, d, rfl, ha, hb, hc, hd, hn⟩

theorem ret_int {k : IntKind} {a b : Int} (h : a = b) : Ending.returned (.int k a) = .returned (.int k b) := by rw [h]

/-- What Mul64 answers, as words. -/
theorem mul_parts (x y : Nat) : x * y / 18446744073709551616 * 18446744073709551616 + x * y % 18446744073709551616 = x * y := by
  omega

end Go.Proofs.Ytdeidgbknlmhjab
