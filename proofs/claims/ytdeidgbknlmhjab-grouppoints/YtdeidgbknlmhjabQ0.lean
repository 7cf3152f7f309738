import Derived.Test.YtdeidgbknlmhjabA1
namespace Go.Proofs.Ytdeidgbknlmhjab

theorem bit_step (m i s : Nat) : m / 2 ^ i % 2 ^ (s + 1) = 2 * (m / 2 ^ (i + 1) % 2 ^ s) + m / 2 ^ i % 2 := by
  have e : m / 2 ^ (i + 1) = m / 2 ^ i / 2 := by rw [Nat.pow_succ, Nat.div_div_eq_div_mul]
  rw [e, Nat.pow_succ, Nat.mul_comm (2 ^ s), Nat.mod_mul]
  omega

theorem low_bit (y z r : Nat) (hr : r < 64) (hz : z = y % 18446744073709551616) : z / 2 ^ r % 2 = y / 2 ^ r % 2 := by
  have e : (18446744073709551616 : Nat) = 2 ^ r * (2 * 2 ^ (63 - r)) := by
    rw [← Nat.mul_assoc, ← Nat.pow_succ, ← Nat.pow_add, show r + 1 + (63 - r) = 64 by omega]
  have h2 : 0 < 2 ^ r := Nat.pow_pos (by decide)
  have h3 : y / 2 ^ r = 2 * (2 ^ (63 - r) * (y / 18446744073709551616)) + z / 2 ^ r := by
    have h4 : y = 2 ^ r * (2 * (2 ^ (63 - r) * (y / 18446744073709551616))) + z := by
      have := Nat.div_add_mod y 18446744073709551616
      rw [hz]
      rw [e] at this ⊢
      rw [Nat.mul_assoc, Nat.mul_assoc] at this
      exact this.symm
    conv => lhs; rw [h4]
    rw [Nat.mul_add_div h2]
  omega

/-- The q-th word of four. -/
def wd (a b c d q : Nat) : Nat := if q = 0 then a else if q = 1 then b else if q = 2 then c else d

theorem wd_lt {a b c d : Nat} (q : Nat) (ha : a < 18446744073709551616) (hb : b < 18446744073709551616) (hc : c < 18446744073709551616) (hd : d < 18446744073709551616) : wd a b c d q < 18446744073709551616 := by
  unfold wd; split; exact ha; split; exact hb; split; exact hc; exact hd

theorem wd_eq {a b c d : Nat} (q : Nat) (hq : q < 4) (ha : a < 18446744073709551616) (hb : b < 18446744073709551616) (hc : c < 18446744073709551616) (hd : d < 18446744073709551616) :
    wd a b c d q = val a b c d / 2 ^ (64 * q) % 18446744073709551616 := by
  have h : q = 0 ∨ q = 1 ∨ q = 2 ∨ q = 3 := by omega
  rcases h with rfl | rfl | rfl | rfl
  · show a = val a b c d / 1 % _; unfold val; omega
  · show b = val a b c d / 18446744073709551616 % _; unfold val; omega
  · show c = val a b c d / 340282366920938463463374607431768211456 % _; unfold val; omega
  · show d = val a b c d / 6277101735386680763835789423207666416102355444464034512896 % _; unfold val; omega

theorem wd_bit {a b c d : Nat} (i : Nat) (hi : i < 256) (ha : a < 18446744073709551616) (hb : b < 18446744073709551616) (hc : c < 18446744073709551616) (hd : d < 18446744073709551616) :
    wd a b c d (i / 64) / 2 ^ (i % 64) % 2 = val a b c d / 2 ^ i % 2 := by
  rw [low_bit _ _ (i % 64) (by omega) (wd_eq (i / 64) (by omega) ha hb hc hd), Nat.div_div_eq_div_mul, ← Nat.pow_add, show 64 * (i / 64) + i % 64 = i by omega]

/-- One word of four, set. -/
theorem val_set (a b c d q x : Nat) (hq : q < 4) : val (if q = 0 then x else a) (if q = 1 then x else b) (if q = 2 then x else c) (if q = 3 then x else d) + 2 ^ (64 * q) * wd a b c d q = val a b c d + 2 ^ (64 * q) * x := by
  have h : q = 0 ∨ q = 1 ∨ q = 2 ∨ q = 3 := by omega
  rcases h with rfl | rfl | rfl | rfl <;> simp [wd, val] <;> omega

theorem pow_two_mod (a P k : Nat) : a ^ k % P * (a ^ k % P) % P = a ^ (2 * k) % P := by
  rw [← Nat.mul_mod, ← Nat.pow_add, Nat.two_mul]
theorem pow_add_mod (a P k l : Nat) : a ^ k % P * (a ^ l % P) % P = a ^ (k + l) % P := by
  rw [← Nat.mul_mod, ← Nat.pow_add]
theorem pow_step_mod (a P k : Nat) : a ^ k % P * a % P = a ^ (k + 1) % P := by
  rw [Nat.pow_succ, Nat.mul_mod, Nat.mod_mod, ← Nat.mul_mod]
theorem div_win (e i : Nat) : e / 2 ^ i = 16 * (e / 2 ^ (i + 4)) + e / 2 ^ i % 2 ^ 4 := by
  rw [Nat.pow_add, ← Nat.div_div_eq_div_mul]
  have := Nat.div_add_mod (e / 2 ^ i) (2 ^ 4)
  omega
theorem div_bit (e i : Nat) : e / 2 ^ i = 2 * (e / 2 ^ (i + 1)) + e / 2 ^ i % 2 := by
  rw [Nat.pow_succ, ← Nat.div_div_eq_div_mul]
  omega

/-- A byte into its place: what stands there is a multiple of what is above it. -/
theorem of_div {M k q r : Nat} (hq : q = k / 8) (hr : r = k % 8) : M * 256 ^ (k + 1) / 2 ^ (64 * q) % 18446744073709551616 = 256 ^ (r + 1) * (M % 256 ^ (7 - r)) := by
  have h8 : r < 8 := by omega
  have e1 : 256 ^ (k + 1) = 2 ^ (64 * q) * 256 ^ (r + 1) := by
    rw [show (2 : Nat) ^ (64 * q) = 256 ^ (8 * q) by rw [show 64 * q = 8 * (8 * q) by omega, Nat.pow_mul], ← Nat.pow_add, show 8 * q + (r + 1) = k + 1 by omega]
  have e2 : (18446744073709551616 : Nat) = 256 ^ (r + 1) * 256 ^ (7 - r) := by
    rw [← Nat.pow_add, show r + 1 + (7 - r) = 8 by omega]
  rw [e1, Nat.mul_left_comm, Nat.mul_div_cancel_left _ (Nat.pow_pos (by decide)), e2, Nat.mul_comm M, Nat.mul_mod_mul_left]

theorem of_or {y x r : Nat} (hr : r < 8) (hx : x < 256) (hy : y < 256 ^ (7 - r)) : (256 ^ (r + 1) * y) ||| (x * 2 ^ (8 * r)) = 256 ^ (r + 1) * y + x * 2 ^ (8 * r) ∧ 256 ^ (r + 1) * y + x * 2 ^ (8 * r) < 18446744073709551616 := by
  have e : (256 : Nat) ^ (r + 1) = 2 ^ (8 * (r + 1)) := by rw [Nat.pow_mul]
  have h1 : x * 2 ^ (8 * r) < 2 ^ (8 * (r + 1)) := by
    rw [show 8 * (r + 1) = 8 + 8 * r by omega, Nat.pow_add]
    exact Nat.mul_lt_mul_of_pos_right (by omega) (Nat.pow_pos (by decide))
  have e2 : (18446744073709551616 : Nat) = 256 ^ (r + 1) * 256 ^ (7 - r) := by
    rw [← Nat.pow_add, show r + 1 + (7 - r) = 8 by omega]
  refine ⟨?_, ?_⟩
  · rw [e]
    exact (Nat.two_pow_add_eq_or_of_lt h1 y).symm
  · have h3 : 256 ^ (r + 1) * (y + 1) ≤ 256 ^ (r + 1) * 256 ^ (7 - r) := Nat.mul_le_mul_left _ hy
    rw [← e2, Nat.mul_add, Nat.mul_one] at h3
    rw [← e] at h1
    omega
theorem quarter_eq (a b c d : Nat) :
    val (a / 4 + b * 4611686018427387904 % 18446744073709551616) (b / 4 + c * 4611686018427387904 % 18446744073709551616) (c / 4 + d * 4611686018427387904 % 18446744073709551616) (d / 4) = val a b c d / 4 := by
  unfold val
  omega

end Go.Proofs.Ytdeidgbknlmhjab
