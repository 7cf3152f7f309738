import Derived.Test.YtdeidgbknlmhjabEC1
namespace Go.Proofs.Ytdeidgbknlmhjab.EC

variable {P : Nat} [NeZero P]

theorem val_zero : (0 : Fin P).val = 0 := by simp
theorem val_one (h : NT.IsP P) : (1 : Fin P).val = 1 := by
  have h2 := h.1
  show 1 % P = 1
  exact Nat.mod_eq_of_lt (by omega)

/-- No product of two that are not 0 is 0. -/
theorem nzd (h : NT.IsP P) {a b : Fin P} (e : a * b = 0) : a = 0 ∨ b = 0 := by
  have h1 : a.val * b.val % P = 0 := by
    have := congrArg Fin.val e
    rw [Fin.val_mul, val_zero] at this
    exact this
  rcases h.euclid (Nat.dvd_of_mod_eq_zero h1) with h2 | h2
  · exact Or.inl (Fin.ext (by rw [val_zero]; exact Nat.eq_zero_of_dvd_of_lt h2 a.isLt))
  · exact Or.inr (Fin.ext (by rw [val_zero]; exact Nat.eq_zero_of_dvd_of_lt h2 b.isLt))
theorem mul_ne (h : NT.IsP P) {a b : Fin P} (ha : a ≠ 0) (hb : b ≠ 0) : a * b ≠ 0 := fun e => (nzd h e).elim ha hb
theorem cancel (h : NT.IsP P) {a b c : Fin P} (ha : a ≠ 0) (e : b * a = c * a) : b = c := by
  have h1 : (b - c) * a = 0 := by grobner
  rcases nzd h h1 with h2 | h2
  · grobner
  · exact absurd h2 ha

/-- The inverse. -/
def inv (a : Fin P) : Fin P := Fin.ofNat P (a.val ^ (P - 2))
theorem inv_mul (h : NT.IsP P) {a : Fin P} (ha : a ≠ 0) : inv a * a = 1 := by
  apply Fin.ext
  have h2 := h.1
  have hn : ¬ P ∣ a.val := fun hd => ha (Fin.ext (by rw [val_zero]; exact Nat.eq_zero_of_dvd_of_lt hd a.isLt))
  rw [Fin.val_mul, val_one h]
  show a.val ^ (P - 2) % P * a.val % P = 1
  rw [Nat.mod_mul_mod, ← Nat.pow_succ, show (P - 2).succ = P - 1 by omega]
  exact h.fermat1 _ hn
end Go.Proofs.Ytdeidgbknlmhjab.EC
