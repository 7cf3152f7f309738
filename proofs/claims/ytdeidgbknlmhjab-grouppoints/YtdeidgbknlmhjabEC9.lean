import Derived.Test.YtdeidgbknlmhjabEC8
namespace Go.Proofs.Ytdeidgbknlmhjab.EC

/-- No cube is -7, where (-7)^((P-1)/3) is not 1. -/
theorem sev_nat {P c : Nat} (hP : NT.IsP P) (h3 : P = 3 * c + 1) (h7 : 7 < P) (hk : (P - 7) ^ c % P ≠ 1) (x : Nat) : (x * x * x + 7) % P ≠ 0 := fun e => by
  have hx : ¬ P ∣ x := fun hd => by
    have h1 : P ∣ x * x * x := Nat.dvd_mul_left_of_dvd hd _
    have h2 : P ∣ 7 := (Nat.dvd_add_right h1).1 (Nat.dvd_of_mod_eq_zero e)
    have := Nat.le_of_dvd (by decide) h2
    omega
  have h1 := hP.fermat1 x hx
  have h2 : x * x * x % P = P - 7 := by
    have hlt : x * x * x % P < P := Nat.mod_lt _ (by omega)
    have h4 : (x * x * x % P + 7) % P = 0 := by rw [Nat.mod_add_mod]; exact e
    by_cases hq : x * x * x % P + 7 < P
    · rw [Nat.mod_eq_of_lt hq] at h4; omega
    · rw [Nat.mod_eq_sub_mod (by omega), Nat.mod_eq_of_lt (by omega)] at h4
      omega
  apply hk
  rw [← h2, ← Nat.pow_mod]
  rw [← h1]
  congr 1
  rw [show P - 1 = 3 * c by omega, Nat.pow_mul]
  congr 1
  rw [Nat.pow_succ, Nat.pow_succ, Nat.pow_one]

theorem cur_of {P c : Nat} [NeZero P] (hP : NT.IsP P) (h3 : P = 3 * c + 1) (h7 : 7 < P) (hk : (P - 7) ^ c % P ≠ 1) : Cur P := by
  refine ⟨hP, fun e => ?_, fun x e => ?_⟩
  · have := congrArg Fin.val e
    rw [val_zero] at this
    have h2 : (2 : Fin P).val = 2 % P := rfl
    rw [h2, Nat.mod_eq_of_lt (by omega)] at this
    omega
  · have e2 : x * x * x + 7 = 0 := by rw [← e]; grobner
    have := congrArg Fin.val e2
    rw [val_zero, Fin.val_add, Fin.val_mul, Fin.val_mul] at this
    have h2 : (7 : Fin P).val = 7 % P := rfl
    rw [h2, Nat.mod_mul_mod, Nat.mod_add_mod, Nat.add_mod_mod] at this
    exact sev_nat hP h3 h7 hk x.val this

theorem no_root : NT.pm 115792089237316195423570985008687907853269984665640564039457584007908834671663 256 (115792089237316195423570985008687907853269984665640564039457584007908834671663 - 7) 38597363079105398474523661669562635951089994888546854679819194669302944890554 1 ≠ 1 := by decide +kernel
theorem pm_ne {P c k : Nat} (hc : c < 2 ^ k) (h1 : 1 < P) (h : NT.pm P k (P - 7) c 1 ≠ 1) : (P - 7) ^ c % P ≠ 1 := fun e => h (by rw [NT.pm_eq P k _ c 1 hc h1, Nat.one_mul]; exact e)

theorem cur : ∃ (P : Nat) (_ : NeZero P), P = 115792089237316195423570985008687907853269984665640564039457584007908834671663 ∧ Cur P := by
  have hp := NT.pP
  have hk := no_root
  have h3 : 115792089237316195423570985008687907853269984665640564039457584007908834671663 = 3 * 38597363079105398474523661669562635951089994888546854679819194669302944890554 + 1 := by decide +kernel
  have hc : 38597363079105398474523661669562635951089994888546854679819194669302944890554 < 2 ^ 256 := by decide +kernel
  have h7 : 7 < 115792089237316195423570985008687907853269984665640564039457584007908834671663 := by decide +kernel
  generalize 38597363079105398474523661669562635951089994888546854679819194669302944890554 = c at *
  generalize 115792089237316195423570985008687907853269984665640564039457584007908834671663 = P at *
  have hz : NeZero P := ⟨by omega⟩
  exact ⟨P, hz, rfl, cur_of hp h3 h7 (pm_ne hc (by omega) hk)⟩
end Go.Proofs.Ytdeidgbknlmhjab.EC
