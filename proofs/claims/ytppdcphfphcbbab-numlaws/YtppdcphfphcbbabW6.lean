import Derived.Test.YtppdcphfphcbbabW4
import Derived.Test.YtppdcphfphcbbabW5
namespace Go.Proofs.Ytppdcphfphcbbab
open Go.RowKit Go.Sort Go.Deep

theorem laws_prime (kk : Nat) (h : kk < 2) : ∃ g0 g1 g2 P, Gap g0 g1 g2 P ∧ PrimeOf (kk : Int) g0 g1 g2 ∧ NT.IsP P ∧ 2 ≤ P % 18446744073709551616 ∧ (kk = 0 → P = Go.Proofs.Ytppdcphfphcbbab.p0) := by
  have : kk = 0 ∨ kk = 1 := by omega
  rcases this with rfl | rfl
  · exact ⟨_, _, _, _, gap0, primeOf_0, NT.pP, by decide +kernel, fun _ => rfl⟩
  · exact ⟨_, _, _, _, gap1, primeOf_1, NT.pN, by decide +kernel, fun h => by omega⟩

set_option maxHeartbeats 2000000 in
set_option maxRecDepth 100000 in
theorem laws_any (kind : Int) (hkm : -9223372036854775808 ≤ kind) (hkM : kind ≤ 9223372036854775807) (s t u : ByteArray) (w : World) :
    Calls Try.prog 6 #[.int .i64 kind, .string s, .string t, .string u] w fun e w' => e = .returned (.bool true) ∧ Below w.heap.size w w' := by
  by_cases hs : s.size ≤ 1024
  · by_cases ht : t.size ≤ 1024
    · by_cases hu : u.size ≤ 1024
      · by_cases hk : kind < 0
        · obtain ⟨kk, hkk⟩ : ∃ kk : Nat, kk = (-(kind + 1)).toNat % 2 := ⟨_, rfl⟩
          have ekk : -((kind + 1).tmod 2) = (kk : Int) := by
            rw [← Int.neg_tmod, Int.tmod_eq_emod_of_nonneg (by omega)]
            omega
          obtain ⟨g0, g1, g2, P, hG, hp, hIP, hlow, hp0⟩ := laws_prime kk (by omega)
          exact laws_neg kind hk hkm hkM s t u hs ht hu w kk (by omega) ekk g0 g1 g2 P hG hp hIP hlow hp0
        · obtain ⟨kk, hkk⟩ : ∃ kk : Nat, kk = kind.toNat % 2 := ⟨_, rfl⟩
          have ekk : kind.tmod 2 = (kk : Int) := by
            rw [Int.tmod_eq_emod_of_nonneg (by omega)]
            omega
          obtain ⟨g0, g1, g2, P, hG, hp, hIP, hlow, hp0⟩ := laws_prime kk (by omega)
          exact laws_pos kind hk hkm hkM s t u hs ht hu w kk (by omega) ekk g0 g1 g2 P hG hp hIP hlow hp0
      · have h1 : ¬ (1024 : Int) < (s.size : Int) := by omega
        have h2 : ¬ (1024 : Int) < (t.size : Int) := by omega
        have h3 : (1024 : Int) < (u.size : Int) := by omega
        go_enter Try.func6, Try.ntmps6
        go_wp2
        go_ret
        exact ⟨rfl, Below.refl _ _⟩
    · have h1 : ¬ (1024 : Int) < (s.size : Int) := by omega
      have h2 : (1024 : Int) < (t.size : Int) := by omega
      go_enter Try.func6, Try.ntmps6
      go_wp2
      go_ret
      exact ⟨rfl, Below.refl _ _⟩
  · have h1 : (1024 : Int) < (s.size : Int) := by omega
    go_enter Try.func6, Try.ntmps6
    go_wp2
    go_ret
    exact ⟨rfl, Below.refl _ _⟩
end Go.Proofs.Ytppdcphfphcbbab
