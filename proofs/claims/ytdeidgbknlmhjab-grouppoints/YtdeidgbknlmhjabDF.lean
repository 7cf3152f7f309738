import Derived.Test.YtdeidgbknlmhjabDE
import Derived.Test.YtdeidgbknlmhjabR0
import Derived.Test.YtdeidgbknlmhjabEC9
namespace Go.Proofs.Ytdeidgbknlmhjab
open Go.RowKit Go.Sort Go.Deep

theorem fl3 : ∃ (P : Nat) (_ : NeZero P), Fl3 P := by
  obtain ⟨P, hz, hP, hc⟩ := EC.cur
  have h0 : P = Go.Proofs.Ytdeidgbknlmhjab.p0 := by rw [hP]; decide +kernel
  have hg := gap0
  have hr := refP0
  have h2 : 2 ≤ Go.Proofs.Ytdeidgbknlmhjab.p0 % 18446744073709551616 := by decide +kernel
  have h4 : Go.Proofs.Ytdeidgbknlmhjab.p0 / 4 % 18446744073709551616 < 18446744073709551615 := by decide +kernel
  have h3 : Go.Proofs.Ytdeidgbknlmhjab.p0 % 4 = 3 := by decide +kernel
  have h7 : 7 < Go.Proofs.Ytdeidgbknlmhjab.p0 := by decide +kernel
  rw [← h0] at hg hr h2 h4 h3 h7
  exact ⟨P, hz, ⟨⟨hg, hc, h2, h4, h3, h7⟩, hr⟩⟩
theorem p1_top : Go.Proofs.Ytdeidgbknlmhjab.p1 ≤ top := by decide +kernel
set_option maxHeartbeats 2000000 in
theorem points_any (a b c : ByteArray) (w0 : World) :
    Calls Try.prog 7 #[.string a, .string b, .string c] w0 fun e w' => e = .returned (.bool true) ∧ Below w0.heap.size w0 w' := by
  by_cases ha : a.size ≤ 4096
  · by_cases hb : b.size ≤ 4096
    · by_cases hc : c.size ≤ 4096
      · obtain ⟨P, hz, C⟩ := fl3
        exact points_all C gap1 p1_top refP1 a b c ha hb hc w0
      · have g1 : ¬ (4096 : Int) < (a.size : Int) := by omega
        have g2 : ¬ (4096 : Int) < (b.size : Int) := by omega
        have g3 : (4096 : Int) < (c.size : Int) := by omega
        go_enter Try.func7, Try.ntmps7
        go_wp2
        go_ret
        exact ⟨rfl, Below.refl _ _⟩
    · have g1 : ¬ (4096 : Int) < (a.size : Int) := by omega
      have g2 : (4096 : Int) < (b.size : Int) := by omega
      go_enter Try.func7, Try.ntmps7
      go_wp2
      go_ret
      exact ⟨rfl, Below.refl _ _⟩
  · have g1 : (4096 : Int) < (a.size : Int) := by omega
    go_enter Try.func7, Try.ntmps7
    go_wp2
    go_ret
    exact ⟨rfl, Below.refl _ _⟩
end Go.Proofs.Ytdeidgbknlmhjab
