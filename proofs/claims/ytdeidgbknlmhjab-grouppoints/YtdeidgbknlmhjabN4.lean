import Derived.Test.YtdeidgbknlmhjabB1
namespace Go.Proofs.Ytdeidgbknlmhjab
open Go.RowKit Go.Sort

theorem Known_law (k : Int) (w : World) : Calls Try.prog 15 #[.int .i64 k] w fun e w' => e = .returned (.bool (decide (k = 0 ∨ k = 1))) ∧ w' = w := by
  by_cases h0 : k = 0
  · subst h0
    go_enter Try.func15, Try.ntmps15
    go_wp2
    go_ret
    exact ⟨rfl, rfl⟩
  · by_cases h1 : k = 1
    · subst h1
      go_enter Try.func15, Try.ntmps15
      go_wp2
      go_ret
      exact ⟨rfl, rfl⟩
    · have d0 : decide (k = 0) = false := decide_eq_false h0
      have d1 : decide (k = 1) = false := decide_eq_false h1
      have d2 : decide (k = 0 ∨ k = 1) = false := decide_eq_false (by omega)
      rw [d2]
      clear d2
      go_enter Try.func15, Try.ntmps15
      go_wp2
      go_ret
      exact ⟨by simp [h0, h1], rfl⟩
end Go.Proofs.Ytdeidgbknlmhjab
