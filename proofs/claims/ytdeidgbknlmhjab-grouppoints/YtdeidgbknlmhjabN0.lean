import Derived.Test.YtdeidgbknlmhjabH1
namespace Go.Proofs.Ytdeidgbknlmhjab
open Go.RowKit Go.Sort Go.Deep

/-- A slice of 32 bytes of its own, from block B on: the number n. -/
def IsBytes (W : World) (B : Nat) (v : Value) (n : Nat) : Prop :=
  ∃ g a b c d : Nat, v = .slice (some ⟨g, 0, none⟩) 32 32 ∧ B ≤ g ∧ Four (.agg #[.int .u64 (a : Int), .int .u64 (b : Int), .int .u64 (c : Int), .int .u64 (d : Int)]) n ∧ Holds encB W g 0 (be32 a b c d)

theorem IsBytes.call {W w1 : World} {B n : Nat} {v : Value} (h : IsBytes W B v n) (hb : Below W.heap.size W w1) : IsBytes w1 B v n := by
  obtain ⟨g, a, b, c, d, h1, h2, h3, h4⟩ := h
  exact ⟨g, a, b, c, d, h1, h2, h3, Holds.below h4 hb (Holds.lt h4 (by rw [be32_size]; omega))⟩
theorem IsBytes.drew {W : World} {B n : Nat} {v : Value} (h : IsBytes W B v n) : IsBytes W.drew B v n := by
  obtain ⟨g, a, b, c, d, h1, h2, h3, h4⟩ := h
  exact ⟨g, a, b, c, d, h1, h2, h3, Holds.drew h4⟩
theorem IsBytes.mono {W : World} {B B' n : Nat} {v : Value} (h : IsBytes W B v n) (hb : B' ≤ B) : IsBytes W B' v n := by
  obtain ⟨g, a, b, c, d, h1, h2, h3, h4⟩ := h
  exact ⟨g, a, b, c, d, h1, Nat.le_trans hb h2, h3, h4⟩

theorem bytes_of (x : Value) (m : Nat) (w : World) (hx : Four x m) :
    Calls Try.prog 51 #[x] w (Ret fun e w' => Below w.heap.size w w' ∧ IsBytes w' w.heap.size e m) := by
  refine (Bytes_any x m w hx).mono ?_
  rintro e w' ⟨v, rfl, hb, g, a, b, c, d, rfl, hg, rfl, hH⟩
  exact ⟨_, rfl, hb, g, a, b, c, d, rfl, hg, hx, hH⟩

end Go.Proofs.Ytdeidgbknlmhjab
