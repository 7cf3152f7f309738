import Derived.Test.YtdeidgbknlmhjabC3
namespace Go.Proofs.Ytdeidgbknlmhjab
open Go.RowKit Go.Sort

/-- The three words of a prime's gap. -/
structure Gap (g0 g1 g2 P : Nat) : Prop where
  h0 : g0 < 18446744073709551616
  h1 : g1 < 18446744073709551616
  h2 : g2 < 18446744073709551616
  hor : (g1 = 0 ∧ g2 = 0) ∨ ∃ o : Nat, bits .or .u64 (g1 : Int) (g2 : Int) = (o : Int) ∧ o ≠ 0
  hP : P + val g0 g1 g2 0 = top
  hP2 : top < 2 * P
  hg : 0 < val g0 g1 g2 0

theorem blcall {k a b c d : Nat} {w W w1 : World} (h : Hid (Below k w W)) (pr : At4 W k a b c d) (hb : Below W.heap.size W w1) : Hid (Below k w w1) := h.out.trans (hb.mono (Nat.le_of_lt pr.lt))

end Go.Proofs.Ytdeidgbknlmhjab
