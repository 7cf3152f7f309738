import Derived.Test.YtdeidgbknlmhjabNT
namespace Go.Proofs.Ytdeidgbknlmhjab.EC

/-- A line through two points of the curve (or at one, twice): its slope l. -/
structure Line {P : Nat} [NeZero P] (x1 y1 x2 y2 l : Fin P) : Prop where
  go : y2 = y1 + l * (x2 - x1)
  on : l * (y1 + y2) = x1 ^ 2 + x1 * x2 + x2 ^ 2

variable {P : Nat} [NeZero P]

theorem on_curve (x1 y1 x2 y2 l x4 y4 : Fin P) (h1 : y1 ^ 2 = x1 ^ 3 + 7) (h2 : y2 ^ 2 = x2 ^ 3 + 7) (hl : Line x1 y1 x2 y2 l) (hx : x4 = l ^ 2 - x1 - x2) (hy : y4 = l * (x1 - x4) - y1) : y4 ^ 2 = x4 ^ 3 + 7 := by
  obtain ⟨e, h⟩ := hl
  subst hy hx e
  grobner

set_option maxHeartbeats 40000000 in
set_option maxRecDepth 100000 in
theorem assoc_x (x1 y1 x2 x3 l1 l2 y2 y3 x4 y4 x5 y5 : Fin P) (L1 : Line x1 y1 x2 y2 l1) (L2 : Line x2 y2 x3 y3 l2)
    (e4 : x4 = l1 ^ 2 - x1 - x2) (f4 : y4 = l1 * (x1 - x4) - y1) (e5 : x5 = l2 ^ 2 - x2 - x3) (f5 : y5 = l2 * (x2 - x5) - y2) :
    ((y4 - y3) ^ 2 - (x4 + x3) * (x4 - x3) ^ 2) * (x5 - x1) ^ 2 = ((y5 - y1) ^ 2 - (x1 + x5) * (x5 - x1) ^ 2) * (x4 - x3) ^ 2 := by
  obtain ⟨e2, h2⟩ := L1
  obtain ⟨e3, h3⟩ := L2
  subst f4 f5 e4 e5 e3 e2
  grobner

set_option maxHeartbeats 40000000 in
set_option maxRecDepth 100000 in
theorem assoc_y (x1 y1 x2 x3 l1 l2 y2 y3 x4 y4 x5 y5 : Fin P) (L1 : Line x1 y1 x2 y2 l1) (L2 : Line x2 y2 x3 y3 l2)
    (e4 : x4 = l1 ^ 2 - x1 - x2) (f4 : y4 = l1 * (x1 - x4) - y1) (e5 : x5 = l2 ^ 2 - x2 - x3) (f5 : y5 = l2 * (x2 - x5) - y2) :
    ((y4 - y3) ^ 2 - (x3 + x4) * (x4 - x3) ^ 2) * ((y5 - y1) * (x4 - x3) - (y4 - y3) * (x5 - x1)) + (x4 - x3) ^ 2 * (((y4 - y3) * x3 - y3 * (x4 - x3)) * (x5 - x1) - ((y5 - y1) * x1 - y1 * (x5 - x1)) * (x4 - x3)) = 0 := by
  obtain ⟨e2, h2⟩ := L1
  obtain ⟨e3, h3⟩ := L2
  subst f4 f5 e4 e5 e3 e2
  grobner (ringSteps := 100000000)

set_option maxHeartbeats 40000000 in
set_option maxRecDepth 100000 in
/-- Where C = A + B. -/
theorem assoc_x2 (x1 y1 x2 x3 l1 l2 y2 y3 x5 y5 : Fin P) (L1 : Line x1 y1 x2 y2 l1) (L2 : Line x2 y2 x3 y3 l2)
    (e4 : x3 = l1 ^ 2 - x1 - x2) (f4 : y3 = l1 * (x1 - x3) - y1) (e5 : x5 = l2 ^ 2 - x2 - x3) (f5 : y5 = l2 * (x2 - x5) - y2) :
    (9 * x3 ^ 4 - 8 * x3 * y3 ^ 2) * (x5 - x1) ^ 2 = ((y5 - y1) ^ 2 - (x1 + x5) * (x5 - x1) ^ 2) * (4 * y3 ^ 2) := by
  obtain ⟨e2, h2⟩ := L1
  obtain ⟨e3, h3⟩ := L2
  subst f5 e5 f4 e4 e2
  grobner (ringSteps := 100000000)

set_option maxHeartbeats 40000000 in
set_option maxRecDepth 100000 in
theorem assoc_y2 (x1 y1 x2 x3 l1 l2 y2 y3 x5 y5 : Fin P) (L1 : Line x1 y1 x2 y2 l1) (L2 : Line x2 y2 x3 y3 l2)
    (e4 : x3 = l1 ^ 2 - x1 - x2) (f4 : y3 = l1 * (x1 - x3) - y1) (e5 : x5 = l2 ^ 2 - x2 - x3) (f5 : y5 = l2 * (x2 - x5) - y2) :
    (3 * x3 ^ 2 * (x3 * (4 * y3 ^ 2) - (9 * x3 ^ 4 - 8 * x3 * y3 ^ 2)) - 2 * y3 ^ 2 * (4 * y3 ^ 2)) * (x5 - x1) = ((y5 - y1) * (x1 * (4 * y3 ^ 2) - (9 * x3 ^ 4 - 8 * x3 * y3 ^ 2)) - y1 * (x5 - x1) * (4 * y3 ^ 2)) * (2 * y3) := by
  obtain ⟨e2, h2⟩ := L1
  obtain ⟨e3, h3⟩ := L2
  subst f5 e5 f4 e4 e2
  grobner (ringSteps := 100000000)

end Go.Proofs.Ytdeidgbknlmhjab.EC
