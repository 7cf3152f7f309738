import Derived.Test.YtdeidgbknlmhjabEC4
namespace Go.Proofs.Ytdeidgbknlmhjab.EC

variable {P : Nat} [NeZero P]

theorem gen_x (h : NT.IsP P) {x1 x3 x4 x5 y1 y3 y4 y5 l3 l4 : Fin P} (d3 : x4 - x3 ≠ 0) (d4 : x5 - x1 ≠ 0) (g3 : y4 - y3 = l3 * (x4 - x3)) (g4 : y5 - y1 = l4 * (x5 - x1))
    (hx : ((y4 - y3) ^ 2 - (x4 + x3) * (x4 - x3) ^ 2) * (x5 - x1) ^ 2 = ((y5 - y1) ^ 2 - (x1 + x5) * (x5 - x1) ^ 2) * (x4 - x3) ^ 2) : l3 ^ 2 - x4 - x3 = l4 ^ 2 - x1 - x5 := by
  rw [g3, g4] at hx
  generalize x4 - x3 = a at d3 hx
  generalize x5 - x1 = b at d4 hx
  clear g3 g4
  refine cancel h (mul_ne h (mul_ne h d3 d3) (mul_ne h d4 d4)) ?_
  grobner
theorem gen_y (h : NT.IsP P) {x1 x3 x4 x5 y1 y3 y4 y5 l3 l4 X : Fin P} (d3 : x4 - x3 ≠ 0) (d4 : x5 - x1 ≠ 0) (g3 : y4 - y3 = l3 * (x4 - x3)) (g4 : y5 - y1 = l4 * (x5 - x1)) (hX : l3 ^ 2 - x4 - x3 = X)
    (hy : ((y4 - y3) ^ 2 - (x3 + x4) * (x4 - x3) ^ 2) * ((y5 - y1) * (x4 - x3) - (y4 - y3) * (x5 - x1)) + (x4 - x3) ^ 2 * (((y4 - y3) * x3 - y3 * (x4 - x3)) * (x5 - x1) - ((y5 - y1) * x1 - y1 * (x5 - x1)) * (x4 - x3)) = 0) : l3 * (x4 - X) - y4 = l4 * (x1 - X) - y1 := by
  rw [g3, g4] at hy
  have e4 : y4 = y3 + l3 * (x4 - x3) := by clear hy hX; grobner
  have e5 : x4 + x3 = l3 ^ 2 - X := by clear hy; grobner
  rw [e4]
  obtain ⟨a, ha⟩ : ∃ a, x4 - x3 = a := ⟨_, rfl⟩
  rw [ha] at d3 hy ⊢
  generalize x5 - x1 = b at d4 hy
  have e6 : (l4 * (x1 - X) - y1 - (l3 * (x3 - X) - y3)) * (a * a * a * b) = 0 := by
    have e7 : x3 + x4 = l3 ^ 2 - X := by rw [← e5]; clear hy; grobner
    rw [e7] at hy
    clear e5 e7 e4 hX g3 g4 ha
    grobner
  rcases nzd h e6 with e | e
  · have e8 : x4 = x3 + a := by clear hy e6 e e5 e4 hX g3 g4; grobner
    rw [e8]
    clear hy e6 e5 e4 hX g3 g4 ha e8
    grobner
  · exact absurd e (mul_ne h (mul_ne h (mul_ne h d3 d3) d3) d4)

theorem dbl_x (h : NT.IsP P) {x1 x3 x5 y1 y3 y5 l3 l4 : Fin P} (t3 : 2 * y3 ≠ 0) (d4 : x5 - x1 ≠ 0) (g3 : l3 * (2 * y3) = 3 * x3 ^ 2) (g4 : y5 - y1 = l4 * (x5 - x1))
    (hx : (9 * x3 ^ 4 - 8 * x3 * y3 ^ 2) * (x5 - x1) ^ 2 = ((y5 - y1) ^ 2 - (x1 + x5) * (x5 - x1) ^ 2) * (4 * y3 ^ 2)) : l3 ^ 2 - x3 - x3 = l4 ^ 2 - x1 - x5 := by
  rw [g4] at hx
  generalize x5 - x1 = b at d4 hx
  clear g4
  refine cancel h (mul_ne h (mul_ne h t3 t3) (mul_ne h d4 d4)) ?_
  have e : 9 * x3 ^ 4 = (l3 * (2 * y3)) * (l3 * (2 * y3)) := by rw [g3]; clear hx g3; grobner
  rw [e] at hx
  clear e g3
  grobner
theorem dbl_y (h : NT.IsP P) {x1 x3 x5 y1 y3 y5 l3 l4 X : Fin P} (t3 : 2 * y3 ≠ 0) (d4 : x5 - x1 ≠ 0) (g3 : l3 * (2 * y3) = 3 * x3 ^ 2) (g4 : y5 - y1 = l4 * (x5 - x1)) (hX : l3 ^ 2 - x3 - x3 = X)
    (hy : (3 * x3 ^ 2 * (x3 * (4 * y3 ^ 2) - (9 * x3 ^ 4 - 8 * x3 * y3 ^ 2)) - 2 * y3 ^ 2 * (4 * y3 ^ 2)) * (x5 - x1) = ((y5 - y1) * (x1 * (4 * y3 ^ 2) - (9 * x3 ^ 4 - 8 * x3 * y3 ^ 2)) - y1 * (x5 - x1) * (4 * y3 ^ 2)) * (2 * y3)) : l3 * (x3 - X) - y3 = l4 * (x1 - X) - y1 := by
  rw [g4] at hy
  generalize x5 - x1 = b at d4 hy
  clear g4
  have e : 9 * x3 ^ 4 - 8 * x3 * y3 ^ 2 = X * (4 * y3 ^ 2) := by
    have e1 : 9 * x3 ^ 4 = (l3 * (2 * y3)) * (l3 * (2 * y3)) := by rw [g3]; clear hy g3; grobner
    rw [e1, ← hX]
    clear hy e1 g3 hX
    grobner
  rw [e, ← g3] at hy
  clear e g3 hX
  refine cancel h (mul_ne h (mul_ne h (mul_ne h t3 t3) t3) d4) ?_
  grobner
end Go.Proofs.Ytdeidgbknlmhjab.EC
