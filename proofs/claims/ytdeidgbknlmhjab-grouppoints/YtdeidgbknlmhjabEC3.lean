import Derived.Test.YtdeidgbknlmhjabEC2
namespace Go.Proofs.Ytdeidgbknlmhjab.EC

variable {P : Nat} [NeZero P]

/-- A point, or nothing. -/
abbrev Pt (P : Nat) := Option (Fin P × Fin P)
def On : Pt P → Prop
  | none => True
  | some (x, y) => y ^ 2 = x ^ 3 + 7
def neg : Pt P → Pt P
  | none => none
  | some (x, y) => some (x, -y)
def slope (x1 y1 x2 y2 : Fin P) : Fin P := if x1 = x2 then 3 * x1 ^ 2 * inv (2 * y1) else (y2 - y1) * inv (x2 - x1)
/-- What a slope makes of two points. -/
def third (x1 y1 x2 l : Fin P) : Pt P := some (l ^ 2 - x1 - x2, l * (x1 - (l ^ 2 - x1 - x2)) - y1)
def add : Pt P → Pt P → Pt P
  | none, b => b
  | a, none => a
  | some (x1, y1), some (x2, y2) => if x1 = x2 ∧ y2 = -y1 then none else third x1 y1 x2 (slope x1 y1 x2 y2)

theorem same_y (h : NT.IsP P) {x y1 y2 : Fin P} (h1 : y1 ^ 2 = x ^ 3 + 7) (h2 : y2 ^ 2 = x ^ 3 + 7) (ho : ¬ y2 = -y1) : y2 = y1 := by
  have e : (y2 - y1) * (y2 + y1) = 0 := by grobner
  rcases nzd h e with e | e
  · grobner
  · exact absurd (by grobner) ho
theorem twice_ne {x y1 : Fin P} (h : NT.IsP P) (h2 : (2 : Fin P) ≠ 0) (ho : ¬ (x = x ∧ y1 = -y1)) : 2 * y1 ≠ 0 := fun e => by
  rcases nzd h e with e | e
  · exact h2 e
  · exact ho ⟨rfl, by rw [e]; grobner⟩

theorem slope_line (h : NT.IsP P) (h2 : (2 : Fin P) ≠ 0) {x1 y1 x2 y2 : Fin P} (o1 : y1 ^ 2 = x1 ^ 3 + 7) (o2 : y2 ^ 2 = x2 ^ 3 + 7) (ho : ¬ (x1 = x2 ∧ y2 = -y1)) : Line x1 y1 x2 y2 (slope x1 y1 x2 y2) := by
  unfold slope
  by_cases hx : x1 = x2
  · subst hx
    rw [if_pos rfl]
    have hy := same_y h o1 o2 (fun e => ho ⟨rfl, e⟩)
    subst hy
    have hi := inv_mul h (twice_ne h h2 ho)
    generalize inv (2 * y2) = i at hi
    exact ⟨by grobner, by grobner⟩
  · rw [if_neg hx]
    have hd : x2 - x1 ≠ 0 := fun e => hx (by grobner)
    have hi := inv_mul h hd
    generalize inv (x2 - x1) = i at hi
    refine ⟨by grobner, cancel h hd (by grobner)⟩
theorem line_unique (h : NT.IsP P) (h2 : (2 : Fin P) ≠ 0) {x1 y1 x2 y2 l m : Fin P} (o1 : y1 ^ 2 = x1 ^ 3 + 7) (o2 : y2 ^ 2 = x2 ^ 3 + 7) (ho : ¬ (x1 = x2 ∧ y2 = -y1)) (L : Line x1 y1 x2 y2 l) (M : Line x1 y1 x2 y2 m) : l = m := by
  obtain ⟨a1, b1⟩ := L
  obtain ⟨a2, b2⟩ := M
  by_cases hx : x1 = x2
  · subst hx
    have hy := same_y h o1 o2 (fun e => ho ⟨rfl, e⟩)
    subst hy
    exact cancel h (twice_ne h h2 ho) (by grobner)
  · have hd : x2 - x1 ≠ 0 := fun e => hx (by grobner)
    exact cancel h hd (by grobner)
theorem add_line (h : NT.IsP P) (h2 : (2 : Fin P) ≠ 0) {x1 y1 x2 y2 l : Fin P} (o1 : y1 ^ 2 = x1 ^ 3 + 7) (o2 : y2 ^ 2 = x2 ^ 3 + 7) (ho : ¬ (x1 = x2 ∧ y2 = -y1)) (L : Line x1 y1 x2 y2 l) : add (some (x1, y1)) (some (x2, y2)) = third x1 y1 x2 l := by
  show (if x1 = x2 ∧ y2 = -y1 then none else third x1 y1 x2 (slope x1 y1 x2 y2)) = _
  rw [if_neg ho, line_unique h h2 o1 o2 ho (slope_line h h2 o1 o2 ho) L]
theorem add_opp {x1 y1 x2 y2 : Fin P} (ho : x1 = x2 ∧ y2 = -y1) : add (some (x1, y1)) (some (x2, y2)) = none := by
  show (if x1 = x2 ∧ y2 = -y1 then none else third x1 y1 x2 (slope x1 y1 x2 y2)) = _
  rw [if_pos ho]
theorem add_none (a : Pt P) : add a none = a := by cases a <;> rfl
theorem Line.swap {x1 y1 x2 y2 l : Fin P} (L : Line x1 y1 x2 y2 l) : Line x2 y2 x1 y1 l := by
  obtain ⟨a, b⟩ := L
  exact ⟨by grobner, by grobner⟩
theorem third_swap {x1 y1 x2 y2 l : Fin P} (L : Line x1 y1 x2 y2 l) : third x1 y1 x2 l = third x2 y2 x1 l := by
  obtain ⟨a, b⟩ := L
  unfold third
  have e1 : l ^ 2 - x1 - x2 = l ^ 2 - x2 - x1 := by grobner
  have e2 : l * (x1 - (l ^ 2 - x1 - x2)) - y1 = l * (x2 - (l ^ 2 - x2 - x1)) - y2 := by grobner
  rw [e2, e1]
theorem add_comm (h : NT.IsP P) (h2 : (2 : Fin P) ≠ 0) (a b : Pt P) (ha : On a) (hb : On b) : add a b = add b a := by
  rcases a with _ | ⟨x1, y1⟩
  · rw [add_none]; rfl
  · rcases b with _ | ⟨x2, y2⟩
    · rfl
    · by_cases ho : x1 = x2 ∧ y2 = -y1
      · rw [add_opp ho, add_opp ⟨ho.1.symm, by rw [ho.2]; grobner⟩]
      · have ho' : ¬ (x2 = x1 ∧ y1 = -y2) := fun e => ho ⟨e.1.symm, by rw [e.2]; grobner⟩
        have L := slope_line h h2 ha hb ho
        rw [add_line h h2 ha hb ho L, add_line h h2 hb ha ho' L.swap, third_swap L]
theorem add_on (h : NT.IsP P) (h2 : (2 : Fin P) ≠ 0) (a b : Pt P) (ha : On a) (hb : On b) : On (add a b) := by
  rcases a with _ | ⟨x1, y1⟩
  · exact hb
  · rcases b with _ | ⟨x2, y2⟩
    · exact ha
    · by_cases ho : x1 = x2 ∧ y2 = -y1
      · rw [add_opp ho]; trivial
      · have L := slope_line h h2 ha hb ho
        rw [add_line h h2 ha hb ho L]
        exact on_curve x1 y1 x2 y2 _ _ _ ha hb L rfl rfl
end Go.Proofs.Ytdeidgbknlmhjab.EC
