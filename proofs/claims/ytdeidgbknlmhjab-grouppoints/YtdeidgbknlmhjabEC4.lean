import Derived.Test.YtdeidgbknlmhjabEC3
namespace Go.Proofs.Ytdeidgbknlmhjab.EC

variable {P : Nat} [NeZero P]

theorem neg_on {a : Pt P} (h : On a) : On (neg a) := by
  rcases a with _ | ⟨x, y⟩
  · trivial
  · have h' : y ^ 2 = x ^ 3 + 7 := h
    show (-y) ^ 2 = x ^ 3 + 7
    grobner
theorem neg_neg' (a : Pt P) : neg (neg a) = a := by
  rcases a with _ | ⟨x, y⟩
  · rfl
  · show some (x, - -y) = some (x, y)
    have : - -y = y := by grobner
    rw [this]
theorem add_neg (a : Pt P) : add a (neg a) = none := by
  rcases a with _ | ⟨x, y⟩
  · rfl
  · exact add_opp ⟨rfl, rfl⟩
theorem Line.neg {x1 y1 x2 y2 l : Fin P} (L : Line x1 y1 x2 y2 l) : Line x1 (-y1) x2 (-y2) (-l) := by
  obtain ⟨a, b⟩ := L
  exact ⟨by grobner, by grobner⟩
theorem neg_add (h : NT.IsP P) (h2 : (2 : Fin P) ≠ 0) {a b : Pt P} (ha : On a) (hb : On b) : neg (add a b) = add (neg a) (neg b) := by
  rcases a with _ | ⟨x1, y1⟩
  · rfl
  · rcases b with _ | ⟨x2, y2⟩
    · rfl
    · by_cases ho : x1 = x2 ∧ y2 = -y1
      · rw [add_opp ho]
        exact (add_opp ⟨ho.1, by rw [ho.2]⟩).symm
      · have L := slope_line h h2 ha hb ho
        have ho' : ¬ (x1 = x2 ∧ -y2 = - -y1) := fun e => ho ⟨e.1, by have := e.2; grobner⟩
        rw [add_line h h2 ha hb ho L]
        refine Eq.trans ?_ (add_line h h2 (neg_on (a := some (x1, y1)) ha) (neg_on (a := some (x2, y2)) hb) ho' L.neg).symm
        generalize slope x1 y1 x2 y2 = l
        unfold third
        show some (l ^ 2 - x1 - x2, -(l * (x1 - (l ^ 2 - x1 - x2)) - y1)) = some ((-l) ^ 2 - x1 - x2, -l * (x1 - ((-l) ^ 2 - x1 - x2)) - -y1)
        have e1 : (-l) ^ 2 = l ^ 2 := by grobner
        rw [e1]
        have e2 : -(l * (x1 - (l ^ 2 - x1 - x2)) - y1) = -l * (x1 - (l ^ 2 - x1 - x2)) - -y1 := by grobner
        rw [e2]

theorem Line.back {x2 y2 x3 y3 l x5 y5 : Fin P} (L : Line x2 y2 x3 y3 l) (e5 : x5 = l ^ 2 - x2 - x3) (f5 : y5 = l * (x2 - x5) - y2) : Line x2 (-y2) x5 y5 (-l) := by
  obtain ⟨a, b⟩ := L
  subst f5 e5 a
  exact ⟨by grobner, by grobner (ringSteps := 10000000)⟩

theorem back_x {x2 x3 x5 l : Fin P} (e5 : x5 = l ^ 2 - x2 - x3) : (-l) ^ 2 - x2 - x5 = x3 := by
  subst e5
  grobner
theorem back_y {x2 x3 y2 y3 l : Fin P} (a : y3 = y2 + l * (x3 - x2)) : -l * (x2 - x3) - -y2 = y3 := by
  subst a
  grobner
theorem no_y {x y : Fin P} (z : y = 0) (hb : y ^ 2 = x ^ 3 + 7) : x ^ 3 + 7 = 0 := by
  have e : y * y = 0 := by rw [z]; exact Fin.ext (by rw [Fin.val_mul, val_zero]; simp)
  grobner

/-- -B + (B + C) is C. -/
theorem neg_add_add (h : NT.IsP P) (h2 : (2 : Fin P) ≠ 0) (h7 : ∀ x : Fin P, x ^ 3 + 7 ≠ 0) {b c : Pt P} (hb : On b) (hc : On c) : add (neg b) (add b c) = c := by
  rcases b with _ | ⟨x2, y2⟩
  · rfl
  · rcases c with _ | ⟨x3, y3⟩
    · rw [add_none]
      exact add_opp ⟨rfl, by grobner⟩
    · have hb' : y2 ^ 2 = x2 ^ 3 + 7 := hb
      have hc' : y3 ^ 2 = x3 ^ 3 + 7 := hc
      by_cases ho : x2 = x3 ∧ y3 = -y2
      · rw [add_opp ho, add_none, ho.1, ho.2]
        rfl
      · have L := slope_line h h2 hb hc ho
        have hon := on_curve x2 y2 x3 y3 _ _ _ hb hc L rfl rfl
        rw [add_line h h2 hb hc ho L]
        generalize slope x2 y2 x3 y3 = l at L hon
        obtain ⟨x5, e5⟩ : ∃ x5, x5 = l ^ 2 - x2 - x3 := ⟨_, rfl⟩
        unfold third
        rw [← e5] at hon ⊢
        obtain ⟨y5, f5⟩ : ∃ y5, y5 = l * (x2 - x5) - y2 := ⟨_, rfl⟩
        rw [← f5] at hon ⊢
        have M := L.back e5 f5
        have a := L.go
        clear L
        have ho' : ¬ (x2 = x5 ∧ y5 = - -y2) := fun e => by
          obtain ⟨u, v⟩ := e
          have z : 2 * y2 = 0 := by
            clear hon hb' hc' h7 M ho a e5 h2
            grobner
          rcases nzd h z with z | z
          · exact h2 z
          · exact h7 x2 (no_y z hb')
        refine (add_line h h2 (neg_on (a := some (x2, y2)) hb) hon ho' M).trans ?_
        unfold third
        rw [back_x e5, back_y a]
end Go.Proofs.Ytdeidgbknlmhjab.EC
