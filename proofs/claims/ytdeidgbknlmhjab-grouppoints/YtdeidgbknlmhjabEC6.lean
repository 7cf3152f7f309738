import Derived.Test.YtdeidgbknlmhjabEC5
namespace Go.Proofs.Ytdeidgbknlmhjab.EC

variable {P : Nat} [NeZero P]

theorem sub_ne {a b : Fin P} (h : ¬ a = b) : a - b ≠ 0 := fun e => h (by grobner)
theorem Line.run {x1 y1 x2 y2 l : Fin P} (L : Line x1 y1 x2 y2 l) : y2 - y1 = l * (x2 - x1) ∧ y1 - y2 = l * (x1 - x2) := by
  obtain ⟨a, -⟩ := L
  exact ⟨by grobner, by grobner⟩
theorem Line.at {x y l : Fin P} (L : Line x y x y l) : l * (2 * y) = 3 * x ^ 2 := by
  obtain ⟨-, b⟩ := L
  grobner

theorem sq_mul {m l d : Fin P} (s : m ^ 2 = l ^ 2) : (m * d) ^ 2 = (l * d) ^ 2 := by grobner
theorem four_of {y1 y2 : Fin P} (s : (y1 - -y2) ^ 2 = (y1 - y2) ^ 2) : 4 * (y1 * y2) = 0 := by grobner
theorem m_sq {m l x1 x2 x3 : Fin P} (r : m ^ 2 - x2 - x1 = x3) (e : x3 = l ^ 2 - x1 - x2) : m ^ 2 = l ^ 2 := by grobner
theorem sw_e {x l a b : Fin P} (e : x = l ^ 2 - a - b) : x = l ^ 2 - b - a := by grobner
theorem sw_f {x2 y2 x3 y3 x5 y5 l : Fin P} (L : Line x2 y2 x3 y3 l) (f : y5 = l * (x2 - x5) - y2) : y5 = l * (x3 - x5) - y3 := by
  obtain ⟨a, -⟩ := L
  grobner
theorem four_ne (h : NT.IsP P) (h2 : (2 : Fin P) ≠ 0) : (4 : Fin P) ≠ 0 := fun e => by
  have : (2 : Fin P) * 2 = 0 := by grobner
  rcases nzd h this with e | e <;> exact h2 e
theorem opp_swap {y z : Fin P} (e : y = -z) : z = -y := by grobner

/-- Where no sum is nothing, and A is not of the x of B + C. -/
theorem assoc_far (h : NT.IsP P) (h2 : (2 : Fin P) ≠ 0) {x1 y1 x2 y2 x3 y3 l1 l2 x4 y4 x5 y5 : Fin P} (o3 : y3 ^ 2 = x3 ^ 3 + 7) (o1 : y1 ^ 2 = x1 ^ 3 + 7)
    (L1 : Line x1 y1 x2 y2 l1) (L2 : Line x2 y2 x3 y3 l2) (e4 : x4 = l1 ^ 2 - x1 - x2) (f4 : y4 = l1 * (x1 - x4) - y1) (e5 : x5 = l2 ^ 2 - x2 - x3) (f5 : y5 = l2 * (x2 - x5) - y2)
    (o4 : y4 ^ 2 = x4 ^ 3 + 7) (o5 : y5 ^ 2 = x5 ^ 3 + 7) (h3 : ¬ (x4 = x3 ∧ y3 = -y4)) (h4 : ¬ (x1 = x5 ∧ y5 = -y1)) (hx : ¬ x5 = x1) :
    add (some (x4, y4)) (some (x3, y3)) = add (some (x1, y1)) (some (x5, y5)) := by
  have L3 := slope_line h h2 o4 o3 h3
  have L4 := slope_line h h2 o1 o5 h4
  rw [add_line h h2 o4 o3 h3 L3, add_line h h2 o1 o5 h4 L4]
  generalize slope x4 y4 x3 y3 = l3 at L3
  generalize slope x1 y1 x5 y5 = l4 at L4
  unfold third
  by_cases hd : x4 = x3
  · have hy := same_y h o4 (hd ▸ o3) (fun e => h3 ⟨hd, e⟩)
    subst hd hy
    have t := twice_ne (x := x4) h h2 h3
    have hX := dbl_x h t (sub_ne hx) L3.at L4.run.1 (assoc_x2 x1 y1 x2 x4 l1 l2 y2 y3 x5 y5 L1 L2 e4 f4 e5 f5)
    have hY := dbl_y h t (sub_ne hx) L3.at L4.run.1 rfl (assoc_y2 x1 y1 x2 x4 l1 l2 y2 y3 x5 y5 L1 L2 e4 f4 e5 f5)
    rw [hY, hX]
  · have hX := gen_x h (sub_ne hd) (sub_ne hx) L3.run.2 L4.run.1 (assoc_x x1 y1 x2 x3 l1 l2 y2 y3 x4 y4 x5 y5 L1 L2 e4 f4 e5 f5)
    have hY := gen_y h (sub_ne hd) (sub_ne hx) L3.run.2 L4.run.1 rfl (assoc_y x1 y1 x2 x3 l1 l2 y2 y3 x4 y4 x5 y5 L1 L2 e4 f4 e5 f5)
    rw [hY, hX]

/-- THE GROUP LAW: sums do not hang on brackets. -/
theorem add_assoc (h : NT.IsP P) (h2 : (2 : Fin P) ≠ 0) (h7 : ∀ x : Fin P, x ^ 3 + 7 ≠ 0) (a b c : Pt P) (ha : On a) (hb : On b) (hc : On c) : add (add a b) c = add a (add b c) := by
  have comm := fun (a b : Pt P) (ha : On a) (hb : On b) => add_comm h h2 a b ha hb
  have hab := add_on h h2 a b ha hb
  have hbc := add_on h h2 b c hb hc
  have n1 : ∀ {u v : Pt P}, On u → On v → add (neg u) (add u v) = v := fun hu hv => neg_add_add h h2 h7 hu hv
  by_cases z1 : b = neg a
  · subst z1
    rw [add_neg]
    have := n1 hb hc
    rw [neg_neg'] at this
    exact this.symm
  by_cases z2 : c = neg b
  · subst z2
    rw [add_neg, add_none, comm _ _ hab hc, comm a b ha hb]
    exact n1 hb ha
  by_cases z3 : c = neg (add a b)
  · subst z3
    rw [add_neg]
    have e : add b (neg (add a b)) = neg a := by
      rw [comm a b ha hb, neg_add h h2 hb ha]
      have := n1 (neg_on hb) (neg_on ha)
      rw [neg_neg'] at this
      exact this
    rw [e, add_neg]
  by_cases z4 : add b c = neg a
  · rw [z4, add_neg]
    have e : a = neg (add b c) := by rw [z4, neg_neg']
    have e2 : add a b = neg c := by
      rw [comm a b ha hb, e, neg_add h h2 hb hc]
      have := n1 (neg_on hb) (neg_on hc)
      rw [neg_neg'] at this
      exact this
    rw [e2, comm _ _ (neg_on hc) hc, add_neg]
  rcases a with _ | ⟨x1, y1⟩
  · rfl
  rcases b with _ | ⟨x2, y2⟩
  · rfl
  rcases c with _ | ⟨x3, y3⟩
  · rw [add_none, add_none]
  have w1 : ¬ (x1 = x2 ∧ y2 = -y1) := fun e => z1 (by rw [e.1, e.2]; rfl)
  have w2 : ¬ (x2 = x3 ∧ y3 = -y2) := fun e => z2 (by rw [e.1, e.2]; rfl)
  have L1 := slope_line h h2 ha hb w1
  have L2 := slope_line h h2 hb hc w2
  have q1 := add_line h h2 ha hb w1 L1
  have q2 := add_line h h2 hb hc w2 L2
  rw [q1] at hab z3 ⊢
  rw [q2] at hbc z4 ⊢
  generalize slope x1 y1 x2 y2 = l1 at L1 q1 hab z3 ⊢
  generalize slope x2 y2 x3 y3 = l2 at L2 q2 hbc z4 ⊢
  unfold third at hab hbc z3 z4 q1 q2 ⊢
  obtain ⟨x4, e4⟩ : ∃ x4, x4 = l1 ^ 2 - x1 - x2 := ⟨_, rfl⟩
  obtain ⟨x5, e5⟩ : ∃ x5, x5 = l2 ^ 2 - x2 - x3 := ⟨_, rfl⟩
  rw [← e4] at hab z3 q1 ⊢
  rw [← e5] at hbc z4 q2 ⊢
  obtain ⟨y4, f4⟩ : ∃ y4, y4 = l1 * (x1 - x4) - y1 := ⟨_, rfl⟩
  obtain ⟨y5, f5⟩ : ∃ y5, y5 = l2 * (x2 - x5) - y2 := ⟨_, rfl⟩
  rw [← f4] at hab z3 q1 ⊢
  rw [← f5] at hbc z4 q2 ⊢
  have w3 : ¬ (x4 = x3 ∧ y3 = -y4) := fun e => z3 (by rw [e.2, ← e.1]; rfl)
  have w4 : ¬ (x1 = x5 ∧ y5 = -y1) := fun e => z4 (by rw [e.2, ← e.1]; rfl)
  by_cases hx : x5 = x1
  · have hy : y5 = y1 := by
      have o5 : y5 ^ 2 = x5 ^ 3 + 7 := hbc
      rw [hx] at o5
      exact same_y h ha o5 (fun e => w4 ⟨hx.symm, e⟩)
    by_cases hd : x4 = x3
    · exfalso
      have hy4 : y3 = y4 := by
        have o4 : y4 ^ 2 = x4 ^ 3 + 7 := hab
        exact same_y h o4 (hd ▸ hc) (fun e => w3 ⟨hd, e⟩)
      have r1 := n1 hb hc
      rw [q2, hx, hy] at r1
      rw [hd, ← hy4] at q1
      have hne : ¬ x1 = x2 := fun e => by
        subst e
        have hyy := same_y h ha hb (fun e => w1 ⟨rfl, e⟩)
        subst hyy
        rw [comm _ _ (neg_on hb) ha, add_neg] at r1
        cases r1
      have u1 : ¬ (x2 = x1 ∧ y1 = - -y2) := fun e => hne e.1.symm
      have M := slope_line h h2 (neg_on (a := some (x2, y2)) hb) ha u1
      have r2 := add_line h h2 (neg_on (a := some (x2, y2)) hb) ha u1 M
      have r3 : third x2 (-y2) x1 (slope x2 (-y2) x1 y1) = some (x3, y3) := r2.symm.trans r1
      generalize slope x2 (-y2) x1 y1 = m at M r3
      unfold third at r3
      have r4 : m ^ 2 - x2 - x1 = x3 := by injection r3 with r3; injection r3
      have k1 := M.run.1
      have k2 := L1.run.2
      rw [hd] at e4
      have s2 := sq_mul (d := x1 - x2) (m_sq r4 e4)
      rw [← k1, ← k2] at s2
      have k3 := four_of s2
      have hne0 : ∀ {x y : Fin P}, y ^ 2 = x ^ 3 + 7 → y ≠ 0 := fun o z => h7 _ (no_y z o)
      rcases nzd h k3 with e | e
      · exact four_ne h h2 e
      · rcases nzd h e with e | e
        · exact hne0 ha e
        · exact hne0 hb e
    · -- the same, from the other side
      have hF := assoc_far h h2 ha hc L2.swap L1.swap (sw_e e5) (sw_f L2 f5) (sw_e e4) (sw_f L1 f4) hbc hab (fun e => w4 ⟨e.1.symm, opp_swap e.2⟩) (fun e => w3 ⟨e.1.symm, opp_swap e.2⟩) hd
      rw [comm _ _ hab hc, comm _ _ ha hbc]
      exact hF.symm
  · exact assoc_far h h2 hc ha L1 L2 e4 f4 e5 f5 hab hbc w3 w4 hx
end Go.Proofs.Ytdeidgbknlmhjab.EC
