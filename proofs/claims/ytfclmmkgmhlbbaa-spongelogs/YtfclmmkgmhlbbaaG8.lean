import Derived.Test.YtfclmmkgmhlbbaaG7
namespace Go.Proofs.Ytfclmmkgmhlbbaa
open Go.RowKit Go.Sort Go.Deep

def upd {α : Type} (f : Nat → α) (i : Nat) (x : α) : Nat → α := fun j => if j = i then x else f j
theorem upd_same {α : Type} (f : Nat → α) (i : Nat) (x : α) : upd f i x i = x := if_pos rfl
theorem upd_other {α : Type} (f : Nat → α) (i : Nat) (x : α) {j : Nat} (h : j ≠ i) : upd f i x j = f j := if_neg h

/-- The logs: the program's (X, P) and the reference's (Y, Q); those that were kept (below c), the one in use (c). -/
structure Inv (w : World) (B c : Nat) (X Y : Nat → Nat) (P Q : Nat → Bs) : Prop where
  bx : ∀ j, j ≤ c → B ≤ X j
  by' : ∀ j, j ≤ c → B ≤ Y j
  sz : ∀ j, j ≤ c → (P j).size = 32
  hx : ∀ j, j ≤ c → Holds encB w (X j) 0 (P j)
  hy : ∀ j, j ≤ c → RLog w (Y j) (Q j)
  dx : ∀ i j, i ≤ c → j ≤ c → i ≠ j → X i ≠ X j
  dy : ∀ i j, i ≤ c → j ≤ c → i ≠ j → Y i ≠ Y j

variable {w w1 : World} {B c : Nat} {X Y : Nat → Nat} {P Q : Nat → Bs}

theorem Inv.ltx (h : Inv w B c X Y P Q) {j : Nat} (hj : j ≤ c) : X j < w.heap.size := Holds.lt (h.hx j hj) (by rw [h.sz j hj]; omega)
theorem Inv.lty (h : Inv w B c X Y P Q) {j : Nat} (hj : j ≤ c) : Y j < w.heap.size := (h.hy j hj).lt
/-- A block of bytes is none of a string. -/
theorem Inv.ne (h : Inv w B c X Y P Q) {i j : Nat} (hi : i ≤ c) (hj : j ≤ c) : X i ≠ Y j := by
  intro e
  have h1 := (h.hx i hi 0 (by rw [h.sz i hi]; omega)).1
  have h2 := (h.hy j hj).1
  rw [e, h2] at h1
  injection h1 with h1
  cases h1
theorem Inv.below (h : Inv w B c X Y P Q) (k : Below w.heap.size w w1) : Inv w1 B c X Y P Q :=
  ⟨h.bx, h.by', h.sz, fun j hj => Holds.below' (h.hx j hj) k, fun j hj => (h.hy j hj).below k, h.dx, h.dy⟩
theorem Inv.setX (h : Inv w B c X Y P Q) {i : Nat} (hi : i ≤ c) (k : Only (X i) 0 32 w w1) {L : Bs} (hl : L.size = 32) (hL : Holds encB w1 (X i) 0 L) : Inv w1 B c X Y (upd P i L) Q := by
  refine ⟨h.bx, h.by', fun j hj => ?_, fun j hj => ?_, fun j hj => (h.hy j hj).other k (Ne.symm (h.ne hi hj)), h.dx, h.dy⟩
  · by_cases e : j = i
    · rw [e, upd_same]; exact hl
    · rw [upd_other _ _ _ e]; exact h.sz j hj
  · by_cases e : j = i
    · rw [e, upd_same]; exact hL
    · rw [upd_other _ _ _ e]; exact Holds.other (h.hx j hj) k (h.dx j i hj hi e) (by rw [h.sz j hj]; omega)
theorem Inv.setY (h : Inv w B c X Y P Q) {i : Nat} (hi : i ≤ c) (k : Only (Y i) 0 1 w w1) {L : Bs} (hL : RLog w1 (Y i) L) : Inv w1 B c X Y P (upd Q i L) := by
  refine ⟨h.bx, h.by', h.sz, fun j hj => Holds.other (h.hx j hj) k (h.ne hj hi) (by rw [h.sz j hj]; omega), fun j hj => ?_, h.dx, h.dy⟩
  by_cases e : j = i
  · rw [e, upd_same]; exact hL
  · rw [upd_other _ _ _ e]; exact (h.hy j hj).other k (h.dy j i hj hi e)
/-- Neither list is touched by what a row of another block does. -/
theorem Inv.only (h : Inv w B c X Y P Q) {b o n : Nat} (k : Only b o n w w1) (hx : ∀ j, j ≤ c → X j ≠ b) (hy : ∀ j, j ≤ c → Y j ≠ b) : Inv w1 B c X Y P Q :=
  ⟨h.bx, h.by', h.sz, fun j hj => Holds.other (h.hx j hj) k (hx j hj) (by rw [h.sz j hj]; omega), fun j hj => (h.hy j hj).other k (hy j hj), h.dx, h.dy⟩
/-- A clone: the old one is kept beside a new copy of the reference's. -/
theorem Inv.clone (h : Inv w B c X Y P Q) (hPQ : P c = Q c) {x y : Nat} (hx : Holds encB w x 0 (P c)) (hy : RLog w y (Q c)) (hbx : B ≤ x) (hby : B ≤ y) (hxn : ∀ j, j ≤ c → X j ≠ x) (hyn : ∀ j, j ≤ c → Y j ≠ y) :
    Inv w B (c + 1) (upd X (c + 1) x) (upd (upd Y (c + 1) (Y c)) c y) (upd P (c + 1) (P c)) (upd Q (c + 1) (Q c)) := by
  have hX : ∀ j, j ≤ c → upd X (c + 1) x j = X j := fun j hj => upd_other _ _ _ (by omega)
  have hP : ∀ j, j ≤ c → upd P (c + 1) (P c) j = P j := fun j hj => upd_other _ _ _ (by omega)
  have hQ : ∀ j, j ≤ c → upd Q (c + 1) (Q c) j = Q j := fun j hj => upd_other _ _ _ (by omega)
  have hY : ∀ j, j < c → upd (upd Y (c + 1) (Y c)) c y j = Y j := fun j hj => by rw [upd_other _ _ _ (by omega), upd_other _ _ _ (by omega)]
  have hYc : upd (upd Y (c + 1) (Y c)) c y c = y := upd_same _ _ _
  have hYc1 : upd (upd Y (c + 1) (Y c)) c y (c + 1) = Y c := by rw [upd_other _ _ _ (by omega), upd_same]
  have split : ∀ j, j ≤ c + 1 → j < c ∨ j = c ∨ j = c + 1 := fun j hj => by omega
  refine ⟨fun j hj => ?_, fun j hj => ?_, fun j hj => ?_, fun j hj => ?_, fun j hj => ?_, fun i j hi hj hij => ?_, fun i j hi hj hij => ?_⟩
  · by_cases e : j = c + 1
    · rw [e, upd_same]; exact hbx
    · rw [hX j (by omega)]; exact h.bx j (by omega)
  · rcases split j hj with h1 | rfl | rfl
    · rw [hY j h1]; exact h.by' j (by omega)
    · rw [hYc]; exact hby
    · rw [hYc1]; exact h.by' c (by omega)
  · by_cases e : j = c + 1
    · rw [e, upd_same]; exact h.sz c (by omega)
    · rw [hP j (by omega)]; exact h.sz j (by omega)
  · by_cases e : j = c + 1
    · rw [e, upd_same, upd_same]; exact hx
    · rw [hX j (by omega), hP j (by omega)]; exact h.hx j (by omega)
  · rcases split j hj with h1 | rfl | rfl
    · rw [hY j h1, hQ j (by omega)]; exact h.hy j (by omega)
    · rw [hYc, hQ _ (by omega)]; exact hy
    · rw [hYc1, upd_same]; exact h.hy c (by omega)
  · by_cases e1 : i = c + 1
    · rw [e1, upd_same, hX j (by omega)]; exact Ne.symm (hxn j (by omega))
    · by_cases e2 : j = c + 1
      · rw [e2, upd_same, hX i (by omega)]; exact hxn i (by omega)
      · rw [hX i (by omega), hX j (by omega)]; exact h.dx i j (by omega) (by omega) hij
  · rcases split i hi with h1 | rfl | rfl
    · rcases split j hj with h2 | rfl | rfl
      · rw [hY i h1, hY j h2]; exact h.dy i j (by omega) (by omega) hij
      · rw [hY i h1, hYc]; exact hyn i (by omega)
      · rw [hY i h1, hYc1]; exact h.dy i c (by omega) (by omega) (by omega)
    · rcases split j hj with h2 | rfl | rfl
      · rw [hYc, hY j h2]; exact Ne.symm (hyn j (by omega))
      · exact absurd rfl hij
      · rw [hYc, hYc1]; exact Ne.symm (hyn _ (by omega))
    · rcases split j hj with h2 | rfl | rfl
      · rw [hYc1, hY j h2]; exact h.dy c j (by omega) (by omega) (by omega)
      · rw [hYc1, hYc]; exact hyn _ (by omega)
      · exact absurd rfl hij

/-- A list of pointers of one's own. -/
def PL (w : World) (B c : Nat) (v : Value) (X : Nat → Nat) : Prop :=
  (c = 0 ∧ v = .slice none 0 0) ∨ ∃ g cap vs cur, v = .slice (some ⟨g, 0, none⟩) c cap ∧ vs.length = c ∧ 0 < c ∧ B ≤ g ∧ ListAt w g cap vs cur ∧ ∀ j, j < c → vs[j]! = .pointer (some ⟨X j, 0, none⟩)

theorem ListAt.other {g cap b o n : Nat} {vs : List Value} {cur : Array Value} (h : ListAt w g cap vs cur) (k : Only b o n w w1) (hb : g ≠ b) : ListAt w1 g cap vs cur := by
  refine ⟨Nat.lt_of_lt_of_le h.lt k.size, h.size, h.fits, fun j hj => ?_, h.front⟩
  have := k.other (c := g) (o := 0 + j) hb h.lt
  rw [this.1, this.2]
  exact h.holds j hj
theorem PL.below {v : Value} (h : PL w B c v X) (k : Below w.heap.size w w1) : PL w1 B c v X := by
  rcases h with h | ⟨g, cap, vs, cur, h1, h2, h3, h4, h5, h6⟩
  · exact Or.inl h
  · exact Or.inr ⟨g, cap, vs, cur, h1, h2, h3, h4, h5.below k, h6⟩
theorem PL.at {v : Value} (h : PL w B c v X) {j : Nat} (hj : j < c) : ∃ g cap, v = .slice (some ⟨g, 0, none⟩) c cap ∧ w.cell? ⟨g, j, none⟩ = some (.pointer (some ⟨X j, 0, none⟩)) := by
  rcases h with ⟨h, _⟩ | ⟨g, cap, vs, cur, h1, h2, h3, h4, h5, h6⟩
  · omega
  · refine ⟨g, cap, h1, ?_⟩
    have := (h5.holds j (by rw [h5.size]; have := h5.fits; omega)).1
    rw [h5.front j (by omega), Nat.zero_add, h6 j hj] at this
    exact this
/-- What is written where no pointer lies leaves the list. -/
theorem PL.only {v : Value} (h : PL w B c v X) {b o n : Nat} (k : Only b o n w w1) (hb : 0 < c → w.cell? ⟨b, 0, none⟩ ≠ some (.pointer (some ⟨X 0, 0, none⟩))) : PL w1 B c v X := by
  rcases h with h | ⟨g, cap, vs, cur, h1, h2, h3, h4, h5, h6⟩
  · exact Or.inl h
  · refine Or.inr ⟨g, cap, vs, cur, h1, h2, h3, h4, h5.other k ?_, h6⟩
    intro e
    have := (h5.holds 0 (by rw [h5.size]; have := h5.fits; omega)).1
    rw [h5.front 0 (by omega), h6 0 h3, e] at this
    exact hb h3 this
theorem PL.congr {v : Value} {X' : Nat → Nat} (h : PL w B c v X) (e : ∀ j, j < c → X' j = X j) : PL w B c v X' := by
  rcases h with h | ⟨g, cap, vs, cur, h1, h2, h3, h4, h5, h6⟩
  · exact Or.inl h
  · exact Or.inr ⟨g, cap, vs, cur, h1, h2, h3, h4, h5, fun j hj => by rw [e j hj]; exact h6 j hj⟩
/-- Nothing that was there has turned but, it may be, a list whose first is X 0. -/
def Soft (c : Nat) (X : Nat → Nat) (w w' : World) : Prop :=
  Below w.heap.size w w' ∨ ∃ b o n, Only b o n w w' ∧ 0 < c ∧ w.cell? ⟨b, 0, none⟩ = some (.pointer (some ⟨X 0, 0, none⟩))
theorem Inv.soft (h : Inv w B c X Y P Q) {c' : Nat} {Z : Nat → Nat} (k : Soft c' Z w w1) : Inv w1 B c X Y P Q := by
  rcases k with k | ⟨b, o, n, k, _, hb⟩
  · exact h.below k
  · refine h.only k (fun j hj e => ?_) (fun j hj e => ?_)
    · have := (h.hx j hj 0 (by rw [h.sz j hj]; omega)).1
      rw [e, hb] at this
      injection this with this
      cases this
    · have := (h.hy j hj).1
      rw [e, hb] at this
      injection this with this
      cases this
theorem PL.soft {v : Value} {c' : Nat} (h : PL w B c v Y) (k : Soft c' X w w1) (hne : 0 < c' → X 0 ≠ Y 0) : PL w1 B c v Y := by
  rcases k with k | ⟨b, o, n, k, h0, hb⟩
  · exact h.below k
  · refine h.only k (fun _ e => ?_)
    rw [hb] at e
    injection e with e
    injection e with e
    injection e with e
    injection e with e
    exact hne h0 e
theorem Holds.soft {x c : Nat} {L : Bs} {X : Nat → Nat} (h : Holds encB w x 0 L) (hl : 0 < L.size) (k : Soft c X w w1) : Holds encB w1 x 0 L := by
  rcases k with k | ⟨b, o, n, k, h0, hb⟩
  · exact Holds.below' h k
  · refine Holds.other h k (fun e => ?_) hl
    have := (h 0 hl).1
    rw [e, hb] at this
    injection this with this
    cases this
/-- 'append(l, p)'. Another list of pointers, whose first is another, stays. -/
theorem PL.push {T E : TypeId} (hT : Try.prog.underlying T = some (.slice E)) (hE : (Try.prog.info? E).map (fun i => (i.zero, i.size, i.bytes)) = some (some (.pointer none), 1, 8)) {v : Value} (h : PL w B c v X) (hB : B ≤ w.heap.size) (hc : c ≤ 1048576) {x : Nat} {W : World} (hW : W = w.alloc (.cells #[.pointer (some ⟨x, 0, none⟩)] E)) (hx : x = X c) :
    ∃ v' w', (Builtin.append_ #[T, T] T #[v, .slice (some ⟨w.heap.size, 0, none⟩) 1 1]).run Try.prog W = .ok v' w' ∧ PL w' B (c + 1) v' X ∧ Below B w w' ∧ Soft c X w w' := by
  subst hW
  have hr : (w.alloc (.cells #[.pointer (some ⟨x, 0, none⟩)] E)).cell? ⟨w.heap.size, 0, none⟩ = some (.pointer (some ⟨x, 0, none⟩)) := by simp
  have hb0 : Below w.heap.size w (w.alloc (.cells #[.pointer (some ⟨x, 0, none⟩)] E)) := (Below.refl _ _).alloc (Nat.le_refl _) _
  have hs0 : (w.alloc (.cells #[.pointer (some ⟨x, 0, none⟩)] E)).heap.size = w.heap.size + 1 := by simp
  have hx1 : (Value.pointer (some ⟨x, 0, none⟩)).oneCell' = true := rfl
  rcases h with ⟨rfl, rfl⟩ | ⟨g, cap, vs, cur, rfl, h2, h3, h4, h5, h6⟩
  · obtain ⟨cap', cur', w', hap, hL, hb2⟩ := append_firstG hT hE rfl hr hx1
    have hbb := hb0.trans (hb2.mono (by omega))
    refine ⟨_, w', hap, Or.inr ⟨_, cap', _, cur', rfl, rfl, by omega, by omega, hL, fun j hj => ?_⟩, hbb.mono hB, Or.inl hbb⟩
    have hj0 : j = 0 := by omega
    subst hj0
    rw [hx]; rfl
  · have h5' := h5.below hb0
    subst h2
    obtain ⟨g', cap', cur', w', hap, hL, hO, hg'⟩ := append_valG hT hE rfl h5' hr hx1 hc
    have hg := h5.lt
    refine ⟨_, w', hap, Or.inr ⟨g', cap', _, cur', rfl, by rw [List.length_append]; rfl, by omega, by omega, hL, fun j hj => ?_⟩, (hb0.mono hB).trans (hO.below (by omega) h4), Or.inr ⟨g, 0, cap, (Only.of_below hb0 rfl hg).trans hO, h3, ?_⟩⟩
    · by_cases hj1 : j = vs.length
      · rw [hj1, val_last, hx]
      · rw [val_front _ _ _ (by omega)]; exact h6 j (by omega)
    · have := (h5.holds 0 (by rw [h5.size]; have := h5.fits; omega)).1
      rw [h5.front 0 (by omega), h6 0 h3] at this
      exact this
end Go.Proofs.Ytfclmmkgmhlbbaa
