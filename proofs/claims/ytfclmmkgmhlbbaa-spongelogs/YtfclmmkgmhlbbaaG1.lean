import Derived.Test.YtfclmmkgmhlbbaaO2
namespace Go.Proofs.Ytfclmmkgmhlbbaa
open Go.RowKit Go.Sort Go.Deep

/-- A lent text, as a slice. -/
def LentAt (w : World) (v : Value) (gx : Nat) (s : ByteArray) : Prop := v = .slice (some ⟨gx, 0, none⟩) s.size (s.size + 160) ∧ Holds encB w gx 0 (lent s)
theorem LentAt.lt {w : World} {v : Value} {gx : Nat} {s : ByteArray} (h : LentAt w v gx s) : gx < w.heap.size := Holds.lt h.2 (by rw [lent_size]; omega)

/-- The list of the texts that have been lent. -/
def Lst (w : World) (B k : Nat) (v : Value) (ps : List ByteArray) : Prop :=
  (k = 0 ∧ v = .slice none 0 0) ∨ ∃ g cap vs cur, v = .slice (some ⟨g, 0, none⟩) k cap ∧ vs.length = k ∧ B ≤ g ∧ ListAt w g cap vs cur ∧ ∀ j, j < k → ∃ gx, gx ≠ g ∧ LentAt w vs[j]! gx ps[j]!

theorem Lst.below {w w1 : World} {B k : Nat} {v : Value} {ps : List ByteArray} (h : Lst w B k v ps) (hb : Below w.heap.size w w1) : Lst w1 B k v ps := by
  rcases h with h | ⟨g, cap, vs, cur, h1, h2, h3, h4, h5⟩
  · exact Or.inl h
  · refine Or.inr ⟨g, cap, vs, cur, h1, h2, h3, h4.below hb, fun j hj => ?_⟩
    obtain ⟨gx, hx, hl, hH⟩ := h5 j hj
    exact ⟨gx, hx, hl, Holds.below' hH hb⟩

theorem Lst.push {wr W : World} {B k r : Nat} {v x : Value} {ps : List ByteArray} (h : Lst wr B k v ps) (hb : Below wr.heap.size wr W) (hB : B ≤ wr.heap.size) (hk : k ≤ 1048576)
    (hx : LentAt W x wr.heap.size ps[k]!) (hr : W.cell? ⟨r, 0, none⟩ = some x) :
    ∃ v' w', (Builtin.append_ #[35, 35] 35 #[v, .slice (some ⟨r, 0, none⟩) 1 1]).run Try.prog W = .ok v' w' ∧ Lst w' B (k + 1) v' ps ∧ Below B W w' := by
  have hx1 : x.oneCell' = true := by rw [hx.1]; rfl
  have hxlt := hx.lt
  rcases h with ⟨rfl, rfl⟩ | ⟨g, cap, vs, cur, rfl, h2, h3, h4, h5⟩
  · obtain ⟨cap', cur', w', hap, hL, hb2⟩ := append_first hr hx1
    refine ⟨_, w', hap, Or.inr ⟨W.heap.size, cap', [x], cur', rfl, rfl, by omega, hL, fun j hj => ?_⟩, hb2.mono (by omega)⟩
    have hj0 : j = 0 := by omega
    subst hj0
    exact ⟨wr.heap.size, by omega, hx.1, Holds.below' hx.2 hb2⟩
  · have hg := h4.lt
    have h4' := ListAt.below h4 hb
    subst h2
    obtain ⟨g', cap', cur', w', hap, hL, hO, hg'⟩ := append_val h4' hr hx1 hk
    have hs := hb.size
    refine ⟨_, w', hap, Or.inr ⟨g', cap', vs ++ [x], cur', rfl, by rw [List.length_append]; rfl, by omega, hL, fun j hj => ?_⟩, hO.below (by omega) h3⟩
    by_cases hj1 : j = vs.length
    · subst hj1
      rw [val_last]
      exact ⟨wr.heap.size, by omega, hx.1, Holds.other hx.2 hO (by omega) (by rw [lent_size]; omega)⟩
    · obtain ⟨gx, hne, hl⟩ := h5 j (by omega)
      have hgl := hl.lt
      rw [val_front _ _ _ (by omega)]
      exact ⟨gx, by omega, hl.1, Holds.other (Holds.below hl.2 hb hgl) hO hne (by rw [lent_size]; omega)⟩

theorem map_at (ps : List ByteArray) (j : Nat) (h : j < ps.length) : (ps.map fun s => s.data.toList)[j]! = (ps[j]!).data.toList := by
  rw [getElem!_pos (ps.map fun s => s.data.toList) j (by rw [List.length_map]; exact h), getElem!_pos ps j h, List.getElem_map]

theorem Lst.parts {w : World} {B : Nat} {v : Value} {ps : List ByteArray} (h : Lst w B ps.length v ps) (hs : ∀ j, j < ps.length → (ps[j]!).size ≤ 16384) :
    ∃ a cap, v = .slice a ps.length cap ∧ PartsOk w a (ps.map fun s => s.data.toList) := by
  rcases h with ⟨h1, rfl⟩ | ⟨g, cap, vs, cur, rfl, h2, h3, h4, h5⟩
  · exact ⟨none, 0, by rw [h1], Or.inl (by rw [List.length_map]; exact h1)⟩
  · refine ⟨_, cap, rfl, Or.inr ⟨g, 0, rfl, fun j hj => ?_⟩⟩
    rw [List.length_map] at hj
    obtain ⟨gx, hne, hl, hH⟩ := h5 j hj
    refine ⟨vs[j]!, ?_, ?_⟩
    · have := (h4.holds j (by rw [h4.size]; have := h4.fits; omega)).1
      rw [h4.front j (by omega)] at this
      exact this
    · rw [map_at _ _ hj]
      exact ⟨_, gx, 0, _, (ps[j]!).data, hl, rfl, by show (ps[j]!).size ≤ _; omega, by have := hs j hj; show (ps[j]!).size ≤ _; omega, Or.inr ⟨rfl, holds_text _ hH⟩⟩

/-- The l[i] that loop 3 reads. -/
theorem Lst.at {w : World} {B k : Nat} {v : Value} {ps : List ByteArray} (h : Lst w B k v ps) (j : Nat) (hj : j < k) :
    ∃ g cap gx, v = .slice (some ⟨g, 0, none⟩) k cap ∧ w.cell? ⟨g, j, none⟩ = some (.slice (some ⟨gx, 0, none⟩) (ps[j]!).size ((ps[j]!).size + 160)) ∧ Holds encB w gx 0 (lent ps[j]!) := by
  rcases h with ⟨h1, rfl⟩ | ⟨g, cap, vs, cur, rfl, h2, h3, h4, h5⟩
  · omega
  · obtain ⟨gx, hne, hl, hH⟩ := h5 j hj
    refine ⟨g, cap, gx, rfl, ?_, hH⟩
    have := (h4.holds j (by rw [h4.size]; have := h4.fits; omega)).1
    rw [h4.front j (by omega), Nat.zero_add, hl] at this
    exact this

/-- How long the label and the first k parts are. -/
def sumL (label : ByteArray) (ps : List ByteArray) : Nat → Nat
  | 0 => label.size
  | k + 1 => sumL label ps k + (ps[k]!).size
theorem sumL_mono (label : ByteArray) (ps : List ByteArray) {i j : Nat} (h : i ≤ j) : sumL label ps i ≤ sumL label ps j := by
  induction h with
  | refl => exact Nat.le_refl _
  | step _ ih => exact Nat.le_trans ih (Nat.le_add_right _ _)
theorem sumL_le (label : ByteArray) (ps : List ByteArray) (M : Nat) (hl : label.size ≤ M) (hs : ∀ j, j < ps.length → (ps[j]!).size ≤ M) (k : Nat) (hk : k ≤ ps.length) : sumL label ps k ≤ (k + 1) * M := by
  induction k with
  | zero => simpa [sumL] using hl
  | succ k ih =>
    have h1 := ih (by omega)
    have h2 := hs k (by omega)
    show sumL label ps k + (ps[k]!).size ≤ _
    have e : (k + 1 + 1) * M = (k + 1) * M + M := Nat.succ_mul _ _
    omega
theorem frames_len (label : ByteArray) (ps : List ByteArray) (k : Nat) (hk : k ≤ ps.length) : (framesL label.data.toList ((ps.map fun s => s.data.toList).take k)).length = sumL label ps k + 4 * (k + 1) := by
  induction k with
  | zero =>
    rw [List.take_zero]
    unfold framesL
    rw [List.flatMap_nil, List.append_nil, frameL_length]
    have : label.data.toList.length = label.size := Array.length_toList
    show _ = label.size + _
    omega
  | succ k ih =>
    have h1 := ih (by omega)
    rw [take_snoc_getD _ k (by rw [List.length_map]; omega), framesL_snoc, List.length_append, frameL_length, map_at _ _ (by omega), h1]
    have : (ps[k]!).data.toList.length = (ps[k]!).size := Array.length_toList
    show _ = sumL label ps k + (ps[k]!).size + _
    omega
end Go.Proofs.Ytfclmmkgmhlbbaa
