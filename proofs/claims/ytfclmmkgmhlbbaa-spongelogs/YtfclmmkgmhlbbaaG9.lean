import Derived.Test.YtfclmmkgmhlbbaaG8
namespace Go.Proofs.Ytfclmmkgmhlbbaa
open Go.RowKit Go.Sort Go.Deep

theorem step_cells (w : World) (c0 c1 c2 c3 : Value) :
    Below w.heap.size w (w.alloc (.cells #[c0, c1, c2, c3] 47)) ∧ (w.alloc (.cells #[c0, c1, c2, c3] 47)).heap.size = w.heap.size + 1 ∧ (w.alloc (.cells #[c0, c1, c2, c3] 47)).cell? ⟨w.heap.size, 0, none⟩ = some c0 ∧ (w.alloc (.cells #[c0, c1, c2, c3] 47)).cell? ⟨w.heap.size, 1, none⟩ = some c1 ∧ (w.alloc (.cells #[c0, c1, c2, c3] 47)).cell? ⟨w.heap.size, 2, none⟩ = some c2 ∧ (w.alloc (.cells #[c0, c1, c2, c3] 47)).cell? ⟨w.heap.size, 3, none⟩ = some c3 := by
  refine ⟨(Below.refl _ _).alloc (Nat.le_refl _) _, by simp, by simp, by simp, by simp, by simp⟩
theorem range_below {w w1 : World} {b o B : Nat} {cs : List Value} (h : w.rangeAt b o cs) (k : Below B w w1) (hb : b < B) : w1.rangeAt b o cs := fun j v hj => by
  rw [k.cell (p := ⟨b, o + j, none⟩) hb]
  exact h j v hj
theorem cell_below {w w1 : World} {b o : Nat} {v : Value} (h : w.cell? ⟨b, o, none⟩ = some v) (k : Below w.heap.size w w1) : w1.cell? ⟨b, o, none⟩ = some v := by
  rw [k.cell (p := ⟨b, o, none⟩) (World.block_lt_of_cell? _ _ h)]
  exact h
theorem cell_only {w w1 : World} {b o c p n : Nat} {v : Value} (h : w.cell? ⟨b, o, none⟩ = some v) (k : Only c p n w w1) (hb : b ≠ c) : w1.cell? ⟨b, o, none⟩ = some v := by
  rw [(k.other (c := b) (o := o) hb (World.block_lt_of_cell? _ _ h)).1]
  exact h
theorem not_ptr_x {w : World} {x : Nat} {L : Bs} (h : Holds encB w x 0 L) (hl : L.size = 32) (p : Option Addr) : w.cell? ⟨x, 0, none⟩ ≠ some (.pointer p) := fun e => by
  have := (h 0 (by omega)).1
  rw [e] at this
  injection this with this
  cases this
theorem not_ptr_y {w : World} {y : Nat} {L : Bs} (h : RLog w y L) (p : Option Addr) : w.cell? ⟨y, 0, none⟩ ≠ some (.pointer p) := fun e => by
  have := h.1
  rw [e] at this
  injection this with this
  cases this
theorem Holds.other0 {w w1 : World} {b o n r : Nat} {L : Bs} (h : Holds encB w r 0 L) (k : Only b o n w w1) (hr : r ≠ b) : Holds encB w1 r 0 L := by
  intro j hj
  have h1 := h j hj
  have h3 := k.other (c := r) (o := 0 + j) hr (World.block_lt_of_cell? _ _ h1.1)
  rw [h3.1, h3.2]
  exact h1
theorem RLog.soft {w w1 : World} {y c : Nat} {L : Bs} {X : Nat → Nat} (h : RLog w y L) (k : Soft c X w w1) : RLog w1 y L := by
  rcases k with k | ⟨b, o, n, k, h0, hb⟩
  · exact h.below k
  · exact h.other k (fun e => not_ptr_y h _ (by rw [e]; exact hb))
theorem PL.cell {w : World} {B q g cap : Nat} {X : Nat → Nat} (h : PL w B q (.slice (some ⟨g, 0, none⟩) q cap) X) {j : Nat} (hj : j < q) : w.cell? ⟨g, j, none⟩ = some (.pointer (some ⟨X j, 0, none⟩)) := by
  obtain ⟨g', cap', hv, hc⟩ := h.at hj
  injection hv with h1
  injection h1 with h1
  injection h1 with h1
  rw [h1]
  exact hc
end Go.Proofs.Ytfclmmkgmhlbbaa
