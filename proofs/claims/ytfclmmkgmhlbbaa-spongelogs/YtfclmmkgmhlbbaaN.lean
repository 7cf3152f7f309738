import Derived.Sort.Row
import Derived.Deep.Draws
import Derived.Below
import Derived.Deep.OwnRows
import Derived.Test.YtfclmmkgmhlbbaaM
namespace Go.Proofs.Ytfclmmkgmhlbbaa
open Go.RowKit Go.Sort

/-- Of all that was there, only the cells off .. off + n - 1 of block b may have turned; no block has gone. -/
structure Only (b off n : Nat) (w w' : World) : Prop where
  os : w'.os = w.os
  tape : w'.tape = w.tape
  output : w'.output = w.output
  size : w.heap.size ≤ w'.heap.size
  block : ∀ k, k < w.heap.size → k ≠ b → w'.heap[k]? = w.heap[k]?
  cell : ∀ o, (o < off ∨ off + n ≤ o) → w'.cell? ⟨b, o, none⟩ = w.cell? ⟨b, o, none⟩
  froz : ∀ o, w'.frozen? ⟨b, o, none⟩ = w.frozen? ⟨b, o, none⟩

variable {b off n : Nat} {w w1 w2 : World}

theorem Only.refl (b off n : Nat) (w : World) : Only b off n w w := ⟨rfl, rfl, rfl, Nat.le_refl _, fun _ _ _ => rfl, fun _ _ => rfl, fun _ => rfl⟩

theorem Only.trans (h : Only b off n w w1) (k : Only b off n w1 w2) : Only b off n w w2 :=
  ⟨k.os.trans h.os, k.tape.trans h.tape, k.output.trans h.output, Nat.le_trans h.size k.size,
    fun i hi hn => (k.block i (Nat.lt_of_lt_of_le hi h.size) hn).trans (h.block i hi hn),
    fun o ho => (k.cell o ho).trans (h.cell o ho), fun o => (k.froz o).trans (h.froz o)⟩

theorem Only.drewN (h : Only b off n w w1) (q : Nat) : Only b off n w (w1.drewN q) := ⟨h.os, h.tape, h.output, h.size, h.block, h.cell, h.froz⟩
theorem Only.drew (h : Only b off n w w1) : Only b off n w w1.drew := ⟨h.os, h.tape, h.output, h.size, h.block, h.cell, h.froz⟩

theorem Only.setCell (h : Only b off n w w1) {o : Nat} (h1 : off ≤ o) (h2 : o < off + n) (v : Value) : Only b off n w (w1.setCell ⟨b, o, none⟩ v) := by
  refine h.trans ⟨rfl, rfl, rfl, by simp, fun k _ hn => Below.heap_setCell _ _ _ _ hn, fun o' ho => ?_, fun o' => by simp⟩
  exact World.cell?_setCell_other _ _ _ _ (by intro e; simp only [Addr.mk.injEq, and_true, true_and] at e; omega)

theorem Only.alloc (h : Only b off n w w1) (hb : b < w1.heap.size) (o : Obj) : Only b off n w (w1.alloc o) := by
  refine h.trans ⟨rfl, rfl, rfl, by simp, fun k hk _ => Below.heap_alloc _ _ _ hk, fun o' _ => ?_, fun o' => ?_⟩
  · exact World.cell?_alloc_lt _ _ _ hb
  · exact World.frozen?_alloc_old _ _ _ (by show b ≠ _; omega)

theorem Only.below (h : Only b off n w w1) {B : Nat} (hB : B ≤ w.heap.size) (hb : B ≤ b) : Below B w w1 :=
  ⟨h.os, h.tape, h.output, h.size, fun k hk => h.block k (by omega) (by omega)⟩

/-- What only makes memory turns nothing of the row. -/
theorem Only.of_below {B : Nat} (h : Below B w w1) (hB : B = w.heap.size) (hb : b < B) : Only b off n w w1 :=
  ⟨h.os, h.tape, h.output, h.size, fun k hk _ => h.block k (by omega), fun o _ => h.cell (p := ⟨b, o, none⟩) hb, fun o => h.frozen (p := ⟨b, o, none⟩) hb⟩

theorem Only.other (h : Only b off n w w1) {c o : Nat} (hc : c ≠ b) (hs : c < w.heap.size) : w1.cell? ⟨c, o, none⟩ = w.cell? ⟨c, o, none⟩ ∧ w1.frozen? ⟨c, o, none⟩ = w.frozen? ⟨c, o, none⟩ :=
  ⟨World.cell?_of_block (w := w) (h.block c hs hc), World.frozen?_of_block (w := w) (h.block c hs hc)⟩

/-- What was done to a block of one's own, just made, turned nothing that was there. -/
theorem Only.fresh {o m : Nat} {x : Obj} (h : Only w.heap.size o m (w.alloc x) w1) : Below w.heap.size w w1 :=
  ((Below.refl _ _).alloc (Nat.le_refl _) x).trans (h.below (by simp) (Nat.le_refl _))

section
variable {α : Type} [Inhabited α] {enc : α → Value} {d : Array α}

theorem Holds.lt (h : Holds enc w b off d) (hd : 0 < d.size) : b < w.heap.size := World.block_lt_of_cell? _ _ (h 0 hd).1

theorem Holds.other {c o : Nat} (h : Holds enc w c o d) (k : Only b off n w w1) (hc : c ≠ b) (hd : 0 < d.size) : Holds enc w1 c o d := by
  intro j hj
  have := h j hj
  have := k.other (o := o + j) hc (Holds.lt h hd)
  rw [this.1, this.2]
  exact h j hj

theorem Holds.same {o : Nat} (h : Holds enc w b o d) (k : Only b off n w w1) (hd : o + d.size ≤ off ∨ off + n ≤ o) : Holds enc w1 b o d := by
  intro j hj
  rw [k.cell _ (by omega), k.froz]
  exact h j hj

theorem Holds.below {B : Nat} (h : Holds enc w b off d) (k : Below B w w1) (hb : b < B) : Holds enc w1 b off d := by
  intro j hj
  rw [k.cell (p := ⟨b, off + j, none⟩) hb, k.frozen (p := ⟨b, off + j, none⟩) hb]
  exact h j hj

theorem Holds.drewN (h : Holds enc w b off d) (q : Nat) : Holds enc (w.drewN q) b off d := h
theorem Holds.drew (h : Holds enc w b off d) : Holds enc w.drew b off d := h

theorem Holds.set (h : Holds enc w b off d) {i : Nat} (hi : i < d.size) (x : α) : Holds enc (w.setCell ⟨b, off + i, none⟩ (enc x)) b off (d.setIfInBounds i x) := by
  intro j hj
  rw [Array.size_setIfInBounds] at hj
  rw [World.frozen?_setCell]
  by_cases e : j = i
  · subst e
    rw [getElem!_set_same d j x hi]
    exact ⟨World.cell?_setCell_same _ _ _ (h j hj).1, (h j hj).2⟩
  · rw [getElem!_set_other d i j x e, World.cell?_setCell_other _ _ _ _ (by intro e'; simp only [Addr.mk.injEq, and_true, true_and] at e'; omega)]
    exact h j hj

/-- A block of one's own, just made. -/
theorem Holds.new (w : World) (t : TypeId) (d : Array α) : Holds enc (w.alloc (.cells (d.map enc) t)) w.heap.size 0 d := by
  intro j hj
  rw [World.cell?_alloc_new, World.frozen?_alloc_new]
  refine ⟨?_, rfl⟩
  simp only [Nat.zero_add, Array.getElem?_map, Array.getElem?_eq_getElem hj, Option.map_some, getElem!_pos d j hj]

/-- A block of one's own, made by 'make'. -/
theorem Holds.made (w : World) (t : TypeId) (n : Nat) (x : α) : Holds enc (w.alloc (.cells (madeCells #[enc x] n) t)) w.heap.size 0 (Array.replicate n x) := by
  intro j hj
  rw [Array.size_replicate] at hj
  rw [World.cell?_alloc_new, World.frozen?_alloc_new]
  refine ⟨?_, rfl⟩
  rw [getElem!_pos _ j (by simpa using hj), Array.getElem_replicate]
  simp [madeCells, hj, Nat.mod_one]
end

theorem Holds.xor {d : St} (h : Holds enc w b off d) {i : Nat} (hi : i < d.size) {x : BitVec 64} (hx : d[i]! = x) (v : BitVec 64) : Holds enc (w.setCell ⟨b, off + i, none⟩ (.int .u64 (u (x ^^^ v)))) b off (xorAt d i v) := by
  unfold xorAt
  rw [hx]
  exact Holds.set h hi (x ^^^ v)
theorem xorAt_other (d : St) (i j : Nat) (v : BitVec 64) (h : j ≠ i) : (xorAt d i v)[j]! = d[j]! := getElem!_set_other d i j _ h

end Go.Proofs.Ytfclmmkgmhlbbaa
