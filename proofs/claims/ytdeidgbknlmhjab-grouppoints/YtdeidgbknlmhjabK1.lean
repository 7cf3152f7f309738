import Derived.Test.YtdeidgbknlmhjabC3
namespace Go.Proofs.Ytdeidgbknlmhjab
open Go.RowKit Go.Sort

/-- Four words in a block, from a place on. -/
structure Blk where
  k : Nat
  o : Nat
  a : Nat
  b : Nat
  c : Nat
  d : Nat

structure Blk.at (x : Blk) (w : World) : Prop where
  c0 : w.cell? ⟨x.k, x.o, none⟩ = some (.int .u64 (x.a : Int))
  c1 : w.cell? ⟨x.k, x.o + 1, none⟩ = some (.int .u64 (x.b : Int))
  c2 : w.cell? ⟨x.k, x.o + 2, none⟩ = some (.int .u64 (x.c : Int))
  c3 : w.cell? ⟨x.k, x.o + 3, none⟩ = some (.int .u64 (x.d : Int))
  f : ∀ o, w.frozen? ⟨x.k, o, none⟩ = false

/-- What a walk keeps: nothing below k0 has turned; these words lie in these blocks. -/
structure Kept (w : World) (k0 : Nat) (l : List Blk) (W : World) : Prop where
  bl : Below k0 w W
  le : k0 ≤ W.heap.size
  at' : ∀ x ∈ l, x.at W

variable {w W w1 : World} {k0 : Nat} {l : List Blk} {x : Blk}

theorem Blk.at.lt (h : x.at W) : x.k < W.heap.size := World.block_lt_of_cell? _ _ h.c0
theorem Blk.at.call (h : x.at W) (hb : Below W.heap.size W w1) : x.at w1 :=
  ⟨by rw [hb.cell (p := ⟨x.k, x.o, none⟩) h.lt]; exact h.c0, by rw [hb.cell (p := ⟨x.k, x.o + 1, none⟩) h.lt]; exact h.c1, by rw [hb.cell (p := ⟨x.k, x.o + 2, none⟩) h.lt]; exact h.c2, by rw [hb.cell (p := ⟨x.k, x.o + 3, none⟩) h.lt]; exact h.c3,
    fun o => by rw [hb.frozen (p := ⟨x.k, o, none⟩) h.lt]; exact h.f o⟩
theorem Blk.at.other {j i : Nat} (h : x.at W) (hj : j ≠ x.k) (v : Value) : x.at (W.setCell ⟨j, i, none⟩ v) :=
  ⟨by rw [World.cell?_setCell_other _ _ _ _ (ne_addr (Or.inl hj))]; exact h.c0, by rw [World.cell?_setCell_other _ _ _ _ (ne_addr (Or.inl hj))]; exact h.c1,
   by rw [World.cell?_setCell_other _ _ _ _ (ne_addr (Or.inl hj))]; exact h.c2, by rw [World.cell?_setCell_other _ _ _ _ (ne_addr (Or.inl hj))]; exact h.c3, fun o => by rw [World.frozen?_setCell]; exact h.f o⟩

theorem Kept.call (h : Kept w k0 l W) (hb : Below W.heap.size W w1) : Kept w k0 l w1 :=
  ⟨h.bl.trans (hb.mono h.le), Nat.le_trans h.le hb.size, fun x hx => (h.at' x hx).call hb⟩
theorem Kept.drew (h : Kept w k0 l W) : Kept w k0 l W.drew := ⟨h.bl.drew, h.le, fun x hx => ⟨(h.at' x hx).c0, (h.at' x hx).c1, (h.at' x hx).c2, (h.at' x hx).c3, (h.at' x hx).f⟩⟩
theorem Kept.undrew (h : Kept w k0 l W.drew) : Kept w k0 l W :=
  ⟨⟨h.bl.os, h.bl.tape, h.bl.output, h.bl.size, h.bl.block⟩, h.le, fun x hx => ⟨(h.at' x hx).c0, (h.at' x hx).c1, (h.at' x hx).c2, (h.at' x hx).c3, (h.at' x hx).f⟩⟩
theorem Kept.alloc (h : Kept w k0 l W) (o : Obj) : Kept w k0 l (W.alloc o) := h.call (below1 W o)
theorem Kept.set {j i : Nat} (h : Kept w k0 l W) (hj : k0 ≤ j) (hl : ∀ x ∈ l, j ≠ x.k) (v : Value) : Kept w k0 l (W.setCell ⟨j, i, none⟩ v) :=
  ⟨h.bl.setCell (p := ⟨j, i, none⟩) hj v, by simpa using h.le, fun x hx => (h.at' x hx).other (hl x hx) v⟩
theorem Kept.set4 {j : Nat} (h : Kept w k0 l W) (hj : k0 ≤ j) (hl : ∀ x ∈ l, j ≠ x.k) (p q r s : Value) : Kept w k0 l (Go.Proofs.Ytdeidgbknlmhjab.set4 W j p q r s) :=
  (((h.set hj hl p).set hj hl q).set hj hl r).set hj hl s
theorem Kept.set4' {j : Nat} (h : Kept w k0 l W) (hj : k0 ≤ j) (hl : ∀ x ∈ l, j ≠ x.k) (p q r s : Value) :
    Kept w k0 l ((((W.setCell ⟨j, 0, none⟩ p).setCell ⟨j, 1, none⟩ q).setCell ⟨j, 2, none⟩ r).setCell ⟨j, 3, none⟩ s) := h.set4 hj hl p q r s
theorem Kept.lts (h : Kept w k0 l W) : ∀ x ∈ l, x.k < W.heap.size := fun x hx => (h.at' x hx).lt
theorem Kept.head (h : Kept w k0 (x :: l) W) : x.at W := h.at' x (List.mem_cons_self)
theorem Kept.tail (h : Kept w k0 (x :: l) W) : Kept w k0 l W := ⟨h.bl, h.le, fun y hy => h.at' y (List.mem_cons_of_mem _ hy)⟩
theorem At4.blk {k a b c d : Nat} (h : At4 W k a b c d) : (Blk.mk k 0 a b c d).at W := ⟨h.c0, h.c1, h.c2, h.c3, h.f⟩
theorem Blk.at.at4 {k a b c d : Nat} (h : (Blk.mk k 0 a b c d).at W) : At4 W k a b c d := ⟨h.c0, h.c1, h.c2, h.c3, h.f⟩
theorem Kept.mk1 (hb : Below k0 w W) (hl : k0 ≤ W.heap.size) : Kept w k0 [] W := ⟨hb, hl, fun _ h => by cases h⟩
theorem Kept.cons (h : Kept w k0 l W) (hx : x.at W) : Kept w k0 (x :: l) W :=
  ⟨h.bl, h.le, fun y hy => by rcases List.mem_cons.1 hy with rfl | h2; exact hx; exact h.at' y h2⟩
theorem Kept.put {j a b c d : Nat} (h : Kept w k0 (⟨j, 0, a, b, c, d⟩ :: l) W) (hj : k0 ≤ j) (hl : ∀ x ∈ l, j ≠ x.k) (x y z t : Nat) :
    Kept w k0 (⟨j, 0, x, y, z, t⟩ :: l) ((((W.setCell ⟨j, 0, none⟩ (.int .u64 (x : Int))).setCell ⟨j, 1, none⟩ (.int .u64 (y : Int))).setCell ⟨j, 2, none⟩ (.int .u64 (z : Int))).setCell ⟨j, 3, none⟩ (.int .u64 (t : Int))) :=
  (h.tail.set4' hj hl _ _ _ _).cons (h.head.at4.self4 x y z t).blk
/-- A block of one's own, made last, may hold what it will. -/
theorem Kept.again {o o' : Obj} (h : Kept w k0 l (W.alloc o)) (hk : k0 ≤ W.heap.size) (hl : ∀ x ∈ l, x.k < W.heap.size) : Kept w k0 l (W.alloc o') := by
  have hcell : ∀ (x : Blk), x.k < W.heap.size → ∀ i, (W.alloc o').cell? ⟨x.k, i, none⟩ = (W.alloc o).cell? ⟨x.k, i, none⟩ := fun x hx i => by
    rw [World.cell?_alloc_lt (h := hx), World.cell?_alloc_lt (h := hx)]
  have hb : Below k0 (W.alloc o) (W.alloc o') := ⟨rfl, rfl, rfl, by simp, fun k hkk => by rw [Below.heap_alloc _ _ _ (by omega), Below.heap_alloc _ _ _ (by omega)]⟩
  refine ⟨h.bl.trans hb, by simp; omega, fun x hx => ?_⟩
  have := h.at' x hx
  have hlt := hl x hx
  refine ⟨by rw [hcell x hlt]; exact this.c0, by rw [hcell x hlt]; exact this.c1, by rw [hcell x hlt]; exact this.c2, by rw [hcell x hlt]; exact this.c3, fun i => ?_⟩
  rw [World.frozen?_alloc_old _ _ _ (by show x.k ≠ _; omega), ← World.frozen?_alloc_old W o ⟨x.k, i, none⟩ (by show x.k ≠ _; omega)]
  exact this.f i
end Go.Proofs.Ytdeidgbknlmhjab
