import Derived.Test.YtdeidgbknlmhjabC1
namespace Go.Proofs.Ytdeidgbknlmhjab
open Go.RowKit Go.Sort

/-- Four words lie in a block of their own. -/
structure At4 (w : World) (k a b c d : Nat) : Prop where
  c0 : w.cell? ⟨k, 0, none⟩ = some (.int .u64 (a : Int))
  c1 : w.cell? ⟨k, 1, none⟩ = some (.int .u64 (b : Int))
  c2 : w.cell? ⟨k, 2, none⟩ = some (.int .u64 (c : Int))
  c3 : w.cell? ⟨k, 3, none⟩ = some (.int .u64 (d : Int))
  f : ∀ o, w.frozen? ⟨k, o, none⟩ = false

variable {w w1 : World} {k a b c d : Nat}

theorem At4.lt (h : At4 w k a b c d) : k < w.heap.size := World.block_lt_of_cell? _ _ h.c0
theorem At4.below {B : Nat} (h : At4 w k a b c d) (hb : Below B w w1) (hk : k < B) : At4 w1 k a b c d :=
  ⟨by rw [hb.cell (p := ⟨k, 0, none⟩) hk]; exact h.c0, by rw [hb.cell (p := ⟨k, 1, none⟩) hk]; exact h.c1, by rw [hb.cell (p := ⟨k, 2, none⟩) hk]; exact h.c2, by rw [hb.cell (p := ⟨k, 3, none⟩) hk]; exact h.c3,
    fun o => by rw [hb.frozen (p := ⟨k, o, none⟩) hk]; exact h.f o⟩
theorem At4.call (h : At4 w k a b c d) (hb : Below w.heap.size w w1) : At4 w1 k a b c d := h.below hb h.lt
theorem At4.alloc (h : At4 w k a b c d) (o : Obj) : At4 (w.alloc o) k a b c d := h.call (below1 w o)
theorem At4.drewN (h : At4 w k a b c d) (q : Nat) : At4 (w.drewN q) k a b c d := ⟨h.c0, h.c1, h.c2, h.c3, h.f⟩
theorem At4.new (w : World) (t : TypeId) (a b c d : Nat) : At4 (w.alloc (.cells #[.int .u64 (a : Int), .int .u64 (b : Int), .int .u64 (c : Int), .int .u64 (d : Int)] t)) w.heap.size a b c d :=
  ⟨by rw [World.cell?_alloc_new]; rfl, by rw [World.cell?_alloc_new]; rfl, by rw [World.cell?_alloc_new]; rfl, by rw [World.cell?_alloc_new]; rfl, fun o => World.frozen?_alloc_new _ _ _ _⟩
theorem At4.made (w : World) (t : TypeId) (a b c d : Nat) {k : Nat} (hk : w.heap.size = k) : At4 (w.alloc (.cells #[.int .u64 (a : Int), .int .u64 (b : Int), .int .u64 (c : Int), .int .u64 (d : Int)] t)) k a b c d :=
  hk ▸ At4.new w t a b c d
theorem ne_addr {i j : Nat} {o o' : Nat} (h : i ≠ j ∨ o ≠ o') : (⟨i, o, none⟩ : Addr) ≠ ⟨j, o', none⟩ := by
  intro e
  simp only [Addr.mk.injEq, and_true] at e
  omega
theorem At4.other {j o : Nat} (h : At4 w k a b c d) (hj : j ≠ k) (v : Value) : At4 (w.setCell ⟨j, o, none⟩ v) k a b c d :=
  ⟨by rw [World.cell?_setCell_other _ _ _ _ (ne_addr (Or.inl hj))]; exact h.c0, by rw [World.cell?_setCell_other _ _ _ _ (ne_addr (Or.inl hj))]; exact h.c1,
   by rw [World.cell?_setCell_other _ _ _ _ (ne_addr (Or.inl hj))]; exact h.c2, by rw [World.cell?_setCell_other _ _ _ _ (ne_addr (Or.inl hj))]; exact h.c3, fun o => by rw [World.frozen?_setCell]; exact h.f o⟩
theorem At4.set0 (h : At4 w k a b c d) (x : Nat) : At4 (w.setCell ⟨k, 0, none⟩ (.int .u64 (x : Int))) k x b c d :=
  ⟨World.cell?_setCell_same _ _ _ h.c0, by rw [World.cell?_setCell_other _ _ _ _ (ne_addr (Or.inr (by decide)))]; exact h.c1,
   by rw [World.cell?_setCell_other _ _ _ _ (ne_addr (Or.inr (by decide)))]; exact h.c2, by rw [World.cell?_setCell_other _ _ _ _ (ne_addr (Or.inr (by decide)))]; exact h.c3, fun o => by rw [World.frozen?_setCell]; exact h.f o⟩
theorem At4.set1 (h : At4 w k a b c d) (x : Nat) : At4 (w.setCell ⟨k, 1, none⟩ (.int .u64 (x : Int))) k a x c d :=
  ⟨by rw [World.cell?_setCell_other _ _ _ _ (ne_addr (Or.inr (by decide)))]; exact h.c0, World.cell?_setCell_same _ _ _ h.c1,
   by rw [World.cell?_setCell_other _ _ _ _ (ne_addr (Or.inr (by decide)))]; exact h.c2, by rw [World.cell?_setCell_other _ _ _ _ (ne_addr (Or.inr (by decide)))]; exact h.c3, fun o => by rw [World.frozen?_setCell]; exact h.f o⟩
theorem At4.set2 (h : At4 w k a b c d) (x : Nat) : At4 (w.setCell ⟨k, 2, none⟩ (.int .u64 (x : Int))) k a b x d :=
  ⟨by rw [World.cell?_setCell_other _ _ _ _ (ne_addr (Or.inr (by decide)))]; exact h.c0, by rw [World.cell?_setCell_other _ _ _ _ (ne_addr (Or.inr (by decide)))]; exact h.c1,
   World.cell?_setCell_same _ _ _ h.c2, by rw [World.cell?_setCell_other _ _ _ _ (ne_addr (Or.inr (by decide)))]; exact h.c3, fun o => by rw [World.frozen?_setCell]; exact h.f o⟩
theorem At4.set3 (h : At4 w k a b c d) (x : Nat) : At4 (w.setCell ⟨k, 3, none⟩ (.int .u64 (x : Int))) k a b c x :=
  ⟨by rw [World.cell?_setCell_other _ _ _ _ (ne_addr (Or.inr (by decide)))]; exact h.c0, by rw [World.cell?_setCell_other _ _ _ _ (ne_addr (Or.inr (by decide)))]; exact h.c1,
   by rw [World.cell?_setCell_other _ _ _ _ (ne_addr (Or.inr (by decide)))]; exact h.c2, World.cell?_setCell_same _ _ _ h.c3, fun o => by rw [World.frozen?_setCell]; exact h.f o⟩

theorem At4.drew (h : At4 w k a b c d) : At4 w.drew k a b c d := ⟨h.c0, h.c1, h.c2, h.c3, h.f⟩

/-- Four cells of a block, written one behind the other. -/
def set4 (w : World) (k : Nat) (x y z t : Value) : World := (((w.setCell ⟨k, 0, none⟩ x).setCell ⟨k, 1, none⟩ y).setCell ⟨k, 2, none⟩ z).setCell ⟨k, 3, none⟩ t
theorem At4.self4 (h : At4 w k a b c d) (x y z t : Nat) : At4 (set4 w k (.int .u64 (x : Int)) (.int .u64 (y : Int)) (.int .u64 (z : Int)) (.int .u64 (t : Int))) k x y z t := (((h.set0 x).set1 y).set2 z).set3 t
theorem At4.other4 {j : Nat} (h : At4 w k a b c d) (hj : j ≠ k) (x y z t : Value) : At4 (set4 w j x y z t) k a b c d := (((h.other hj x).other hj y).other hj z).other hj t
theorem below_set4 {B j : Nat} {w0 : World} (h : Below B w0 w) (hj : B ≤ j) (x y z t : Value) : Below B w0 (set4 w j x y z t) :=
  (((h.setCell (p := ⟨j, 0, none⟩) hj x).setCell (p := ⟨j, 1, none⟩) hj y).setCell (p := ⟨j, 2, none⟩) hj z).setCell (p := ⟨j, 3, none⟩) hj t
theorem size_set4 (w : World) (j : Nat) (x y z t : Value) : (set4 w j x y z t).heap.size = w.heap.size := by simp [set4]

/-- A prime: 2^256 less its gap, which has three words. -/
def PrimeV (p : Value) (g0 g1 g2 : Nat) : Prop := p = .agg #[.agg #[.int .u64 (g0 : Int), .int .u64 (g1 : Int), .int .u64 (g2 : Int), .int .u64 0]]

end Go.Proofs.Ytdeidgbknlmhjab
