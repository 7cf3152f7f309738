import Derived.Test.YtdeidgbknlmhjabC2
import Derived.Deep.Draws
namespace Go.Proofs.Ytdeidgbknlmhjab
open Go.RowKit Go.Sort

/-- Eight words lie in a block of their own. -/
structure At8 (w : World) (k a b c d e f g h : Nat) : Prop where
  c0 : w.cell? ⟨k, 0, none⟩ = some (.int .u64 (a : Int))
  c1 : w.cell? ⟨k, 1, none⟩ = some (.int .u64 (b : Int))
  c2 : w.cell? ⟨k, 2, none⟩ = some (.int .u64 (c : Int))
  c3 : w.cell? ⟨k, 3, none⟩ = some (.int .u64 (d : Int))
  c4 : w.cell? ⟨k, 4, none⟩ = some (.int .u64 (e : Int))
  c5 : w.cell? ⟨k, 5, none⟩ = some (.int .u64 (f : Int))
  c6 : w.cell? ⟨k, 6, none⟩ = some (.int .u64 (g : Int))
  c7 : w.cell? ⟨k, 7, none⟩ = some (.int .u64 (h : Int))
  fz : ∀ o, w.frozen? ⟨k, o, none⟩ = false

variable {w w1 : World} {k a b c d e f g h : Nat}

theorem At8.lt (H : At8 w k a b c d e f g h) : k < w.heap.size := World.block_lt_of_cell? _ _ H.c0
theorem At8.below {B : Nat} (H : At8 w k a b c d e f g h) (hb : Below B w w1) (hk : k < B) : At8 w1 k a b c d e f g h :=
  ⟨by rw [hb.cell (p := ⟨k, 0, none⟩) hk]; exact H.c0, by rw [hb.cell (p := ⟨k, 1, none⟩) hk]; exact H.c1, by rw [hb.cell (p := ⟨k, 2, none⟩) hk]; exact H.c2, by rw [hb.cell (p := ⟨k, 3, none⟩) hk]; exact H.c3, by rw [hb.cell (p := ⟨k, 4, none⟩) hk]; exact H.c4, by rw [hb.cell (p := ⟨k, 5, none⟩) hk]; exact H.c5, by rw [hb.cell (p := ⟨k, 6, none⟩) hk]; exact H.c6, by rw [hb.cell (p := ⟨k, 7, none⟩) hk]; exact H.c7,
    fun o => by rw [hb.frozen (p := ⟨k, o, none⟩) hk]; exact H.fz o⟩
theorem At8.call (H : At8 w k a b c d e f g h) (hb : Below w.heap.size w w1) : At8 w1 k a b c d e f g h := H.below hb H.lt
theorem At8.alloc (H : At8 w k a b c d e f g h) (o : Obj) : At8 (w.alloc o) k a b c d e f g h := H.call (below1 w o)
theorem At8.drewN (H : At8 w k a b c d e f g h) (q : Nat) : At8 (w.drewN q) k a b c d e f g h := ⟨H.c0, H.c1, H.c2, H.c3, H.c4, H.c5, H.c6, H.c7, H.fz⟩
theorem At8.drew (H : At8 w k a b c d e f g h) : At8 w.drew k a b c d e f g h := ⟨H.c0, H.c1, H.c2, H.c3, H.c4, H.c5, H.c6, H.c7, H.fz⟩
theorem At8.made (w : World) (t : TypeId) (a b c d e f g h : Nat) {k : Nat} (hk : w.heap.size = k) : At8 (w.alloc (.cells #[.int .u64 (a : Int), .int .u64 (b : Int), .int .u64 (c : Int), .int .u64 (d : Int), .int .u64 (e : Int), .int .u64 (f : Int), .int .u64 (g : Int), .int .u64 (h : Int)] t)) k a b c d e f g h := by
  subst hk
  exact ⟨by rw [World.cell?_alloc_new]; rfl, by rw [World.cell?_alloc_new]; rfl, by rw [World.cell?_alloc_new]; rfl, by rw [World.cell?_alloc_new]; rfl, by rw [World.cell?_alloc_new]; rfl, by rw [World.cell?_alloc_new]; rfl, by rw [World.cell?_alloc_new]; rfl, by rw [World.cell?_alloc_new]; rfl, fun o => World.frozen?_alloc_new _ _ _ _⟩
theorem At8.other {j o : Nat} (H : At8 w k a b c d e f g h) (hj : j ≠ k) (v : Value) : At8 (w.setCell ⟨j, o, none⟩ v) k a b c d e f g h :=
  ⟨by rw [World.cell?_setCell_other _ _ _ _ (ne_addr (Or.inl hj))]; exact H.c0, by rw [World.cell?_setCell_other _ _ _ _ (ne_addr (Or.inl hj))]; exact H.c1, by rw [World.cell?_setCell_other _ _ _ _ (ne_addr (Or.inl hj))]; exact H.c2, by rw [World.cell?_setCell_other _ _ _ _ (ne_addr (Or.inl hj))]; exact H.c3, by rw [World.cell?_setCell_other _ _ _ _ (ne_addr (Or.inl hj))]; exact H.c4, by rw [World.cell?_setCell_other _ _ _ _ (ne_addr (Or.inl hj))]; exact H.c5, by rw [World.cell?_setCell_other _ _ _ _ (ne_addr (Or.inl hj))]; exact H.c6, by rw [World.cell?_setCell_other _ _ _ _ (ne_addr (Or.inl hj))]; exact H.c7, fun o => by rw [World.frozen?_setCell]; exact H.fz o⟩
theorem At8.set0 (H : At8 w k a b c d e f g h) (x : Nat) : At8 (w.setCell ⟨k, 0, none⟩ (.int .u64 (x : Int))) k x b c d e f g h :=
  ⟨World.cell?_setCell_same _ _ _ H.c0, by rw [World.cell?_setCell_other _ _ _ _ (ne_addr (Or.inr (by decide)))]; exact H.c1, by rw [World.cell?_setCell_other _ _ _ _ (ne_addr (Or.inr (by decide)))]; exact H.c2, by rw [World.cell?_setCell_other _ _ _ _ (ne_addr (Or.inr (by decide)))]; exact H.c3, by rw [World.cell?_setCell_other _ _ _ _ (ne_addr (Or.inr (by decide)))]; exact H.c4, by rw [World.cell?_setCell_other _ _ _ _ (ne_addr (Or.inr (by decide)))]; exact H.c5, by rw [World.cell?_setCell_other _ _ _ _ (ne_addr (Or.inr (by decide)))]; exact H.c6, by rw [World.cell?_setCell_other _ _ _ _ (ne_addr (Or.inr (by decide)))]; exact H.c7, fun o => by rw [World.frozen?_setCell]; exact H.fz o⟩
theorem At8.set1 (H : At8 w k a b c d e f g h) (x : Nat) : At8 (w.setCell ⟨k, 1, none⟩ (.int .u64 (x : Int))) k a x c d e f g h :=
  ⟨by rw [World.cell?_setCell_other _ _ _ _ (ne_addr (Or.inr (by decide)))]; exact H.c0, World.cell?_setCell_same _ _ _ H.c1, by rw [World.cell?_setCell_other _ _ _ _ (ne_addr (Or.inr (by decide)))]; exact H.c2, by rw [World.cell?_setCell_other _ _ _ _ (ne_addr (Or.inr (by decide)))]; exact H.c3, by rw [World.cell?_setCell_other _ _ _ _ (ne_addr (Or.inr (by decide)))]; exact H.c4, by rw [World.cell?_setCell_other _ _ _ _ (ne_addr (Or.inr (by decide)))]; exact H.c5, by rw [World.cell?_setCell_other _ _ _ _ (ne_addr (Or.inr (by decide)))]; exact H.c6, by rw [World.cell?_setCell_other _ _ _ _ (ne_addr (Or.inr (by decide)))]; exact H.c7, fun o => by rw [World.frozen?_setCell]; exact H.fz o⟩
theorem At8.set2 (H : At8 w k a b c d e f g h) (x : Nat) : At8 (w.setCell ⟨k, 2, none⟩ (.int .u64 (x : Int))) k a b x d e f g h :=
  ⟨by rw [World.cell?_setCell_other _ _ _ _ (ne_addr (Or.inr (by decide)))]; exact H.c0, by rw [World.cell?_setCell_other _ _ _ _ (ne_addr (Or.inr (by decide)))]; exact H.c1, World.cell?_setCell_same _ _ _ H.c2, by rw [World.cell?_setCell_other _ _ _ _ (ne_addr (Or.inr (by decide)))]; exact H.c3, by rw [World.cell?_setCell_other _ _ _ _ (ne_addr (Or.inr (by decide)))]; exact H.c4, by rw [World.cell?_setCell_other _ _ _ _ (ne_addr (Or.inr (by decide)))]; exact H.c5, by rw [World.cell?_setCell_other _ _ _ _ (ne_addr (Or.inr (by decide)))]; exact H.c6, by rw [World.cell?_setCell_other _ _ _ _ (ne_addr (Or.inr (by decide)))]; exact H.c7, fun o => by rw [World.frozen?_setCell]; exact H.fz o⟩
theorem At8.set3 (H : At8 w k a b c d e f g h) (x : Nat) : At8 (w.setCell ⟨k, 3, none⟩ (.int .u64 (x : Int))) k a b c x e f g h :=
  ⟨by rw [World.cell?_setCell_other _ _ _ _ (ne_addr (Or.inr (by decide)))]; exact H.c0, by rw [World.cell?_setCell_other _ _ _ _ (ne_addr (Or.inr (by decide)))]; exact H.c1, by rw [World.cell?_setCell_other _ _ _ _ (ne_addr (Or.inr (by decide)))]; exact H.c2, World.cell?_setCell_same _ _ _ H.c3, by rw [World.cell?_setCell_other _ _ _ _ (ne_addr (Or.inr (by decide)))]; exact H.c4, by rw [World.cell?_setCell_other _ _ _ _ (ne_addr (Or.inr (by decide)))]; exact H.c5, by rw [World.cell?_setCell_other _ _ _ _ (ne_addr (Or.inr (by decide)))]; exact H.c6, by rw [World.cell?_setCell_other _ _ _ _ (ne_addr (Or.inr (by decide)))]; exact H.c7, fun o => by rw [World.frozen?_setCell]; exact H.fz o⟩
theorem At8.set4 (H : At8 w k a b c d e f g h) (x : Nat) : At8 (w.setCell ⟨k, 4, none⟩ (.int .u64 (x : Int))) k a b c d x f g h :=
  ⟨by rw [World.cell?_setCell_other _ _ _ _ (ne_addr (Or.inr (by decide)))]; exact H.c0, by rw [World.cell?_setCell_other _ _ _ _ (ne_addr (Or.inr (by decide)))]; exact H.c1, by rw [World.cell?_setCell_other _ _ _ _ (ne_addr (Or.inr (by decide)))]; exact H.c2, by rw [World.cell?_setCell_other _ _ _ _ (ne_addr (Or.inr (by decide)))]; exact H.c3, World.cell?_setCell_same _ _ _ H.c4, by rw [World.cell?_setCell_other _ _ _ _ (ne_addr (Or.inr (by decide)))]; exact H.c5, by rw [World.cell?_setCell_other _ _ _ _ (ne_addr (Or.inr (by decide)))]; exact H.c6, by rw [World.cell?_setCell_other _ _ _ _ (ne_addr (Or.inr (by decide)))]; exact H.c7, fun o => by rw [World.frozen?_setCell]; exact H.fz o⟩
theorem At8.set5 (H : At8 w k a b c d e f g h) (x : Nat) : At8 (w.setCell ⟨k, 5, none⟩ (.int .u64 (x : Int))) k a b c d e x g h :=
  ⟨by rw [World.cell?_setCell_other _ _ _ _ (ne_addr (Or.inr (by decide)))]; exact H.c0, by rw [World.cell?_setCell_other _ _ _ _ (ne_addr (Or.inr (by decide)))]; exact H.c1, by rw [World.cell?_setCell_other _ _ _ _ (ne_addr (Or.inr (by decide)))]; exact H.c2, by rw [World.cell?_setCell_other _ _ _ _ (ne_addr (Or.inr (by decide)))]; exact H.c3, by rw [World.cell?_setCell_other _ _ _ _ (ne_addr (Or.inr (by decide)))]; exact H.c4, World.cell?_setCell_same _ _ _ H.c5, by rw [World.cell?_setCell_other _ _ _ _ (ne_addr (Or.inr (by decide)))]; exact H.c6, by rw [World.cell?_setCell_other _ _ _ _ (ne_addr (Or.inr (by decide)))]; exact H.c7, fun o => by rw [World.frozen?_setCell]; exact H.fz o⟩
theorem At8.set6 (H : At8 w k a b c d e f g h) (x : Nat) : At8 (w.setCell ⟨k, 6, none⟩ (.int .u64 (x : Int))) k a b c d e f x h :=
  ⟨by rw [World.cell?_setCell_other _ _ _ _ (ne_addr (Or.inr (by decide)))]; exact H.c0, by rw [World.cell?_setCell_other _ _ _ _ (ne_addr (Or.inr (by decide)))]; exact H.c1, by rw [World.cell?_setCell_other _ _ _ _ (ne_addr (Or.inr (by decide)))]; exact H.c2, by rw [World.cell?_setCell_other _ _ _ _ (ne_addr (Or.inr (by decide)))]; exact H.c3, by rw [World.cell?_setCell_other _ _ _ _ (ne_addr (Or.inr (by decide)))]; exact H.c4, by rw [World.cell?_setCell_other _ _ _ _ (ne_addr (Or.inr (by decide)))]; exact H.c5, World.cell?_setCell_same _ _ _ H.c6, by rw [World.cell?_setCell_other _ _ _ _ (ne_addr (Or.inr (by decide)))]; exact H.c7, fun o => by rw [World.frozen?_setCell]; exact H.fz o⟩
theorem At8.set7 (H : At8 w k a b c d e f g h) (x : Nat) : At8 (w.setCell ⟨k, 7, none⟩ (.int .u64 (x : Int))) k a b c d e f g x :=
  ⟨by rw [World.cell?_setCell_other _ _ _ _ (ne_addr (Or.inr (by decide)))]; exact H.c0, by rw [World.cell?_setCell_other _ _ _ _ (ne_addr (Or.inr (by decide)))]; exact H.c1, by rw [World.cell?_setCell_other _ _ _ _ (ne_addr (Or.inr (by decide)))]; exact H.c2, by rw [World.cell?_setCell_other _ _ _ _ (ne_addr (Or.inr (by decide)))]; exact H.c3, by rw [World.cell?_setCell_other _ _ _ _ (ne_addr (Or.inr (by decide)))]; exact H.c4, by rw [World.cell?_setCell_other _ _ _ _ (ne_addr (Or.inr (by decide)))]; exact H.c5, by rw [World.cell?_setCell_other _ _ _ _ (ne_addr (Or.inr (by decide)))]; exact H.c6, World.cell?_setCell_same _ _ _ H.c7, fun o => by rw [World.frozen?_setCell]; exact H.fz o⟩

/-- Eight cells of a block, written one behind the other. -/
def set8c (w : World) (k : Nat) (x0 x1 x2 x3 x4 x5 x6 x7 : Value) : World :=
  (((((((w.setCell ⟨k, 0, none⟩ x0).setCell ⟨k, 1, none⟩ x1).setCell ⟨k, 2, none⟩ x2).setCell ⟨k, 3, none⟩ x3).setCell ⟨k, 4, none⟩ x4).setCell ⟨k, 5, none⟩ x5).setCell ⟨k, 6, none⟩ x6).setCell ⟨k, 7, none⟩ x7
theorem At8.self8 (H : At8 w k a b c d e f g h) (x0 x1 x2 x3 x4 x5 x6 x7 : Nat) : At8 (set8c w k (.int .u64 (x0 : Int)) (.int .u64 (x1 : Int)) (.int .u64 (x2 : Int)) (.int .u64 (x3 : Int)) (.int .u64 (x4 : Int)) (.int .u64 (x5 : Int)) (.int .u64 (x6 : Int)) (.int .u64 (x7 : Int))) k x0 x1 x2 x3 x4 x5 x6 x7 :=
  (((((((H.set0 x0).set1 x1).set2 x2).set3 x3).set4 x4).set5 x5).set6 x6).set7 x7
theorem At8.other8 {j : Nat} (H : At8 w k a b c d e f g h) (hj : j ≠ k) (x0 x1 x2 x3 x4 x5 x6 x7 : Value) : At8 (set8c w j x0 x1 x2 x3 x4 x5 x6 x7) k a b c d e f g h :=
  (((((((H.other hj x0).other hj x1).other hj x2).other hj x3).other hj x4).other hj x5).other hj x6).other hj x7
theorem At4.other8 {j : Nat} {w : World} {k a b c d : Nat} (H : At4 w k a b c d) (hj : j ≠ k) (x0 x1 x2 x3 x4 x5 x6 x7 : Value) : At4 (set8c w j x0 x1 x2 x3 x4 x5 x6 x7) k a b c d :=
  (((((((H.other hj x0).other hj x1).other hj x2).other hj x3).other hj x4).other hj x5).other hj x6).other hj x7
theorem At8.other4 {j : Nat} (H : At8 w k a b c d e f g h) (hj : j ≠ k) (x y z t : Value) : At8 (Go.Proofs.Ytdeidgbknlmhjab.set4 w j x y z t) k a b c d e f g h := (((H.other hj x).other hj y).other hj z).other hj t
theorem below_set8c {B j : Nat} {w0 : World} (H : Below B w0 w) (hj : B ≤ j) (x0 x1 x2 x3 x4 x5 x6 x7 : Value) : Below B w0 (set8c w j x0 x1 x2 x3 x4 x5 x6 x7) :=
  (((((((H.setCell (p := ⟨j, 0, none⟩) hj x0).setCell (p := ⟨j, 1, none⟩) hj x1).setCell (p := ⟨j, 2, none⟩) hj x2).setCell (p := ⟨j, 3, none⟩) hj x3).setCell (p := ⟨j, 4, none⟩) hj x4).setCell (p := ⟨j, 5, none⟩) hj x5).setCell (p := ⟨j, 6, none⟩) hj x6).setCell (p := ⟨j, 7, none⟩) hj x7
theorem belowDrewN {B : Nat} {w0 : World} (H : Below B w0 w) (q : Nat) : Below B w0 (w.drewN q) := ⟨H.os, H.tape, H.output, H.size, H.block⟩
end Go.Proofs.Ytdeidgbknlmhjab
