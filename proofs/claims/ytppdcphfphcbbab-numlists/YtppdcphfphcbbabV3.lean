import Derived.Test.YtppdcphfphcbbabV2
import Derived.Test.YtppdcphfphcbbabN3
import Derived.Test.YtppdcphfphcbbabU1
import Derived.Deep.CutRange
import Derived.Deep.DeepCutAuto
namespace Go.Proofs.Ytppdcphfphcbbab
open Go.RowKit Go.Sort Go.Deep

/-- A list of texts in a block. -/
def Texts (w : World) (q : Option Addr) (n : Nat) (S : Nat → ByteArray) : Prop := 0 < n → ∃ gg oo, q = some ⟨gg, oo, none⟩ ∧ gg < w.heap.size ∧ ∀ j, j < n → w.cell? ⟨gg, oo + j, none⟩ = some (.string (S j))

theorem lnS_of {w W : World} {k0 p0 p1 p2 p3 c0 c1 c2 c3 gg oo : Nat} {x : ByteArray} {l : List Blk} (h : Kept w k0 (⟨k0, 0, p0, p1, p2, p3⟩ :: ⟨k0, 4, c0, c1, c2, c3⟩ :: l) W) (hk : w.heap.size = k0) (hg : gg < w.heap.size) (hc : w.cell? ⟨gg, oo, none⟩ = some (.string x)) : W.cell? ⟨k0, 0, none⟩ = some (.int .u64 (p0 : Int)) ∧ W.cell? ⟨k0, 1, none⟩ = some (.int .u64 (p1 : Int)) ∧ W.cell? ⟨k0, 2, none⟩ = some (.int .u64 (p2 : Int)) ∧ W.cell? ⟨k0, 3, none⟩ = some (.int .u64 (p3 : Int)) ∧ W.cell? ⟨k0, 4, none⟩ = some (.int .u64 (c0 : Int)) ∧ W.cell? ⟨k0, 5, none⟩ = some (.int .u64 (c1 : Int)) ∧ W.cell? ⟨k0, 6, none⟩ = some (.int .u64 (c2 : Int)) ∧ W.cell? ⟨k0, 7, none⟩ = some (.int .u64 (c3 : Int)) ∧ W.cell? ⟨gg, oo, none⟩ = some (.string x) ∧ Kept w k0 (⟨k0, 0, p0, p1, p2, p3⟩ :: ⟨k0, 4, c0, c1, c2, c3⟩ :: l) W := by
  have hb : Below w.heap.size w W := by rw [hk]; exact h.bl
  exact ⟨h.head.c0, h.head.c1, h.head.c2, h.head.c3, h.tail.head.c0, h.tail.head.c1, h.tail.head.c2, h.tail.head.c3, by rw [hb.cell (p := ⟨gg, oo, none⟩) hg]; exact hc, h⟩
theorem lnS_get {w W : World} {k0 p0 p1 p2 p3 c0 c1 c2 c3 gg oo : Nat} {x : ByteArray} {l : List Blk} (h : W.cell? ⟨k0, 0, none⟩ = some (.int .u64 (p0 : Int)) ∧ W.cell? ⟨k0, 1, none⟩ = some (.int .u64 (p1 : Int)) ∧ W.cell? ⟨k0, 2, none⟩ = some (.int .u64 (p2 : Int)) ∧ W.cell? ⟨k0, 3, none⟩ = some (.int .u64 (p3 : Int)) ∧ W.cell? ⟨k0, 4, none⟩ = some (.int .u64 (c0 : Int)) ∧ W.cell? ⟨k0, 5, none⟩ = some (.int .u64 (c1 : Int)) ∧ W.cell? ⟨k0, 6, none⟩ = some (.int .u64 (c2 : Int)) ∧ W.cell? ⟨k0, 7, none⟩ = some (.int .u64 (c3 : Int)) ∧ W.cell? ⟨gg, oo, none⟩ = some (.string x) ∧ Kept w k0 (⟨k0, 0, p0, p1, p2, p3⟩ :: ⟨k0, 4, c0, c1, c2, c3⟩ :: l) W) : Kept w k0 (⟨k0, 0, p0, p1, p2, p3⟩ :: ⟨k0, 4, c0, c1, c2, c3⟩ :: l) W := h.2.2.2.2.2.2.2.2.2
theorem lnS_call {w W w1 : World} {k0 p0 p1 p2 p3 c0 c1 c2 c3 gg oo : Nat} {x : ByteArray} {l : List Blk} (h : W.cell? ⟨k0, 0, none⟩ = some (.int .u64 (p0 : Int)) ∧ W.cell? ⟨k0, 1, none⟩ = some (.int .u64 (p1 : Int)) ∧ W.cell? ⟨k0, 2, none⟩ = some (.int .u64 (p2 : Int)) ∧ W.cell? ⟨k0, 3, none⟩ = some (.int .u64 (p3 : Int)) ∧ W.cell? ⟨k0, 4, none⟩ = some (.int .u64 (c0 : Int)) ∧ W.cell? ⟨k0, 5, none⟩ = some (.int .u64 (c1 : Int)) ∧ W.cell? ⟨k0, 6, none⟩ = some (.int .u64 (c2 : Int)) ∧ W.cell? ⟨k0, 7, none⟩ = some (.int .u64 (c3 : Int)) ∧ W.cell? ⟨gg, oo, none⟩ = some (.string x) ∧ Kept w k0 (⟨k0, 0, p0, p1, p2, p3⟩ :: ⟨k0, 4, c0, c1, c2, c3⟩ :: l) W) (hb : Below W.heap.size W w1) : w1.cell? ⟨k0, 0, none⟩ = some (.int .u64 (p0 : Int)) ∧ w1.cell? ⟨k0, 1, none⟩ = some (.int .u64 (p1 : Int)) ∧ w1.cell? ⟨k0, 2, none⟩ = some (.int .u64 (p2 : Int)) ∧ w1.cell? ⟨k0, 3, none⟩ = some (.int .u64 (p3 : Int)) ∧ w1.cell? ⟨k0, 4, none⟩ = some (.int .u64 (c0 : Int)) ∧ w1.cell? ⟨k0, 5, none⟩ = some (.int .u64 (c1 : Int)) ∧ w1.cell? ⟨k0, 6, none⟩ = some (.int .u64 (c2 : Int)) ∧ w1.cell? ⟨k0, 7, none⟩ = some (.int .u64 (c3 : Int)) ∧ w1.cell? ⟨gg, oo, none⟩ = some (.string x) ∧ Kept w k0 (⟨k0, 0, p0, p1, p2, p3⟩ :: ⟨k0, 4, c0, c1, c2, c3⟩ :: l) w1 := by
  have hk := (lnS_get h).call hb
  exact ⟨hk.head.c0, hk.head.c1, hk.head.c2, hk.head.c3, hk.tail.head.c0, hk.tail.head.c1, hk.tail.head.c2, hk.tail.head.c3, by rw [hb.cell (p := ⟨gg, oo, none⟩) (World.block_lt_of_cell? _ _ h.2.2.2.2.2.2.2.2.1)]; exact h.2.2.2.2.2.2.2.2.1, hk⟩
theorem lnS_drew {w W : World} {k0 p0 p1 p2 p3 c0 c1 c2 c3 gg oo : Nat} {x : ByteArray} {l : List Blk} (h : W.cell? ⟨k0, 0, none⟩ = some (.int .u64 (p0 : Int)) ∧ W.cell? ⟨k0, 1, none⟩ = some (.int .u64 (p1 : Int)) ∧ W.cell? ⟨k0, 2, none⟩ = some (.int .u64 (p2 : Int)) ∧ W.cell? ⟨k0, 3, none⟩ = some (.int .u64 (p3 : Int)) ∧ W.cell? ⟨k0, 4, none⟩ = some (.int .u64 (c0 : Int)) ∧ W.cell? ⟨k0, 5, none⟩ = some (.int .u64 (c1 : Int)) ∧ W.cell? ⟨k0, 6, none⟩ = some (.int .u64 (c2 : Int)) ∧ W.cell? ⟨k0, 7, none⟩ = some (.int .u64 (c3 : Int)) ∧ W.cell? ⟨gg, oo, none⟩ = some (.string x) ∧ Kept w k0 (⟨k0, 0, p0, p1, p2, p3⟩ :: ⟨k0, 4, c0, c1, c2, c3⟩ :: l) W) : W.drew.cell? ⟨k0, 0, none⟩ = some (.int .u64 (p0 : Int)) ∧ W.drew.cell? ⟨k0, 1, none⟩ = some (.int .u64 (p1 : Int)) ∧ W.drew.cell? ⟨k0, 2, none⟩ = some (.int .u64 (p2 : Int)) ∧ W.drew.cell? ⟨k0, 3, none⟩ = some (.int .u64 (p3 : Int)) ∧ W.drew.cell? ⟨k0, 4, none⟩ = some (.int .u64 (c0 : Int)) ∧ W.drew.cell? ⟨k0, 5, none⟩ = some (.int .u64 (c1 : Int)) ∧ W.drew.cell? ⟨k0, 6, none⟩ = some (.int .u64 (c2 : Int)) ∧ W.drew.cell? ⟨k0, 7, none⟩ = some (.int .u64 (c3 : Int)) ∧ W.drew.cell? ⟨gg, oo, none⟩ = some (.string x) ∧ Kept w k0 (⟨k0, 0, p0, p1, p2, p3⟩ :: ⟨k0, 4, c0, c1, c2, c3⟩ :: l) W.drew := by
  have hk := (lnS_get h).drew
  exact ⟨hk.head.c0, hk.head.c1, hk.head.c2, hk.head.c3, hk.tail.head.c0, hk.tail.head.c1, hk.tail.head.c2, hk.tail.head.c3, h.2.2.2.2.2.2.2.2.1, hk⟩
theorem lnS_alloc {w W : World} {k0 p0 p1 p2 p3 c0 c1 c2 c3 gg oo : Nat} {x : ByteArray} {l : List Blk} {o : Obj} (h : W.cell? ⟨k0, 0, none⟩ = some (.int .u64 (p0 : Int)) ∧ W.cell? ⟨k0, 1, none⟩ = some (.int .u64 (p1 : Int)) ∧ W.cell? ⟨k0, 2, none⟩ = some (.int .u64 (p2 : Int)) ∧ W.cell? ⟨k0, 3, none⟩ = some (.int .u64 (p3 : Int)) ∧ W.cell? ⟨k0, 4, none⟩ = some (.int .u64 (c0 : Int)) ∧ W.cell? ⟨k0, 5, none⟩ = some (.int .u64 (c1 : Int)) ∧ W.cell? ⟨k0, 6, none⟩ = some (.int .u64 (c2 : Int)) ∧ W.cell? ⟨k0, 7, none⟩ = some (.int .u64 (c3 : Int)) ∧ W.cell? ⟨gg, oo, none⟩ = some (.string x) ∧ Kept w k0 (⟨k0, 0, p0, p1, p2, p3⟩ :: ⟨k0, 4, c0, c1, c2, c3⟩ :: l) W) : (W.alloc o).cell? ⟨k0, 0, none⟩ = some (.int .u64 (p0 : Int)) ∧ (W.alloc o).cell? ⟨k0, 1, none⟩ = some (.int .u64 (p1 : Int)) ∧ (W.alloc o).cell? ⟨k0, 2, none⟩ = some (.int .u64 (p2 : Int)) ∧ (W.alloc o).cell? ⟨k0, 3, none⟩ = some (.int .u64 (p3 : Int)) ∧ (W.alloc o).cell? ⟨k0, 4, none⟩ = some (.int .u64 (c0 : Int)) ∧ (W.alloc o).cell? ⟨k0, 5, none⟩ = some (.int .u64 (c1 : Int)) ∧ (W.alloc o).cell? ⟨k0, 6, none⟩ = some (.int .u64 (c2 : Int)) ∧ (W.alloc o).cell? ⟨k0, 7, none⟩ = some (.int .u64 (c3 : Int)) ∧ (W.alloc o).cell? ⟨gg, oo, none⟩ = some (.string x) ∧ Kept w k0 (⟨k0, 0, p0, p1, p2, p3⟩ :: ⟨k0, 4, c0, c1, c2, c3⟩ :: l) (W.alloc o) := lnS_call h (below1 W o)
theorem lnS_allocd {w W : World} {k0 p0 p1 p2 p3 c0 c1 c2 c3 gg oo : Nat} {x : ByteArray} {l : List Blk} {o : Obj} (h : W.drew.cell? ⟨k0, 0, none⟩ = some (.int .u64 (p0 : Int)) ∧ W.drew.cell? ⟨k0, 1, none⟩ = some (.int .u64 (p1 : Int)) ∧ W.drew.cell? ⟨k0, 2, none⟩ = some (.int .u64 (p2 : Int)) ∧ W.drew.cell? ⟨k0, 3, none⟩ = some (.int .u64 (p3 : Int)) ∧ W.drew.cell? ⟨k0, 4, none⟩ = some (.int .u64 (c0 : Int)) ∧ W.drew.cell? ⟨k0, 5, none⟩ = some (.int .u64 (c1 : Int)) ∧ W.drew.cell? ⟨k0, 6, none⟩ = some (.int .u64 (c2 : Int)) ∧ W.drew.cell? ⟨k0, 7, none⟩ = some (.int .u64 (c3 : Int)) ∧ W.drew.cell? ⟨gg, oo, none⟩ = some (.string x) ∧ Kept w k0 (⟨k0, 0, p0, p1, p2, p3⟩ :: ⟨k0, 4, c0, c1, c2, c3⟩ :: l) W.drew) : (W.alloc o).drew.cell? ⟨k0, 0, none⟩ = some (.int .u64 (p0 : Int)) ∧ (W.alloc o).drew.cell? ⟨k0, 1, none⟩ = some (.int .u64 (p1 : Int)) ∧ (W.alloc o).drew.cell? ⟨k0, 2, none⟩ = some (.int .u64 (p2 : Int)) ∧ (W.alloc o).drew.cell? ⟨k0, 3, none⟩ = some (.int .u64 (p3 : Int)) ∧ (W.alloc o).drew.cell? ⟨k0, 4, none⟩ = some (.int .u64 (c0 : Int)) ∧ (W.alloc o).drew.cell? ⟨k0, 5, none⟩ = some (.int .u64 (c1 : Int)) ∧ (W.alloc o).drew.cell? ⟨k0, 6, none⟩ = some (.int .u64 (c2 : Int)) ∧ (W.alloc o).drew.cell? ⟨k0, 7, none⟩ = some (.int .u64 (c3 : Int)) ∧ (W.alloc o).drew.cell? ⟨gg, oo, none⟩ = some (.string x) ∧ Kept w k0 (⟨k0, 0, p0, p1, p2, p3⟩ :: ⟨k0, 4, c0, c1, c2, c3⟩ :: l) (W.alloc o).drew := by
  have hk := (lnS_get h).undrew
  have h1 : W.cell? ⟨gg, oo, none⟩ = some (.string x) := h.2.2.2.2.2.2.2.2.1
  have hk2 := (hk.alloc o).drew
  exact ⟨hk2.head.c0, hk2.head.c1, hk2.head.c2, hk2.head.c3, hk2.tail.head.c0, hk2.tail.head.c1, hk2.tail.head.c2, hk2.tail.head.c3, by show (W.alloc o).cell? _ = _; rw [(below1 W o).cell (p := ⟨gg, oo, none⟩) (World.block_lt_of_cell? _ _ h1)]; exact h1, hk2⟩

/-- What stands behind the reading of a number: in a block of its own. -/
def NumR (w : World) (k0 p0 p1 p2 p3 c0 c1 c2 c3 P : Nat) (l : List Blk) (x : ByteArray) (s1 s2 : Value) (wx : World) : Prop :=
  ∃ (kq na nb nc nd : Nat) (am : Bool), s1 = .pointer (some ⟨kq, 0, none⟩) ∧ s2 = .bool am ∧ Kept w k0 (⟨k0, 0, p0, p1, p2, p3⟩ :: ⟨k0, 4, c0, c1, c2, c3⟩ :: ⟨kq, 0, na, nb, nc, nd⟩ :: l) wx ∧ (∀ x ∈ l, kq ≠ x.k) ∧ kq ≠ k0 ∧ Four (.agg #[.int .u64 (na : Int), .int .u64 (nb : Int), .int .u64 (nc : Int), .int .u64 (nd : Int)]) (beV x.data.toList) ∧ P = P
theorem NumR.drew {w wx : World} {k0 p0 p1 p2 p3 c0 c1 c2 c3 P : Nat} {l : List Blk} {x : ByteArray} {s1 s2 : Value} (h : NumR w k0 p0 p1 p2 p3 c0 c1 c2 c3 P l x s1 s2 wx) : NumR w k0 p0 p1 p2 p3 c0 c1 c2 c3 P l x s1 s2 wx.drew := by
  obtain ⟨kq, na, nb, nc, nd, am, h1, h2, h3, h4⟩ := h
  exact ⟨kq, na, nb, nc, nd, am, h1, h2, h3.drew, h4⟩
theorem NumR.made {w w1 : World} {k0 p0 p1 p2 p3 c0 c1 c2 c3 P na nb nc nd : Nat} {l : List Blk} {x : ByteArray} {am : Bool} (KP : Kept w k0 (⟨k0, 0, p0, p1, p2, p3⟩ :: ⟨k0, 4, c0, c1, c2, c3⟩ :: l) w1) (h : Hid (Four (.agg #[.int .u64 (na : Int), .int .u64 (nb : Int), .int .u64 (nc : Int), .int .u64 (nd : Int)]) (beV x.data.toList))) :
    NumR w k0 p0 p1 p2 p3 c0 c1 c2 c3 P l x (.pointer (some ⟨w1.heap.size, 0, none⟩)) (.bool am) (w1.alloc (.cells #[.int .u64 (na : Int), .int .u64 (nb : Int), .int .u64 (nc : Int), .int .u64 (nd : Int)] 33)) := by
  have K := KP.alloc (.cells #[.int .u64 (na : Int), .int .u64 (nb : Int), .int .u64 (nc : Int), .int .u64 (nd : Int)] 33)
  exact ⟨w1.heap.size, na, nb, nc, nd, am, rfl, rfl, ((K.tail.tail.cons (At4.made w1 33 na nb nc nd rfl).blk).cons K.tail.head).cons K.head, fun x hx => Nat.ne_of_gt (KP.tail.tail.lts x hx), Nat.ne_of_gt KP.head.lt, h.out, rfl⟩
theorem NumR.put {w w1 : World} {k0 p0 p1 p2 p3 c0 c1 c2 c3 P na nb nc nd k7 y0 y1 y2 y3 : Nat} {l : List Blk} {x : ByteArray} {am : Bool} (KP : Kept w k0 (⟨k0, 0, p0, p1, p2, p3⟩ :: ⟨k0, 4, c0, c1, c2, c3⟩ :: l) w1) (T : At4 w1 k7 y0 y1 y2 y3) (M7 : k0 ≤ k7) (N7 : ∀ x ∈ (⟨k0, 0, p0, p1, p2, p3⟩ :: ⟨k0, 4, c0, c1, c2, c3⟩ :: l), x.k < k7) (h : Hid (Four (.agg #[.int .u64 (na : Int), .int .u64 (nb : Int), .int .u64 (nc : Int), .int .u64 (nd : Int)]) (beV x.data.toList))) :
    NumR w k0 p0 p1 p2 p3 c0 c1 c2 c3 P l x (.pointer (some ⟨k7, 0, none⟩)) (.bool am) ((((w1.setCell ⟨k7, 0, none⟩ (.int .u64 (na : Int))).setCell ⟨k7, 1, none⟩ (.int .u64 (nb : Int))).setCell ⟨k7, 2, none⟩ (.int .u64 (nc : Int))).setCell ⟨k7, 3, none⟩ (.int .u64 (nd : Int))) := by
  have K := KP.set4' M7 (fun x hx => Nat.ne_of_gt (N7 x hx)) (.int .u64 (na : Int)) (.int .u64 (nb : Int)) (.int .u64 (nc : Int)) (.int .u64 (nd : Int))
  exact ⟨k7, na, nb, nc, nd, am, rfl, rfl, ((K.tail.tail.cons (T.self4 na nb nc nd).blk).cons K.tail.head).cons K.head, fun x hx => Nat.ne_of_gt (N7 x (List.mem_cons_of_mem _ (List.mem_cons_of_mem _ hx))), Nat.ne_of_gt (N7 _ (List.mem_cons_self)), h.out, rfl⟩

theorem lmS_of {w W : World} {k0 ks kx ky p0 p1 p2 p3 c0 c1 c2 c3 sa sb sc sd xa xb xc xd ya yb yc yd : Nat} (h : Kept w k0 (⟨k0, 0, p0, p1, p2, p3⟩ :: ⟨k0, 4, c0, c1, c2, c3⟩ :: ⟨ky, 0, ya, yb, yc, yd⟩ :: ⟨kx, 0, xa, xb, xc, xd⟩ :: ⟨ks, 0, sa, sb, sc, sd⟩ :: []) W) : W.cell? ⟨k0, 0, none⟩ = some (.int .u64 (p0 : Int)) ∧ W.cell? ⟨k0, 1, none⟩ = some (.int .u64 (p1 : Int)) ∧ W.cell? ⟨k0, 2, none⟩ = some (.int .u64 (p2 : Int)) ∧ W.cell? ⟨k0, 3, none⟩ = some (.int .u64 (p3 : Int)) ∧ W.cell? ⟨k0, 4, none⟩ = some (.int .u64 (c0 : Int)) ∧ W.cell? ⟨k0, 5, none⟩ = some (.int .u64 (c1 : Int)) ∧ W.cell? ⟨k0, 6, none⟩ = some (.int .u64 (c2 : Int)) ∧ W.cell? ⟨k0, 7, none⟩ = some (.int .u64 (c3 : Int)) ∧ W.cell? ⟨ks, 0, none⟩ = some (.int .u64 (sa : Int)) ∧ W.cell? ⟨ks, 1, none⟩ = some (.int .u64 (sb : Int)) ∧ W.cell? ⟨ks, 2, none⟩ = some (.int .u64 (sc : Int)) ∧ W.cell? ⟨ks, 3, none⟩ = some (.int .u64 (sd : Int)) ∧ W.cell? ⟨kx, 0, none⟩ = some (.int .u64 (xa : Int)) ∧ W.cell? ⟨kx, 1, none⟩ = some (.int .u64 (xb : Int)) ∧ W.cell? ⟨kx, 2, none⟩ = some (.int .u64 (xc : Int)) ∧ W.cell? ⟨kx, 3, none⟩ = some (.int .u64 (xd : Int)) ∧ W.cell? ⟨ky, 0, none⟩ = some (.int .u64 (ya : Int)) ∧ W.cell? ⟨ky, 1, none⟩ = some (.int .u64 (yb : Int)) ∧ W.cell? ⟨ky, 2, none⟩ = some (.int .u64 (yc : Int)) ∧ W.cell? ⟨ky, 3, none⟩ = some (.int .u64 (yd : Int)) ∧ Kept w k0 (⟨k0, 0, p0, p1, p2, p3⟩ :: ⟨k0, 4, c0, c1, c2, c3⟩ :: ⟨ky, 0, ya, yb, yc, yd⟩ :: ⟨kx, 0, xa, xb, xc, xd⟩ :: ⟨ks, 0, sa, sb, sc, sd⟩ :: []) W :=
  ⟨h.head.c0, h.head.c1, h.head.c2, h.head.c3, h.tail.head.c0, h.tail.head.c1, h.tail.head.c2, h.tail.head.c3, h.tail.tail.tail.tail.head.c0, h.tail.tail.tail.tail.head.c1, h.tail.tail.tail.tail.head.c2, h.tail.tail.tail.tail.head.c3, h.tail.tail.tail.head.c0, h.tail.tail.tail.head.c1, h.tail.tail.tail.head.c2, h.tail.tail.tail.head.c3, h.tail.tail.head.c0, h.tail.tail.head.c1, h.tail.tail.head.c2, h.tail.tail.head.c3, h⟩

/-- What Dot answered, as a law reads it. -/
def DAns (W : World) (P n m : Nat) (S T : Nat → ByteArray) (q : Option Addr) (k c : Nat) (ep : Int) : Prop :=
  ((∀ j, j < n → IsNum P (S j).data) ∧ (∀ j, j < m → IsNum P (T j).data) ∧ n = m ∧ ep = 0 ∧ IsBytes W 0 (.slice q k c) (dsum P (fun j => beV (S j).data.toList) (fun j => beV (T j).data.toList) n)) ∨
  ((∀ j, j < n → IsNum P (S j).data) ∧ (∀ j, j < m → IsNum P (T j).data) ∧ ¬ n = m ∧ ep = 2 ∧ k = 0) ∨
  (((∃ j, j < n ∧ ¬ IsNum P (S j).data) ∨ (∃ j, j < m ∧ ¬ IsNum P (T j).data)) ∧ ep = 3 ∧ k = 0)

set_option maxHeartbeats 1000000 in
theorem ldot_long (n m cn cm : Nat) (qn qm qd : Option Addr) (cd : Nat) (p0 p1 p2 p3 c0 c1 c2 c3 : Nat) (w : World) (h : 256 < n ∨ 256 < m) (hs : n ≤ 300 ∧ m ≤ 300) :
    Calls Try.prog 28 #[.agg #[.int .u64 (p0 : Int), .int .u64 (p1 : Int), .int .u64 (p2 : Int), .int .u64 (p3 : Int), .int .u64 (c0 : Int), .int .u64 (c1 : Int), .int .u64 (c2 : Int), .int .u64 (c3 : Int)], .slice qn n cn, .slice qm m cm, .slice qd 0 cd, .int .i64 1] w (Ret fun e w' => Below w.heap.size w w' ∧ e = .bool true) := by
  by_cases h0 : 256 < n
  · have h0' : (256 : Int) < (n : Int) := by omega
    go_enter Try.func28, Try.ntmps28
    go_wp2
    go_ret
    exact ⟨_, rfl, below1 _ _, by simp⟩
  · have h0' : ¬ (256 : Int) < (n : Int) := by omega
    have h1' : (256 : Int) < (m : Int) := by omega
    go_enter Try.func28, Try.ntmps28
    go_wp2
    go_ret
    exact ⟨_, rfl, below1 _ _, by simp⟩

set_option maxHeartbeats 8000000 in
set_option maxRecDepth 100000 in
theorem ldot_any (n m cn cm k cd : Nat) (qn qm qd : Option Addr) (ep : Int) (p0 p1 p2 p3 c0 c1 c2 c3 P : Nat) (hR : RefP p0 p1 p2 p3 c0 c1 c2 c3 P) (S T : Nat → ByteArray) (w : World) (hn : n ≤ 256) (hm : m ≤ 256) (hS : Texts w qn n S) (hT : Texts w qm m T) (hA : DAns w P n m S T qd k cd ep) :
    Calls Try.prog 28 #[.agg #[.int .u64 (p0 : Int), .int .u64 (p1 : Int), .int .u64 (p2 : Int), .int .u64 (p3 : Int), .int .u64 (c0 : Int), .int .u64 (c1 : Int), .int .u64 (c2 : Int), .int .u64 (c3 : Int)], .slice qn n cn, .slice qm m cm, .slice qd k cd, .int .i64 ep] w (Ret fun e w' => Below w.heap.size w w' ∧ e = .bool true) := by
  have HR : Hid (RefP p0 p1 p2 p3 c0 c1 c2 c3 P) := hR
  have HS : Hid (Texts w qn n S) := hS
  have HT : Hid (Texts w qm m T) := hT
  have HA : Hid (DAns w P n m S T qd k cd ep) := hA
  have d1 : ¬ (256 : Int) < (n : Int) := by omega
  have d2 : ¬ (256 : Int) < (m : Int) := by omega
  clear hR hS hT hA
  go_enter Try.func28, Try.ntmps28
  go_wp2
  have A7 := At8.made w 35 p0 p1 p2 p3 c0 c1 c2 c3 rfl
  have K0 := ((Kept.mk1 (below1 w (.cells #[.int .u64 (p0 : Int), .int .u64 (p1 : Int), .int .u64 (p2 : Int), .int .u64 (p3 : Int), .int .u64 (c0 : Int), .int .u64 (c1 : Int), .int .u64 (c2 : Int), .int .u64 (c3 : Int)] 35)) (below1 w (.cells #[.int .u64 (p0 : Int), .int .u64 (p1 : Int), .int .u64 (p2 : Int), .int .u64 (p3 : Int), .int .u64 (c0 : Int), .int .u64 (c1 : Int), .int .u64 (c2 : Int), .int .u64 (c3 : Int)] 35)).size).cons (x := ⟨w.heap.size, 4, c0, c1, c2, c3⟩) ⟨A7.c4, A7.c5, A7.c6, A7.c7, A7.fz⟩).cons (x := ⟨w.heap.size, 0, p0, p1, p2, p3⟩) ⟨A7.c0, A7.c1, A7.c2, A7.c3, A7.fz⟩
  have K := K0.alloc (.cells #[.int .u64 0, .int .u64 0, .int .u64 0, .int .u64 0] 33)
  have KP0 : Kept w w.heap.size [⟨w.heap.size, 0, p0, p1, p2, p3⟩, ⟨w.heap.size, 4, c0, c1, c2, c3⟩, ⟨w.heap.size + 1, 0, 0, 0, 0, 0⟩] _ := (((Kept.mk1 K.bl K.le).cons (At4.made (w.alloc (.cells #[.int .u64 (p0 : Int), .int .u64 (p1 : Int), .int .u64 (p2 : Int), .int .u64 (p3 : Int), .int .u64 (c0 : Int), .int .u64 (c1 : Int), .int .u64 (c2 : Int), .int .u64 (c3 : Int)] 35)) 33 0 0 0 0 (World.size_alloc _ _)).blk).cons K.tail.head).cons K.head
  clear A7 K0 K
  generalize World.alloc _ _ = W0 at KP0 ⊢
  generalize hks : w.heap.size + 1 = ks at KP0 ⊢
  generalize hk0 : w.heap.size = k0 at KP0 ⊢
  have H0 : Hid (w.heap.size = k0) := hk0
  have nsk : ks ≠ k0 := by omega
  have QS : Hid (k0 ≤ ks) := by unfold Hid; omega
  clear hk0 hks
  go_loopg [12] (n + m) (fun gk s12 wr => ∃ i : Nat, i + gk = n + m ∧ s12 = .int .i64 (i : Int) ∧ Kept w k0 [⟨k0, 0, p0, p1, p2, p3⟩, ⟨k0, 4, c0, c1, c2, c3⟩, ⟨ks, 0, 0, 0, 0, 0⟩] wr ∧ Hid ((∀ j, j < n → j < i → IsNum P (S j).data) ∧ (∀ j, j < m → j + n < i → IsNum P (T j).data)))
  case atStart => exact ⟨0, Nat.zero_add _, rfl, KP0, fun j _ hj => by omega, fun j _ hj => by omega⟩
  case round =>
    clear KP0
    obtain ⟨i, hi, rfl, KP, HI⟩ := hrel
    obtain ⟨fc0, fc1, fc2, fc3, ff⟩ := KP.head.at4
    have fb := KP.tail.head
    have fd0 : wr.cell? ⟨k0, 4, none⟩ = some (.int .u64 (c0 : Int)) := fb.c0
    have fd1 : wr.cell? ⟨k0, 5, none⟩ = some (.int .u64 (c1 : Int)) := fb.c1
    have fd2 : wr.cell? ⟨k0, 6, none⟩ = some (.int .u64 (c2 : Int)) := fb.c2
    have fd3 : wr.cell? ⟨k0, 7, none⟩ = some (.int .u64 (c3 : Int)) := fb.c3
    have zf := KP.head.lt
    clear fb
    by_cases hlt : i < n + m
    · have hlt' : (i : Int) < (n : Int) + (m : Int) := by omega
      by_cases hin : i < n
      · have hin' : (i : Int) < (n : Int) := by omega
        obtain ⟨gg, oo, rfl, hgg, hc⟩ := HS.out (by omega)
        have hc1 := hc i hin
        have hcw : wr.cell? ⟨gg, oo + i, none⟩ = some (.string (S i)) := by rw [← hc1]; exact KP.bl.cell (p := ⟨gg, oo + i, none⟩) (by rw [← H0.out]; exact hgg)
        clear hc hc1
        go_wp2_with fail
        clear hcw fc0 fc1 fc2 fc3 ff fd0 fd1 fd2 fd3 zf
        refine (rNumber_any p0 p1 p2 p3 c0 c1 c2 c3 P (S i) HR.out _).mono ?_
        rintro e w3 ⟨v, rfl, hb1, na, nb, nc, nd, am, rfl, ham, hnm⟩
        replace KP := KP.call hb1
        clear hb1
        cases am with
        | false =>
          have hno := hnm rfl
          have hans : ep = 3 ∧ k = 0 := by
            rcases HA.out with h | h | h
            · exact absurd (h.1 i (by omega)) hno
            · exact absurd (h.1 i (by omega)) hno
            · exact h.2
          obtain ⟨rfl, rfl⟩ := hans
          clear ham hnm hno HA
          go_wp2
          go_ret
          exact ⟨_, rfl, by rw [H0.out]; exact (KP.alloc _).bl, by simp⟩
        | true =>
          have HNN : Hid (IsNum P (S i).data) := (ham rfl).1
          clear ham hnm
          go_wp2
          go_roundg (gk - 1)
          case measure => omega
          case rel =>
            refine ⟨i + 1, by omega, rfl, KP.alloc _, fun j hj hji => ?_, fun j hj hji => ?_⟩
            · by_cases h : j = i
              · rw [h]; exact HNN.out
              · exact HI.out.1 j hj (by omega)
            · exact HI.out.2 j hj (by omega)
      · have hin' : ¬ (i : Int) < (n : Int) := by omega
        obtain ⟨i2, hi2⟩ : ∃ i2, i = n + i2 := ⟨i - n, by omega⟩
        have hi3 : (i : Int) - (n : Int) = (i2 : Int) := by omega
        have hi4 : (i2 : Int) < (m : Int) := by omega
        obtain ⟨gg, oo, rfl, hgg, hc⟩ := HT.out (by omega)
        have hc1 := hc i2 (by omega)
        have hcw : wr.cell? ⟨gg, oo + i2, none⟩ = some (.string (T i2)) := by rw [← hc1]; exact KP.bl.cell (p := ⟨gg, oo + i2, none⟩) (by rw [← H0.out]; exact hgg)
        clear hc hc1
        go_wp2_with fail
        clear hcw fc0 fc1 fc2 fc3 ff fd0 fd1 fd2 fd3 zf
        refine (rNumber_any p0 p1 p2 p3 c0 c1 c2 c3 P (T i2) HR.out _).mono ?_
        rintro e w3 ⟨v, rfl, hb1, na, nb, nc, nd, am, rfl, ham, hnm⟩
        replace KP := KP.call hb1
        clear hb1
        cases am with
        | false =>
          have hno := hnm rfl
          have hans : ep = 3 ∧ k = 0 := by
            rcases HA.out with h | h | h
            · exact absurd (h.2.1 i2 (by omega)) hno
            · exact absurd (h.2.1 i2 (by omega)) hno
            · exact h.2
          obtain ⟨rfl, rfl⟩ := hans
          clear ham hnm hno HA
          go_wp2
          go_ret
          exact ⟨_, rfl, by rw [H0.out]; exact (KP.alloc _).bl, by simp⟩
        | true =>
          have HNN : Hid (IsNum P (T i2).data) := (ham rfl).1
          clear ham hnm
          go_wp2
          go_roundg (gk - 1)
          case measure => omega
          case rel =>
            refine ⟨i + 1, by omega, congrArg (Value.int IntKind.i64) (by omega), KP.alloc _, fun j hj hji => ?_, fun j hj hji => ?_⟩
            · exact HI.out.1 j hj (by omega)
            · by_cases h : j = i2
              · rw [h]; exact HNN.out
              · exact HI.out.2 j hj (by omega)
    · have hge : ¬ (i : Int) < (n : Int) + (m : Int) := by omega
      have HNS : Hid (∀ j, j < n → IsNum P (S j).data) := fun j hj => HI.out.1 j hj (by omega)
      have HNT : Hid (∀ j, j < m → IsNum P (T j).data) := fun j hj => HI.out.2 j hj (by omega)
      clear fc0 fc1 fc2 fc3 ff fd0 fd1 fd2 fd3 zf HI
      by_cases hnm : n = m
      · subst hnm
        have hans : ep = 0 ∧ IsBytes w 0 (.slice qd k cd) (dsum P (fun j => beV (S j).data.toList) (fun j => beV (T j).data.toList) n) := by
          rcases HA.out with h | h | h
          · exact h.2.2.2
          · exact absurd rfl h.2.2.1
          · rcases h.1 with ⟨j, hj, h1⟩ | ⟨j, hj, h1⟩
            · exact absurd (HNS.out j hj) h1
            · exact absurd (HNT.out j hj) h1
        obtain ⟨rfl, hib⟩ := hans
        have HIB : Hid (IsBytes w 0 (.slice qd k cd) (dsum P (fun j => beV (S j).data.toList) (fun j => beV (T j).data.toList) n)) := hib
        clear hib HA
        go_wp2
        go_loopg [16] n (fun gk s16 wr => ∃ i sa sb sc sd : Nat, i + gk = n ∧ s16 = .int .i64 (i : Int) ∧ Kept w k0 [⟨k0, 0, p0, p1, p2, p3⟩, ⟨k0, 4, c0, c1, c2, c3⟩, ⟨ks, 0, sa, sb, sc, sd⟩] wr ∧ Hid (Four (.agg #[.int .u64 (sa : Int), .int .u64 (sb : Int), .int .u64 (sc : Int), .int .u64 (sd : Int)]) (dsum P (fun j => beV (S j).data.toList) (fun j => beV (T j).data.toList) i)))
        case atStart => exact ⟨0, 0, 0, 0, 0, Nat.zero_add _, rfl, KP, Four.mk (by decide) (by decide) (by decide) (by decide) rfl⟩
        case round =>
          clear KP hlt hge hi
          obtain ⟨i, sa, sb, sc, sd, hi, rfl, KP, HF⟩ := hrel
          by_cases hlt : i < n
          · have hlt' : (i : Int) < (n : Int) := by omega
            obtain ⟨gn, on, rfl, hgn, hcn⟩ := HS.out (by omega)
            obtain ⟨gm, om, rfl, hgm, hcm⟩ := HT.out (by omega)
            have HCN : Hid (gn < w.heap.size ∧ w.cell? ⟨gn, on + i, none⟩ = some (.string (S i))) := ⟨hgn, hcn i hlt⟩
            have HCM : Hid (gm < w.heap.size ∧ w.cell? ⟨gm, om + i, none⟩ = some (.string (T i))) := ⟨hgm, hcm i hlt⟩
            clear hgn hcn hgm hcm
            go_upto_region 19 with fail
            go_cut [17, 18] (fun s1 s2 wx => NumR w k0 p0 p1 p2 p3 c0 c1 c2 c3 P (⟨ks, 0, sa, sb, sc, sd⟩ :: []) (S i) s1 s2 wx)
            case first =>
              go_region_held3 (fun w' => w'.cell? ⟨k0, 0, none⟩ = some (.int .u64 (p0 : Int)) ∧ w'.cell? ⟨k0, 1, none⟩ = some (.int .u64 (p1 : Int)) ∧ w'.cell? ⟨k0, 2, none⟩ = some (.int .u64 (p2 : Int)) ∧ w'.cell? ⟨k0, 3, none⟩ = some (.int .u64 (p3 : Int)) ∧ w'.cell? ⟨k0, 4, none⟩ = some (.int .u64 (c0 : Int)) ∧ w'.cell? ⟨k0, 5, none⟩ = some (.int .u64 (c1 : Int)) ∧ w'.cell? ⟨k0, 6, none⟩ = some (.int .u64 (c2 : Int)) ∧ w'.cell? ⟨k0, 7, none⟩ = some (.int .u64 (c3 : Int)) ∧ w'.cell? ⟨gn, on + i, none⟩ = some (.string (S i)) ∧ Kept w k0 (⟨k0, 0, p0, p1, p2, p3⟩ :: ⟨k0, 4, c0, c1, c2, c3⟩ :: ⟨ks, 0, sa, sb, sc, sd⟩ :: []) w') (first | (with_reducible exact lnS_of KP H0.out HCN.out.1 HCN.out.2) | (with_reducible exact lnS_of KP.drew H0.out HCN.out.1 HCN.out.2) | (with_reducible exact lnS_call (by assumption) (by assumption)) | (with_reducible exact lnS_allocd (by assumption)) | (with_reducible exact lnS_alloc (by assumption)) | (with_reducible exact lnS_drew (by assumption)) | (with_reducible exact lnS_of (KP.alloc _) H0.out HCN.out.1 HCN.out.2) | (with_reducible exact lnS_of (KP.set4' M7 (fun x hx => Nat.ne_of_gt (N7 x hx)) _ _ _ _) H0.out HCN.out.1 HCN.out.2) | (with_reducible exact lnS_of (KP.alloc _).drew H0.out HCN.out.1 HCN.out.2) | (with_reducible exact lnS_of (KP.set4' M7 (fun x hx => Nat.ne_of_gt (N7 x hx)) _ _ _ _).drew H0.out HCN.out.1 HCN.out.2) | fail) (first | (go_at_call 17; refine (rNumber_any p0 p1 p2 p3 c0 c1 c2 c3 P _ HR.out _).mono ?_; rintro e w3 ⟨v, rfl, hb1, na, nb, nc, nd, am, rfl, ham, hnm⟩; have HNR : Hid (Four (.agg #[.int .u64 (na : Int), .int .u64 (nb : Int), .int .u64 (nc : Int), .int .u64 (nd : Int)]) (beV (S i).data.toList)) := (ham (by cases am with | true => rfl | false => exact absurd (HNS.out i hlt) (hnm rfl))).2; clear ham hnm; (try (with_reducible have T1 := T.call hb1; clear T; have T := T1; clear T1)); (try (first | (with_reducible have T := (At4.made _ 33 0 0 0 0 rfl).call hb1) | (with_reducible have T := (At4.made _ 33 0 0 0 0 rfl).drew.call hb1)); have N7 := KP.lts; have M7 := KP.le); have KP1 := Kept.call (lnS_get (by assumption)) hb1; clear KP; have KP := KP1; clear KP1 hb1; (try (obtain ⟨tc0, tc1, tc2, tc3, tf⟩ := id T; have zt := T.lt))))
              all_goals (try go_wp2)
              all_goals (go_meet; first | (with_reducible exact NumR.made KP HNR) | (with_reducible exact (NumR.made KP HNR).drew) | (with_reducible exact NumR.put KP T M7 N7 HNR) | (with_reducible exact (NumR.put KP T M7 N7 HNR).drew) | fail)
            case rest =>
            clear KP
            obtain ⟨kx, xa, xb, xc, xd, am1, rfl, rfl, KP, nx, nxk, hX, -⟩ := hcut
            have nxs : kx ≠ ks := nx ⟨ks, 0, sa, sb, sc, sd⟩ (by simp)
            clear nx
            go_upto_region 20 with fail
            go_cut [19, 20] (fun s1 s2 wx => NumR w k0 p0 p1 p2 p3 c0 c1 c2 c3 P (⟨kx, 0, xa, xb, xc, xd⟩ :: ⟨ks, 0, sa, sb, sc, sd⟩ :: []) (T i) s1 s2 wx)
            case first =>
              go_region_held3 (fun w' => w'.cell? ⟨k0, 0, none⟩ = some (.int .u64 (p0 : Int)) ∧ w'.cell? ⟨k0, 1, none⟩ = some (.int .u64 (p1 : Int)) ∧ w'.cell? ⟨k0, 2, none⟩ = some (.int .u64 (p2 : Int)) ∧ w'.cell? ⟨k0, 3, none⟩ = some (.int .u64 (p3 : Int)) ∧ w'.cell? ⟨k0, 4, none⟩ = some (.int .u64 (c0 : Int)) ∧ w'.cell? ⟨k0, 5, none⟩ = some (.int .u64 (c1 : Int)) ∧ w'.cell? ⟨k0, 6, none⟩ = some (.int .u64 (c2 : Int)) ∧ w'.cell? ⟨k0, 7, none⟩ = some (.int .u64 (c3 : Int)) ∧ w'.cell? ⟨gm, om + i, none⟩ = some (.string (T i)) ∧ Kept w k0 (⟨k0, 0, p0, p1, p2, p3⟩ :: ⟨k0, 4, c0, c1, c2, c3⟩ :: ⟨kx, 0, xa, xb, xc, xd⟩ :: ⟨ks, 0, sa, sb, sc, sd⟩ :: []) w') (first | (with_reducible exact lnS_of KP H0.out HCM.out.1 HCM.out.2) | (with_reducible exact lnS_of KP.drew H0.out HCM.out.1 HCM.out.2) | (with_reducible exact lnS_call (by assumption) (by assumption)) | (with_reducible exact lnS_allocd (by assumption)) | (with_reducible exact lnS_alloc (by assumption)) | (with_reducible exact lnS_drew (by assumption)) | (with_reducible exact lnS_of (KP.alloc _) H0.out HCM.out.1 HCM.out.2) | (with_reducible exact lnS_of (KP.set4' M7 (fun x hx => Nat.ne_of_gt (N7 x hx)) _ _ _ _) H0.out HCM.out.1 HCM.out.2) | (with_reducible exact lnS_of (KP.alloc _).drew H0.out HCM.out.1 HCM.out.2) | (with_reducible exact lnS_of (KP.set4' M7 (fun x hx => Nat.ne_of_gt (N7 x hx)) _ _ _ _).drew H0.out HCM.out.1 HCM.out.2) | fail) (first | (go_at_call 17; refine (rNumber_any p0 p1 p2 p3 c0 c1 c2 c3 P _ HR.out _).mono ?_; rintro e w3 ⟨v, rfl, hb1, na, nb, nc, nd, am, rfl, ham, hnm⟩; have HNR : Hid (Four (.agg #[.int .u64 (na : Int), .int .u64 (nb : Int), .int .u64 (nc : Int), .int .u64 (nd : Int)]) (beV (T i).data.toList)) := (ham (by cases am with | true => rfl | false => exact absurd (HNT.out i hlt) (hnm rfl))).2; clear ham hnm; (try (with_reducible have T1 := T.call hb1; clear T; have T := T1; clear T1)); (try (first | (with_reducible have T := (At4.made _ 33 0 0 0 0 rfl).call hb1) | (with_reducible have T := (At4.made _ 33 0 0 0 0 rfl).drew.call hb1)); have N7 := KP.lts; have M7 := KP.le); have KP1 := Kept.call (lnS_get (by assumption)) hb1; clear KP; have KP := KP1; clear KP1 hb1; (try (obtain ⟨tc0, tc1, tc2, tc3, tf⟩ := id T; have zt := T.lt))))
              all_goals (try go_wp2)
              all_goals (go_meet; first | (with_reducible exact NumR.made KP HNR) | (with_reducible exact (NumR.made KP HNR).drew) | (with_reducible exact NumR.put KP T M7 N7 HNR) | (with_reducible exact (NumR.put KP T M7 N7 HNR).drew) | fail)
            case rest =>
            clear KP
            obtain ⟨ky, ya, yb, yc, yd, am2, rfl, rfl, KP, ny, nyk, hY, -⟩ := hcut
            have nyx : ky ≠ kx := ny ⟨kx, 0, xa, xb, xc, xd⟩ (by simp)
            have nys : ky ≠ ks := ny ⟨ks, 0, sa, sb, sc, sd⟩ (by simp)
            clear ny
            have HXX : Hid (Four (.agg #[.int .u64 (xa : Int), .int .u64 (xb : Int), .int .u64 (xc : Int), .int .u64 (xd : Int)]) (beV (S i).data.toList)) := hX
            have HYY : Hid (Four (.agg #[.int .u64 (ya : Int), .int .u64 (yb : Int), .int .u64 (yc : Int), .int .u64 (yd : Int)]) (beV (T i).data.toList)) := hY
            clear hX hY
            go_upto_region 21 with fail
            refine anyTill.begin (fun w' => w'.cell? ⟨k0, 0, none⟩ = some (.int .u64 (p0 : Int)) ∧ w'.cell? ⟨k0, 1, none⟩ = some (.int .u64 (p1 : Int)) ∧ w'.cell? ⟨k0, 2, none⟩ = some (.int .u64 (p2 : Int)) ∧ w'.cell? ⟨k0, 3, none⟩ = some (.int .u64 (p3 : Int)) ∧ w'.cell? ⟨k0, 4, none⟩ = some (.int .u64 (c0 : Int)) ∧ w'.cell? ⟨k0, 5, none⟩ = some (.int .u64 (c1 : Int)) ∧ w'.cell? ⟨k0, 6, none⟩ = some (.int .u64 (c2 : Int)) ∧ w'.cell? ⟨k0, 7, none⟩ = some (.int .u64 (c3 : Int)) ∧ w'.cell? ⟨ks, 0, none⟩ = some (.int .u64 (sa : Int)) ∧ w'.cell? ⟨ks, 1, none⟩ = some (.int .u64 (sb : Int)) ∧ w'.cell? ⟨ks, 2, none⟩ = some (.int .u64 (sc : Int)) ∧ w'.cell? ⟨ks, 3, none⟩ = some (.int .u64 (sd : Int)) ∧ w'.cell? ⟨kx, 0, none⟩ = some (.int .u64 (xa : Int)) ∧ w'.cell? ⟨kx, 1, none⟩ = some (.int .u64 (xb : Int)) ∧ w'.cell? ⟨kx, 2, none⟩ = some (.int .u64 (xc : Int)) ∧ w'.cell? ⟨kx, 3, none⟩ = some (.int .u64 (xd : Int)) ∧ w'.cell? ⟨ky, 0, none⟩ = some (.int .u64 (ya : Int)) ∧ w'.cell? ⟨ky, 1, none⟩ = some (.int .u64 (yb : Int)) ∧ w'.cell? ⟨ky, 2, none⟩ = some (.int .u64 (yc : Int)) ∧ w'.cell? ⟨ky, 3, none⟩ = some (.int .u64 (yd : Int)) ∧ Kept w k0 (⟨k0, 0, p0, p1, p2, p3⟩ :: ⟨k0, 4, c0, c1, c2, c3⟩ :: ⟨ky, 0, ya, yb, yc, yd⟩ :: ⟨kx, 0, xa, xb, xc, xd⟩ :: ⟨ks, 0, sa, sb, sc, sd⟩ :: []) w') 7 mixed (lmS_of KP.drew) (fun hS => ?_)
            refine anyTill.take (i := 0) (v := ?_) rfl (by kernel_rfl) (by kernel_rfl) (by kernel_rfl) (by kernel_rfl) (by kernel_rfl) (fun _ _ _ h => h) (Or.inl ⟨by rfl, ?_⟩) hS ?_
            rotate_left
            · intro w hSw
              (try dsimp only at hSw)
              go_simp
              try (with_reducible rfl)
            simp only [Act.put, List.setIfInBounds_toArray]
            refine anyTill.take (i := 1) (v := ?_) rfl (by kernel_rfl) (by kernel_rfl) (by kernel_rfl) (by kernel_rfl) (by kernel_rfl) (fun _ _ _ h => h) (Or.inl ⟨by rfl, ?_⟩) hS ?_
            rotate_left
            · intro w hSw
              (try dsimp only at hSw)
              go_simp
              try (with_reducible rfl)
            simp only [Act.put]
            refine anyTill.take (i := 2) (v := ?_) rfl (by kernel_rfl) (by kernel_rfl) (by kernel_rfl) (by kernel_rfl) (by kernel_rfl) (fun _ _ _ h => h) (Or.inl ⟨by rfl, ?_⟩) hS ?_
            rotate_left
            · intro w hSw
              (try dsimp only at hSw)
              go_simp
              try (with_reducible rfl)
            simp only [Act.put]
            refine anyTill.take (i := 3) (v := ?_) rfl (by kernel_rfl) (by kernel_rfl) (by kernel_rfl) (by kernel_rfl) (by kernel_rfl) (fun _ _ _ h => h) (Or.inl ⟨by rfl, ?_⟩) hS ?_
            rotate_left
            · intro w hSw
              (try dsimp only at hSw)
              go_simp
              try (with_reducible rfl)
            simp only [Act.put]
            refine anyTill.take (i := 4) (v := ?_) rfl (by kernel_rfl) (by kernel_rfl) (by kernel_rfl) (by kernel_rfl) (by kernel_rfl) (fun _ _ _ h => h) (Or.inl ⟨by rfl, ?_⟩) hS ?_
            rotate_left
            · intro w hSw
              (try dsimp only at hSw)
              go_simp
              try (with_reducible rfl)
            simp only [Act.put]
            try simp only [List.set_cons_zero, List.set_cons_succ]
            refine anyTill.step (i := 5) rfl (by kernel_rfl) (fun K hK => ?_)
            go_simp
            refine (rMul_R HR.out HXX.out HYY.out _).mono ?_
            rintro e w6 ⟨v, rfl, hb6, hF3⟩
            obtain ⟨ua, ub, uc, ud, rfl, -⟩ := id hF3
            have HFU : Hid (Four _ _) := hF3
            clear hF3 hS
            have KP6 := KP.drew.call hb6
            clear hb6 KP
            refine hK.out _ _ (fun _ => lmS_of KP6) ?_
            clear hK K
            try simp only [Act.put, List.setIfInBounds_toArray, List.set_cons_zero, List.set_cons_succ]
            refine anyTill.step (i := 6) rfl (by kernel_rfl) (fun K hK => ?_)
            go_simp
            refine (rAdd_R HR.out HF.out HFU.out _).mono ?_
            rintro e w7 ⟨v, rfl, hb7, hF3⟩
            obtain ⟨va, vb, vc, vd, rfl, -⟩ := id hF3
            have HFZ : Hid (Four _ (dsum P (fun j => beV (S j).data.toList) (fun j => beV (T j).data.toList) (i + 1))) := hF3
            clear hF3 HF HFU
            have KP7 := KP6.call hb7
            clear hb7 KP6
            refine hK.out _ _ (fun _ => lmS_of KP7) ?_
            clear hK K
            try simp only [Act.put, List.setIfInBounds_toArray, List.set_cons_zero, List.set_cons_succ]
            obtain ⟨tc0, tc1, tc2, tc3, tf⟩ := KP7.tail.tail.tail.tail.head.at4
            have zt := KP7.tail.tail.tail.tail.head.lt
            refine anyTill.step (i := 7) rfl (by kernel_rfl) (fun K hK => ?_)
            go_simp
            refine hK.out _ _ (fun h => Bool.noConfusion h) ?_
            clear hK K
            try simp only [Act.put, List.setIfInBounds_toArray, List.set_cons_zero, List.set_cons_succ]
            refine anyTill.done (by kernel_rfl) ?_ _
            clear tc0 tc1 tc2 tc3 tf zt
            go_wp2
            go_roundg (gk - 1)
            case measure => omega
            case rel =>
              have K8 : Kept w k0 (⟨ks, 0, sa, sb, sc, sd⟩ :: ⟨k0, 0, p0, p1, p2, p3⟩ :: ⟨k0, 4, c0, c1, c2, c3⟩ :: []) w7 := (((Kept.mk1 KP7.bl KP7.le).cons KP7.tail.head).cons KP7.head).cons KP7.tail.tail.tail.tail.head
              have K9 := K8.put QS.out (by simp only [List.mem_cons, List.not_mem_nil, or_false]; rintro x (rfl | rfl) <;> exact nsk) va vb vc vd
              exact ⟨i + 1, va, vb, vc, vd, by omega, rfl, ((((Kept.mk1 K9.bl K9.le).cons K9.head).cons K9.tail.tail.head).cons K9.tail.head), HFZ⟩
          · have hge : ¬ (i : Int) < (n : Int) := by omega
            have HIN : Hid (i = n) := by unfold Hid; omega
            obtain ⟨tc0, tc1, tc2, tc3, tf⟩ := KP.tail.tail.head.at4
            have zt := KP.tail.tail.head.lt
            have hib := HIB.out.call (w1 := wr) (by rw [H0.out]; exact KP.bl)
            rw [← HIN.out] at hib
            obtain ⟨g', x', y', z', u', hE, h2⟩ := id hib
            have HIB2 : Hid _ := hib
            clear h2 hib HIB
            go_wp2_with fail
            clear tc0 tc1 tc2 tc3 tf zt
            refine (told_ok _ _ _ 0 _ HIB2.out HF.out).mono ?_
            rintro e w8 ⟨v, rfl, hb8, rfl⟩
            go_wp2
            go_ret
            exact ⟨_, rfl, by rw [H0.out]; exact KP.bl.trans (hb8.mono KP.le), by simp⟩
      · have hnm' : ¬ (n : Int) = (m : Int) := by omega
        have hans : ep = 2 ∧ k = 0 := by
          rcases HA.out with h | h | h
          · exact absurd h.2.2.1 hnm
          · exact h.2.2.2
          · rcases h.1 with ⟨j, hj, h1⟩ | ⟨j, hj, h1⟩
            · exact absurd (HNS.out j hj) h1
            · exact absurd (HNT.out j hj) h1
        obtain ⟨rfl, rfl⟩ := hans
        clear HA hnm
        go_wp2
        go_ret
        exact ⟨_, rfl, by rw [H0.out]; exact KP.bl, by simp⟩
end Go.Proofs.Ytppdcphfphcbbab
