import Derived.WalkKit
import Derived.Sort.Row
import Derived.Deep.Draws
import Derived.Below
import Derived.Deep.OwnRows
import Derived.Test.YtboigmhioojenaaRows
import Derived.Deep.LoopGhost
import Derived.Deep.QuietTactic
import Derived.StillTailTactics
import Derived.BigRegion
import Derived.BigQuiet
import Derived.WalkSpells
import Derived.WalkLawsBesides
import Derived.Deep.RegionWith
import Derived.Lib.LazyBuf
import Derived.Laws.AppendOwn
import Derived.Deep.AppendSrc
import Derived.Lib.AppendZeros
import Derived.Deep.MidRow
import Derived.Lib.ConvBytes
import Derived.Deep.RegionLaw
import Derived.Lib.Mul64
import Derived.Laws.Bits64b
import Derived.Laws.Externs
import Derived.OrdersHeld
set_option linter.unusedVariables false
set_option linter.unusedSimpArgs false
namespace Go.Proofs.Ytboigmhioojenaa.SP
open Go.RowKit
theorem lt64 (x : BitVec 64) : (x.toNat : Int) < 18446744073709551616 := by
  have := x.isLt
  omega
theorem ofInt_toNat64 (x : BitVec 64) : BitVec.ofInt 64 (x.toNat : Int) = x := by
  apply BitVec.eq_of_toNat_eq
  rw [BitVec.ofInt_natCast, BitVec.toNat_ofNat]
  exact Nat.mod_eq_of_lt x.isLt
theorem wrap_u64_toNat (x : BitVec 64) : IntKind.u64.wrap (x.toNat : Int) = x.toNat := by
  rw [IntKind.wrap_u64]
  have := lt64 x
  exact Int.emod_eq_of_lt (by omega) this
/-- A word's number. -/
def u (v : BitVec 64) : Int := (v.toNat : Int)
theorem u_lt (v : BitVec 64) : u v < 18446744073709551616 := lt64 v
theorem u_nonneg (v : BitVec 64) : 0 ≤ u v := Int.natCast_nonneg _
theorem bits_xor64 (a b : BitVec 64) : bits .xor .u64 (u a) (u b) = u (a ^^^ b) := by
  show IntKind.u64.wrap ((BitVec.ofInt 64 (a.toNat : Int) ^^^ BitVec.ofInt 64 (b.toNat : Int)).toNat : Int) = _
  rw [ofInt_toNat64, ofInt_toNat64, wrap_u64_toNat]
  rfl
theorem bits_and64 (a b : BitVec 64) : bits .and .u64 (u a) (u b) = u (a &&& b) := by
  show IntKind.u64.wrap ((BitVec.ofInt 64 (a.toNat : Int) &&& BitVec.ofInt 64 (b.toNat : Int)).toNat : Int) = _
  rw [ofInt_toNat64, ofInt_toNat64, wrap_u64_toNat]
  rfl
theorem bits_or64 (a b : BitVec 64) : bits .or .u64 (u a) (u b) = u (a ||| b) := by
  show IntKind.u64.wrap ((BitVec.ofInt 64 (a.toNat : Int) ||| BitVec.ofInt 64 (b.toNat : Int)).toNat : Int) = _
  rw [ofInt_toNat64, ofInt_toNat64, wrap_u64_toNat]
  rfl
theorem bits_not64 (a : BitVec 64) : bits .xor .u64 IntKind.u64.max (u a) = u (~~~a) := by
  have e : IntKind.u64.max = u (BitVec.allOnes 64) := by decide +kernel
  rw [e, bits_xor64, BitVec.allOnes_xor]
theorem and63 (k : Nat) (hk : k < 64) : bits .and .u64 (k : Int) 63 = k := by
  have h : ∀ j : Fin 64, bits .and .u64 ((j.val : Nat) : Int) 63 = (j.val : Int) := by decide +kernel
  exact h ⟨k, hk⟩
theorem shl64 (x : BitVec 64) (k : Nat) : IntKind.u64.wrap (u x * 2 ^ k) = u (x <<< k) := by
  unfold u
  rw [IntKind.wrap_u64, BitVec.toNat_shiftLeft, Nat.shiftLeft_eq, Int.natCast_emod, Int.natCast_mul, Int.natCast_pow]
  rfl
theorem shr64 (x : BitVec 64) (k : Nat) : u x / 2 ^ k = u (x >>> k) := by
  unfold u
  rw [BitVec.toNat_ushiftRight, Nat.shiftRight_eq_div_pow, Int.natCast_ediv, Int.natCast_pow]
  rfl
def rol (w : BitVec 64) (n : Nat) : BitVec 64 := w <<< n ||| w >>> (64 - n)
abbrev St := Array (BitVec 64)
/-- A word as the model holds it. -/
def enc (v : BitVec 64) : Value := .int .u64 (u v)
def colsum (d : St) (x : Nat) : BitVec 64 := d[x]! ^^^ d[x + 5]! ^^^ d[x + 10]! ^^^ d[x + 15]! ^^^ d[x + 20]!
def sumsTo (d : St) : Nat → St
  | 0 => #[0, 0, 0, 0, 0]
  | k + 1 => (sumsTo d k).setIfInBounds k (colsum d k)
def xorAt (d : St) (i : Nat) (v : BitVec 64) : St := d.setIfInBounds i (d[i]! ^^^ v)
def innerTo (v : BitVec 64) (x : Nat) (d : St) : Nat → St
  | 0 => d
  | m + 1 => xorAt (innerTo v x d m) (x + 5 * m) v
def dcol (s : St) (x : Nat) : BitVec 64 := s[(x + 4) % 5]! ^^^ rol s[(x + 1) % 5]! 1
def thetaTo (s d : St) : Nat → St
  | 0 => d
  | k + 1 => innerTo (dcol s k) k (thetaTo s d k) 5
def theta (d : St) : St := thetaTo (sumsTo d 5) d 5
theorem xorAt_size (d : St) (i : Nat) (v : BitVec 64) : (xorAt d i v).size = d.size := by simp [xorAt]
theorem sumsTo_size (d : St) (k : Nat) : (sumsTo d k).size = 5 := by
  induction k with
  | zero => rfl
  | succ k ih => simp [sumsTo, ih]
theorem innerTo_size (v : BitVec 64) (x : Nat) (d : St) (m : Nat) : (innerTo v x d m).size = d.size := by
  induction m with
  | zero => rfl
  | succ k ih => simp [innerTo, xorAt_size, ih]
theorem thetaTo_size (s d : St) (m : Nat) : (thetaTo s d m).size = d.size := by
  induction m with
  | zero => rfl
  | succ k ih => simp [thetaTo, innerTo_size, ih]
/-- turnAndMove behind t rounds: x, y, what moves, the words. -/
structure Tm where
  x : Nat
  y : Nat
  m : BitVec 64
  d : St
def offs (t : Nat) : Nat := (t + 1) * (t + 2) / 2 % 64
def tmStep (t : Nat) (s : Tm) : Tm :=
  { x := s.y, y := (2 * s.x + 3 * s.y) % 5, m := s.d[s.y + 5 * ((2 * s.x + 3 * s.y) % 5)]!, d := s.d.setIfInBounds (s.y + 5 * ((2 * s.x + 3 * s.y) % 5)) (rol s.m (offs t)) }
def tmTo (d : St) : Nat → Tm
  | 0 => { x := 1, y := 0, m := d[1]!, d := d }
  | t + 1 => tmStep t (tmTo d t)
def rhopi (d : St) : St := (tmTo d 24).d
theorem tmTo_ok (d : St) (hd : d.size = 25) (t : Nat) : (tmTo d t).x < 5 ∧ (tmTo d t).y < 5 ∧ (tmTo d t).d.size = 25 := by
  induction t with
  | zero => exact ⟨show 1 < 5 by decide, show 0 < 5 by decide, hd⟩
  | succ t ih =>
    obtain ⟨h1, h2, h3⟩ := ih
    refine ⟨h2, ?_, ?_⟩
    · show (2 * (tmTo d t).x + 3 * (tmTo d t).y) % 5 < 5
      omega
    · show ((tmTo d t).d.setIfInBounds _ _).size = 25
      rw [Array.size_setIfInBounds, h3]
/-- mixRows: one row, then all of them. -/
def rowAt (d : St) (i : Nat) : St :=
  xorAt (xorAt (xorAt (xorAt (xorAt d i (~~~d[i + 1]! &&& d[i + 2]!)) (i + 1) (~~~d[i + 2]! &&& d[i + 3]!)) (i + 2) (~~~d[i + 3]! &&& d[i + 4]!)) (i + 3) (~~~d[i + 4]! &&& d[i]!)) (i + 4) (~~~d[i]! &&& d[i + 1]!)
def chiTo (d : St) : Nat → St
  | 0 => d
  | k + 1 => rowAt (chiTo d k) (5 * k)
def chi (d : St) : St := chiTo d 5
theorem rowAt_size (d : St) (i : Nat) : (rowAt d i).size = d.size := by simp [rowAt, xorAt_size]
theorem chiTo_size (d : St) (k : Nat) : (chiTo d k).size = d.size := by
  induction k with
  | zero => rfl
  | succ k ih => simp [chiTo, rowAt_size, ih]
end Go.Proofs.Ytboigmhioojenaa.SP
namespace Go.Proofs.Ytboigmhioojenaa.SP
open Go.RowKit Go.Sort
/-- Of all that was there, only the cells off .. off + n - 1 of block b may have turned; no block has gone. -/
structure Only (b off n : Nat) (w w' : World) : Prop where
  os : w'.os = w.os
  tape : w'.tape = w.tape
  output : w'.output = w.output
  size : w.heap.size ≤ w'.heap.size
  block : ∀ k, k < w.heap.size → k ≠ b → w'.heap[k]? = w.heap[k]?
  cell : ∀ o, (o < off ∨ off + n ≤ o) → w'.cell? ⟨b, o, none⟩ = w.cell? ⟨b, o, none⟩
  froz : ∀ o, w'.frozen? ⟨b, o, none⟩ = w.frozen? ⟨b, o, none⟩
variable {b off n : Nat} {w w1 w2 : World}
theorem Only.refl (b off n : Nat) (w : World) : Only b off n w w := ⟨rfl, rfl, rfl, Nat.le_refl _, fun _ _ _ => rfl, fun _ _ => rfl, fun _ => rfl⟩
theorem Only.trans (h : Only b off n w w1) (k : Only b off n w1 w2) : Only b off n w w2 :=
  ⟨k.os.trans h.os, k.tape.trans h.tape, k.output.trans h.output, Nat.le_trans h.size k.size,
    fun i hi hn => (k.block i (Nat.lt_of_lt_of_le hi h.size) hn).trans (h.block i hi hn),
    fun o ho => (k.cell o ho).trans (h.cell o ho), fun o => (k.froz o).trans (h.froz o)⟩
theorem Only.drewN (h : Only b off n w w1) (q : Nat) : Only b off n w (w1.drewN q) := ⟨h.os, h.tape, h.output, h.size, h.block, h.cell, h.froz⟩
theorem Only.drew (h : Only b off n w w1) : Only b off n w w1.drew := ⟨h.os, h.tape, h.output, h.size, h.block, h.cell, h.froz⟩
theorem Only.setCell (h : Only b off n w w1) {o : Nat} (h1 : off ≤ o) (h2 : o < off + n) (v : Value) : Only b off n w (w1.setCell ⟨b, o, none⟩ v) := by
  refine h.trans ⟨rfl, rfl, rfl, by simp, fun k _ hn => Below.heap_setCell _ _ _ _ hn, fun o' ho => ?_, fun o' => by simp⟩
  exact World.cell?_setCell_other _ _ _ _ (by intro e; simp only [Addr.mk.injEq, and_true, true_and] at e; omega)
theorem Only.alloc (h : Only b off n w w1) (hb : b < w1.heap.size) (o : Obj) : Only b off n w (w1.alloc o) := by
  refine h.trans ⟨rfl, rfl, rfl, by simp, fun k hk _ => Below.heap_alloc _ _ _ hk, fun o' _ => ?_, fun o' => ?_⟩
  · exact World.cell?_alloc_lt _ _ _ hb
  · exact World.frozen?_alloc_old _ _ _ (by show b ≠ _; omega)
theorem Only.below (h : Only b off n w w1) {B : Nat} (hB : B ≤ w.heap.size) (hb : B ≤ b) : Below B w w1 :=
  ⟨h.os, h.tape, h.output, h.size, fun k hk => h.block k (by omega) (by omega)⟩
/-- What only makes memory turns nothing of the row. -/
theorem Only.of_below {B : Nat} (h : Below B w w1) (hB : B = w.heap.size) (hb : b < B) : Only b off n w w1 :=
  ⟨h.os, h.tape, h.output, h.size, fun k hk _ => h.block k (by omega), fun o _ => h.cell (p := ⟨b, o, none⟩) hb, fun o => h.frozen (p := ⟨b, o, none⟩) hb⟩
theorem Only.other (h : Only b off n w w1) {c o : Nat} (hc : c ≠ b) (hs : c < w.heap.size) : w1.cell? ⟨c, o, none⟩ = w.cell? ⟨c, o, none⟩ ∧ w1.frozen? ⟨c, o, none⟩ = w.frozen? ⟨c, o, none⟩ :=
  ⟨World.cell?_of_block (w := w) (h.block c hs hc), World.frozen?_of_block (w := w) (h.block c hs hc)⟩
/-- What was done to a block of one's own, just made, turned nothing that was there. -/
theorem Only.fresh {o m : Nat} {x : Obj} (h : Only w.heap.size o m (w.alloc x) w1) : Below w.heap.size w w1 :=
  ((Below.refl _ _).alloc (Nat.le_refl _) x).trans (h.below (by simp) (Nat.le_refl _))
section
variable {α : Type} [Inhabited α] {enc : α → Value} {d : Array α}
theorem Holds.lt (h : Holds enc w b off d) (hd : 0 < d.size) : b < w.heap.size := World.block_lt_of_cell? _ _ (h 0 hd).1
theorem Holds.other {c o : Nat} (h : Holds enc w c o d) (k : Only b off n w w1) (hc : c ≠ b) (hd : 0 < d.size) : Holds enc w1 c o d := by
  intro j hj
  have := h j hj
  have := k.other (o := o + j) hc (Holds.lt h hd)
  rw [this.1, this.2]
  exact h j hj
theorem Holds.same {o : Nat} (h : Holds enc w b o d) (k : Only b off n w w1) (hd : o + d.size ≤ off ∨ off + n ≤ o) : Holds enc w1 b o d := by
  intro j hj
  rw [k.cell _ (by omega), k.froz]
  exact h j hj
theorem Holds.below {B : Nat} (h : Holds enc w b off d) (k : Below B w w1) (hb : b < B) : Holds enc w1 b off d := by
  intro j hj
  rw [k.cell (p := ⟨b, off + j, none⟩) hb, k.frozen (p := ⟨b, off + j, none⟩) hb]
  exact h j hj
theorem Holds.drewN (h : Holds enc w b off d) (q : Nat) : Holds enc (w.drewN q) b off d := h
theorem Holds.drew (h : Holds enc w b off d) : Holds enc w.drew b off d := h
theorem Holds.set (h : Holds enc w b off d) {i : Nat} (hi : i < d.size) (x : α) : Holds enc (w.setCell ⟨b, off + i, none⟩ (enc x)) b off (d.setIfInBounds i x) := by
  intro j hj
  rw [Array.size_setIfInBounds] at hj
  rw [World.frozen?_setCell]
  by_cases e : j = i
  · subst e
    rw [getElem!_set_same d j x hi]
    exact ⟨World.cell?_setCell_same _ _ _ (h j hj).1, (h j hj).2⟩
  · rw [getElem!_set_other d i j x e, World.cell?_setCell_other _ _ _ _ (by intro e'; simp only [Addr.mk.injEq, and_true, true_and] at e'; omega)]
    exact h j hj
/-- A block of one's own, just made. -/
theorem Holds.new (w : World) (t : TypeId) (d : Array α) : Holds enc (w.alloc (.cells (d.map enc) t)) w.heap.size 0 d := by
  intro j hj
  rw [World.cell?_alloc_new, World.frozen?_alloc_new]
  refine ⟨?_, rfl⟩
  simp only [Nat.zero_add, Array.getElem?_map, Array.getElem?_eq_getElem hj, Option.map_some, getElem!_pos d j hj]
/-- A block of one's own, made by 'make'. -/
theorem Holds.made (w : World) (t : TypeId) (n : Nat) (x : α) : Holds enc (w.alloc (.cells (madeCells #[enc x] n) t)) w.heap.size 0 (Array.replicate n x) := by
  intro j hj
  rw [Array.size_replicate] at hj
  rw [World.cell?_alloc_new, World.frozen?_alloc_new]
  refine ⟨?_, rfl⟩
  rw [getElem!_pos _ j (by simpa using hj), Array.getElem_replicate]
  simp [madeCells, hj, Nat.mod_one]
end
theorem Holds.xor {d : St} (h : Holds enc w b off d) {i : Nat} (hi : i < d.size) {x : BitVec 64} (hx : d[i]! = x) (v : BitVec 64) : Holds enc (w.setCell ⟨b, off + i, none⟩ (.int .u64 (u (x ^^^ v)))) b off (xorAt d i v) := by
  unfold xorAt
  rw [hx]
  exact Holds.set h hi (x ^^^ v)
theorem xorAt_other (d : St) (i j : Nat) (v : BitVec 64) (h : j ≠ i) : (xorAt d i v)[j]! = d[j]! := getElem!_set_other d i j _ h
end Go.Proofs.Ytboigmhioojenaa.SP
namespace Go.Proofs.Ytboigmhioojenaa.SP
open Go.RowKit Go.Sort
theorem mixed : Try.prog.follows .mixedOrders = true := by kernel_rfl
theorem at_word {w : World} {b off : Nat} {d : St} (h : Holds enc w b off d) (i : Nat) (hi : i < d.size) {x : BitVec 64} (hx : d[i]! = x) :
    w.cell? ⟨b, off + i, none⟩ = some (.int .u64 (u x)) ∧ w.frozen? ⟨b, off + i, none⟩ = false := by
  rw [← hx]; exact h i hi
theorem ret_int {k : IntKind} {a b : Int} (h : a = b) : Ending.returned (.int k a) = .returned (.int k b) := by rw [h]
end Go.Proofs.Ytboigmhioojenaa.SP
namespace Go.Proofs.Ytboigmhioojenaa.SP
open Go.RowKit
/-- The register of the rounds' constants, one step on. -/
def rcReg (r : Nat) : Nat := if 255 < 2 * r then (2 * r) ^^^ 369 else 2 * r
def rcTo (r : Nat) : Nat → BitVec 64 × Nat
  | 0 => (0, r)
  | j + 1 => ((rcTo r j).1 ||| BitVec.ofNat 64 ((rcTo r j).2 % 2) <<< (2 ^ j - 1), rcReg (rcTo r j).2)
theorem rcReg_lt (r : Nat) (h : r < 256) : rcReg r < 256 := by
  have H : ∀ j : Fin 256, rcReg j.val < 256 := by decide +kernel
  exact H ⟨r, h⟩
theorem rcTo_lt (r : Nat) (h : r < 256) (j : Nat) : (rcTo r j).2 < 256 := by
  induction j with
  | zero => exact h
  | succ j ih => exact rcReg_lt _ ih
theorem rc_xor (r : Nat) (h : r < 256) : bits .xor .i64 ((r : Int) * 2) 369 = (((2 * r) ^^^ 369 : Nat) : Int) := by
  have H : ∀ j : Fin 256, bits .xor .i64 ((j.val : Int) * 2) 369 = (((2 * j.val) ^^^ 369 : Nat) : Int) := by decide +kernel
  exact H ⟨r, h⟩
theorem rc_and (r : Nat) (h : r < 256) : bits .and .i64 (r : Int) 1 = u (BitVec.ofNat 64 (r % 2)) := by
  have H : ∀ j : Fin 256, bits .and .i64 (j.val : Int) 1 = u (BitVec.ofNat 64 (j.val % 2)) := by decide +kernel
  exact H ⟨r, h⟩
theorem wrap_u (x : BitVec 64) : IntKind.u64.wrap (u x) = u x := wrap_u64_toNat x
def kround (d : St) (c : BitVec 64) : St := xorAt (chi (rhopi (theta d))) 0 c
/-- A round's constant, and the register as the next round needs it. -/
def rcC (r : Nat) : BitVec 64 := (rcTo r 7).1
def rcN (r : Nat) : Nat := (rcTo r 7).2
theorem rcN_lt (r : Nat) (h : r < 256) : rcN r < 256 := by
  unfold rcN
  exact rcTo_lt r h 7
def rcAt : Nat → Nat
  | 0 => 1
  | k + 1 => rcN (rcAt k)
theorem rcAt_lt (k : Nat) : rcAt k < 256 := by
  induction k with
  | zero => decide
  | succ k ih => exact rcN_lt _ ih
/-- The words behind k rounds. -/
def permTo (d : St) : Nat → St
  | 0 => d
  | k + 1 => kround (permTo d k) (rcC (rcAt k))
def perm (d : St) : St := permTo d 24
theorem theta_size (d : St) : (theta d).size = d.size := thetaTo_size _ _ _
theorem rhopi_size (d : St) (hd : d.size = 25) : (rhopi d).size = 25 := (tmTo_ok d hd 24).2.2
theorem chi_size (d : St) : (chi d).size = d.size := chiTo_size _ _
theorem kround_size (d : St) (c : BitVec 64) (hd : d.size = 25) : (kround d c).size = 25 := by
  unfold kround
  rw [xorAt_size, chi_size, rhopi_size]
  rw [theta_size, hd]
theorem permTo_size (d : St) (hd : d.size = 25) (k : Nat) : (permTo d k).size = 25 := by
  induction k with
  | zero => exact hd
  | succ k ih => exact kround_size _ _ ih
theorem perm_size (d : St) (hd : d.size = 25) : (perm d).size = 25 := permTo_size d hd 24
abbrev Bs := Array UInt8
/-- A byte's number; a byte as the model holds it. -/
def ub (x : UInt8) : Int := (x.toNat : Int)
def encB (x : UInt8) : Value := .int .u8 (ub x)
/-- A byte as a word; a word's lowest byte. -/
def wide (x : UInt8) : BitVec 64 := BitVec.ofNat 64 x.toNat
def low (v : BitVec 64) : UInt8 := UInt8.ofNat v.toNat
theorem ub_lt (x : UInt8) : ub x < 256 := by
  have := x.toNat_lt
  unfold ub
  omega
theorem ub_nonneg (x : UInt8) : 0 ≤ ub x := Int.natCast_nonneg _
theorem wide_ub (x : UInt8) : ub x = u (wide x) := by
  unfold ub u wide
  rw [BitVec.toNat_ofNat, Nat.mod_eq_of_lt]
  have := x.toNat_lt
  omega
theorem wrap_ub (x : UInt8) : IntKind.u64.wrap (ub x) = u (wide x) := by rw [wide_ub, wrap_u]
theorem low_u (v : BitVec 64) : IntKind.u8.wrap (u v) = ub (low v) := by
  have e : IntKind.u8.wrap (u v) = u v % 256 := by simp [IntKind.wrap, IntKind.bits, IntKind.signed]
  rw [e]
  unfold u ub low
  rw [UInt8.toNat_ofNat']
  omega
/-- The word that begins at place o, its first k bytes. -/
def wordTo (bs : Bs) (o : Nat) : Nat → BitVec 64
  | 0 => 0
  | i + 1 => wordTo bs o i ||| wide bs[o + i]! <<< (8 * i)
def wordOf (bs : Bs) (o : Nat) : BitVec 64 := wordTo bs o 8
def mixTo (bs : Bs) (d : St) : Nat → St
  | 0 => d
  | i + 1 => xorAt (mixTo bs d i) i (wordOf bs (8 * i))
theorem mixTo_size (bs : Bs) (d : St) (k : Nat) : (mixTo bs d k).size = d.size := by
  induction k with
  | zero => rfl
  | succ k ih => simp [mixTo, xorAt_size, ih]
def byteOf (d : St) (k : Nat) : UInt8 := low (d[k / 8]! >>> (8 * (k % 8)))
def frontTo (d : St) (n : Nat) : Nat → Bs
  | 0 => Array.replicate n 0
  | k + 1 => (frontTo d n k).setIfInBounds k (byteOf d k)
def front (d : St) (n : Nat) : Bs := frontTo d n n
theorem frontTo_size (d : St) (n k : Nat) : (frontTo d n k).size = n := by
  induction k with
  | zero => simp [frontTo]
  | succ k ih => simp [frontTo, ih]
theorem front_size (d : St) (n : Nat) : (front d n).size = n := frontTo_size d n n
end Go.Proofs.Ytboigmhioojenaa.SP
namespace Go.Proofs.Ytboigmhioojenaa.SP
open Go.RowKit Go.Sort Go.Deep
attribute [local go_sem] bits_xor64 bits_and64 bits_or64 wrap_u wrap_ub
theorem at_byte {w : World} {b off : Nat} {d : Bs} (h : Holds encB w b off d) (i : Nat) (hi : i < d.size) {x : UInt8} (hx : d[i]! = x) :
    w.cell? ⟨b, off + i, none⟩ = some (.int .u8 (ub x)) ∧ w.frozen? ⟨b, off + i, none⟩ = false := by
  rw [← hx]; exact h i hi
theorem slice22 : Try.prog.underlying 22 = some (.slice 5) := by kernel_rfl
theorem info5 : (Try.prog.info? 5).map (fun i => (i.zero, i.size, i.bytes)) = some (some (.int .u8 0), 1, 1) := by kernel_rfl
theorem encB_zero : encB 0 = .int .u8 0 := rfl
attribute [local go_sem] low_u
end Go.Proofs.Ytboigmhioojenaa.SP
namespace Go.Proofs.Ytboigmhioojenaa.SP
open Go.RowKit Go.Sort
/-- What Lent lays at place i behind the text. -/
def fill (i : Nat) : UInt8 := UInt8.ofNat (i % 251) ^^^ 165
theorem fill_int (i : Nat) : bits .xor .u8 ((i : Int) % 251) 165 = ub (fill i) := by
  have H : ∀ j : Fin 251, bits .xor .u8 (j.val : Int) 165 = ub (UInt8.ofNat j.val ^^^ 165) := by decide +kernel
  have := H ⟨i % 251, Nat.mod_lt _ (by decide)⟩
  simpa [fill] using this
def lentTo (s : ByteArray) : Nat → Bs
  | 0 => s.data ++ Array.replicate 160 0
  | k + 1 => (lentTo s k).setIfInBounds (s.size + k) (fill (s.size + k))
def lent (s : ByteArray) : Bs := lentTo s 160
theorem lentTo_size (s : ByteArray) (k : Nat) : (lentTo s k).size = s.size + 160 := by
  induction k with
  | zero => simp [lentTo]
  | succ k ih => simp [lentTo, ih]
theorem lent_size (s : ByteArray) : (lent s).size = s.size + 160 := lentTo_size s 160
variable {w w1 : World} {b o n : Nat}
theorem heap_setCells (b : Nat) {k : Nat} (hk : k ≠ b) : ∀ (vs : List Value) (p : Nat) (w : World), (w.setCells b p vs).heap[k]? = w.heap[k]?
  | [], _, _ => rfl
  | v :: r, p, w => by rw [World.setCells, heap_setCells b hk r (p + 1) _, Below.heap_setCell _ _ _ _ hk]
theorem Only.setCells (h : Only b o n w w1) (vs : List Value) (p : Nat) (hp : o ≤ p) (hn : p + vs.length ≤ o + n) : Only b o n w (w1.setCells b p vs) := by
  have h0 := below_setCells (B := 0) (b := b) (Nat.zero_le _) vs p w1 (Below.refl 0 w1)
  exact h.trans ⟨h0.os, h0.tape, h0.output, h0.size, fun k _ hk => heap_setCells b hk vs p w1,
    fun q hq => World.cell?_setCells_out b vs p w1 ⟨b, q, none⟩ (fun _ _ => by simp only; omega), fun q => World.frozen?_setCells b vs p w1 _⟩
/-- A row behind 'copy': what was copied stands at its place, all else as it stood. -/
theorem Holds.setCells {bs r : Bs} (h : Holds encB w b o bs) (vs : List Value) (p : Nat) (hr : r.size = bs.size) (hp : p + vs.length ≤ bs.size)
    (h1 : ∀ j (hj : j < vs.length), vs[j] = encB r[p + j]!) (h2 : ∀ j, j < bs.size → j < p ∨ p + vs.length ≤ j → r[j]! = bs[j]!) : Holds encB (w.setCells b (o + p) vs) b o r := by
  intro j hj
  rw [hr] at hj
  rw [World.frozen?_setCells]
  refine ⟨?_, (h j hj).2⟩
  by_cases hin : j < p ∨ p + vs.length ≤ j
  · rw [World.cell?_setCells_out b vs (o + p) w ⟨b, o + j, none⟩ (fun _ _ => by simp only; omega), h2 j hj hin]
    exact (h j hj).1
  · have hj2 : j - p < vs.length := by omega
    have := World.cell?_setCells_in b vs (o + p) w (fun i hi => by
      have := (h (p + i) (by omega)).1
      rw [← Nat.add_assoc] at this
      rw [this]; rfl) (j - p) hj2
    rw [show o + p + (j - p) = o + j by omega] at this
    rw [this, h1 (j - p) hj2, show p + (j - p) = j by omega]
theorem app_front (a r : Bs) (j : Nat) (hj : j < a.size) : (a ++ r)[j]! = a[j] := by
  have h : j < (a ++ r).size := by rw [Array.size_append]; omega
  rw [getElem!_pos (a ++ r) j h, Array.getElem_append_left hj]
theorem app_back (a r : Bs) (j : Nat) (h1 : a.size ≤ j) (h2 : j < a.size + r.size) : (a ++ r)[j]! = r[j - a.size]! := by
  have h : j < (a ++ r).size := by rw [Array.size_append]; omega
  have h3 : j - a.size < r.size := by omega
  rw [getElem!_pos (a ++ r) j h, Array.getElem_append_right h1, getElem!_pos r (j - a.size) h3]
theorem rep_at (n j : Nat) (h : j < n) : (Array.replicate n (0 : UInt8))[j]! = 0 := by
  have h' : j < (Array.replicate n (0 : UInt8)).size := by rw [Array.size_replicate]; exact h
  rw [getElem!_pos (Array.replicate n (0 : UInt8)) j h', Array.getElem_replicate]
theorem lent_front (s : ByteArray) (j : Nat) (hj : j < s.data.size) : (lentTo s 0)[j]! = s.data[j] := app_front _ _ j hj
theorem lent_back (s : ByteArray) (j : Nat) (h1 : s.data.size ≤ j) (h2 : j < s.data.size + 160) : (lentTo s 0)[j]! = 0 := by
  rw [lentTo, app_back _ _ j h1 (by rw [Array.size_replicate]; exact h2), rep_at _ _ (by omega)]
theorem holds_lent0 (s : ByteArray) (n : Nat) (hn : s.size + 160 = n) (h : Holds encB w b 0 (Array.replicate n (0 : UInt8))) :
    Holds encB (w.setCells b 0 (s.data.toList.map fun x => Value.int .u8 (x.toNat : Int))) b 0 (lentTo s 0) := by
  have hl : s.data.size = s.size := rfl
  refine Holds.setCells (o := 0) (p := 0) h _ (by rw [lentTo_size, Array.size_replicate, hn]) (by rw [List.length_map, Array.length_toList, Array.size_replicate]; omega) (fun j hj => ?_) (fun j hj hout => ?_)
  · rw [List.length_map, Array.length_toList] at hj
    rw [Nat.zero_add, lent_front s j hj, List.getElem_map, Array.getElem_toList]
    rfl
  · rw [Array.size_replicate] at hj
    rw [List.length_map, Array.length_toList] at hout
    rw [lent_back s j (by omega) (by omega), rep_at n j hj]
theorem size_of5 (P : Program) (e : TypeId) (h : (P.info? e).map (·.size) = some 1) : ∀ w, (Go.sizeOf e).run P w = .ok 1 w := by
  intro w
  cases hq : P.info? e with
  | none => simp [hq] at h
  | some i =>
    simp [hq] at h
    simp [Go.sizeOf, typeInfo, hq, h]
theorem conv_str (P : Program) (src dst e : TypeId) (hs : P.underlying src = some (.slice e)) (he : P.underlying e = some (.int .u8)) (hd : P.underlying dst = some .string)
    (w : World) (b o n cap : Nat) (bs : Bs) (hB : Holds encB w b o bs) (hn : bs.size = n) : (convert src dst (.slice (some ⟨b, o, none⟩) n cap)).run P w = .ok (.string ⟨bs⟩) w := by
  have h := run_convert_bytes_back (P := P) w src dst e ⟨b, o, none⟩ cap bs.toList hs he hd (fun j hj => by
    have hj' : j < bs.size := by simpa using hj
    have hc := (hB j hj').1
    rw [getElem!_pos bs j hj'] at hc
    have e1 : (⟨b, o, none⟩ : Addr).add j = ⟨b, o + j, none⟩ := by
      unfold Addr.add
      by_cases h0 : j = 0
      · subst h0; rfl
      · rw [if_neg h0]
    rw [e1, hc]
    simp [encB, ub])
  simpa [hn] using h
end Go.Proofs.Ytboigmhioojenaa.SP
namespace Go.Proofs.Ytboigmhioojenaa.SP
open Go.RowKit Go.Sort Go.Deep
theorem int5 : Try.prog.underlying 5 = some (.int .u8) := by kernel_rfl
theorem str9 : Try.prog.underlying 9 = some .string := by kernel_rfl
theorem size5 : ∀ w, (Go.sizeOf 5).run Try.prog w = .ok 1 w := size_of5 Try.prog 5 (by kernel_rfl)
theorem lent_step (s : ByteArray) (k : Nat) : lentTo s (k + 1) = (lentTo s k).setIfInBounds (s.size + k) (fill (s.size + k)) := rfl
set_option maxHeartbeats 1000000 in
set_option maxRecDepth 100000 in
theorem Lent_any (s : ByteArray) (w : World) (hs : s.size ≤ 16384) :
    Calls Try.prog 7 #[.string s] w fun e w' => e = .returned (.slice (some ⟨w.heap.size, 0, none⟩) (s.size + 160) (s.size + 160)) ∧ Below w.heap.size w w' ∧ Holds encB w' w.heap.size 0 (lent s) := by
  obtain ⟨n, hn⟩ : ∃ n, s.size + 160 = n := ⟨_, rfl⟩
  have hmk := run_make_row' (P := Try.prog) 22 5 (.int .u8 0) 1 slice22 info5 rfl .i64 .i64 n (by omega) (by omega)
  rw [← hn, show ((s.size + 160 : Nat) : Int) = (s.size : Int) + 160 from by omega, hn] at hmk
  have hH0 : Holds encB (w.alloc (.cells (madeCells #[.int .u8 0] n) 5)) w.heap.size 0 (Array.replicate n 0) := Holds.made (enc := encB) w 5 n 0
  have hcp := run_copy_string (P := Try.prog) (w.alloc (.cells (madeCells #[.int .u8 0] n) 5)) 22 9 3 5 w.heap.size 0 n n s slice22 size5 (by omega)
    (fun j hj => by rw [(hH0 j (by rw [Array.size_replicate]; omega)).1]; rfl) (fun j hj => (hH0 j (by rw [Array.size_replicate]; omega)).2)
  have hH1 : Holds encB ((w.alloc (.cells (madeCells #[.int .u8 0] n) 5)).setCells w.heap.size 0 (s.data.toList.map fun x => Value.int .u8 (x.toNat : Int))) w.heap.size 0 (lentTo s 0) := by
    exact holds_lent0 s n hn hH0
  have hb1 : Below w.heap.size w ((w.alloc (.cells (madeCells #[.int .u8 0] n) 5)).setCells w.heap.size 0 (s.data.toList.map fun x => Value.int .u8 (x.toNat : Int))) :=
    below_setCells (Nat.le_refl _) _ _ _ ((Below.refl _ _).alloc (Nat.le_refl _) _)
  have hsz : w.heap.size < ((w.alloc (.cells (madeCells #[.int .u8 0] n) 5)).setCells w.heap.size 0 (s.data.toList.map fun x => Value.int .u8 (x.toNat : Int))).heap.size := by
    have := (below_setCells (B := 0) (b := w.heap.size) (Nat.zero_le _) (s.data.toList.map fun x => Value.int .u8 (x.toNat : Int)) 0 (w.alloc (.cells (madeCells #[.int .u8 0] n) 5)) (Below.refl 0 _)).size
    rw [World.size_alloc] at this
    omega
  go_enter Try.func7, Try.ntmps7
  go_wp2
  generalize World.setCells _ _ _ _ = W2 at hH1 hb1 hsz ⊢
  clear hmk hcp hH0
  have n160 : (n : Int) = (s.size : Int) + 160 := by omega
  have Hn : Hid (s.size + 160 = n) := hn
  have hnb : n ≤ 16544 := by omega
  have hsn : s.size ≤ n := by omega
  clear hn n160
  go_loopg [4] 160 (fun g s4 wr => ∃ (k : Nat) (bs : Bs), k + g = 160 ∧ s4 = .int .i64 ((s.size + k : Nat) : Int) ∧ Holds encB wr w.heap.size 0 bs ∧ Only w.heap.size 0 n W2 wr ∧ Hid (bs = lentTo s k))
  case atStart => exact ⟨0, _, rfl, rfl, hH1, Only.refl _ _ _ _, rfl⟩
  case round =>
    obtain ⟨k, bs, hk, rfl, hB, hO, HE⟩ := hrel
    have hbs : bs.size = n := by rw [HE.out, lentTo_size]; exact Hn.out
    obtain ⟨i, hi⟩ : ∃ i, s.size + k = i := ⟨_, rfl⟩
    have Hi : Hid (s.size + k = i) := hi
    rw [hi]
    clear hi
    by_cases hlt : k < 160
    · have hin : i < n := by have := Hi.out; have := Hn.out; omega
      obtain ⟨c0, f0⟩ := hB i (by omega)
      rw [Nat.zero_add] at c0 f0
      have hin' : (i : Int) < (n : Int) := by omega
      have hf := fill_int i
      go_wp2
      go_roundg (gk - 1)
      case measure => omega
      case rel =>
        refine ⟨k + 1, bs.setIfInBounds i (fill i), by omega, ?_, ?_, ?_, ?_⟩
        · rw [← Hi.out]; go_num
        · have := Holds.set hB (i := i) (by omega) (fill i)
          rw [Nat.zero_add] at this
          exact this
        · exact hO.setCell (o := i) (by omega) (by omega) _
        · show _ = lentTo s (k + 1)
          rw [lent_step, Hi.out, HE.out]
    · have hin : (n : Int) ≤ (i : Int) := by have := Hi.out; have := Hn.out; omega
      have hk0 : k = 160 := by omega
      go_wp2
      go_ret
      refine ⟨?_, hb1.trans (hO.below (by omega) (Nat.le_refl _)), ?_⟩
      · rw [Hn.out]; rfl
      · unfold lent
        rw [HE.out, hk0] at hB
        exact hB
set_option maxHeartbeats 1000000 in
set_option maxRecDepth 100000 in
theorem Still_any (b : Nat) (bs : Bs) (s : ByteArray) (w : World) (hs : s.size ≤ 16384) (hB : Holds encB w b 0 bs) (hbs : bs = lent s) :
    Calls Try.prog 9 #[.slice (some ⟨b, 0, none⟩) (s.size + 160) (s.size + 160), .string s] w fun e w' => e = .returned (.bool true) ∧ Below w.heap.size w w' := by
  have hb := Holds.lt hB (by rw [hbs, lent_size]; omega)
  go_enter Try.func9, Try.ntmps9
  go_wp2_with fail
  refine (Lent_any s _ hs).mono ?_
  rintro e w1 ⟨rfl, hb1, hL⟩
  have k1 := conv_str Try.prog 22 9 5 slice22 int5 str9 w1 b 0 (s.size + 160) (s.size + 160) _ (Holds.below hB hb1 hb) (by rw [hbs, lent_size])
  have k2 := conv_str Try.prog 22 9 5 slice22 int5 str9 w1 w.heap.size 0 (s.size + 160) (s.size + 160) _ hL (lent_size s)
  rw [hbs] at k1
  go_wp2
  go_ret
  exact ⟨rfl, hb1⟩
end Go.Proofs.Ytboigmhioojenaa.SP
namespace Go.Proofs.Ytboigmhioojenaa.SP
open Go.RowKit Go.Sort Go.Deep
set_option maxHeartbeats 1000000 in
set_option maxRecDepth 100000 in
theorem LentJ (s : ByteArray) (w : World) (hs : s.size ≤ 1048576) :
    Calls Try.prog 7 #[.string s] w fun e w' => e = .returned (.slice (some ⟨w.heap.size, 0, none⟩) (s.size + 160) (s.size + 160)) ∧ Below w.heap.size w w' ∧ Holds encB w' w.heap.size 0 (lent s) := by
  obtain ⟨n, hn⟩ : ∃ n, s.size + 160 = n := ⟨_, rfl⟩
  have hmk := run_make_row' (P := Try.prog) 22 5 (.int .u8 0) 1 slice22 info5 rfl .i64 .i64 n (by omega) (by omega)
  rw [← hn, show ((s.size + 160 : Nat) : Int) = (s.size : Int) + 160 from by omega, hn] at hmk
  have hH0 : Holds encB (w.alloc (.cells (madeCells #[.int .u8 0] n) 5)) w.heap.size 0 (Array.replicate n 0) := Holds.made (enc := encB) w 5 n 0
  have hcp := run_copy_string (P := Try.prog) (w.alloc (.cells (madeCells #[.int .u8 0] n) 5)) 22 9 3 5 w.heap.size 0 n n s slice22 size5 (by omega)
    (fun j hj => by rw [(hH0 j (by rw [Array.size_replicate]; omega)).1]; rfl) (fun j hj => (hH0 j (by rw [Array.size_replicate]; omega)).2)
  have hH1 : Holds encB ((w.alloc (.cells (madeCells #[.int .u8 0] n) 5)).setCells w.heap.size 0 (s.data.toList.map fun x => Value.int .u8 (x.toNat : Int))) w.heap.size 0 (lentTo s 0) := by
    exact holds_lent0 s n hn hH0
  have hb1 : Below w.heap.size w ((w.alloc (.cells (madeCells #[.int .u8 0] n) 5)).setCells w.heap.size 0 (s.data.toList.map fun x => Value.int .u8 (x.toNat : Int))) :=
    below_setCells (Nat.le_refl _) _ _ _ ((Below.refl _ _).alloc (Nat.le_refl _) _)
  have hsz : w.heap.size < ((w.alloc (.cells (madeCells #[.int .u8 0] n) 5)).setCells w.heap.size 0 (s.data.toList.map fun x => Value.int .u8 (x.toNat : Int))).heap.size := by
    have := (below_setCells (B := 0) (b := w.heap.size) (Nat.zero_le _) (s.data.toList.map fun x => Value.int .u8 (x.toNat : Int)) 0 (w.alloc (.cells (madeCells #[.int .u8 0] n) 5)) (Below.refl 0 _)).size
    rw [World.size_alloc] at this
    omega
  go_enter Try.func7, Try.ntmps7
  go_wp2
  generalize World.setCells _ _ _ _ = W2 at hH1 hb1 hsz ⊢
  clear hmk hcp hH0
  have n160 : (n : Int) = (s.size : Int) + 160 := by omega
  have Hn : Hid (s.size + 160 = n) := hn
  have hnb : n ≤ 1048736 := by omega
  have hsn : s.size ≤ n := by omega
  clear hn n160
  go_loopg [4] 160 (fun g s4 wr => ∃ (k : Nat) (bs : Bs), k + g = 160 ∧ s4 = .int .i64 ((s.size + k : Nat) : Int) ∧ Holds encB wr w.heap.size 0 bs ∧ Only w.heap.size 0 n W2 wr ∧ Hid (bs = lentTo s k))
  case atStart => exact ⟨0, _, rfl, rfl, hH1, Only.refl _ _ _ _, rfl⟩
  case round =>
    obtain ⟨k, bs, hk, rfl, hB, hO, HE⟩ := hrel
    have hbs : bs.size = n := by rw [HE.out, lentTo_size]; exact Hn.out
    obtain ⟨i, hi⟩ : ∃ i, s.size + k = i := ⟨_, rfl⟩
    have Hi : Hid (s.size + k = i) := hi
    rw [hi]
    clear hi
    by_cases hlt : k < 160
    · have hin : i < n := by have := Hi.out; have := Hn.out; omega
      obtain ⟨c0, f0⟩ := hB i (by omega)
      rw [Nat.zero_add] at c0 f0
      have hin' : (i : Int) < (n : Int) := by omega
      have hf := fill_int i
      go_wp2
      go_roundg (gk - 1)
      case measure => omega
      case rel =>
        refine ⟨k + 1, bs.setIfInBounds i (fill i), by omega, ?_, ?_, ?_, ?_⟩
        · rw [← Hi.out]; go_num
        · have := Holds.set hB (i := i) (by omega) (fill i)
          rw [Nat.zero_add] at this
          exact this
        · exact hO.setCell (o := i) (by omega) (by omega) _
        · show _ = lentTo s (k + 1)
          rw [lent_step, Hi.out, HE.out]
    · have hin : (n : Int) ≤ (i : Int) := by have := Hi.out; have := Hn.out; omega
      have hk0 : k = 160 := by omega
      go_wp2
      go_ret
      refine ⟨?_, hb1.trans (hO.below (by omega) (Nat.le_refl _)), ?_⟩
      · rw [Hn.out]; rfl
      · unfold lent
        rw [HE.out, hk0] at hB
        exact hB
set_option maxHeartbeats 1000000 in
set_option maxRecDepth 100000 in
theorem StillJ (b : Nat) (bs : Bs) (s : ByteArray) (w : World) (hs : s.size ≤ 1048576) (hB : Holds encB w b 0 bs) (hbs : bs = lent s) :
    Calls Try.prog 9 #[.slice (some ⟨b, 0, none⟩) (s.size + 160) (s.size + 160), .string s] w fun e w' => e = .returned (.bool true) ∧ Below w.heap.size w w' := by
  have hb := Holds.lt hB (by rw [hbs, lent_size]; omega)
  go_enter Try.func9, Try.ntmps9
  go_wp2_with fail
  refine (LentJ s _ hs).mono ?_
  rintro e w1 ⟨rfl, hb1, hL⟩
  have k1 := conv_str Try.prog 22 9 5 slice22 int5 str9 w1 b 0 (s.size + 160) (s.size + 160) _ (Holds.below hB hb1 hb) (by rw [hbs, lent_size])
  have k2 := conv_str Try.prog 22 9 5 slice22 int5 str9 w1 w.heap.size 0 (s.size + 160) (s.size + 160) _ hL (lent_size s)
  rw [hbs] at k1
  go_wp2
  go_ret
  exact ⟨rfl, hb1⟩
end Go.Proofs.Ytboigmhioojenaa.SP
namespace Go.Proofs.Ytboigmhioojenaa
open Go.RowKit Go.Sort Go.Deep
theorem undBB : Try.prog.underlying 23 = some (.slice 22) := by kernel_rfl
theorem infoBB : (Try.prog.info? 22).map (fun i => (i.size, i.bytes, i.zero.map fun z => z.cells.size)) = some (1, 24, some 1) := by kernel_rfl
theorem addP0 (g o j : Nat) : (⟨g, o, none⟩ : Addr).add j = ⟨g, o + j, none⟩ := by
  unfold Addr.add
  by_cases h0 : j = 0
  · subst h0; rw [if_pos rfl]; rfl
  · rw [if_neg h0]
/-- A list of values of one cell each, anywhere. -/
structure VL (w : World) (q : Option Addr) (m : Nat) (ys : List Value) : Prop where
  len : ys.length = m
  nil : q = none → m = 0
  cells : ys = [] ∨ ∃ b o, q = some ⟨b, o, none⟩ ∧ b < w.heap.size ∧ ∀ (j : Nat) u, ys[j]? = some u → w.cell? ⟨b, o + j, none⟩ = some u
  one : ∀ u ∈ ys, u.oneCell' = true
theorem VL.below {w w' : World} {q : Option Addr} {m : Nat} {ys : List Value} (h : VL w q m ys) (hb : Below w.heap.size w w') : VL w' q m ys :=
  ⟨h.len, h.nil, by
    rcases h.cells with h0 | ⟨b, o, h1, h2, h3⟩
    · exact Or.inl h0
    · exact Or.inr ⟨b, o, h1, Nat.lt_of_lt_of_le h2 hb.size, fun j u hj => by rw [hb.cell (p := ⟨b, o + j, none⟩) h2]; exact h3 j u hj⟩, h.one⟩
/-- A list of a walk's own, that grows. -/
structure GLs (w W : World) (v : Value) (xs : List Value) : Prop where
  bl : Below w.heap.size w W
  ow : W.ownsRow w.heap.size 22 1 v xs.length xs
  nn : v.ownBlock ≠ none
theorem GLs.lt {w W : World} {v : Value} {xs : List Value} (h : GLs w W v xs) : ∃ g cap, v = .slice (some ⟨g, 0, none⟩) xs.length cap ∧ w.heap.size ≤ g ∧ g < W.heap.size := by
  rcases id h.ow with ⟨-, ⟨rfl, h0⟩ | ⟨g, cap, cur, rfl, h1, h2, -⟩⟩
  · exact absurd rfl h.nn
  · refine ⟨g, cap, rfl, h1, ?_⟩
    by_cases hg : g < W.heap.size
    · exact hg
    · rw [Array.getElem?_eq_none (by omega)] at h2; cases h2
theorem GLs.below {w W W' : World} {v : Value} {xs : List Value} (h : GLs w W v xs) (hb : Below W.heap.size W W') : GLs w W' v xs := by
  refine ⟨h.bl.trans (hb.mono h.bl.size), ?_, h.nn⟩
  rcases h.ow with ⟨h0, h1 | ⟨g, cap, cur, h1, h2, h3, h4⟩⟩
  · exact ⟨h0, Or.inl h1⟩
  · refine ⟨h0, Or.inr ⟨g, cap, cur, h1, h2, ?_, h4⟩⟩
    rw [hb.block g (by
      by_cases hg : g < W.heap.size
      · exact hg
      · rw [Array.getElem?_eq_none (by omega)] at h3; cases h3)]
    exact h3
/-- 'append(l, ys...)', l a walk's own. -/
theorem GLs.app2 {w W : World} {v : Value} {xs ys : List Value} {q : Option Addr} {m c : Nat} (h : GLs w W v xs) (hx : VL W q m ys) (hn : xs.length + m ≤ 1000000) :
    ∃ v' W', (Builtin.append_ #[23, 23] 23 #[v, .slice q m c]).run Try.prog W = .ok v' W' ∧ GLs w W' v' (xs ++ ys) ∧ W.heap.size ≤ W'.heap.size := by
  obtain ⟨i, hi, he⟩ := Option.map_eq_some_iff.1 infoBB
  simp only [Prod.mk.injEq] at he
  obtain ⟨h1, h2, h3⟩ := he
  obtain ⟨z, hz, hz2⟩ := Option.map_eq_some_iff.1 h3
  obtain ⟨g, cap, rfl, hg1, hg2⟩ := h.lt
  cases q with
  | none =>
    have hm := hx.nil rfl
    subst hm
    obtain rfl : ys = [] := List.length_eq_zero_iff.1 hx.len
    rcases id h.ow with ⟨-, ⟨h0, -⟩ | ⟨g', cap', cur, h0, g1, g2, g3, g4⟩⟩
    · cases h0
    · injection h0 with h0 _ h0'
      injection h0 with h0
      injection h0 with h0
      subst h0 h0'
      have hap := run_append_room_src (P := Try.prog) W 23 23 23 22 i undBB hi g 0 xs.length cap (.slice none 0 c) 0 [] (Src.ofNil (e' := 22) _ undBB c) g3 (fun j hj => by cases hj) (fun j hj => by cases hj)
      refine ⟨_, _, hap, ?_, Nat.le_refl _⟩
      rw [List.append_nil]
      exact h
  | some a =>
    obtain ⟨v', W', r1, r2, r3, r4⟩ := run_append_own (P := Try.prog) W w.heap.size 23 23 22 i z 1 24 undBB hi hz h1 h2 hz2 (by decide) _ xs.length xs h.ow a m c ys (by rw [hx.len]; omega)
      (fun j u hj => by
        rcases hx.cells with rfl | ⟨b, o, hq, -, hc⟩
        · cases hj
        · obtain rfl := Option.some.inj hq
          rw [addP0]; exact hc j u hj) hx.one (by unfold maxLen; omega) (by omega) h.bl.size
    refine ⟨v', W', r1, ⟨⟨by rw [r3.os, h.bl.os], by rw [r3.tape, h.bl.tape], by rw [r3.output, h.bl.output], Nat.le_trans h.bl.size r3.size, fun k hk => ?_⟩, ?_, ?_⟩, r3.size⟩
    · rw [r3.block k (Nat.lt_of_lt_of_le hk h.bl.size) (by simp [Value.ownBlock]; omega)]
      exact h.bl.block k hk
    · rw [List.length_append, hx.len]; exact r2
    · rcases r2.2 with ⟨h5, -⟩ | ⟨g', cap', cur, rfl, -⟩
      · have := (r4.1 h5).1
        exact absurd this (by simp)
      · simp [Value.ownBlock]
theorem GLs.app {w W : World} {v : Value} {xs ys : List Value} {q : Option Addr} {m c : Nat} (h : GLs w W v xs) (hx : VL W q m ys) (hn : xs.length + m ≤ 1000000) :
    ∃ v' W', (Builtin.append_ #[23, 23] 23 #[v, .slice q m c]).run Try.prog W = .ok v' W' ∧ GLs w W' v' (xs ++ ys) := by
  obtain ⟨v', W', h1, h2, -⟩ := h.app2 (c := c) hx hn
  exact ⟨v', W', h1, h2⟩
end Go.Proofs.Ytboigmhioojenaa
namespace Go.Proofs.Ytboigmhioojenaa
open Go.RowKit Go.Sort Go.Deep
theorem Hid.mkP {p : Prop} (h : p) : Hid p := h
section
variable {P : Program} {ops : Array Oper} {rest : List Oper} {op : Oper} {a : Act} {w w' : World} {v : Value} {Q : Exit → Act → World → Prop}
theorem wpList_opP (hgd : op.guard = none) (X : Op) (_ : op.op = X) (hr : (execOp a.eval op).run P w = .ok (.value v) w') (h : wpList P ops Q rest (a.put op.dst v) w') : wpList P ops Q (op :: rest) a w :=
  wpList_plain hgd fun K hK => by
    unfold Oper.wp
    rw [hr]
    exact hK _ _ h
end
theorem alloc_below (w : World) (o : Obj) : Below w.heap.size w (w.alloc o) := (Below.refl _ _).alloc (Nat.le_refl _) _
theorem alloc_cell (w : World) (cs : Array Value) (T : TypeId) (j : Nat) (v : Value) (h : cs[j]? = some v) : (w.alloc (.cells cs T)).cell? ⟨w.heap.size, j, none⟩ = some v := by
  unfold World.alloc World.cell?
  simp [h]
theorem gls_new (w : World) : GLs w (w.alloc (.cells #[] 22)) (.slice (some ⟨w.heap.size, 0, none⟩) 0 0) [] :=
  ⟨alloc_below w _, ⟨rfl, .inr ⟨w.heap.size, 0, #[], rfl, Nat.le_refl _, Array.getElem?_push_size, Nat.le_refl _, Nat.zero_le _, rfl, rfl⟩⟩, by simp [Value.ownBlock]⟩
theorem vl_new (w : World) (ys : List Value) (T : TypeId) (h1 : ∀ u ∈ ys, u.oneCell' = true) : VL (w.alloc (.cells ys.toArray T)) (some ⟨w.heap.size, 0, none⟩) ys.length ys :=
  ⟨rfl, fun h => by (cases h), Or.inr ⟨w.heap.size, 0, rfl, by rw [World.size_alloc]; omega, fun j u hj => by rw [Nat.zero_add]; exact alloc_cell w _ T j u (by simpa using hj)⟩, h1⟩
set_option maxHeartbeats 400000 in
set_option maxRecDepth 20000 in
theorem lists_c {q1 q2 qA qB : Option Addr} {n1 c1 n2 c2 nA cA nB cB : Nat} {ys1 ys2 : List Value} (w : World) (hL : VL w q1 n1 ys1) (hR : VL w q2 n2 ys2) (h1 : n1 ≤ 1000) (h2 : n2 ≤ 1000) :
    Calls Try.prog 19 #[.agg #[.slice q1 n1 c1, .slice q2 n2 c2, .slice qA nA cA, .slice qB nB cB]] w fun e w' => ∃ v, e = .returned v ∧ GLs w w' v (ys1 ++ ys2 ++ [.slice qA nA cA, .slice qB nB cB]) := by
  obtain ⟨w1, hw1⟩ : ∃ w1, Hid (w.alloc (.cells #[.slice q1 n1 c1, .slice q2 n2 c2, .slice qA nA cA, .slice qB nB cB] 25) = w1) := ⟨_, rfl⟩
  obtain ⟨w2, hw2⟩ : ∃ w2, Hid (w1.alloc (.cells #[] 22) = w2) := ⟨_, rfl⟩
  have e1 : w1.heap.size = w.heap.size + 1 := by rw [← hw1.out, World.size_alloc]
  have b1 : Below w.heap.size w w1 := by rw [← hw1.out]; exact alloc_below _ _
  have g2 : GLs w1 w2 (.slice (some ⟨w1.heap.size, 0, none⟩) 0 0) [] := by rw [← hw2.out]; exact gls_new w1
  have l1 := hL.len
  have l2 := hR.len
  obtain ⟨v3, w3, hap1, g3⟩ := g2.app (c := c1) ((hL.below b1).below (by rw [← hw2.out]; exact alloc_below _ _)) (by rw [List.length_nil]; omega)
  rw [List.nil_append] at g3
  obtain ⟨v4, w4, hap2, g4⟩ := g3.app (c := c2) ((hR.below b1).below g3.bl) (by omega)
  obtain ⟨w5, hw5⟩ : ∃ w5, Hid (w4.alloc (.cells #[.slice qA nA cA, .slice qB nB cB] 22) = w5) := ⟨_, rfl⟩
  have b5 : Below w4.heap.size w4 w5 := by rw [← hw5.out]; exact alloc_below _ _
  obtain ⟨v6, w6, hap3, g6⟩ := (g4.below b5).app (c := 2) (q := some ⟨w4.heap.size, 0, none⟩) (m := 2) (ys := [.slice qA nA cA, .slice qB nB cB]) (by
    rw [← hw5.out]
    exact vl_new w4 [.slice qA nA cA, .slice qB nB cB] 22 (by simp [Value.oneCell'])) (by rw [List.length_append]; omega)
  have cell : ∀ (W : World) (j : Nat) v, Below w1.heap.size w1 W → (#[.slice q1 n1 c1, .slice q2 n2 c2, .slice qA nA cA, .slice qB nB cB] : Array Value)[j]? = some v → W.cell? ⟨w.heap.size, j, none⟩ = some v := fun W j v hb hj => by
    rw [hb.cell (p := ⟨w.heap.size, j, none⟩) (by show w.heap.size < _; omega), ← hw1.out]
    exact alloc_cell w _ _ j v hj
  have k0 := cell w2 0 _ g2.bl rfl
  have k1 := cell w3 1 _ g3.bl rfl
  have k2 := cell w4 2 _ g4.bl rfl
  have k3 := cell w4 3 _ g4.bl rfl
  obtain ⟨a3, p3, rfl, -⟩ := g3.lt
  obtain ⟨a4, p4, rfl, -⟩ := g4.lt
  obtain ⟨a6, p6, rfl, -⟩ := g6.lt
  have K6 : Hid (GLs w w6 (.slice (some ⟨a6, 0, none⟩) (ys1 ++ ys2 ++ [Value.slice qA nA cA, Value.slice qB nB cB]).length p6) (ys1 ++ ys2 ++ [.slice qA nA cA, .slice qB nB cB])) := by
    refine ⟨b1.trans (g6.bl.mono b1.size), ?_, g6.nn⟩
    rcases g6.ow with ⟨x0, x1 | ⟨g, cap, cur, x1, x2, x3⟩⟩
    · exact ⟨x0, Or.inl x1⟩
    · exact ⟨x0, Or.inr ⟨g, cap, cur, x1, by omega, x3⟩⟩
  generalize hN6 : (ys1 ++ ys2 ++ [Value.slice qA nA cA, Value.slice qB nB cB]).length = N6 at hap3 K6
  generalize hN4 : (ys1 ++ ys2).length = N4 at hap2 hap3
  generalize hN3 : ys1.length = N3 at hap1 hap2
  clear hN6 hN4 hN3
  have H1 := Hid.mkP hap1
  have H2 := Hid.mkP hap2
  have H3 := Hid.mkP hap3
  clear hap1 hap2 hap3 cell g2 g3 g4 g6 b1 b5 hL hR e1
  go_enter Try.func19, Try.ntmps19
  go_wp2_with (first | (refine wpList_opP (v := .pointer (some ⟨w.heap.size, 0, none⟩)) (w' := w1) rfl (.box 25 (.tmp 0)) rfl ?_ ?_; (rw [← hw1.out]; kernel_rfl)) | (refine wpList_opP (v := .slice (some ⟨w1.heap.size, 0, none⟩) 0 0) (w' := w2) rfl (.buildSlice 23 0 #[]) rfl ?_ ?_; (rw [← hw2.out]; kernel_rfl)) | (refine wpList_opP (v := .slice (some ⟨w4.heap.size, 0, none⟩) 2 2) (w' := w5) rfl (.buildSlice 23 2 #[(0, .tmp 14), (1, .tmp 16)]) rfl ?_ ?_; (rw [← hw5.out]; kernel_rfl)) | (at_builtin; refine Lib.wpList_append_run w2 rfl _ _ _ _ rfl _ _ rfl rfl _ _ H1.out ?_) | (at_builtin; refine Lib.wpList_append_run w3 rfl _ _ _ _ rfl _ _ rfl rfl _ _ H2.out ?_) | (at_builtin; refine Lib.wpList_append_run w5 rfl _ _ _ _ rfl _ _ rfl rfl _ _ H3.out ?_) | fail)
  go_ret
  exact ⟨_, rfl, K6.out⟩
end Go.Proofs.Ytboigmhioojenaa
namespace Go.Proofs.Ytboigmhioojenaa
open Go.RowKit Go.Sort Go.Deep
/-- A part of a proof: any bytes' value. -/
structure Sv where
  q : Option Addr
  n : Nat
  c : Nat
def Sv.v (s : Sv) : Value := .slice s.q s.n s.c
/-- A proof of a range, as eleven cells: A, S, T1, T2, Tau, Mu, T, then L, R, A, B. -/
def rgC (a b c d e f g l r x y : Sv) : List Value := [a.v, b.v, c.v, d.v, e.v, f.v, g.v, l.v, r.v, x.v, y.v]
theorem uIn : (Try.prog.underlying 25).map (·.isRow) = some true := by kernel_rfl
theorem iIn : (Try.prog.info? 25).map (·.size) = some 4 := by kernel_rfl
set_option maxHeartbeats 1000000 in
set_option maxRecDepth 20000 in
theorem all_c (a b c d e f g l r x y : Sv) {ys1 ys2 : List Value} (w : World) (hL : VL w l.q l.n ys1) (hR : VL w r.q r.n ys2) (h1 : l.n ≤ 1000) (h2 : r.n ≤ 1000) :
    Calls Try.prog 13 #[.agg (rgC a b c d e f g l r x y).toArray] w fun e' w' => ∃ v, e' = .returned v ∧ GLs w w' v (ys1 ++ ys2 ++ [x.v, y.v] ++ [a.v, b.v, c.v, d.v, e.v, f.v, g.v]) := by
  obtain ⟨qa, na, ca⟩ := a; obtain ⟨qb, nb, cb⟩ := b; obtain ⟨qc, nc, cc⟩ := c; obtain ⟨qd, nd, cd⟩ := d; obtain ⟨qe, ne, ce⟩ := e; obtain ⟨qf, nf, cf⟩ := f; obtain ⟨qg, ng, cg⟩ := g
  obtain ⟨ql, nl, cl⟩ := l; obtain ⟨qr, nr, cr⟩ := r; obtain ⟨qx, nx, cx⟩ := x; obtain ⟨qy, ny, cy⟩ := y
  dsimp only [Sv.v, rgC] at *
  obtain ⟨cs, hcs⟩ : ∃ cs : List Value, Hid ([.slice qa na ca, .slice qb nb cb, .slice qc nc cc, .slice qd nd cd, .slice qe ne ce, .slice qf nf cf, .slice qg ng cg, .slice ql nl cl, .slice qr nr cr, .slice qx nx cx, .slice qy ny cy] = cs) := ⟨_, rfl⟩
  rw [hcs.out]
  obtain ⟨w1, hw1⟩ : ∃ w1, Hid (w.alloc (.cells cs.toArray 27) = w1) := ⟨_, rfl⟩
  have e1 : w1.heap.size = w.heap.size + 1 := by rw [← hw1.out, World.size_alloc]
  have b1 : Below w.heap.size w w1 := by rw [← hw1.out]; exact alloc_below _ _
  have l1 := hL.len
  have l2 := hR.len
  have hc := lists_c (c1 := cl) (c2 := cr) (qA := qx) (nA := nx) (cA := cx) (qB := qy) (nB := ny) (cB := cy) w1 (hL.below b1) (hR.below b1) h1 h2
  have cell : Hid (∀ (W : World) (j : Nat) v, Below w1.heap.size w1 W → cs[j]? = some v → W.cell? ⟨w.heap.size, j, none⟩ = some v) := fun W j v hb hj => by
    rw [hb.cell (p := ⟨w.heap.size, j, none⟩) (by show w.heap.size < _; omega), ← hw1.out]
    exact alloc_cell w _ _ j v (by simpa using hj)
  have hIn : Hid (w1.rangeAt w.heap.size 7 [.slice ql nl cl, .slice qr nr cr, .slice qx nx cx, .slice qy ny cy]) := fun j u hj => by
    refine cell.out w1 (7 + j) u (Below.refl _ _) ?_
    rw [← hcs.out]
    match j, hj with
    | 0, h => exact h
    | 1, h => exact h
    | 2, h => exact h
    | 3, h => exact h
  obtain ⟨dI, huI, hrI⟩ := Option.map_eq_some_iff.1 uIn
  have HB1 := Hid.mkP b1
  have HL : Hid (ys1.length + ys2.length ≤ 2000) := by show _ ≤ _; omega
  clear e1 b1 hL hR
  go_enter Try.func13, Try.ntmps13
  go_wp2_with (first | (refine wpList_opP (v := .pointer (some ⟨w.heap.size, 0, none⟩)) (w' := w1) rfl (.box 27 (.tmp 0)) rfl ?_ ?_; (rw [← hw1.out, ← hcs.out]; kernel_rfl)) | (refine wpList_load_mid rfl 25 _ rfl w.heap.size 7 ?_ [.slice ql nl cl, .slice qr nr cr, .slice qx nx cx, .slice qy ny cy] dI ?_ ?_ ?_ ?_ ?_; rfl; exact hIn.out; exact huI; exact hrI; exact iIn; skip) | fail)
  refine hc.mono ?_
  rintro e' w2 ⟨v2, rfl, g2⟩
  have k0 := cell.out w2 0 (.slice qa na ca) g2.bl (by rw [← hcs.out]; rfl)
  have k1 := cell.out w2 1 (.slice qb nb cb) g2.bl (by rw [← hcs.out]; rfl)
  have k2 := cell.out w2 2 (.slice qc nc cc) g2.bl (by rw [← hcs.out]; rfl)
  have k3 := cell.out w2 3 (.slice qd nd cd) g2.bl (by rw [← hcs.out]; rfl)
  have k4 := cell.out w2 4 (.slice qe ne ce) g2.bl (by rw [← hcs.out]; rfl)
  have k5 := cell.out w2 5 (.slice qf nf cf) g2.bl (by rw [← hcs.out]; rfl)
  have k6 := cell.out w2 6 (.slice qg ng cg) g2.bl (by rw [← hcs.out]; rfl)
  obtain ⟨w3, hw3⟩ : ∃ w3, Hid (w2.alloc (.cells #[.slice qa na ca, .slice qb nb cb, .slice qc nc cc, .slice qd nd cd, .slice qe ne ce, .slice qf nf cf, .slice qg ng cg] 22) = w3) := ⟨_, rfl⟩
  have b3 : Below w2.heap.size w2 w3 := by rw [← hw3.out]; exact alloc_below _ _
  obtain ⟨v4, w4, hap, g4⟩ := (g2.below b3).app (c := 7) (q := some ⟨w2.heap.size, 0, none⟩) (m := 7) (ys := [.slice qa na ca, .slice qb nb cb, .slice qc nc cc, .slice qd nd cd, .slice qe ne ce, .slice qf nf cf, .slice qg ng cg]) (by
    rw [← hw3.out]
    exact vl_new w2 [.slice qa na ca, .slice qb nb cb, .slice qc nc cc, .slice qd nd cd, .slice qe ne ce, .slice qf nf cf, .slice qg ng cg] 22 (by simp [Value.oneCell'])) (by have := HL.out; rw [List.length_append, List.length_append]; simp only [List.length_cons, List.length_nil]; omega)
  obtain ⟨a2, p2, rfl, -⟩ := g2.lt
  obtain ⟨a4, p4, rfl, -⟩ := g4.lt
  have K4 : Hid (GLs w w4 (.slice (some ⟨a4, 0, none⟩) (ys1 ++ ys2 ++ [Value.slice qx nx cx, Value.slice qy ny cy] ++ [Value.slice qa na ca, Value.slice qb nb cb, Value.slice qc nc cc, Value.slice qd nd cd, Value.slice qe ne ce, Value.slice qf nf cf, Value.slice qg ng cg]).length p4) (ys1 ++ ys2 ++ [Value.slice qx nx cx, Value.slice qy ny cy] ++ [Value.slice qa na ca, Value.slice qb nb cb, Value.slice qc nc cc, Value.slice qd nd cd, Value.slice qe ne ce, Value.slice qf nf cf, Value.slice qg ng cg])) := by
    refine ⟨HB1.out.trans (g4.bl.mono HB1.out.size), ?_, g4.nn⟩
    have := HB1.out.size
    rcases g4.ow with ⟨x0, x1 | ⟨g, cap, cur, x1, x2, x3⟩⟩
    · exact ⟨x0, Or.inl x1⟩
    · exact ⟨x0, Or.inr ⟨g, cap, cur, x1, by omega, x3⟩⟩
  generalize hN4 : (ys1 ++ ys2 ++ [Value.slice qx nx cx, Value.slice qy ny cy] ++ [Value.slice qa na ca, Value.slice qb nb cb, Value.slice qc nc cc, Value.slice qd nd cd, Value.slice qe ne ce, Value.slice qf nf cf, Value.slice qg ng cg]).length = N4 at hap K4
  generalize hN2 : (ys1 ++ ys2 ++ [Value.slice qx nx cx, Value.slice qy ny cy]).length = N2 at hap ⊢
  have H1 := Hid.mkP hap
  clear hap hN4 hN2 g2 g4 b3 hc cell hIn HB1 HL
  go_wp2_with (first | (refine wpList_opP (v := .slice (some ⟨w2.heap.size, 0, none⟩) 7 7) (w' := w3) rfl (.buildSlice 23 7 #[(0, .tmp 9), (1, .tmp 11), (2, .tmp 13), (3, .tmp 15), (4, .tmp 17), (5, .tmp 19), (6, .tmp 21)]) rfl ?_ ?_; (rw [← hw3.out]; kernel_rfl)) | (at_builtin; refine Lib.wpList_append_run w3 rfl _ _ _ _ rfl _ _ rfl rfl _ _ H1.out ?_) | fail)
  go_ret
  exact ⟨_, rfl, K4.out⟩
end Go.Proofs.Ytboigmhioojenaa
namespace Go.Proofs.Ytboigmhioojenaa
open Go.RowKit Go.Sort Go.Deep
theorem uRg : (Try.prog.underlying 27).map (·.isRow) = some true := by kernel_rfl
theorem iRg : (Try.prog.info? 27).map (·.size) = some 11 := by kernel_rfl
theorem GLs.cell {w W : World} {g n c : Nat} {xs : List Value} (h : GLs w W (.slice (some ⟨g, 0, none⟩) n c) xs) (j : Nat) (u : Value) (hj : xs[j]? = some u) : W.cell? ⟨g, j, none⟩ = some u := by
  have := h.ow.cells (g := g) rfl j u hj
  rw [addP0, Nat.zero_add] at this
  exact this
theorem idxP (g n c i : Nat) (hi : i < n) (w : World) : (Instr.indexAt 23 (.slice (some ⟨g, 0, none⟩) n c) (.int .i64 (i : Int))).run Try.prog w = .ok (.pointer (some ⟨g, i, none⟩)) w := by
  have h1 : ¬ (i : Int) < 0 := by omega
  have h2 : (i : Int) < (n : Int) := by omega
  go_simp
/-- What claimed answers. -/
def ClR (w : World) (n m : Nat) (XS : List Value) (e : Ending) (w' : World) : Prop := Below w.heap.size w w' ∧ ∃ t, e = .returned (.bool t) ∧ (t = true → n ≤ 10 ∧ m ≤ 10 ∧ ∀ s : Sv, s.v ∈ XS → s.n ≤ 100)
set_option maxHeartbeats 1000000 in
set_option maxRecDepth 20000 in
theorem claimed_c (a b c d e f g l r x y : Sv) {ys1 ys2 : List Value} (w : World) (hL : VL w l.q l.n ys1) (hR : VL w r.q r.n ys2) (hs : ∀ u ∈ ys1 ++ ys2, ∃ s : Sv, u = s.v) :
    Calls Try.prog 4 #[.agg (rgC a b c d e f g l r x y).toArray] w (ClR w l.n r.n (ys1 ++ ys2 ++ [x.v, y.v] ++ [a.v, b.v, c.v, d.v, e.v, f.v, g.v])) := by
  obtain ⟨cs, hcs⟩ : ∃ cs : List Value, Hid (rgC a b c d e f g l r x y = cs) := ⟨_, rfl⟩
  obtain ⟨w1, hw1⟩ : ∃ w1, Hid (w.alloc (.cells cs.toArray 27) = w1) := ⟨_, rfl⟩
  have e1 : w1.heap.size = w.heap.size + 1 := by rw [← hw1.out, World.size_alloc]
  have b1 : Below w.heap.size w w1 := by rw [← hw1.out]; exact alloc_below _ _
  have cell : ∀ (j : Nat) v, cs[j]? = some v → w1.cell? ⟨w.heap.size, j, none⟩ = some v := fun j v hj => by
    rw [← hw1.out]
    exact alloc_cell w _ _ j v (by simpa using hj)
  have k7 := cell 7 l.v (by rw [← hcs.out]; rfl)
  have k8 := cell 8 r.v (by rw [← hcs.out]; rfl)
  have hXS : Hid (∀ u ∈ ys1 ++ ys2 ++ [x.v, y.v] ++ [a.v, b.v, c.v, d.v, e.v, f.v, g.v], ∃ s : Sv, u = s.v) := fun u hu => by
    rcases List.mem_append.1 hu with hu | hu
    · rcases List.mem_append.1 hu with hu | hu
      · exact hs u hu
      · simp only [List.mem_cons, List.not_mem_nil, or_false] at hu
        rcases hu with rfl | rfl <;> exact ⟨_, rfl⟩
    · simp only [List.mem_cons, List.not_mem_nil, or_false] at hu
      rcases hu with rfl | rfl | rfl | rfl | rfl | rfl | rfl <;> exact ⟨_, rfl⟩
  have hA : Hid (l.n ≤ 10 → r.n ≤ 10 → Calls Try.prog 13 #[.agg cs.toArray] w1 fun e' w' => ∃ v, e' = .returned v ∧ GLs w1 w' v (ys1 ++ ys2 ++ [x.v, y.v] ++ [a.v, b.v, c.v, d.v, e.v, f.v, g.v])) := fun h1 h2 => by
    rw [← hcs.out]
    exact all_c a b c d e f g l r x y w1 (hL.below b1) (hR.below b1) (by omega) (by omega)
  have hIn : Hid (w1.rangeAt w.heap.size 0 cs) := fun j u hj => by rw [Nat.zero_add]; exact cell j u hj
  have hlen : Hid (cs.length = 11) := by rw [← hcs.out]; rfl
  have hXL : Hid (l.n ≤ 10 → r.n ≤ 10 → (ys1 ++ ys2 ++ [x.v, y.v] ++ [a.v, b.v, c.v, d.v, e.v, f.v, g.v]).length ≤ 100) := fun h1 h2 => by
    have l1 := hL.len
    have l2 := hR.len
    rw [List.length_append, List.length_append, List.length_append]
    simp only [List.length_cons, List.length_nil]
    omega
  generalize ys1 ++ ys2 ++ [x.v, y.v] ++ [a.v, b.v, c.v, d.v, e.v, f.v, g.v] = XS at hXS hA hXL ⊢
  rw [hcs.out]
  obtain ⟨ql, nl, cl⟩ := l
  obtain ⟨qr, nr, cr⟩ := r
  dsimp only [Sv.v] at k7 k8 hA hXL ⊢
  obtain ⟨dI, huI, hrI⟩ := Option.map_eq_some_iff.1 uRg
  have HB1 := Hid.mkP b1
  clear e1 b1 hL hR hs cell
  go_enter Try.func4, Try.ntmps4
  by_cases h1 : nl ≤ 10
  · have i1 : ¬ (10 : Int) < (nl : Int) := by omega
    by_cases h2 : nr ≤ 10
    · have i2 : ¬ (10 : Int) < (nr : Int) := by omega
      go_wp2_with (first | (refine wpList_opP (v := .pointer (some ⟨w.heap.size, 0, none⟩)) (w' := w1) rfl (.box 27 (.tmp 0)) rfl ?_ ?_; (rw [← hw1.out, ← hcs.out]; kernel_rfl)) | (refine wpList_load_mid rfl 27 _ rfl w.heap.size 0 ?_ cs dI ?_ ?_ ?_ ?_ ?_; rfl; exact hIn.out; exact huI; exact hrI; (rw [hlen.out]; exact iRg); skip) | fail)
      refine (hA.out h1 h2).mono ?_
      rintro e' w2 ⟨v2, rfl, g2⟩
      obtain ⟨a2, p2, rfl, -⟩ := g2.lt
      have K2 := Hid.mkP g2
      obtain ⟨M, hM⟩ : ∃ M, Hid (XS.length = M) := ⟨_, rfl⟩
      have hMb : M ≤ 100 := by
        have := hXL.out h1 h2
        have := hM.out
        omega
      rw [hM.out] at K2 ⊢
      clear g2 hA hIn
      go_wp2
      go_loopg [4] M (fun gk s4 wr => ∃ i : Nat, i + gk = M ∧ s4 = .int .i64 (i : Int) ∧ w2 = wr ∧ Hid (∀ (k : Nat) (s : Sv), k < i → XS[k]? = some s.v → s.n ≤ 100))
      case atStart => exact ⟨0, by omega, rfl, rfl, fun k s hk => absurd hk (Nat.not_lt_zero _)⟩
      case round =>
        obtain ⟨i, hi, rfl, rfl, KM⟩ := hrel
        by_cases him : i < M
        · have him' : (i : Int) < (M : Int) := by omega
          obtain ⟨u, hu⟩ : ∃ u, XS[i]? = some u := ⟨_, List.getElem?_eq_getElem (by have := hM.out; omega)⟩
          obtain ⟨⟨qu, nu, cu⟩, rfl⟩ := hXS.out u (List.mem_of_getElem? hu)
          have hcu : w2.cell? ⟨a2, i, none⟩ = some (.slice qu nu cu) := K2.out.cell i _ hu
          have hix := idxP a2 M p2 i him
          have HU := Hid.mkP hu
          clear hu
          by_cases hn : nu ≤ 100
          · have hn' : ¬ (100 : Int) < (nu : Int) := by omega
            go_wp2
            go_roundg (gk - 1)
            case measure => omega
            case rel =>
              refine ⟨i + 1, by omega, rfl, rfl, fun k s hk hks => ?_⟩
              by_cases hki : k = i
              · subst hki
                rw [HU.out] at hks
                have := Option.some.inj hks
                unfold Sv.v at this
                injection this with _ h5 _
                have h6 : nu = s.n := h5
                omega
              · exact KM.out k s (by omega) hks
          · have hn' : (100 : Int) < (nu : Int) := by omega
            go_wp2
            go_ret
            exact ⟨HB1.out.trans (K2.out.bl.mono HB1.out.size), _, rfl, fun h => by cases h⟩
        · have him' : ¬ (i : Int) < (M : Int) := by omega
          go_wp2
          go_ret
          refine ⟨HB1.out.trans (K2.out.bl.mono HB1.out.size), _, rfl, fun _ => ⟨h1, h2, fun s hs => ?_⟩⟩
          obtain ⟨k, hk, hks⟩ := List.getElem_of_mem hs
          exact KM.out k s (by have := hM.out; omega) (by rw [List.getElem?_eq_getElem hk, hks])
    · have i2 : (10 : Int) < (nr : Int) := by omega
      go_wp2_with (first | (refine wpList_opP (v := .pointer (some ⟨w.heap.size, 0, none⟩)) (w' := w1) rfl (.box 27 (.tmp 0)) rfl ?_ ?_; (rw [← hw1.out, ← hcs.out]; kernel_rfl)) | fail)
      go_ret
      exact ⟨HB1.out, _, rfl, fun h => by cases h⟩
  · have i1 : (10 : Int) < (nl : Int) := by omega
    go_wp2_with (first | (refine wpList_opP (v := .pointer (some ⟨w.heap.size, 0, none⟩)) (w' := w1) rfl (.box 27 (.tmp 0)) rfl ?_ ?_; (rw [← hw1.out, ← hcs.out]; kernel_rfl)) | fail)
    go_ret
    exact ⟨HB1.out, _, rfl, fun h => by cases h⟩
end Go.Proofs.Ytboigmhioojenaa
namespace Go.Proofs.Ytboigmhioojenaa
open Go.RowKit Go.Sort Go.Deep
/-- A value is bytes b, wherever they lie. -/
def Pt (W : World) (u : Value) (b : SP.Bs) : Prop := ∃ q c, u = .slice q (Array.size b) c ∧ (b.size = 0 ∨ ∃ g o, q = some ⟨g, o, none⟩ ∧ g < W.heap.size ∧ Holds SP.encB W g o b)
theorem Pt.below {W W' : World} {u : Value} {b : SP.Bs} (h : Pt W u b) (hb : Below W.heap.size W W') : Pt W' u b := by
  obtain ⟨q, c, h1, h2 | ⟨g, o, h3, h4, h5⟩⟩ := h
  · exact ⟨q, c, h1, Or.inl h2⟩
  · exact ⟨q, c, h1, Or.inr ⟨g, o, h3, Nat.lt_of_lt_of_le h4 hb.size, SP.Holds.below h5 hb h4⟩⟩
theorem Pt.conv {W : World} {u : Value} {b : SP.Bs} (h : Pt W u b) : (convert 22 9 u).run Try.prog W = .ok (.string ⟨b⟩) W := by
  obtain ⟨q, c, rfl, h2 | ⟨g, o, rfl, h4, h5⟩⟩ := h
  · obtain rfl : b = #[] := Array.eq_empty_of_size_eq_zero h2
    cases q with
    | none => exact run_convert_bytes_nil (P := Try.prog) (w := W) 22 5 SP.slice22 SP.int5 0 c 9 SP.str9
    | some a => exact run_convert_bytes_back (P := Try.prog) W 22 9 5 a c [] SP.slice22 SP.int5 SP.str9 (fun j hj => by cases hj)
  · exact SP.conv_str Try.prog 22 9 5 SP.slice22 SP.int5 SP.str9 W g o _ c b h5 rfl
/-- An Inner's value. -/
def inV (l r x y : Sv) : List Value := [l.v, r.v, x.v, y.v]
theorem alloc_range (w : World) (cs : List Value) (T : TypeId) : (w.alloc (.cells cs.toArray T)).rangeAt w.heap.size 0 cs := fun j u hj => by rw [Nat.zero_add]; exact alloc_cell w _ _ j u (by simpa using hj)
theorem range_below {w w' : World} {b o : Nat} {cs : List Value} (h : w.rangeAt b o cs) (hb : Below w.heap.size w w') (hlt : b < w.heap.size) : w'.rangeAt b o cs := fun j u hj => by rw [hb.cell (p := ⟨b, o + j, none⟩) hlt]; exact h j u hj
set_option maxHeartbeats 1000000 in
set_option maxRecDepth 20000 in
theorem sameInner_c (l r x y l' r' x' y' : Sv) {ys1 ys2 zs1 zs2 : List Value} (w : World) (hL : VL w l.q l.n ys1) (hR : VL w r.q r.n ys2) (hL' : VL w l'.q l'.n zs1) (hR' : VL w r'.q r'.n zs2) (h1 : l.n ≤ 1000) (h2 : r.n ≤ 1000) (hl : l'.n = l.n) (hr : r'.n = r.n)
    (hE : ∀ (j : Nat), j < l.n + r.n + 2 → ∃ u v b, (ys1 ++ ys2 ++ [x.v, y.v])[j]? = some u ∧ (zs1 ++ zs2 ++ [x'.v, y'.v])[j]? = some v ∧ Pt w u b ∧ Pt w v b) :
    Calls Try.prog 18 #[.agg (inV l r x y).toArray, .agg (inV l' r' x' y').toArray] w fun e' w' => e' = .returned (.bool true) ∧ Below w.heap.size w w' := by
  obtain ⟨cs, hcs⟩ : ∃ cs : List Value, Hid (inV l r x y = cs) := ⟨_, rfl⟩
  obtain ⟨ds, hds⟩ : ∃ ds : List Value, Hid (inV l' r' x' y' = ds) := ⟨_, rfl⟩
  obtain ⟨w1, hw1⟩ : ∃ w1, Hid (w.alloc (.cells cs.toArray 25) = w1) := ⟨_, rfl⟩
  obtain ⟨w2, hw2⟩ : ∃ w2, Hid (w1.alloc (.cells ds.toArray 25) = w2) := ⟨_, rfl⟩
  have e1 : w1.heap.size = w.heap.size + 1 := by rw [← hw1.out, World.size_alloc]
  have e2 : w2.heap.size = w1.heap.size + 1 := by rw [← hw2.out, World.size_alloc]
  have b1 : Below w.heap.size w w1 := by rw [← hw1.out]; exact alloc_below _ _
  have b2 : Below w1.heap.size w1 w2 := by rw [← hw2.out]; exact alloc_below _ _
  have b02 : Below w.heap.size w w2 := b1.trans (b2.mono b1.size)
  have r1 : w2.rangeAt w.heap.size 0 cs := range_below (w := w1) (by rw [← hw1.out]; exact alloc_range w cs _) b2 (by omega)
  have r2 : w2.rangeAt w1.heap.size 0 ds := by rw [← hw2.out]; exact alloc_range w1 ds _
  have c0 := r1 0 l.v (by rw [← hcs.out]; rfl)
  have c1 := r1 1 r.v (by rw [← hcs.out]; rfl)
  have d0 := r2 0 l'.v (by rw [← hds.out]; rfl)
  have d1 := r2 1 r'.v (by rw [← hds.out]; rfl)
  rw [Nat.zero_add] at c0 c1 d0 d1
  have len1 : Hid (cs.length = 4) := by rw [← hcs.out]; rfl
  have len2 : Hid (ds.length = 4) := by rw [← hds.out]; rfl
  have hA : Hid (Calls Try.prog 19 #[.agg cs.toArray] w2 fun e w' => ∃ v, e = .returned v ∧ GLs w2 w' v (ys1 ++ ys2 ++ [x.v, y.v])) := by
    rw [← hcs.out]
    exact lists_c w2 (hL.below b02) (hR.below b02) h1 h2
  have hB : Hid (∀ w3, Below w2.heap.size w2 w3 → Calls Try.prog 19 #[.agg ds.toArray] w3 fun e w' => ∃ v, e = .returned v ∧ GLs w3 w' v (zs1 ++ zs2 ++ [x'.v, y'.v])) := fun w3 hb => by
    rw [← hds.out]
    exact lists_c w3 ((hL'.below b02).below hb) ((hR'.below b02).below hb) (by omega) (by omega)
  have hXl : Hid ((ys1 ++ ys2 ++ [x.v, y.v]).length = l.n + r.n + 2) := by
    show _ = _
    rw [List.length_append, List.length_append, hL.len, hR.len]; rfl
  have hZl : Hid ((zs1 ++ zs2 ++ [x'.v, y'.v]).length = l.n + r.n + 2) := by
    show _ = _
    rw [List.length_append, List.length_append, hL'.len, hR'.len, hl, hr]; rfl
  have HE := Hid.mkP hE
  generalize ys1 ++ ys2 ++ [x.v, y.v] = XS at hA hXl HE
  generalize zs1 ++ zs2 ++ [x'.v, y'.v] = ZS at hB hZl HE
  have HB := Hid.mkP b02
  have HR2 : Hid (∀ w3, Below w2.heap.size w2 w3 → w3.rangeAt w1.heap.size 0 ds) := fun w3 hb => range_below r2 hb (by omega)
  have HR1 := Hid.mkP r1
  rw [hcs.out, hds.out]
  obtain ⟨ql, nl, cl⟩ := l; obtain ⟨qr, nr, cr⟩ := r; obtain ⟨ql', nl', cl'⟩ := l'; obtain ⟨qr', nr', cr'⟩ := r'
  dsimp only [Sv.v] at *
  subst hl hr
  obtain ⟨dI, huI, hrI⟩ := Option.map_eq_some_iff.1 uIn
  obtain ⟨M, hM⟩ : ∃ M, Hid (nl' + nr' + 2 = M) := ⟨_, rfl⟩
  rw [hM.out] at hXl hZl HE
  have hMb : M ≤ 2002 := by have := hM.out; omega
  clear e1 e2 b1 b2 b02 r1 r2 hL hR hL' hR' hE
  go_enter Try.func18, Try.ntmps18
  go_wp2_with (first | (refine wpList_opP (v := .pointer (some ⟨w.heap.size, 0, none⟩)) (w' := w1) rfl (.box 25 (.tmp 0)) rfl ?_ ?_; (rw [← hw1.out, ← hcs.out]; kernel_rfl)) | (refine wpList_opP (v := .pointer (some ⟨w1.heap.size, 0, none⟩)) (w' := w2) rfl (.box 25 (.tmp 1)) rfl ?_ ?_; (rw [← hw2.out, ← hds.out]; kernel_rfl)) | (refine wpList_load_mid rfl 25 _ rfl w.heap.size 0 ?_ cs dI ?_ ?_ ?_ ?_ ?_; rfl; exact HR1.out; exact huI; exact hrI; (rw [len1.out]; exact iIn); skip) | fail)
  refine hA.out.mono ?_
  rintro e' w3 ⟨v3, rfl, g3⟩
  have HR3 := Hid.mkP (HR2.out w3 g3.bl)
  have hB3 := Hid.mkP (hB.out w3 g3.bl)
  obtain ⟨a3, p3, rfl, -⟩ := g3.lt
  have K3 := Hid.mkP g3
  clear g3 hA hB HR2 c0 c1 d0 d1
  rw [hXl.out] at K3 ⊢
  go_wp2_with (first | (refine wpList_load_mid rfl 25 _ rfl w1.heap.size 0 ?_ ds dI ?_ ?_ ?_ ?_ ?_; rfl; exact HR3.out; exact huI; exact hrI; (rw [len2.out]; exact iIn); skip) | fail)
  refine hB3.out.mono ?_
  rintro e' w4 ⟨v4, rfl, g4⟩
  obtain ⟨a4, p4, rfl, -⟩ := g4.lt
  have K4 : Hid (GLs w2 w4 (.slice (some ⟨a3, 0, none⟩) M p3) XS ∧ GLs w3 w4 (.slice (some ⟨a4, 0, none⟩) M p4) ZS ∧ Below w.heap.size w w4) := by
    rw [hZl.out] at g4
    have g5 := K3.out.below g4.bl
    exact ⟨g5, g4, HB.out.trans (g5.bl.mono HB.out.size)⟩
  clear g4 hB3 K3 HR3
  rw [hZl.out]
  go_wp2
  go_loopg [7] M (fun gk s7 wr => ∃ i : Nat, i + gk = M ∧ s7 = .int .i64 (i : Int) ∧ Hid (GLs w2 wr (.slice (some ⟨a3, 0, none⟩) M p3) XS ∧ GLs w3 wr (.slice (some ⟨a4, 0, none⟩) M p4) ZS ∧ Below w.heap.size w wr))
  case atStart => exact ⟨0, by omega, rfl, K4⟩
  case round =>
    clear K4
    obtain ⟨i, hi, rfl, K4⟩ := hrel
    by_cases him : i < M
    · have him' : (i : Int) < (M : Int) := by omega
      obtain ⟨u, v, b, hu, hv, pu, pv⟩ := HE.out i him
      have hdr : ∀ q, Below wr.heap.size wr (wr.drewN q) := fun q => ⟨rfl, rfl, rfl, Nat.le_refl _, fun _ _ => rfl⟩
      have k1 := fun q => ((pu.below K4.out.2.2).below (hdr q)).conv
      have k2 := fun q => ((pv.below K4.out.2.2).below (hdr q)).conv
      have x1 := K4.out.1.cell i u hu
      have x2 := K4.out.2.1.cell i v hv
      have K5 : Hid (∀ q, GLs w2 (wr.drewN q) (.slice (some ⟨a3, 0, none⟩) M p3) XS ∧ GLs w3 (wr.drewN q) (.slice (some ⟨a4, 0, none⟩) M p4) ZS ∧ Below w.heap.size w (wr.drewN q)) := fun q => ⟨K4.out.1.below (hdr q), K4.out.2.1.below (hdr q), K4.out.2.2.trans ((hdr q).mono K4.out.2.2.size)⟩
      obtain ⟨qu, cu, rfl, -⟩ := pu
      obtain ⟨qv, cv, rfl, -⟩ := pv
      generalize Array.size b = nb at k1 k2 x1 x2
      have j1 := idxP a3 M p3 i him
      have j2 := idxP a4 M p4 i him
      clear hu hv hdr K4
      go_wp2
      go_quiet (fail)
      go_wp2
      go_roundg (gk - 1)
      case measure => omega
      case rel => exact ⟨i + 1, by omega, rfl, K5.out _⟩
    · have him' : ¬ (i : Int) < (M : Int) := by omega
      go_wp2
      go_ret
      exact ⟨rfl, K4.out.2.2⟩
end Go.Proofs.Ytboigmhioojenaa
namespace Go.Proofs.Ytboigmhioojenaa
open Go.RowKit Go.Sort Go.Deep
/-- Seven values, four values: a proof of a range as eleven cells. -/
structure Rg where
  a : Sv
  b : Sv
  c : Sv
  d : Sv
  e : Sv
  f : Sv
  g : Sv
  l : Sv
  r : Sv
  x : Sv
  y : Sv
def Rg.cs (p : Rg) : List Value := rgC p.a p.b p.c p.d p.e p.f p.g p.l p.r p.x p.y
def Rg.all (p : Rg) (ys1 ys2 : List Value) : List Value := ys1 ++ ys2 ++ [p.x.v, p.y.v] ++ [p.a.v, p.b.v, p.c.v, p.d.v, p.e.v, p.f.v, p.g.v]
set_option maxHeartbeats 1000000 in
set_option maxRecDepth 20000 in
theorem sameRange_c (p p' : Rg) {ys1 ys2 zs1 zs2 : List Value} (w : World) (hL : VL w p.l.q p.l.n ys1) (hR : VL w p.r.q p.r.n ys2) (hL' : VL w p'.l.q p'.l.n zs1) (hR' : VL w p'.r.q p'.r.n zs2) (h1 : p.l.n ≤ 1000) (h2 : p.r.n ≤ 1000) (hl : p'.l.n = p.l.n) (hr : p'.r.n = p.r.n)
    (hE : ∀ (j : Nat), j < p.l.n + p.r.n + 9 → ∃ u v b, (p.all ys1 ys2)[j]? = some u ∧ (p'.all zs1 zs2)[j]? = some v ∧ Pt w u b ∧ Pt w v b) :
    Calls Try.prog 11 #[.agg p.cs.toArray, .agg p'.cs.toArray] w fun e' w' => e' = .returned (.bool true) ∧ Below w.heap.size w w' := by
  obtain ⟨cs, hcs⟩ : ∃ cs : List Value, Hid (p.cs = cs) := ⟨_, rfl⟩
  obtain ⟨ds, hds⟩ : ∃ ds : List Value, Hid (p'.cs = ds) := ⟨_, rfl⟩
  obtain ⟨w1, hw1⟩ : ∃ w1, Hid (w.alloc (.cells cs.toArray 27) = w1) := ⟨_, rfl⟩
  obtain ⟨w2, hw2⟩ : ∃ w2, Hid (w1.alloc (.cells ds.toArray 27) = w2) := ⟨_, rfl⟩
  have e1 : w1.heap.size = w.heap.size + 1 := by rw [← hw1.out, World.size_alloc]
  have e2 : w2.heap.size = w1.heap.size + 1 := by rw [← hw2.out, World.size_alloc]
  have b1 : Below w.heap.size w w1 := by rw [← hw1.out]; exact alloc_below _ _
  have b2 : Below w1.heap.size w1 w2 := by rw [← hw2.out]; exact alloc_below _ _
  have b02 : Below w.heap.size w w2 := b1.trans (b2.mono b1.size)
  have r1 : w2.rangeAt w.heap.size 0 cs := range_below (w := w1) (by rw [← hw1.out]; exact alloc_range w cs _) b2 (by omega)
  have r2 : w2.rangeAt w1.heap.size 0 ds := by rw [← hw2.out]; exact alloc_range w1 ds _
  have len1 : Hid (cs.length = 11) := by rw [← hcs.out]; rfl
  have len2 : Hid (ds.length = 11) := by rw [← hds.out]; rfl
  have i1 : Hid (w2.rangeAt w.heap.size 7 (inV p.l p.r p.x p.y)) := fun j u hj => by
    have := r1 (7 + j) u (by
      rw [← hcs.out]
      match j, hj with
      | 0, h => exact h
      | 1, h => exact h
      | 2, h => exact h
      | 3, h => exact h)
    rw [Nat.zero_add] at this
    exact this
  have i2 : Hid (w2.rangeAt w1.heap.size 7 (inV p'.l p'.r p'.x p'.y)) := fun j u hj => by
    have := r2 (7 + j) u (by
      rw [← hds.out]
      match j, hj with
      | 0, h => exact h
      | 1, h => exact h
      | 2, h => exact h
      | 3, h => exact h)
    rw [Nat.zero_add] at this
    exact this
  have lX : (ys1 ++ ys2 ++ [p.x.v, p.y.v]).length = p.l.n + p.r.n + 2 := by rw [List.length_append, List.length_append, hL.len, hR.len]; rfl
  have lZ : (zs1 ++ zs2 ++ [p'.x.v, p'.y.v]).length = p.l.n + p.r.n + 2 := by rw [List.length_append, List.length_append, hL'.len, hR'.len, hl, hr]; rfl
  have hI : Hid (Calls Try.prog 18 #[.agg (inV p.l p.r p.x p.y).toArray, .agg (inV p'.l p'.r p'.x p'.y).toArray] w2 fun e' w' => e' = .returned (.bool true) ∧ Below w2.heap.size w2 w') := by
    refine sameInner_c p.l p.r p.x p.y p'.l p'.r p'.x p'.y w2 (hL.below b02) (hR.below b02) (hL'.below b02) (hR'.below b02) h1 h2 hl hr (fun j hj => ?_)
    obtain ⟨u, v, b, q1, q2, q3, q4⟩ := hE j (by omega)
    unfold Rg.all at q1 q2
    rw [List.getElem?_append_left (by rw [lX]; exact hj)] at q1
    rw [List.getElem?_append_left (by rw [lZ]; exact hj)] at q2
    exact ⟨u, v, b, q1, q2, q3.below b02, q4.below b02⟩
  have hA : Hid (∀ w3, Below w2.heap.size w2 w3 → Calls Try.prog 13 #[.agg cs.toArray] w3 fun e w' => ∃ v, e = .returned v ∧ GLs w3 w' v (p.all ys1 ys2)) := fun w3 hb => by
    rw [← hcs.out]
    exact all_c p.a p.b p.c p.d p.e p.f p.g p.l p.r p.x p.y w3 ((hL.below b02).below hb) ((hR.below b02).below hb) h1 h2
  have hB : Hid (∀ w3, Below w2.heap.size w2 w3 → Calls Try.prog 13 #[.agg ds.toArray] w3 fun e w' => ∃ v, e = .returned v ∧ GLs w3 w' v (p'.all zs1 zs2)) := fun w3 hb => by
    rw [← hds.out]
    exact all_c p'.a p'.b p'.c p'.d p'.e p'.f p'.g p'.l p'.r p'.x p'.y w3 ((hL'.below b02).below hb) ((hR'.below b02).below hb) (by omega) (by omega)
  have hXl : Hid ((p.all ys1 ys2).length = p.l.n + p.r.n + 9) := by
    show _ = _
    unfold Rg.all
    rw [List.length_append, lX]; rfl
  have hZl : Hid ((p'.all zs1 zs2).length = p.l.n + p.r.n + 9) := by
    show _ = _
    unfold Rg.all
    rw [List.length_append, lZ]; rfl
  have HE := Hid.mkP hE
  generalize p.all ys1 ys2 = XS at hA hXl HE
  generalize p'.all zs1 zs2 = ZS at hB hZl HE
  have HB := Hid.mkP b02
  have HR1 : Hid (∀ w3, Below w2.heap.size w2 w3 → w3.rangeAt w.heap.size 0 cs) := fun w3 hb => range_below r1 hb (by omega)
  have HR2 : Hid (∀ w3, Below w2.heap.size w2 w3 → w3.rangeAt w1.heap.size 0 ds) := fun w3 hb => range_below r2 hb (by omega)
  rw [hcs.out, hds.out]
  obtain ⟨dI, huI, hrI⟩ := Option.map_eq_some_iff.1 uIn
  obtain ⟨dR, huR, hrR⟩ := Option.map_eq_some_iff.1 uRg
  obtain ⟨M, hM⟩ : ∃ M, Hid (p.l.n + p.r.n + 9 = M) := ⟨_, rfl⟩
  rw [hM.out] at hXl hZl HE
  have hMb : M ≤ 2009 := by have := hM.out; omega
  obtain ⟨iv, hiv⟩ : ∃ iv, Hid (inV p.l p.r p.x p.y = iv) := ⟨_, rfl⟩
  obtain ⟨jv, hjv⟩ : ∃ jv, Hid (inV p'.l p'.r p'.x p'.y = jv) := ⟨_, rfl⟩
  have ll1 : Hid (iv.length = 4) := by rw [← hiv.out]; rfl
  have ll2 : Hid (jv.length = 4) := by rw [← hjv.out]; rfl
  rw [hiv.out] at i1 hI
  rw [hjv.out] at i2 hI
  clear e1 e2 b1 b2 b02 r1 r2 hL hR hL' hR' hE lX lZ hl hr h1 h2
  go_enter Try.func11, Try.ntmps11
  go_wp2_with (first | (refine wpList_opP (v := .pointer (some ⟨w.heap.size, 0, none⟩)) (w' := w1) rfl (.box 27 (.tmp 0)) rfl ?_ ?_; (rw [← hw1.out, ← hcs.out]; kernel_rfl)) | (refine wpList_opP (v := .pointer (some ⟨w1.heap.size, 0, none⟩)) (w' := w2) rfl (.box 27 (.tmp 1)) rfl ?_ ?_; (rw [← hw2.out, ← hds.out]; kernel_rfl)) | (refine wpList_load_mid rfl 25 _ rfl w.heap.size 7 ?_ iv dI ?_ ?_ ?_ ?_ ?_; rfl; exact i1.out; exact huI; exact hrI; (rw [ll1.out]; exact iIn); skip) | (refine wpList_load_mid rfl 25 _ rfl w1.heap.size 7 ?_ jv dI ?_ ?_ ?_ ?_ ?_; rfl; exact i2.out; exact huI; exact hrI; (rw [ll2.out]; exact iIn); skip) | fail)
  refine hI.out.mono ?_
  rintro e' w2' ⟨rfl, hb2'⟩
  have K2 := Hid.mkP hb2'
  have HRa := Hid.mkP (HR1.out w2' hb2')
  clear hb2' hI i1 i2
  go_wp2_with (first | (refine wpList_load_mid rfl 27 _ rfl w.heap.size 0 ?_ cs dR ?_ ?_ ?_ ?_ ?_; rfl; exact HRa.out; exact huR; exact hrR; (rw [len1.out]; exact iRg); skip) | fail)
  refine (hA.out w2' K2.out).mono ?_
  rintro e' w3 ⟨v3, rfl, g3⟩
  have hb3 : Below w2.heap.size w2 w3 := K2.out.trans (g3.bl.mono K2.out.size)
  have HR3 := Hid.mkP (HR2.out w3 hb3)
  have hB3 := Hid.mkP (hB.out w3 hb3)
  obtain ⟨a3, p3, rfl, -⟩ := g3.lt
  have K3 := Hid.mkP g3
  have KB3 := Hid.mkP hb3
  clear g3 hb3 hA hB HR2 HR1 HRa
  rw [hXl.out] at K3 ⊢
  go_wp2_with (first | (refine wpList_load_mid rfl 27 _ rfl w1.heap.size 0 ?_ ds dR ?_ ?_ ?_ ?_ ?_; rfl; exact HR3.out; exact huR; exact hrR; (rw [len2.out]; exact iRg); skip) | fail)
  refine hB3.out.mono ?_
  rintro e' w4 ⟨v4, rfl, g4⟩
  obtain ⟨a4, p4, rfl, -⟩ := g4.lt
  have K4 : Hid (GLs w2' w4 (.slice (some ⟨a3, 0, none⟩) M p3) XS ∧ GLs w3 w4 (.slice (some ⟨a4, 0, none⟩) M p4) ZS ∧ Below w.heap.size w w4) := by
    rw [hZl.out] at g4
    have b2' := HB.out.trans (K2.out.mono HB.out.size)
    have g5 := K3.out.below g4.bl
    exact ⟨g5, g4, b2'.trans (g5.bl.mono b2'.size)⟩
  clear g4 hB3 K3 HR3 KB3 K2
  rw [hZl.out]
  go_wp2
  go_loopg [8] M (fun gk s7 wr => ∃ i : Nat, i + gk = M ∧ s7 = .int .i64 (i : Int) ∧ Hid (GLs w2' wr (.slice (some ⟨a3, 0, none⟩) M p3) XS ∧ GLs w3 wr (.slice (some ⟨a4, 0, none⟩) M p4) ZS ∧ Below w.heap.size w wr))
  case atStart => exact ⟨0, by omega, rfl, K4⟩
  case round =>
    clear K4
    obtain ⟨i, hi, rfl, K4⟩ := hrel
    by_cases him : i < M
    · have him' : (i : Int) < (M : Int) := by omega
      obtain ⟨u, v, b, hu, hv, pu, pv⟩ := HE.out i him
      have hdr : ∀ q, Below wr.heap.size wr (wr.drewN q) := fun q => ⟨rfl, rfl, rfl, Nat.le_refl _, fun _ _ => rfl⟩
      have k1 := fun q => ((pu.below K4.out.2.2).below (hdr q)).conv
      have k2 := fun q => ((pv.below K4.out.2.2).below (hdr q)).conv
      have x1 := K4.out.1.cell i u hu
      have x2 := K4.out.2.1.cell i v hv
      have K5 : Hid (∀ q, GLs w2' (wr.drewN q) (.slice (some ⟨a3, 0, none⟩) M p3) XS ∧ GLs w3 (wr.drewN q) (.slice (some ⟨a4, 0, none⟩) M p4) ZS ∧ Below w.heap.size w (wr.drewN q)) := fun q => ⟨K4.out.1.below (hdr q), K4.out.2.1.below (hdr q), K4.out.2.2.trans ((hdr q).mono K4.out.2.2.size)⟩
      obtain ⟨qu, cu, rfl, -⟩ := pu
      obtain ⟨qv, cv, rfl, -⟩ := pv
      generalize Array.size b = nb at k1 k2 x1 x2
      have j1 := idxP a3 M p3 i him
      have j2 := idxP a4 M p4 i him
      clear hu hv hdr K4
      go_wp2
      go_quiet (fail)
      go_wp2
      go_roundg (gk - 1)
      case measure => omega
      case rel => exact ⟨i + 1, by omega, rfl, K5.out _⟩
    · have him' : ¬ (i : Int) < (M : Int) := by omega
      go_wp2
      go_ret
      exact ⟨rfl, K4.out.2.2⟩
end Go.Proofs.Ytboigmhioojenaa
namespace Go.Proofs.Ytboigmhioojenaa
open Go.RowKit Go.Sort Go.Deep
/-- A text as bytes of one's own. -/
theorem conv_ofP (s : ByteArray) (w : World) :
    ∃ cap w', (convert 9 22 (.string s)).run Try.prog w = .ok (.slice (some ⟨w.heap.size, 0, none⟩) s.size cap) w' ∧ s.size ≤ cap ∧ Below w.heap.size w w' ∧ Holds SP.encB w' w.heap.size 0 s.data ∧ w.heap.size < w'.heap.size := by
  have h := Lib.run_convert_string_bytes (P := Try.prog) w 9 22 5 s SP.str9 SP.slice22 SP.int5
  have hcap : s.size ≤ grownCap w s.size 0 5 := by
    unfold grownCap Question.cut
    exact Nat.le_add_right _ _
  have hl : s.data.size = s.size := rfl
  refine ⟨_, _, h, hcap, ?_, ?_, by rw [Lib.bytesWorld_size]; omega⟩
  · refine ⟨?_, ?_, ?_, ?_, fun k hk => Lib.bytesWorld_at_old w 5 s k hk⟩
    · unfold Lib.bytesWorld World.freeze
      rw [if_neg (by decide)]
      rfl
    · unfold Lib.bytesWorld World.freeze
      rw [if_neg (by decide)]
      rfl
    · unfold Lib.bytesWorld World.freeze
      rw [if_neg (by decide)]
      rfl
    · rw [Lib.bytesWorld_size]; omega
  · intro j hj
    have hb := Lib.bytesWorld_at_new w 5 s
    have hsz : (Lib.bytesCells w 5 s).size = grownCap w s.size 0 5 := by
      unfold Lib.bytesCells
      rw [Array.size_append, Array.size_map, Array.size_replicate]
      omega
    have hc : (Lib.bytesCells w 5 s) = (s.data ++ Array.replicate (grownCap w s.size 0 5 - s.size) 0).map SP.encB := by
      unfold Lib.bytesCells
      rw [Array.map_append, Array.map_replicate]
      rfl
    have hj2 : j < (s.data ++ Array.replicate (grownCap w s.size 0 5 - s.size) 0).size := by rw [Array.size_append, Array.size_replicate]; omega
    have hget : (s.data ++ Array.replicate (grownCap w s.size 0 5 - s.size) 0)[j] = s.data[j]! := by
      rw [Array.getElem_append_left hj, getElem!_pos s.data j hj]
    constructor
    · unfold World.cell?
      rw [hb]
      simp only [Nat.zero_add]
      rw [if_neg (by decide), hc, Array.getElem?_map, Array.getElem?_eq_getElem hj2, Option.map_some, hget]
    · unfold World.frozen?
      rw [hb]
      simp only [Nat.zero_add, hsz]
      simp
      omega
theorem slT (s : ByteArray) (at' m : Nat) (h0 : at' ≤ m) (h : m ≤ s.size) (w : World) : (Instr.sliceAt 9 (.string s) (some (.int .i64 (at' : Int))) (some (.int .i64 (m : Int))) none).run Try.prog w = .ok (.string (s.extract at' m)) w := by
  have h1 : (0 : Int) ≤ (at' : Int) := by omega
  have h2 : (0 : Int) ≤ (m : Int) := by omega
  have h3 : (m : Int) ≤ (s.size : Int) := by omega
  have h4 : (at' : Int) ≤ (m : Int) := by omega
  go_simp
/-- The reference's 'next': the bytes that follow. -/
theorem next_c (ga gs : Nat) (s : ByteArray) (at' k m : Nat) (hm : at' + k = m) (h : m ≤ s.size) (hs : s.size ≤ 1048576) (w : World) (ha : w.cell? ⟨ga, 0, none⟩ = some (.int .i64 (at' : Int))) (hf : w.frozen? ⟨ga, 0, none⟩ = false) (hS : w.cell? ⟨gs, 0, none⟩ = some (.string s)) (hne : ga ≠ gs) :
    Calls Try.prog 17 #[.int .i64 (k : Int), .pointer (some ⟨ga, 0, none⟩), .pointer (some ⟨gs, 0, none⟩)] w fun e w' => ∃ cap, e = .returned (.slice (some ⟨w.heap.size, 0, none⟩) k cap) ∧ k ≤ cap ∧ Holds SP.encB w' w.heap.size 0 (s.extract at' m).data ∧ Below w.heap.size (w.setCell ⟨ga, 0, none⟩ (.int .i64 (m : Int))) w' ∧ w.heap.size < w'.heap.size := by
  obtain ⟨w1, hw1⟩ : ∃ w1, Hid (w.setCell ⟨ga, 0, none⟩ (.int .i64 (m : Int)) = w1) := ⟨_, rfl⟩
  have e1 : w1.heap.size = w.heap.size := by rw [← hw1.out, World.size_setCell]
  have c1 : w1.cell? ⟨ga, 0, none⟩ = some (.int .i64 (m : Int)) := by rw [← hw1.out]; exact World.cell?_setCell_same _ _ _ ha
  have c2 : w1.cell? ⟨gs, 0, none⟩ = some (.string s) := by
    rw [← hw1.out, World.cell?_setCell_other _ _ _ _ (by intro x; injection x with x _ _; exact hne x)]
    exact hS
  have hsz : (s.extract at' m).size = k := by rw [ByteArray.size_extract]; omega
  have hsl := slT s at' m (by omega) h
  obtain ⟨cap, w2, hc, h1, h2, h3, h4⟩ := conv_ofP (s.extract at' m) w1
  rw [hsz, e1] at hc
  rw [e1] at h2 h3 h4
  rw [hsz] at h1
  have K2 : Hid (k ≤ cap ∧ Holds SP.encB w2 w.heap.size 0 (s.extract at' m).data ∧ Below w.heap.size w1 w2 ∧ w.heap.size < w2.heap.size) := ⟨h1, h3, h2, h4⟩
  rw [← hw1.out] at c1 c2 hc K2
  generalize s.extract at' m = tx at hsl hc K2
  have q1 : (at' : Int) + (k : Int) = (m : Int) := by omega
  have q2 : (m : Int) - (k : Int) = (at' : Int) := by omega
  have hmb : m ≤ 1048576 := by omega
  clear h1 h2 h3 h4 e1 hsz h hne hm
  go_enter Try.func17, Try.ntmps17
  go_wp2
  go_ret
  exact ⟨cap, rfl, K2.out⟩
end Go.Proofs.Ytboigmhioojenaa
namespace Go.Proofs.Ytboigmhioojenaa
open Go.RowKit Go.Sort Go.Deep
theorem nextcap_leP (n c : Nat) (h : c < n) : Builtin.nextslicecap n c ≤ 2 * n + 768 := by
  unfold Builtin.nextslicecap
  split
  · omega
  · split
    · omega
    · simp only [Builtin.growBy]
      repeat' split
      all_goals omega
/-- 'append(l, x...)', l a row of one's own: where the new row lies. -/
theorem own_blockP {base n m size c : Nat} {T e : TypeId} {i : TypeInfo} {z : Value} {W W' : World} {v v' : Value} {xs news : List Value} {a : Addr} (hT : Try.prog.underlying T = some (.slice e)) (hi : Try.prog.info? e = some i) (hz : i.zero = some z) (hsz : i.size = size) (hby : i.bytes ≤ 1000)
    (hown : W.ownsRow base e size v n xs) (hs : Src Try.prog size T (.slice (some a) m c) m news W) (hn : n + m ≤ 1000000000)
    (hr : (Builtin.append_ #[T, T] T #[v, .slice (some a) m c]).run Try.prog W = .ok v' W') : v'.ownBlock = v.ownBlock ∨ v'.ownBlock = some W.heap.size := by
  subst hsz
  have hgrow : ∀ (q : Option Addr) (cap : Nat) (olds : List Value), v = .slice q n cap → cap < n + m → (Builtin.firstCells i.size n (.slice q n cap)).run Try.prog W.drew = .ok olds.toArray W.drew → v'.ownBlock = v.ownBlock ∨ v'.ownBlock = some W.heap.size := fun q cap olds hv hc hold => by
    have h1 := nextcap_leP (n + m) cap hc
    have h2 : Builtin.nextslicecap (n + m) cap * i.bytes ≤ (2 * (n + m) + 768) * 1000 := Nat.mul_le_mul h1 hby
    have hap := run_append_grow_src (P := Try.prog) W T T T e i z hT hi hz q n cap olds hold (.slice (some a) m c) m news hs hc (by omega) (Nat.le_trans h2 (by clear h1 h2; omega))
    rw [hv, hap] at hr
    injection hr with hr1 hr2
    right
    rw [← hr1]
    rfl
  rcases id hown with ⟨-, ⟨rfl, rfl⟩ | ⟨g, cap, cur, rfl, g1, g2, g3, g4, g5, g6⟩⟩
  · by_cases hm : m = 0
    · subst hm
      have hr' := hr
      obtain ⟨w1, hr2⟩ : ∃ w1, (Builtin.append_ #[T, T] T #[.slice none 0 0, .slice (some a) 0 c]).run Try.prog W = .ok (.slice none 0 0) w1 := by
        rcases hs.kind with ⟨e', hk⟩ | hk <;> exact ⟨_, by simp [Builtin.append_, run_underlying hT, run_underlying hk, sizeOf, typeInfo, hi, hs.len, hs.cells]; rfl⟩
      rw [hr2] at hr
      injection hr with hr1 hr2
      left
      rw [← hr1]
    · exact hgrow none 0 [] rfl (by omega) (run_firstCells_none W.drew i.size 0 0 0)
  · by_cases hroom : n + m ≤ cap
    · have hap := run_append_room_src (P := Try.prog) W T T T e i hT hi g 0 n cap (.slice (some a) m c) m news hs hroom
        (fun j hj => by
          have hj2 : n * i.size + j < cur.size := by
            rw [g5]
            have h1 : j < m * i.size := by rw [← hs.newsLen]; exact hj
            have h2 : (n + m) * i.size ≤ cap * i.size := Nat.mul_le_mul_right _ hroom
            rw [Nat.add_mul] at h2
            omega
          simp [World.cell?, g2, Nat.zero_add, Array.getElem?_eq_getElem hj2])
        (fun j hj => by simp [World.frozen?, g2])
      rw [hap] at hr
      injection hr with hr1 hr2
      left
      rw [← hr1]
      rfl
    · refine hgrow (some ⟨g, 0, none⟩) cap xs rfl (by omega) ?_
      exact run_firstCells_some W.drew i.size n ⟨g, 0, none⟩ n cap xs hown.1 (fun j u hj => by rw [World.cell?_drew]; exact hown.cells (g := g) rfl j u hj)
end Go.Proofs.Ytboigmhioojenaa
namespace Go.Proofs.Ytboigmhioojenaa
open Go.RowKit Go.Sort Go.Deep
theorem step_runP {P : Program} {ops : Array Oper} {o : Oper} {a : Act} {w : World} {K : Act → World → Prop} {Q : Exit → Act → World → Prop} {E : Prop} (hg : o.guard = none) (s x : Operand) (t tn : TypeId)
    (ho : o.op = .call { callee := .builtin .append, args := #[s, x], argTypes := #[t, tn] }) (vs vx : Value) (hs : a.eval s = vs) (hx : a.eval x = vx)
    (v' : Value) (w' : World) (hr : (Builtin.append_ #[t, tn] o.type #[vs, vx]).run P w = .ok v' w') (h : K (a.put o.dst v') w') : if Region.wanted o (yielded ops a.tmps) = true then Oper.wp P o a w K Q else E := by
  have hw : Region.wanted o (yielded ops a.tmps) = true := by simp [Region.wanted, hg]
  rw [if_pos hw]
  exact Lib.wp_append_run w s x t tn ho vs vx hs hx v' w' hr h
theorem undPT : Try.prog.underlying 44 = some (.slice 49) := by kernel_rfl
theorem infoPT : (Try.prog.info? 49).map (fun i => (i.size, i.bytes, i.zero.map fun z => z.cells.size)) = some (2, 16, some 2) := by kernel_rfl
/-- A part: where it lies, how long it is. -/
def pC (x : Addr × Nat) : List Value := [.pointer (some x.1), .int .i64 (x.2 : Int)]
def psC (ps : List (Addr × Nat)) : List Value := ps.flatMap pC
theorem psC_len : ∀ ps : List (Addr × Nat), (psC ps).length = ps.length * 2
  | [] => rfl
  | x :: r => by
    have := psC_len r
    unfold psC at *
    rw [List.flatMap_cons, List.length_append, this, List.length_cons]
    show 2 + _ = _
    omega
theorem psC_app (a b : List (Addr × Nat)) : psC (a ++ b) = psC a ++ psC b := List.flatMap_append
theorem psC_one : ∀ (ps : List (Addr × Nat)), ∀ u ∈ psC ps, u.oneCell' = true := by
  intro ps u hu
  obtain ⟨x, -, hx⟩ := List.mem_flatMap.1 hu
  unfold pC at hx
  simp only [List.mem_cons, List.not_mem_nil, or_false] at hx
  rcases hx with rfl | rfl <;> rfl
theorem psC_at : ∀ (ps : List (Addr × Nat)) (j : Nat) (x : Addr × Nat), ps[j]? = some x → (psC ps)[2 * j]? = some (.pointer (some x.1)) ∧ (psC ps)[2 * j + 1]? = some (.int .i64 (x.2 : Int))
  | [], j, x, h => by simp at h
  | y :: r, 0, x, h => by
    obtain rfl : y = x := by simpa using h
    exact ⟨rfl, rfl⟩
  | y :: r, j + 1, x, h => by
    have := psC_at r j x (by simpa using h)
    have e : psC (y :: r) = pC y ++ psC r := rfl
    rw [e, List.getElem?_append_right (by show 2 ≤ _; omega), List.getElem?_append_right (by show 2 ≤ _; omega)]
    show (psC r)[2 * (j + 1) - 2]? = _ ∧ (psC r)[2 * (j + 1) + 1 - 2]? = _
    rw [show 2 * (j + 1) - 2 = 2 * j by omega, show 2 * (j + 1) + 1 - 2 = 2 * j + 1 by omega]
    exact this
/-- A list of parts, a walk's own. -/
structure PLs (w W : World) (v : Value) (ps : List (Addr × Nat)) : Prop where
  bl : Below w.heap.size w W
  ow : W.ownsRow w.heap.size 49 2 v ps.length (psC ps)
  nn : v.ownBlock ≠ none
theorem PLs.lt {w W : World} {v : Value} {ps : List (Addr × Nat)} (h : PLs w W v ps) : ∃ g cap, v = .slice (some ⟨g, 0, none⟩) ps.length cap ∧ w.heap.size ≤ g ∧ g < W.heap.size := by
  rcases id h.ow with ⟨-, ⟨rfl, h0⟩ | ⟨g, cap, cur, rfl, h1, h2, -⟩⟩
  · exact absurd rfl h.nn
  · refine ⟨g, cap, rfl, h1, ?_⟩
    by_cases hg : g < W.heap.size
    · exact hg
    · rw [Array.getElem?_eq_none (by omega)] at h2; cases h2
theorem PLs.below {w W W' : World} {v : Value} {ps : List (Addr × Nat)} (h : PLs w W v ps) (hb : Below W.heap.size W W') : PLs w W' v ps := by
  refine ⟨h.bl.trans (hb.mono h.bl.size), ?_, h.nn⟩
  rcases h.ow with ⟨h0, h1 | ⟨g, cap, cur, h1, h2, h3, h4⟩⟩
  · exact ⟨h0, Or.inl h1⟩
  · refine ⟨h0, Or.inr ⟨g, cap, cur, h1, h2, ?_, h4⟩⟩
    rw [hb.block g (by
      by_cases hg : g < W.heap.size
      · exact hg
      · rw [Array.getElem?_eq_none (by omega)] at h3; cases h3)]
    exact h3
theorem PLs.app {w W : World} {v : Value} {ps ys : List (Addr × Nat)} {b m c : Nat} (h : PLs w W v ps) (hx : W.rangeAt b 0 (psC ys)) (hm : ys.length = m) (hn : ps.length + m ≤ 1000000) (hm0 : 0 < m) :
    ∃ v' W', (Builtin.append_ #[44, 44] 44 #[v, .slice (some ⟨b, 0, none⟩) m c]).run Try.prog W = .ok v' W' ∧ PLs w W' v' (ps ++ ys) ∧ W.grownBy W' v.ownBlock ∧ (v'.ownBlock = v.ownBlock ∨ v'.ownBlock = some W.heap.size) := by
  obtain ⟨i, hi, he⟩ := Option.map_eq_some_iff.1 infoPT
  simp only [Prod.mk.injEq] at he
  obtain ⟨h1, h2, h3⟩ := he
  obtain ⟨z, hz, hz2⟩ := Option.map_eq_some_iff.1 h3
  obtain ⟨g, cap, rfl, hg1, hg2⟩ := h.lt
  have hc : ∀ (j : Nat) u, (psC ys)[j]? = some u → W.cell? ((⟨b, 0, none⟩ : Addr).add j) = some u := fun j u hj => by rw [addP0]; exact hx j u hj
  obtain ⟨v', W', r1, r2, r3, r4⟩ := run_append_own (P := Try.prog) W w.heap.size 44 44 49 i z 2 16 undPT hi hz h1 h2 hz2 (by decide) _ ps.length (psC ps) h.ow ⟨b, 0, none⟩ m c (psC ys) (by rw [psC_len, hm]) hc (psC_one ys) (by unfold maxLen; omega) (by omega) h.bl.size
  have hb := own_blockP (c := c) undPT hi hz h1 (by omega) h.ow (Src.ofSlice (P := Try.prog) (size := 2) W undPT ⟨b, 0, none⟩ m c (psC ys) (by rw [psC_len, hm]) hc (psC_one ys)) (by omega) r1
  refine ⟨v', W', r1, ⟨⟨by rw [r3.os, h.bl.os], by rw [r3.tape, h.bl.tape], by rw [r3.output, h.bl.output], Nat.le_trans h.bl.size r3.size, fun k hk => ?_⟩, ?_, ?_⟩, r3, hb⟩
  · rw [r3.block k (Nat.lt_of_lt_of_le hk h.bl.size) (by simp [Value.ownBlock]; omega)]
    exact h.bl.block k hk
  · rw [List.length_append, hm, psC_app]; exact r2
  · rcases r2.2 with ⟨h5, -⟩ | ⟨g', cap', cur, rfl, -⟩
    · have := (r4.1 h5).1
      exact absurd this (by simp)
    · simp [Value.ownBlock]
theorem PLs.at {w W : World} {g n c : Nat} {ps : List (Addr × Nat)} (h : PLs w W (.slice (some ⟨g, 0, none⟩) n c) ps) (j : Nat) (x : Addr × Nat) (hj : ps[j]? = some x) : W.rangeAt g (2 * j) (pC x) := fun k u hk => by
  have h0 := psC_at ps j x hj
  have := h.ow.cells (g := g) rfl (2 * j + k) u (by
    match k, hk with
    | 0, h => rw [← h]; exact h0.1
    | 1, h => rw [← h]; exact h0.2)
  rw [addP0, Nat.zero_add] at this
  exact this
/-- A new list of parts. -/
theorem pls_new (w : World) (ps : List (Addr × Nat)) (hn : ps.length ≤ 1000000) : PLs w (w.alloc (.cells (psC ps).toArray 49)) (.slice (some ⟨w.heap.size, 0, none⟩) ps.length ps.length) ps :=
  ⟨alloc_below w _, ⟨psC_len ps, .inr ⟨w.heap.size, ps.length, (psC ps).toArray, rfl, Nat.le_refl _, Array.getElem?_push_size, Nat.le_refl _, by unfold maxLen; omega, by rw [List.size_toArray, psC_len], by rw [← psC_len ps]; simp⟩⟩, by simp [Value.ownBlock]⟩
end Go.Proofs.Ytboigmhioojenaa
namespace Go.Proofs.Ytboigmhioojenaa
open Go.RowKit Go.Sort Go.Deep
def lp (b o n : Nat) : List (Addr × Nat) := (List.range n).map fun j => ((⟨b, o + j, none⟩ : Addr), 33)
def basP (gp : Nat) : List (Addr × Nat) := [(⟨gp, 0, none⟩, 33), (⟨gp, 1, none⟩, 33), (⟨gp, 2, none⟩, 33), (⟨gp, 3, none⟩, 33), (⟨gp, 4, none⟩, 32), (⟨gp, 5, none⟩, 32), (⟨gp, 6, none⟩, 32)]
def endP (gp : Nat) : List (Addr × Nat) := [(⟨gp, 9, none⟩, 32), (⟨gp, 10, none⟩, 32)]
theorem lp_succ (b o n : Nat) : lp b o (n + 1) = lp b o n ++ [(⟨b, o + n, none⟩, 33)] := by
  unfold lp
  rw [List.range_succ, List.map_append]
  rfl
theorem lp_len (b o n : Nat) : (lp b o n).length = n := by unfold lp; simp
def curP (gp bl ol nl br or nr : Nat) : Nat → List (Addr × Nat)
  | 0 => basP gp
  | 1 => basP gp ++ lp bl ol nl
  | _ => basP gp ++ lp bl ol nl ++ lp br or nr
/-- What the loops of partsOf keep. -/
structure PI (w w1 w2 W : World) (v : Value) (ps : List (Addr × Nat)) : Prop where
  pl : PLs w W v ps
  ne : v.ownBlock ≠ some w1.heap.size
  eq : W.heap[w1.heap.size]? = w2.heap[w1.heap.size]?
  sz : w2.heap.size ≤ W.heap.size
theorem PI.app {w w1 w2 W : World} {v : Value} {ps : List (Addr × Nat)} {x : Addr × Nat} (h : PI w w1 w2 W v ps) (hlt : w1.heap.size < w2.heap.size) (hn : ps.length ≤ 10000) :
    ∃ v' W', (Builtin.append_ #[44, 44] 44 #[v, .slice (some ⟨W.heap.size, 0, none⟩) 1 1]).run Try.prog (W.alloc (.cells (pC x).toArray 49)) = .ok v' W' ∧ PI w w1 w2 W' v' (ps ++ [x]) := by
  have hb := alloc_below W (.cells (pC x).toArray 49)
  have hr : (W.alloc (.cells (pC x).toArray 49)).rangeAt W.heap.size 0 (psC [x]) := by
    have e : psC [x] = pC x := List.append_nil _
    rw [e]
    exact alloc_range W (pC x) _
  obtain ⟨v', W', r1, r2, r3, r4⟩ := (h.pl.below hb).app (m := 1) (c := 1) hr rfl (by omega) (by decide)
  have hs := h.sz
  have hz : (W.alloc (.cells (pC x).toArray 49)).heap.size = W.heap.size + 1 := World.size_alloc _ _
  refine ⟨v', W', r1, r2, ?_, ?_, ?_⟩
  · rcases r4 with e | e
    · rw [e]; exact h.ne
    · rw [e, hz]
      intro h
      have := Option.some.inj h
      omega
  · rw [r3.block w1.heap.size (by omega) (fun h' => h.ne h'.symm), hb.block w1.heap.size (by omega)]
    exact h.eq
  · have := r3.size
    omega
theorem idxO (b o n c i : Nat) (hi : i < n) (w : World) : (Instr.indexAt 23 (.slice (some ⟨b, o, none⟩) n c) (.int .i64 (i : Int))).run Try.prog w = .ok (.pointer (some ⟨b, o + i, none⟩)) w := by
  have h1 : ¬ (i : Int) < 0 := by omega
  have h2 : (i : Int) < (n : Int) := by omega
  have h3 := addP0 b o i
  go_simp
set_option maxHeartbeats 1000000 in
set_option maxRecDepth 20000 in
theorem partsOf_c (gp : Nat) (l r : Sv) (bl ol br or : Nat) (w : World) (hgp : gp < w.heap.size) (h7 : w.cell? ⟨gp, 7, none⟩ = some l.v) (h8 : w.cell? ⟨gp, 8, none⟩ = some r.v)
    (hl : l.n = 0 ∨ l.q = some ⟨bl, ol, none⟩) (hr : r.n = 0 ∨ r.q = some ⟨br, or, none⟩) (n1 : l.n ≤ 1000) (n2 : r.n ≤ 1000) :
    Calls Try.prog 14 #[.pointer (some ⟨gp, 0, none⟩)] w fun e w' => ∃ v, e = .returned v ∧ PLs w w' v (basP gp ++ lp bl ol l.n ++ lp br or r.n ++ endP gp) := by
  obtain ⟨ql, nl, cl⟩ := l
  obtain ⟨qr, nr, cr⟩ := r
  dsimp only [Sv.v] at *
  obtain ⟨w1, hw1⟩ : ∃ w1, Hid ((w.alloc (.cells #[.pointer (some ⟨gp, 0, none⟩), .int .i64 33, .pointer (some ⟨gp, 1, none⟩), .int .i64 33, .pointer (some ⟨gp, 2, none⟩), .int .i64 33, .pointer (some ⟨gp, 3, none⟩), .int .i64 33, .pointer (some ⟨gp, 4, none⟩), .int .i64 32, .pointer (some ⟨gp, 5, none⟩), .int .i64 32, .pointer (some ⟨gp, 6, none⟩), .int .i64 32] 49)).drew = w1) := ⟨_, rfl⟩
  obtain ⟨w2, hw2⟩ : ∃ w2, Hid ((w1.alloc (.cells #[.slice ql nl cl, .slice qr nr cr] 23)).drew = w2) := ⟨_, rfl⟩
  have drw : ∀ W : World, Below W.heap.size W W.drew := fun W => ⟨rfl, rfl, rfl, Nat.le_refl _, fun _ _ => rfl⟩
  have p1 : PLs w w1 (.slice (some ⟨w.heap.size, 0, none⟩) 7 7) (basP gp) := by
    rw [← hw1.out]
    exact (pls_new w (basP gp) (by show 7 ≤ _; omega)).below (drw _)
  have b2 : Below w1.heap.size w1 w2 := by
    rw [← hw2.out]
    exact (alloc_below w1 _).trans ((drw _).mono (by rw [World.size_alloc]; omega))
  have p2 := p1.below b2
  have c7 : w1.cell? ⟨gp, 7, none⟩ = some (.slice ql nl cl) := by rw [p1.bl.cell (p := ⟨gp, 7, none⟩) hgp]; exact h7
  have c8 : w1.cell? ⟨gp, 8, none⟩ = some (.slice qr nr cr) := by rw [p1.bl.cell (p := ⟨gp, 8, none⟩) hgp]; exact h8
  have d0 : w2.cell? ⟨w1.heap.size, 0, none⟩ = some (.slice ql nl cl) := by rw [← hw2.out, World.cell?_drew]; exact alloc_cell w1 _ _ 0 _ rfl
  have d1 : w2.cell? ⟨w1.heap.size, 1, none⟩ = some (.slice qr nr cr) := by rw [← hw2.out, World.cell?_drew]; exact alloc_cell w1 _ _ 1 _ rfl
  have s2 : w1.heap.size < w2.heap.size := by rw [← hw2.out, World.size_drew, World.size_alloc]; omega
  have HP0 : Hid (PI w w1 w2 w2 (.slice (some ⟨w.heap.size, 0, none⟩) 7 7) (curP gp bl ol nl br or nr 0)) := ⟨p2, by
    have : w1.heap.size = w.heap.size + 1 := by rw [← hw1.out, World.size_drew, World.size_alloc]
    simp [Value.ownBlock]; omega, rfl, Nat.le_refl _⟩
  have HN : Hid (∀ (i : Nat) (W : World), i < 2 → W.heap[w1.heap.size]? = w2.heap[w1.heap.size]? → ∃ q n c b o, W.cell? ⟨w1.heap.size, i, none⟩ = some (.slice q n c) ∧ (n = 0 ∨ q = some ⟨b, o, none⟩) ∧ n ≤ 1000 ∧ curP gp bl ol nl br or nr (i + 1) = curP gp bl ol nl br or nr i ++ lp b o n ∧ (curP gp bl ol nl br or nr i).length ≤ 1007) := fun i W hi hW => by
    have hc : ∀ k, W.cell? ⟨w1.heap.size, k, none⟩ = w2.cell? ⟨w1.heap.size, k, none⟩ := fun k => by
      unfold World.cell?
      rw [hW]
    match i, hi with
    | 0, _ => exact ⟨ql, nl, cl, bl, ol, by rw [hc]; exact d0, hl, n1, rfl, by show 7 ≤ _; omega⟩
    | 1, _ => exact ⟨qr, nr, cr, br, or, by rw [hc]; exact d1, hr, n2, rfl, by show (basP gp ++ lp bl ol nl).length ≤ _; rw [List.length_append, lp_len]; show 7 + nl ≤ _; omega⟩
  have HS2 := Hid.mkP s2
  clear p1 p2 b2 h7 h8 d0 d1 s2 drw hl hr
  go_enter Try.func14, Try.ntmps14
  go_wp2
  go_region
  rw [hw1.out]
  go_wp2
  go_region
  rw [hw2.out]
  go_wp2
  go_loopg [4, 50] 2 (fun gk s4 s50 wr => ∃ i : Nat, i + gk = 2 ∧ s50 = .int .i64 (i : Int) ∧ Hid (PI w w1 w2 wr s4 (curP gp bl ol nl br or nr i)))
  case atStart => exact ⟨0, rfl, rfl, HP0⟩
  case round =>
    obtain ⟨i, hi, rfl, K⟩ := hrel
    by_cases h2 : i < 2
    · obtain ⟨q, n, c, b, o, e1, e2, e3, e4, e5⟩ := HN.out i wr h2 K.out.eq
      have hi2 : (i : Int) < 2 := by omega
      have hix2 : ∀ W : World, (Instr.indexAt 56 (.slice (some ⟨w1.heap.size, 0, none⟩) 2 2) (.int .i64 (i : Int))).run Try.prog W = .ok (.pointer (some ⟨w1.heap.size, i, none⟩)) W := fun W => by
        have h1 : ¬ (i : Int) < 0 := by omega
        have h3 := addP0 w1.heap.size 0 i
        rw [Nat.zero_add] at h3
        go_simp
      have E2 := Hid.mkP e2
      have E4 := Hid.mkP e4
      have E5 := Hid.mkP e5
      clear e2 e4 e5
      obtain ⟨g, cap, rfl, -, -⟩ := K.out.pl.lt
      have Hgk : Hid (i + gk = 2) := hi
      clear hi
      go_wp2
      go_loopg [4, 56] n (fun m s4 s56 wi => ∃ j : Nat, j + m = n ∧ s56 = .int .i64 (j : Int) ∧ Hid (PI w w1 w2 wi s4 (curP gp bl ol nl br or nr i ++ lp b o j)))
      case atStart => exact ⟨0, by omega, rfl, by
        have e : lp b o 0 = [] := rfl
        rw [e, List.append_nil]
        exact K⟩
      case round =>
        clear K
        obtain ⟨j, hj, rfl, K⟩ := hrel
        obtain ⟨g, cap, rfl, -, -⟩ := K.out.pl.lt
        have hl : (curP gp bl ol nl br or nr i ++ lp b o j).length ≤ 10000 := by
          have := E5.out
          rw [List.length_append, lp_len]
          omega
        by_cases hjn : j < n
        · have hjn' : (j : Int) < (n : Int) := by omega
          obtain rfl : q = some ⟨b, o, none⟩ := by
            rcases E2.out with h | h
            · omega
            · exact h
          have hix := idxO b o n c j hjn
          obtain ⟨wj, hwj⟩ : ∃ wj, Hid (wr.alloc (.cells (pC (⟨b, o + j, none⟩, 33)).toArray 49) = wj) := ⟨_, rfl⟩
          obtain ⟨v', W', r1, r2⟩ := K.out.app (x := (⟨b, o + j, none⟩, 33)) HS2.out hl
          rw [hwj.out] at r1
          obtain ⟨g', cap', rfl, -, -⟩ := r2.pl.lt
          generalize (curP gp bl ol nl br or nr i ++ lp b o j ++ [((⟨b, o + j, none⟩ : Addr), 33)]).length = N2 at r1 r2
          rw [List.append_assoc, ← lp_succ] at r2
          have R2 := Hid.mkP r2
          have R1 := Hid.mkP r1
          generalize (curP gp bl ol nl br or nr i ++ lp b o j).length = N1 at R1 ⊢
          clear K r1 r2 hl
          go_wp2_with (first | (refine wpList_opP (v := .slice (some ⟨wr.heap.size, 0, none⟩) 1 1) (w' := wj) rfl (.buildSlice 44 1 #[(0, .tmp 63)]) rfl ?_ ?_; (rw [← hwj.out]; kernel_rfl)) | (at_builtin; refine Lib.wpList_append_run wj rfl _ _ _ _ rfl _ _ rfl rfl _ _ R1.out ?_) | fail)
          go_roundg (gk - 1)
          case measure => omega
          case rel => exact ⟨j + 1, by omega, rfl, R2⟩
        · have hjn' : ¬ (j : Int) < (n : Int) := by omega
          obtain rfl : j = n := by omega
          rw [← E4.out] at K ⊢
          go_wp2
          go_roundg (1 - i)
          case measure =>
            have := Hgk.out
            omega
          case rel => exact ⟨i + 1, by omega, rfl, K⟩
    · have hi2 : ¬ (i : Int) < 2 := by omega
      obtain rfl : i = 2 := by omega
      obtain ⟨g, cap, rfl, -, -⟩ := K.out.pl.lt
      have hlen : (curP gp bl ol nl br or nr 2).length ≤ 2007 := by
        show (basP gp ++ lp bl ol nl ++ lp br or nr).length ≤ _
        rw [List.length_append, List.length_append, lp_len, lp_len]
        show 7 + _ + _ ≤ _
        omega
      have hb := (alloc_below wr (.cells (psC (endP gp)).toArray 49)).trans (⟨rfl, rfl, rfl, Nat.le_refl _, fun _ _ => rfl⟩ : Below wr.heap.size (wr.alloc (.cells (psC (endP gp)).toArray 49)) (wr.alloc (.cells (psC (endP gp)).toArray 49)).drew)
      have hr : (wr.alloc (.cells (psC (endP gp)).toArray 49)).drew.rangeAt wr.heap.size 0 (psC (endP gp)) := by
        rw [World.rangeAt_drew]
        exact alloc_range wr _ _
      obtain ⟨v', W', r1, r2, -, -⟩ := (K.out.pl.below hb).app (m := 2) (c := 2) hr rfl (by omega) (by decide)
      have hap : Hid ((Builtin.append_ #[44, 44] 44 #[.slice (some ⟨g, 0, none⟩) (curP gp bl ol nl br or nr 2).length cap, .slice (some ⟨wr.heap.size, 0, none⟩) 2 2]).run Try.prog (wr.alloc (.cells #[.pointer (some ⟨gp, 9, none⟩), .int .i64 32, .pointer (some ⟨gp, 10, none⟩), .int .i64 32] 49)).drew = .ok v' W') := r1
      have R2 := Hid.mkP r2
      obtain ⟨g', cap', rfl, -, -⟩ := r2.lt
      have e2 : curP gp bl ol nl br or nr 2 ++ endP gp = basP gp ++ lp bl ol nl ++ lp br or nr ++ endP gp := rfl
      rw [e2] at R2 hap
      generalize (basP gp ++ lp bl ol nl ++ lp br or nr ++ endP gp).length = N2 at R2 hap
      generalize (curP gp bl ol nl br or nr 2).length = N1 at hap ⊢
      clear K hlen r1 r2 hb hr e2
      go_wp2
      go_region_law (refine step_runP rfl (.tmp 68) (.tmp 77) 44 44 rfl (.slice (some ⟨g, 0, none⟩) N1 cap) (.slice (some ⟨wr.heap.size, 0, none⟩) 2 2) (by simp [Act.eval, Act.put]) (by simp [Act.eval, Act.put]) _ _ hap.out ?_)
      go_wp2
      go_ret
      exact ⟨_, rfl, R2.out⟩
end Go.Proofs.Ytboigmhioojenaa
namespace Go.Proofs.Ytboigmhioojenaa
open Go.RowKit Go.Sort Go.Deep
theorem infoU8 : (Try.prog.info? 5).map (fun i => (i.size, i.bytes, i.zero.map fun z => z.cells.size)) = some (1, 1, some 1) := by kernel_rfl
/-- The bytes' cells. -/
def bC (b : SP.Bs) : List Value := b.toList.map SP.encB
theorem bC_len (b : SP.Bs) : (bC b).length = b.size := by unfold bC; simp
theorem bC_one (b : SP.Bs) : ∀ u ∈ bC b, u.oneCell' = true := by
  intro u hu
  obtain ⟨x, -, rfl⟩ := List.mem_map.1 hu
  rfl
theorem bC_app (a b : SP.Bs) : bC (a ++ b) = bC a ++ bC b := by unfold bC; simp
theorem Pt.vl {W : World} {q : Option Addr} {n c : Nat} {b : SP.Bs} (h : Pt W (.slice q n c) b) : n = b.size ∧ VL W q n (bC b) := by
  obtain ⟨q', c', h1, h2⟩ := h
  injection h1 with e1 e2 e3
  subst e1 e2
  refine ⟨rfl, ⟨bC_len b, ?_, ?_, bC_one b⟩⟩
  · intro hq
    rcases h2 with h2 | ⟨g, o, h3, -⟩
    · exact h2
    · rw [hq] at h3; cases h3
  · rcases h2 with h2 | ⟨g, o, h3, h4, h5⟩
    · left
      have : (bC b).length = 0 := by rw [bC_len]; exact h2
      exact List.length_eq_zero_iff.1 this
    · right
      refine ⟨g, o, h3, h4, fun j u hj => ?_⟩
      unfold bC at hj
      rw [List.getElem?_map] at hj
      obtain ⟨x, hx, rfl⟩ := Option.map_eq_some_iff.1 hj
      have hjl : j < b.size := by
        have := (List.getElem?_eq_some_iff.1 hx).1
        simpa using this
      rw [(h5 j hjl).1]
      rw [getElem!_pos b j hjl]
      have := (List.getElem?_eq_some_iff.1 hx).2
      rw [Array.getElem_toList] at this
      rw [this]
/-- What Put's loop keeps: bytes of its own, two blocks that stay. -/
structure PuI (w w4 W : World) (gp gq : Nat) (v : Value) (b : SP.Bs) : Prop where
  bl : Below w.heap.size w W
  ow : W.ownsRow w.heap.size 5 1 v b.size (bC b)
  nn : v.ownBlock ≠ none
  n1 : v.ownBlock ≠ some gp
  n2 : v.ownBlock ≠ some gq
  e1 : W.heap[gp]? = w4.heap[gp]?
  e2 : W.heap[gq]? = w4.heap[gq]?
  sz : w4.heap.size ≤ W.heap.size
  l1 : gp < w4.heap.size
  l2 : gq < w4.heap.size
theorem PuI.lt {w w4 W : World} {gp gq : Nat} {v : Value} {b : SP.Bs} (h : PuI w w4 W gp gq v b) : ∃ g cap, v = .slice (some ⟨g, 0, none⟩) b.size cap ∧ w.heap.size ≤ g ∧ g < W.heap.size := by
  rcases id h.ow with ⟨-, ⟨rfl, h0⟩ | ⟨g, cap, cur, rfl, h1, h2, -⟩⟩
  · exact absurd rfl h.nn
  · refine ⟨g, cap, rfl, h1, ?_⟩
    by_cases hg : g < W.heap.size
    · exact hg
    · rw [Array.getElem?_eq_none (by omega)] at h2; cases h2
theorem PuI.below {w w4 W W' : World} {gp gq : Nat} {v : Value} {b : SP.Bs} (h : PuI w w4 W gp gq v b) (hb : Below W.heap.size W W') : PuI w w4 W' gp gq v b := by
  have hs := h.sz
  refine ⟨h.bl.trans (hb.mono h.bl.size), ?_, h.nn, h.n1, h.n2, by rw [hb.block gp (by have := h.l1; omega)]; exact h.e1, by rw [hb.block gq (by have := h.l2; omega)]; exact h.e2, Nat.le_trans hs hb.size, h.l1, h.l2⟩
  rcases h.ow with ⟨h0, h1 | ⟨g, cap, cur, h1, h2, h3, h4⟩⟩
  · exact ⟨h0, Or.inl h1⟩
  · refine ⟨h0, Or.inr ⟨g, cap, cur, h1, h2, ?_, h4⟩⟩
    rw [hb.block g (by
      by_cases hg : g < W.heap.size
      · exact hg
      · rw [Array.getElem?_eq_none (by omega)] at h3; cases h3)]
    exact h3
theorem undB5 : Try.prog.underlying 22 = some (.slice 5) := by kernel_rfl
theorem PuI.app {w w4 W : World} {gp gq : Nat} {v : Value} {b x : SP.Bs} {q : Option Addr} {c : Nat} (h : PuI w w4 W gp gq v b) (hx : VL W q x.size (bC x)) (hn : b.size + x.size ≤ 1000000) :
    ∃ v' W', (Builtin.append_ #[22, 22] 22 #[v, .slice q x.size c]).run Try.prog W = .ok v' W' ∧ PuI w w4 W' gp gq v' (b ++ x) := by
  obtain ⟨i, hi, he⟩ := Option.map_eq_some_iff.1 infoU8
  simp only [Prod.mk.injEq] at he
  obtain ⟨h1, h2, h3⟩ := he
  obtain ⟨z, hz, hz2⟩ := Option.map_eq_some_iff.1 h3
  obtain ⟨g, cap, rfl, hg1, hg2⟩ := h.lt
  have hs := h.sz
  cases q with
  | none =>
    have hm := hx.nil rfl
    obtain rfl : x = #[] := Array.eq_empty_of_size_eq_zero hm
    rcases id h.ow with ⟨-, ⟨h0, -⟩ | ⟨g', cap', cur, h0, g1, g2, g3, g4⟩⟩
    · cases h0
    · injection h0 with h0 _ h0'
      injection h0 with h0
      injection h0 with h0
      subst h0 h0'
      have hap := run_append_room_src (P := Try.prog) W 22 22 22 5 i undB5 hi g 0 b.size cap (.slice none 0 c) 0 [] (Src.ofNil (e' := 5) _ undB5 c) g3 (fun j hj => by cases hj) (fun j hj => by cases hj)
      refine ⟨_, _, hap, ?_⟩
      rw [Array.append_empty]
      exact h
  | some a =>
    have hc : ∀ (j : Nat) u, (bC x)[j]? = some u → W.cell? (a.add j) = some u := fun j u hj => by
      rcases hx.cells with h0 | ⟨b, o, hq, -, hc⟩
      · rw [h0] at hj; cases hj
      · obtain rfl := Option.some.inj hq
        rw [addP0]; exact hc j u hj
    obtain ⟨v', W', r1, r2, r3, r4⟩ := run_append_own (P := Try.prog) W w.heap.size 22 22 5 i z 1 1 undB5 hi hz h1 h2 hz2 (by decide) _ b.size (bC b) h.ow a x.size c (bC x) (by rw [bC_len]; omega) hc (bC_one x) (by unfold maxLen; omega) (by omega) h.bl.size
    have hb := own_blockP (c := c) undB5 hi hz h1 (by omega) h.ow (Src.ofSlice (P := Try.prog) (size := 1) W undB5 a x.size c (bC x) (by rw [bC_len]; omega) hc (bC_one x)) (by omega) r1
    have k1 : ∀ k, k < w4.heap.size → v'.ownBlock ≠ some k ∨ (Value.slice (some ⟨g, 0, none⟩) b.size cap).ownBlock = some k := fun k hk => by
      rcases hb with e | e
      · by_cases hh : (Value.slice (some ⟨g, 0, none⟩) b.size cap).ownBlock = some k
        · exact Or.inr hh
        · left; rw [e]; exact hh
      · left; rw [e]; intro hh; have := Option.some.inj hh; omega
    refine ⟨v', W', r1, ⟨⟨by rw [r3.os, h.bl.os], by rw [r3.tape, h.bl.tape], by rw [r3.output, h.bl.output], Nat.le_trans h.bl.size r3.size, fun k hk => ?_⟩, ?_, ?_, ?_, ?_, ?_, ?_, ?_, h.l1, h.l2⟩⟩
    · rw [r3.block k (Nat.lt_of_lt_of_le hk h.bl.size) (by simp [Value.ownBlock]; omega)]
      exact h.bl.block k hk
    · rw [Array.size_append, bC_app]; exact r2
    · rcases hb with e | e <;> rw [e]
      · simp [Value.ownBlock]
      · simp
    · rcases k1 gp h.l1 with e | e
      · exact e
      · exact absurd e h.n1
    · rcases k1 gq h.l2 with e | e
      · exact e
      · exact absurd e h.n2
    · rw [r3.block gp (by have := h.l1; omega) (fun e => h.n1 e.symm)]; exact h.e1
    · rw [r3.block gq (by have := h.l2; omega) (fun e => h.n2 e.symm)]; exact h.e2
    · exact Nat.le_trans hs r3.size
end Go.Proofs.Ytboigmhioojenaa
namespace Go.Proofs.Ytboigmhioojenaa
open Go.RowKit Go.Sort Go.Deep
/-- Parts in memory and their values. -/
def Cor (W : World) (ps : List (Addr × Nat)) (us : List Value) : Prop := ps.length = us.length ∧ ∀ (j : Nat) x u, ps[j]? = some x → us[j]? = some u → (∃ b o, x.1 = ⟨b, o, none⟩) ∧ W.cell? x.1 = some u
theorem Cor.app {W : World} {p1 p2 : List (Addr × Nat)} {u1 u2 : List Value} (h1 : Cor W p1 u1) (h2 : Cor W p2 u2) : Cor W (p1 ++ p2) (u1 ++ u2) := by
  refine ⟨by rw [List.length_append, List.length_append, h1.1, h2.1], fun j x u hx hu => ?_⟩
  by_cases hj : j < p1.length
  · rw [List.getElem?_append_left hj] at hx
    rw [List.getElem?_append_left (by rw [← h1.1]; exact hj)] at hu
    exact h1.2 j x u hx hu
  · rw [List.getElem?_append_right (by omega)] at hx
    rw [List.getElem?_append_right (by rw [← h1.1]; omega), ← h1.1] at hu
    exact h2.2 _ x u hx hu
theorem Cor.lp {W : World} {s : Sv} {b o : Nat} {ys : List Value} (h : VL W s.q s.n ys) (hq : s.n = 0 ∨ s.q = some ⟨b, o, none⟩) : Cor W (lp b o s.n) ys := by
  refine ⟨by rw [lp_len, h.len], fun j x u hx hu => ?_⟩
  unfold Go.Proofs.Ytboigmhioojenaa.lp at hx
  rw [List.getElem?_map] at hx
  obtain ⟨k, hk, rfl⟩ := Option.map_eq_some_iff.1 hx
  have hj : j < s.n := by
    have := (List.getElem?_eq_some_iff.1 hk).1
    simpa using this
  have hkj : j = k := by
    have := (List.getElem?_eq_some_iff.1 hk).2
    simpa using this
  subst hkj
  refine ⟨⟨_, _, rfl⟩, ?_⟩
  rcases h.cells with h0 | ⟨b', o', h1, -, h3⟩
  · rw [h0] at hu; cases hu
  · rcases hq with hq | hq
    · omega
    · rw [hq] at h1
      have h1 := Option.some.inj h1
      injection h1 with e1 e2 _
      subst e1 e2
      exact h3 j u hu
def ordV (p : Rg) (ys1 ys2 : List Value) : List Value := [p.a.v, p.b.v, p.c.v, p.d.v, p.e.v, p.f.v, p.g.v] ++ ys1 ++ ys2 ++ [p.x.v, p.y.v]
def ordP (gp bl ol n br or m : Nat) : List (Addr × Nat) := basP gp ++ lp bl ol n ++ lp br or m ++ endP gp
theorem cor_all {W : World} {gp bl ol br or : Nat} {p : Rg} {ys1 ys2 : List Value} (hc : W.rangeAt gp 0 p.cs) (hL : VL W p.l.q p.l.n ys1) (hR : VL W p.r.q p.r.n ys2) (hl : p.l.n = 0 ∨ p.l.q = some ⟨bl, ol, none⟩) (hr : p.r.n = 0 ∨ p.r.q = some ⟨br, or, none⟩) :
    Cor W (ordP gp bl ol p.l.n br or p.r.n) (ordV p ys1 ys2) := by
  refine Cor.app (Cor.app (Cor.app ?_ (Cor.lp hL hl)) (Cor.lp hR hr)) ?_
  · refine ⟨rfl, fun j x u hx hu => ?_⟩
    have h0 := hc j u
    rw [Nat.zero_add] at h0
    match j, hx, hu with
    | 0, hx, hu | 1, hx, hu | 2, hx, hu | 3, hx, hu | 4, hx, hu | 5, hx, hu | 6, hx, hu =>
      obtain rfl := Option.some.inj hx
      exact ⟨⟨_, _, rfl⟩, h0 hu⟩
    | k + 7, hx, hu => cases hx
  · refine ⟨rfl, fun j x u hx hu => ?_⟩
    match j, hx, hu with
    | 0, hx, hu =>
      obtain rfl := Option.some.inj hx
      exact ⟨⟨_, _, rfl⟩, by have h0 := hc 9 u hu; rw [Nat.zero_add] at h0; exact h0⟩
    | 1, hx, hu =>
      obtain rfl := Option.some.inj hx
      exact ⟨⟨_, _, rfl⟩, by have h0 := hc 10 u hu; rw [Nat.zero_add] at h0; exact h0⟩
    | k + 2, hx, hu => cases hx
/-- How long the parts have to be. -/
def ordS (n m : Nat) : List Nat := [33, 33, 33, 33, 32, 32, 32] ++ List.replicate n 33 ++ List.replicate m 33 ++ [32, 32]
theorem ordP_S (gp bl ol n br or m : Nat) : (ordP gp bl ol n br or m).map (·.2) = ordS n m := by
  have h : ∀ b o n, (lp b o n).map (·.2) = List.replicate n 33 := fun b o n => by
    unfold lp
    rw [List.map_map]
    exact List.ext_getElem (by simp) (fun i h1 h2 => by simp)
  unfold ordP ordS
  rw [List.map_append, List.map_append, List.map_append, h, h]
  rfl
theorem ordS_le (n m : Nat) : ∀ k ∈ ordS n m, k ≤ 33 := by
  intro k hk
  unfold ordS at hk
  simp only [List.mem_append, List.mem_cons, List.not_mem_nil, or_false, List.mem_replicate] at hk
  omega
theorem ordS_len (n m : Nat) : (ordS n m).length = n + m + 9 := by
  unfold ordS
  simp only [List.length_append, List.length_replicate, List.length_cons, List.length_nil]
  omega
/-- Values and their bytes. -/
def PtL (W : World) (us : List Value) (BB : List SP.Bs) : Prop := BB.length = us.length ∧ ∀ (j : Nat) u b, us[j]? = some u → BB[j]? = some b → Pt W u b
theorem PtL.below {W W' : World} {us : List Value} {BB : List SP.Bs} (h : PtL W us BB) (hb : Below W.heap.size W W') : PtL W' us BB := ⟨h.1, fun j u b h1 h2 => (h.2 j u b h1 h2).below hb⟩
def catI (n : Nat) (BB : List SP.Bs) (i : Nat) : SP.Bs := (BB.take i).foldl (· ++ ·) #[n.toUInt8]
theorem catI_succ (n : Nat) (BB : List SP.Bs) (i : Nat) (b : SP.Bs) (h : BB[i]? = some b) : catI n BB (i + 1) = catI n BB i ++ b := by
  unfold catI
  rw [List.take_add_one, h]
  simp
def GoodP (n m : Nat) (BB : List SP.Bs) : Prop := n = m ∧ n ≤ 6 ∧ BB.map Array.size = ordS n m
/-- What Put answers. -/
def PutR (w : World) (n m : Nat) (BB : List SP.Bs) (e : Ending) (W : World) : Prop := Below w.heap.size w W ∧ ((GoodP n m BB ∧ ∃ v, e = .returned (.tuple #[v, .int .i64 0]) ∧ Pt W v (catI n BB (n + m + 9))) ∨ (¬ GoodP n m BB ∧ e = .returned (.tuple #[.slice none 0 0, .int .i64 2])))
theorem PuI.pt {w w4 W : World} {gp gq : Nat} {v : Value} {b : SP.Bs} (h : PuI w w4 W gp gq v b) : Pt W v b := by
  have hlt := h.lt
  rcases id h.ow with ⟨h0, ⟨rfl, -⟩ | ⟨g, cap, cur, rfl, h1, h2, h3, h4, h5, h6⟩⟩
  · exact absurd rfl h.nn
  · obtain ⟨g', cap', e, -, hg⟩ := hlt
    injection e with e _ _
    injection e with e
    injection e with e _ _
    subst e
    refine ⟨_, _, rfl, Or.inr ⟨g, 0, rfl, hg, fun j hj => ?_⟩⟩
    have h7 := h.ow.cells (g := g) rfl j (SP.encB b[j]!) (by
      unfold bC
      rw [List.getElem?_map, List.getElem?_eq_getElem (by simpa using hj), Option.map_some, getElem!_pos b j hj]
      simp)
    rw [addP0, Nat.zero_add] at h7
    refine ⟨by rw [Nat.zero_add]; exact h7, ?_⟩
    simp [World.frozen?, h2]
end Go.Proofs.Ytboigmhioojenaa
namespace Go.Proofs.Ytboigmhioojenaa
open Go.RowKit Go.Sort Go.Deep
theorem uPt : (Try.prog.underlying 49).map (·.isRow) = some true := by kernel_rfl
theorem iPt : (Try.prog.info? 49).map (·.size) = some 2 := by kernel_rfl
theorem idxPT (g n c i : Nat) (hi : i < n) (w : World) : (Instr.indexAt 44 (.slice (some ⟨g, 0, none⟩) n c) (.int .i64 (i : Int))).run Try.prog w = .ok (.pointer (some ⟨g, i * 2, none⟩)) w := by
  have h1 : ¬ (i : Int) < 0 := by omega
  have h2 : (i : Int) < (n : Int) := by omega
  have h3 := addP0 g 0 (i * 2)
  rw [Nat.zero_add] at h3
  go_simp
set_option maxHeartbeats 1000000 in
set_option maxRecDepth 20000 in
theorem sPut_c (p : Rg) {bl ol br or : Nat} {ys1 ys2 : List Value} {BB : List SP.Bs} (w : World) (hL : VL w p.l.q p.l.n ys1) (hR : VL w p.r.q p.r.n ys2) (hl : p.l.n = 0 ∨ p.l.q = some ⟨bl, ol, none⟩) (hr : p.r.n = 0 ∨ p.r.q = some ⟨br, or, none⟩) (hB : PtL w (ordV p ys1 ys2) BB) (n1 : p.l.n ≤ 1000) (n2 : p.r.n ≤ 1000) :
    Calls Try.prog 5 #[.agg p.cs.toArray] w (PutR w p.l.n p.r.n BB) := by
  obtain ⟨cs, hcs⟩ : ∃ cs : List Value, Hid (p.cs = cs) := ⟨_, rfl⟩
  obtain ⟨w1, hw1⟩ : ∃ w1, Hid (w.alloc (.cells cs.toArray 27) = w1) := ⟨_, rfl⟩
  have e1 : w1.heap.size = w.heap.size + 1 := by rw [← hw1.out, World.size_alloc]
  have b1 : Below w.heap.size w w1 := by rw [← hw1.out]; exact alloc_below _ _
  have r1 : w1.rangeAt w.heap.size 0 cs := by rw [← hw1.out]; exact alloc_range w cs _
  have c7 : w1.cell? ⟨w.heap.size, 7, none⟩ = some p.l.v := by have := r1 7 p.l.v (by rw [← hcs.out]; rfl); rw [Nat.zero_add] at this; exact this
  have c8 : w1.cell? ⟨w.heap.size, 8, none⟩ = some p.r.v := by have := r1 8 p.r.v (by rw [← hcs.out]; rfl); rw [Nat.zero_add] at this; exact this
  obtain ⟨w2, hw2⟩ : ∃ w2, Hid (w1.alloc (.cells #[.int .u8 (p.l.n : Int)] 5) = w2) := ⟨_, rfl⟩
  have b2 : Below w1.heap.size w1 w2 := by rw [← hw2.out]; exact alloc_below _ _
  have e2 : w2.heap.size = w1.heap.size + 1 := by rw [← hw2.out, World.size_alloc]
  have hP : Hid (Calls Try.prog 14 #[.pointer (some ⟨w.heap.size, 0, none⟩)] w2 fun e w' => ∃ v, e = .returned v ∧ PLs w2 w' v (ordP w.heap.size bl ol p.l.n br or p.r.n)) :=
    partsOf_c w.heap.size p.l p.r bl ol br or w2 (by omega) (by rw [b2.cell (p := ⟨w.heap.size, 7, none⟩) (by show w.heap.size < _; omega)]; exact c7) (by rw [b2.cell (p := ⟨w.heap.size, 8, none⟩) (by show w.heap.size < _; omega)]; exact c8) hl hr n1 n2
  have HB1 := Hid.mkP b1
  have HB2 := Hid.mkP b2
  have HR1 := Hid.mkP r1
  have HE : Hid (w1.heap.size = w.heap.size + 1 ∧ w2.heap.size = w1.heap.size + 1) := ⟨e1, e2⟩
  have HL := Hid.mkP hL
  have HR := Hid.mkP hR
  have Hl := Hid.mkP hl
  have Hr := Hid.mkP hr
  have HB := Hid.mkP hB
  have lenV : Hid ((ordV p ys1 ys2).length = p.l.n + p.r.n + 9) := by
    show _ = _
    unfold ordV
    simp only [List.length_append, hL.len, hR.len, List.length_cons, List.length_nil]
    omega
  clear b1 b2 r1 e1 e2 hL hR hl hr hB
  rw [hcs.out]
  obtain ⟨nl, hnl⟩ : ∃ nl, Hid (p.l.n = nl) := ⟨_, rfl⟩
  obtain ⟨nr, hnr⟩ : ∃ nr, Hid (p.r.n = nr) := ⟨_, rfl⟩
  rw [show p.l.v = .slice p.l.q p.l.n p.l.c from rfl] at c7
  rw [show p.r.v = .slice p.r.q p.r.n p.r.c from rfl] at c8
  rw [hnl.out, hnr.out] at hP lenV ⊢
  rw [hnl.out] at c7 n1 hw2
  rw [hnr.out] at c8 n2
  generalize p.l.q = ql at c7
  generalize p.l.c = cl at c7
  generalize p.r.q = qr at c8
  generalize p.r.c = cr at c8
  go_enter Try.func5, Try.ntmps5
  by_cases hg : nl = nr
  · subst hg
    by_cases h6 : nl ≤ 6
    · have h6' : ¬ (6 : Int) < (nl : Int) := by omega
      have hw8 : IntKind.u8.wrap (nl : Int) = (nl : Int) := by
        show ((nl : Int) % 256) = _
        omega
      go_wp2_with (first | (refine wpList_opP (v := .pointer (some ⟨w.heap.size, 0, none⟩)) (w' := w1) rfl (.box 27 (.tmp 0)) rfl ?_ ?_; (rw [← hw1.out, ← hcs.out]; kernel_rfl)) | (refine wpList_opP (v := .slice (some ⟨w1.heap.size, 0, none⟩) 1 1) (w' := w2) rfl (.buildSlice 22 1 #[(0, .tmp 23)]) rfl ?_ ?_; (rw [← hw2.out]; kernel_rfl)) | fail)
      refine hP.out.mono ?_
      rintro e w3 ⟨v3, rfl, g3⟩
      obtain ⟨gq, cap3, rfl, hq1, hq2⟩ := g3.lt
      have hM : (ordP w.heap.size bl ol nl br or nl).length = nl + nl + 9 := by
        rw [← ordS_len nl nl, ← ordP_S w.heap.size bl ol nl br or nl, List.length_map]
      have I0 : Hid (PuI w w3 w3 w.heap.size gq (.slice (some ⟨w1.heap.size, 0, none⟩) 1 1) (catI nl BB 0)) := by
        obtain ⟨z1, z2⟩ := HE.out
        have hs3 := g3.bl.size
        refine ⟨HB1.out.trans ((HB2.out.mono HB1.out.size).trans (g3.bl.mono (by omega))), ⟨rfl, Or.inr ⟨w1.heap.size, 1, #[.int .u8 (nl : Int)], rfl, by omega, ?_, Nat.le_refl _, by decide, rfl, ?_⟩⟩, by simp [Value.ownBlock], by simp [Value.ownBlock]; omega, by simp [Value.ownBlock]; omega, rfl, rfl, Nat.le_refl _, by omega, by omega⟩
        · rw [g3.bl.block w1.heap.size (by omega), ← hw2.out]
          exact Array.getElem?_push_size
        · show [Value.int .u8 (nl : Int)] = [SP.encB nl.toUInt8]
          unfold SP.encB SP.ub
          have : (nl.toUInt8).toNat = nl := by
            rw [UInt8.toNat_ofNat']
            omega
          simp [this]
      have HC : Hid (∀ W v b, PuI w w3 W w.heap.size gq v b → ∀ i, i < nl + nl + 9 → ∃ bb oo k q n c B, (ordS nl nl)[i]? = some k ∧ k ≤ 33 ∧ W.rangeAt gq (i * 2) [.pointer (some ⟨bb, oo, none⟩), .int .i64 (k : Int)] ∧ W.cell? ⟨bb, oo, none⟩ = some (.slice q n c) ∧ BB[i]? = some B ∧ Pt W (.slice q n c) B) := fun W v b hI i hi => by
        obtain ⟨z1, z2⟩ := HE.out
        have hcs3 : W.rangeAt w.heap.size 0 p.cs := fun j u hj => by
          have e := hI.e1
          have e4 : w3.heap[w.heap.size]? = w1.heap[w.heap.size]? := by rw [g3.bl.block _ (by omega), HB2.out.block _ (by omega)]
          have : W.cell? ⟨w.heap.size, 0 + j, none⟩ = w1.cell? ⟨w.heap.size, 0 + j, none⟩ := by unfold World.cell?; rw [e, e4]
          rw [this]
          exact HR1.out j u (by rw [← hcs.out]; exact hj)
        have hco := cor_all hcs3 (HL.out.below hI.bl) (HR.out.below hI.bl) Hl.out Hr.out
        rw [hnl.out, hnr.out] at hco
        obtain ⟨x, hx⟩ : ∃ x, (ordP w.heap.size bl ol nl br or nl)[i]? = some x := ⟨_, List.getElem?_eq_getElem (by omega)⟩
        obtain ⟨u, hu⟩ : ∃ u, (ordV p ys1 ys2)[i]? = some u := ⟨_, List.getElem?_eq_getElem (by rw [lenV.out]; omega)⟩
        obtain ⟨B, hBi⟩ : ∃ B, BB[i]? = some B := ⟨_, List.getElem?_eq_getElem (by rw [HB.out.1, lenV.out]; omega)⟩
        obtain ⟨⟨bb, oo, hx1⟩, hxc⟩ := hco.2 i x u hx hu
        have hpt := (HB.out.2 i u B hu hBi).below hI.bl
        have hk : (ordS nl nl)[i]? = some x.2 := by rw [← ordP_S w.heap.size bl ol nl br or nl, List.getElem?_map, hx]; rfl
        have hra := g3.at i x hx
        rw [hx1] at hxc
        obtain ⟨q, c, rfl, -⟩ := id hpt
        refine ⟨bb, oo, x.2, q, _, c, B, hk, ordS_le nl nl _ (List.mem_of_getElem? hk), fun j u hj => ?_, hxc, hBi, hpt⟩
        have e := hI.e2
        have : W.cell? ⟨gq, i * 2 + j, none⟩ = w3.cell? ⟨gq, i * 2 + j, none⟩ := by unfold World.cell?; rw [e]
        rw [this, Nat.mul_comm]
        exact hra j u (by unfold pC; rw [hx1]; exact hj)
      obtain ⟨M, hMM⟩ : ∃ M, Hid (nl + nl + 9 = M) := ⟨_, rfl⟩
      rw [hMM.out] at HC hM
      rw [hM]
      have hMb : M ≤ 21 := by have := hMM.out; omega
      have HLB : Hid (BB.length = M) := by show _ = _; rw [HB.out.1, lenV.out, hMM.out]
      have HLS : Hid ((ordS nl nl).length = M) := by show _ = _; rw [ordS_len, hMM.out]
      obtain ⟨dP, huP, hrP⟩ := Option.map_eq_some_iff.1 uPt
      clear g3 hM hP HB HL HR Hl Hr lenV c7 c8 hq1 hq2 HR1
      go_wp2
      go_loopg [5, 27] M (fun gk s5 s27 wr => ∃ i : Nat, i + gk = M ∧ s27 = .int .i64 (i : Int) ∧ Hid (PuI w w3 wr w.heap.size gq s5 (catI nl BB i) ∧ (catI nl BB i).size ≤ 1 + 33 * i ∧ ∀ j, j < i → (BB[j]?).map Array.size = (ordS nl nl)[j]?))
      case atStart => exact ⟨0, by omega, rfl, I0.out, by show 1 ≤ _; omega, fun j hj => absurd hj (Nat.not_lt_zero _)⟩
      case round =>
        obtain ⟨i, hi, rfl, K⟩ := hrel
        obtain ⟨g, cap, rfl, -, -⟩ := K.out.1.lt
        by_cases him : i < M
        · have him' : (i : Int) < (M : Int) := by omega
          have hix := idxPT gq M cap3 i him
          obtain ⟨bb, oo, k, q, n, c, B, k1, k2, k3, k4, k5, k6⟩ := HC.out _ _ _ K.out.1 i him
          have K3 := Hid.mkP k3
          have KK : Hid ((ordS nl nl)[i]? = some k ∧ BB[i]? = some B ∧ Pt wr (.slice q n c) B) := ⟨k1, k5, k6⟩
          clear k1 k3 k5 k6
          obtain ⟨wa, hwa⟩ : ∃ wa, Hid (wr.alloc (.cells #[.pointer (some ⟨bb, oo, none⟩), .int .i64 (k : Int)] 49) = wa) := ⟨_, rfl⟩
          have ba : Below wr.heap.size wr wa := by rw [← hwa.out]; exact alloc_below _ _
          have a0 : wa.cell? ⟨wr.heap.size, 0, none⟩ = some (.pointer (some ⟨bb, oo, none⟩)) := by rw [← hwa.out]; exact alloc_cell wr _ _ 0 _ rfl
          have a1 : wa.cell? ⟨wr.heap.size, 1, none⟩ = some (.int .i64 (k : Int)) := by rw [← hwa.out]; exact alloc_cell wr _ _ 1 _ rfl
          have a2 : wa.cell? ⟨bb, oo, none⟩ = some (.slice q n c) := by rw [ba.cell (p := ⟨bb, oo, none⟩) (World.block_lt_of_cell? _ _ k4)]; exact k4
          have KA : Hid (∀ d, Below wr.heap.size wr (wa.drewN d)) := fun d => ⟨ba.os, ba.tape, ba.output, ba.size, ba.block⟩
          clear ba
          go_wp2_with (first | (refine wpList_load_mid rfl 49 _ rfl gq (i * 2) ?_ [.pointer (some ⟨bb, oo, none⟩), .int .i64 (k : Int)] dP ?_ ?_ ?_ ?_ ?_; rfl; exact K3.out; exact huP; exact hrP; exact iPt; skip) | fail)
          rw [hwa.out]
          go_quiet (fail)
          have KB := Hid.mkP (KA.out nq)
          have q0 : (wa.drewN nq).cell? ⟨wr.heap.size, 0, none⟩ = some (.pointer (some ⟨bb, oo, none⟩)) := a0
          have q2 : (wa.drewN nq).cell? ⟨bb, oo, none⟩ = some (.slice q n c) := a2
          clear KA a0 a1 a2
          generalize wa.drewN nq = wb at KB q0 q2 ⊢
          by_cases hnk : n = k
          · subst hnk
            obtain ⟨e1, hv⟩ := (KK.out.2.2.below KB.out).vl
            subst e1
            have hsz := K.out.2.1
            obtain ⟨v', W', x1, x2⟩ := (K.out.1.below KB.out).app (c := c) hv (by omega)
            rw [← catI_succ nl BB i B KK.out.2.1] at x2
            have X2 := Hid.mkP x2
            have X3 : Hid ((catI nl BB (i + 1)).size ≤ 1 + 33 * (i + 1) ∧ ∀ j, j < i + 1 → (BB[j]?).map Array.size = (ordS nl nl)[j]?) := by
              refine ⟨?_, fun j hj => ?_⟩
              · rw [catI_succ nl BB i B KK.out.2.1, Array.size_append]
                omega
              · by_cases hji : j = i
                · subst hji
                  rw [KK.out.2.1, KK.out.1]
                  rfl
                · exact K.out.2.2 j (by omega)
            have X1 := Hid.mkP x1
            obtain ⟨g', cap', rfl, -, -⟩ := x2.lt
            generalize Array.size (catI nl BB (i + 1)) = N2 at X1 X2
            generalize Array.size (catI nl BB i) = N1 at X1 ⊢
            clear K x1 x2 hv hsz
            generalize Array.size B = nB at X1 q2 ⊢
            go_wp2_with (first | (at_builtin; refine Lib.wpList_append_run wb rfl _ _ _ _ rfl _ _ rfl rfl _ _ X1.out ?_) | fail)
            go_roundg (gk - 1)
            case measure => omega
            case rel => exact ⟨i + 1, by omega, rfl, X2.out, X3.out⟩
          · have hnk' : ¬ (n : Int) = (k : Int) := by omega
            have hbad : ¬ GoodP nl nl BB := fun h => by
              have e0 : (BB.map Array.size)[i]? = (ordS nl nl)[i]? := by rw [h.2.2]
              rw [List.getElem?_map, KK.out.2.1, KK.out.1] at e0
              have e1 : Array.size B = k := Option.some.inj e0
              obtain ⟨q', c', e2, -⟩ := KK.out.2.2
              injection e2 with _ e2 _
              omega
            have HW := Hid.mkP (K.out.1.bl.trans (KB.out.mono K.out.1.bl.size))
            clear K
            go_wp2
            go_ret2
            exact ⟨HW.out, Or.inr ⟨hbad, rfl⟩⟩
        · have him' : ¬ (i : Int) < (M : Int) := by omega
          obtain rfl : i = M := by omega
          have KR : Hid (PutR w nl nl BB (.returned (.tuple #[.slice (some ⟨g, 0, none⟩) (catI nl BB i).size cap, .int .i64 0])) wr) := by
            refine ⟨K.out.1.bl, Or.inl ⟨⟨rfl, h6, List.ext_getElem? fun j => ?_⟩, _, rfl, ?_⟩⟩
            · by_cases hj : j < i
              · rw [List.getElem?_map]
                exact K.out.2.2 j hj
              · rw [List.getElem?_eq_none (by rw [List.length_map, HLB.out]; omega), List.getElem?_eq_none (by rw [HLS.out]; omega)]
            · rw [hMM.out]
              exact K.out.1.pt
          clear K
          go_wp2
          go_ret2
          exact KR.out
    · have h6' : (6 : Int) < (nl : Int) := by omega
      have hbad : ¬ GoodP nl nl BB := fun h => h6 h.2.1
      go_wp2_with (first | (refine wpList_opP (v := .pointer (some ⟨w.heap.size, 0, none⟩)) (w' := w1) rfl (.box 27 (.tmp 0)) rfl ?_ ?_; (rw [← hw1.out, ← hcs.out]; kernel_rfl)) | fail)
      go_ret2
      exact ⟨HB1.out, Or.inr ⟨hbad, rfl⟩⟩
  · have hg' : ¬ (nr : Int) = (nl : Int) := by omega
    have hbad : ¬ GoodP nl nr BB := fun h => hg h.1
    go_wp2_with (first | (refine wpList_opP (v := .pointer (some ⟨w.heap.size, 0, none⟩)) (w' := w1) rfl (.box 27 (.tmp 0)) rfl ?_ ?_; (rw [← hw1.out, ← hcs.out]; kernel_rfl)) | fail)
    go_ret2
    exact ⟨HB1.out, Or.inr ⟨hbad, rfl⟩⟩
end Go.Proofs.Ytboigmhioojenaa
namespace Go.Proofs.Ytboigmhioojenaa
open Go.RowKit
/-- Four words, the lowest first. -/
def val (a b c d : Nat) : Nat := a + 18446744073709551616 * b + 340282366920938463463374607431768211456 * c + 6277101735386680763835789423207666416102355444464034512896 * d
def ag (a b c d : Nat) : Value := .agg #[.int .u64 (a : Int), .int .u64 (b : Int), .int .u64 (c : Int), .int .u64 (d : Int)]
/-- A value of four words is the number n. -/
def Four (v : Value) (n : Nat) : Prop := ∃ a b c d : Nat, v = .agg #[.int .u64 (a : Int), .int .u64 (b : Int), .int .u64 (c : Int), .int .u64 (d : Int)] ∧
  a < 18446744073709551616 ∧ b < 18446744073709551616 ∧ c < 18446744073709551616 ∧ d < 18446744073709551616 ∧ n = val a b c d
def top : Nat := 115792089237316195423570985008687907853269984665640564039457584007913129639936
theorem val_lt {a b c d : Nat} (ha : a < 18446744073709551616) (hb : b < 18446744073709551616) (hc : c < 18446744073709551616) (hd : d < 18446744073709551616) : val a b c d < top := by
  unfold val top; omega
theorem Four.lt {v : Value} {n : Nat} (h : Four v n) : n < top := by
  obtain ⟨a, b, c, d, -, ha, hb, hc, hd, rfl⟩ := h
  exact val_lt ha hb hc hd
theorem val_inj {a b c d p q r s : Nat} (ha : a < 18446744073709551616) (hb : b < 18446744073709551616) (hc : c < 18446744073709551616)
    (hp : p < 18446744073709551616) (hq : q < 18446744073709551616) (hr : r < 18446744073709551616) (h : val a b c d = val p q r s) : a = p ∧ b = q ∧ c = r ∧ d = s := by
  unfold val at h; omega
theorem Four.inj {v v' : Value} {n : Nat} (h : Four v n) (h' : Four v' n) : v = v' := by
  obtain ⟨a, b, c, d, rfl, ha, hb, hc, hd, e⟩ := h
  obtain ⟨p, q, r, s, rfl, hp, hq, hr, hs, e'⟩ := h'
  obtain ⟨rfl, rfl, rfl, rfl⟩ := val_inj ha hb hc hp hq hr (e.symm.trans e')
  rfl
theorem Four.num {v : Value} {n m : Nat} (h : Four v n) (h' : Four v m) : n = m := by
  obtain ⟨a, b, c, d, rfl, ha, hb, hc, hd, rfl⟩ := h
  obtain ⟨p, q, r, s, e, hp, hq, hr, hs, rfl⟩ := h'
  simp only [Value.agg.injEq, Array.mk.injEq, List.cons.injEq, Value.int.injEq, true_and, and_true, Int.ofNat_inj] at e
  obtain ⟨rfl, rfl, rfl, rfl⟩ := e
  rfl
theorem Four.mk {a b c d n : Nat} (ha : a < 18446744073709551616) (hb : b < 18446744073709551616) (hc : c < 18446744073709551616) (hd : d < 18446744073709551616) (hn : n = val a b c d) :
    Four (.agg #[.int .u64 (a : Int), .int .u64 (b : Int), .int .u64 (c : Int), .int .u64 (d : Int)]) n := ⟨a, b, c, d, rfl, ha, hb, hc, hd, hn⟩
theorem ret_int {k : IntKind} {a b : Int} (h : a = b) : Ending.returned (.int k a) = .returned (.int k b) := by rw [h]
/-- What Mul64 answers, as words. -/
theorem mul_parts (x y : Nat) : x * y / 18446744073709551616 * 18446744073709551616 + x * y % 18446744073709551616 = x * y := by
  omega
end Go.Proofs.Ytboigmhioojenaa
namespace Go.Proofs.Ytboigmhioojenaa
open Go.RowKit Go.Sort
theorem mixed : Try.prog.follows .mixedOrders = true := by kernel_rfl
theorem maskN (a : Nat) (ha : a < 18446744073709551616) : bits .and .u64 (a : Int) 4294967295 = ((a % 4294967296 : Nat) : Int) := by
  have h := bits_and_u64_nat a 4294967295 ha (by omega)
  rw [show a &&& 4294967295 = a % 4294967296 from Nat.and_two_pow_sub_one_eq_mod a 32] at h
  exact h
theorem divN (a : Nat) : (a : Int) / 4294967296 = ((a / 4294967296 : Nat) : Int) := by omega
theorem mulN (a b : Nat) : (a : Int) * (b : Int) = ((a * b : Nat) : Int) := (Int.natCast_mul a b).symm
theorem addN (a b : Nat) : (a : Int) + (b : Int) = ((a + b : Nat) : Int) := (Int.natCast_add a b).symm
theorem wrapN (a : Nat) (ha : a < 18446744073709551616) : IntKind.u64.wrap (a : Int) = (a : Int) := by rw [IntKind.wrap_u64]; omega
theorem wrapM (a : Nat) : IntKind.u64.wrap (a : Int) = ((a % 18446744073709551616 : Nat) : Int) := by rw [IntKind.wrap_u64]; omega
end Go.Proofs.Ytboigmhioojenaa
namespace Go.Proofs.Ytboigmhioojenaa
open Go.RowKit Go.Sort
/-- It returned a value, of which something holds. -/
def Ret (Q : Value → World → Prop) (e : Ending) (w : World) : Prop := ∃ v, e = .returned v ∧ Q v w
theorem below1 (w : World) (o1 : Obj) : Below w.heap.size w (w.alloc o1) := (Below.refl _ _).alloc (Nat.le_refl _) o1
theorem below2 (w : World) (o1 o2 : Obj) : Below w.heap.size w ((w.alloc o1).alloc o2) := (below1 w o1).alloc (by simp) o2
theorem below3 (w : World) (o1 o2 o3 : Obj) : Below w.heap.size w (((w.alloc o1).alloc o2).alloc o3) := (below2 w o1 o2).alloc (by simp; omega) o3
theorem below4 (w : World) (o1 o2 o3 o4 : Obj) : Below w.heap.size w ((((w.alloc o1).alloc o2).alloc o3).alloc o4) := (below3 w o1 o2 o3).alloc (by simp; omega) o4
theorem mul_val (x a b c d : Nat) : x * val a b c d = val (x * a) (x * b) (x * c) (x * d) := by
  unfold val
  rw [Nat.mul_add, Nat.mul_add, Nat.mul_add, Nat.mul_left_comm x _ b, Nat.mul_left_comm x _ c, Nat.mul_left_comm x _ d]
theorem row_sum {x a b c d p q r s l0 l1 l2 l3 h0 h1 h2 h3 m n : Nat} (em : m = val a b c d) (en : n = val p q r s)
    (e0 : l0 + 18446744073709551616 * h0 = x * a + p + 0) (e1 : l1 + 18446744073709551616 * h1 = x * b + q + h0)
    (e2 : l2 + 18446744073709551616 * h2 = x * c + r + h1) (e3 : l3 + 18446744073709551616 * h3 = x * d + s + h2) :
    l0 + 18446744073709551616 * val l1 l2 l3 h3 = x * m + n := by
  rw [em, en, mul_val x a b c d]
  generalize x * a = xa at *
  generalize x * b = xb at *
  generalize x * c = xc at *
  generalize x * d = xd at *
  unfold val
  omega
end Go.Proofs.Ytboigmhioojenaa
set_option linter.unusedVariables false
set_option linter.unusedSimpArgs false
namespace Go.Proofs.Ytboigmhioojenaa.RG
open Go Go.RowKit
/-- A value, or the address of one of the call's own blocks. -/
inductive SV where
  | v (x : Value)
  | p (b o : Nat)
  | s (b n c : Nat)
  | t (b n c : Nat) (y : Value)
def SV.at (μ : Nat → Nat) : SV → Value
  | .v x => x
  | .p b o => .pointer (some ⟨μ b, o, none⟩)
  | .s b n c => .slice (some ⟨μ b, 0, none⟩) n c
  | .t b n c y => .tuple #[.slice (some ⟨μ b, 0, none⟩) n c, y]
def SV.blk : SV → Option Nat
  | .v _ => none
  | .p b _ => some b
  | .s b _ _ => some b
  | .t b _ _ _ => some b
theorem SV.at_congr {μ ν : Nat → Nat} {s : SV} (h : ∀ b, s.blk = some b → μ b = ν b) : s.at μ = s.at ν := by
  cases s with
  | v x => rfl
  | p b o => show Value.pointer (some ⟨μ b, o, none⟩) = .pointer (some ⟨ν b, o, none⟩); rw [h b rfl]
  | s b n c => show Value.slice (some ⟨μ b, 0, none⟩) n c = .slice (some ⟨ν b, 0, none⟩) n c; rw [h b rfl]
  | t b n c y => show Value.tuple #[.slice (some ⟨μ b, 0, none⟩) n c, y] = .tuple #[.slice (some ⟨ν b, 0, none⟩) n c, y]; rw [h b rfl]
inductive Kind where
  | stay
  | pass
  | call
  | make (b : Nat)
  | put (b : Nat)
/-- What an operation of a region does; 'need': slots, and the operations that fill them. -/
structure It where
  dst : Option Tmp
  need : List (Tmp × Nat)
  out : SV
  kind : Kind
/-- A block: what lies in it, what is stored into it, which operation makes it and which stores into it. -/
structure Bl where
  before : List Value
  after : List Value
  al : Option Nat
  st : Option Nat
def on (L : Array Bool) (i : Nat) : Bool := L.getD i false
def Bl.live (e : Bl) (L : Array Bool) : Bool := (e.al.map (on L)).getD true
def Bl.put (e : Bl) (L : Array Bool) : Bool := (e.st.map (on L)).getD false
def Bl.now (e : Bl) (L : Array Bool) : List Value := if e.put L = true then e.after else e.before
theorem on_set {L : Array Bool} {i j : Nat} (h : i < L.size) : on (L.setIfInBounds i true) j = (on L j || i == j) := by
  unfold on
  simp only [Array.getD_eq_getD_getElem?, Array.getElem?_setIfInBounds]
  by_cases hij : i = j
  · subst hij; simp [h]
  · simp [hij]
theorem live_set {e : Bl} {L : Array Bool} {i : Nat} (h : i < L.size) : e.live (L.setIfInBounds i true) = (e.live L || e.al == some i) := by
  unfold Bl.live
  cases ha : e.al with
  | none => rfl
  | some j =>
    show on _ j = (on L j || _)
    rw [on_set h]
    by_cases hij : i = j
    · subst hij; simp
    · have h1 : (i == j) = false := by simpa using hij
      have h2 : (some j == some i) = false := by simpa using fun h => hij h.symm
      rw [h1, h2]
theorem put_set {e : Bl} {L : Array Bool} {i : Nat} (h : i < L.size) : e.put (L.setIfInBounds i true) = (e.put L || e.st == some i) := by
  unfold Bl.put
  cases ha : e.st with
  | none => rfl
  | some j =>
    show on _ j = (on L j || _)
    rw [on_set h]
    by_cases hij : i = j
    · subst hij; simp
    · have h1 : (i == j) = false := by simpa using hij
      have h2 : (some j == some i) = false := by simpa using fun h => hij h.symm
      rw [h1, h2]
theorem range_below {B k o : Nat} {w w' : World} {cs : List Value} (h : w.rangeAt k o cs) (hb : Below B w w') (hk : k < B) : w'.rangeAt k o cs := fun j v hv => by
  rw [hb.cell (p := ⟨k, o + j, none⟩) hk]; exact h j v hv
theorem there_below {B k o n : Nat} {w w' : World} (h : w.there k o n) (hb : Below B w w') (hk : k < B) : w'.there k o n := fun j hj => by
  rw [hb.cell (p := ⟨k, o + j, none⟩) hk, hb.frozen (p := ⟨k, o + j, none⟩) hk]; exact h j hj
theorem below_setCells {B k : Nat} {w0 : World} (hk : B ≤ k) : ∀ (vs : List Value) (o : Nat) (w : World), Below B w0 w → Below B w0 (w.setCells k o vs)
  | [], _, _, h => h
  | v :: r, o, w, h => below_setCells hk r (o + 1) _ (h.setCell (p := ⟨k, o, none⟩) hk v)
theorem setCells_size (k : Nat) : ∀ (vs : List Value) (o : Nat) (w : World), (w.setCells k o vs).heap.size = w.heap.size
  | [], _, _ => rfl
  | v :: r, o, w => by
    rw [World.setCells, setCells_size k r (o + 1)]
    simp [World.setCell]
theorem there_setCells {k b o n : Nat} : ∀ (vs : List Value) (i : Nat) (w : World), w.there b o n → (w.setCells k i vs).there b o n
  | [], _, _, h => h
  | v :: r, i, w, h => there_setCells r (i + 1) _ fun j hj => ⟨World.isSome_setCells k [v] i w _ (h j hj).1, by rw [World.frozen?_setCell]; exact (h j hj).2⟩
/-- Nothing below k0 was turned, but for the blocks of X. -/
structure BelX (k0 : Nat) (X : List Nat) (w w' : World) : Prop where
  os : w'.os = w.os
  tape : w'.tape = w.tape
  output : w'.output = w.output
  size : w.heap.size ≤ w'.heap.size
  block : ∀ j, j < k0 → j ∉ X → w'.heap[j]? = w.heap[j]?
theorem BelX.below {k0 : Nat} {w w' : World} (h : BelX k0 [] w w') : Below k0 w w' := ⟨h.os, h.tape, h.output, h.size, fun j hj => h.block j hj List.not_mem_nil⟩
theorem BelX.drew {k0 : Nat} {X : List Nat} {w w' : World} (h : BelX k0 X w w') : BelX k0 X w w'.drew := ⟨h.os, h.tape, h.output, h.size, h.block⟩
theorem BelX.refl (k0 : Nat) (X : List Nat) (w : World) : BelX k0 X w w := ⟨rfl, rfl, rfl, Nat.le_refl _, fun _ _ _ => rfl⟩
theorem BelX.trans {k0 : Nat} {X : List Nat} {a b c : World} (h : BelX k0 X a b) (k : BelX k0 X b c) : BelX k0 X a c :=
  ⟨k.os.trans h.os, k.tape.trans h.tape, k.output.trans h.output, Nat.le_trans h.size k.size, fun i hi hx => (k.block i hi hx).trans (h.block i hi hx)⟩
/-- What is known of the world, where the operations of L are done. -/
structure Wd (w0 : World) (k0 : Nat) (X : List Nat) (bl : List Bl) (L : Array Bool) (μ : Nat → Nat) (w : World) : Prop where
  bel : BelX k0 X w0 w
  le : k0 ≤ w.heap.size
  has : ∀ (b : Nat) (e : Bl), bl[b]? = some e → e.live L = true → w.rangeAt (μ b) 0 (e.now L) ∧ w.there (μ b) 0 e.before.length ∧ μ b < w.heap.size ∧ (k0 ≤ μ b ∨ μ b ∈ X)
  inj : ∀ (b c : Nat) (e f : Bl), bl[b]? = some e → bl[c]? = some f → e.live L = true → f.live L = true → b ≠ c → μ b ≠ μ c
variable {w0 w w' : World} {k0 : Nat} {X : List Nat} {bl : List Bl} {L : Array Bool} {μ : Nat → Nat}
theorem Wd.drew (h : Wd w0 k0 X bl L μ w) : Wd w0 k0 X bl L μ w.drew := ⟨h.bel.drew, h.le, h.has, h.inj⟩
theorem Wd.same {L' : Array Bool} (h : Wd w0 k0 X bl L μ w) (hl : ∀ (b : Nat) (e : Bl), bl[b]? = some e → e.live L' = e.live L ∧ e.put L' = e.put L) : Wd w0 k0 X bl L' μ w := by
  refine ⟨h.bel, h.le, fun b e hb hv => ?_, fun b c e f hb hc he hf => h.inj b c e f hb hc ((hl b e hb).1 ▸ he) ((hl c f hc).1 ▸ hf)⟩
  have := h.has b e hb ((hl b e hb).1 ▸ hv)
  unfold Bl.now at this ⊢
  rw [(hl b e hb).2]
  exact this
theorem Wd.call (h : Wd w0 k0 X bl L μ w) (hb : Below w.heap.size w w') : Wd w0 k0 X bl L μ w' := by
  refine ⟨h.bel.trans ⟨hb.os, hb.tape, hb.output, hb.size, fun k hk _ => hb.block k (Nat.lt_of_lt_of_le hk h.le)⟩, Nat.le_trans h.le hb.size, fun b e hbe hv => ?_, h.inj⟩
  obtain ⟨h1, h2, h3, h4⟩ := h.has b e hbe hv
  exact ⟨range_below h1 hb h3, there_below h2 hb h3, Nat.lt_of_lt_of_le h3 hb.size, h4⟩
def upd (μ : Nat → Nat) (b k : Nat) : Nat → Nat := fun c => if c = b then k else μ c
/-- A new block k; there lies c; nothing that was there was turned. -/
structure Made (w : World) (k : Nat) (c : List Value) (w' : World) : Prop where
  bel : Below w.heap.size w w'
  le : w.heap.size ≤ k
  lt : k < w'.heap.size
  range : w'.rangeAt k 0 c
  there : w'.there k 0 c.length
theorem Made.alloc (w : World) (c : List Value) (t : TypeId) : Made w w.heap.size c (w.alloc (.cells c.toArray t)) := by
  refine ⟨below1 w _, Nat.le_refl _, by rw [World.size_alloc]; omega, fun j v hj => ?_, fun j hj => ⟨?_, World.frozen?_alloc_new _ _ _ _⟩⟩
  · rw [Nat.zero_add, World.cell?_alloc_new]
    simpa using hj
  · rw [Nat.zero_add, World.cell?_alloc_new]
    simp [hj]
theorem Wd.make {i b k : Nat} {e : Bl} (h : Wd w0 k0 X bl L μ w) (hi : i < L.size) (hb : bl[b]? = some e) (ha : e.al = some i) (hne : ∀ (c : Nat) (f : Bl), bl[c]? = some f → c ≠ b → f.al ≠ some i)
    (hst : ∀ (c : Nat) (f : Bl), bl[c]? = some f → f.st ≠ some i) (hp : e.put L = false) (hm : Made w k e.before w') :
    Wd w0 k0 X bl (L.setIfInBounds i true) (upd μ b k) w' := by
  have hput : ∀ (c : Nat) (f : Bl), bl[c]? = some f → f.put (L.setIfInBounds i true) = f.put L := fun c f hc => by
    rw [put_set hi, show (f.st == some i) = false by simpa using hst c f hc, Bool.or_false]
  have hliv : ∀ (c : Nat) (f : Bl), bl[c]? = some f → c ≠ b → f.live (L.setIfInBounds i true) = f.live L := fun c f hc hcb => by
    rw [live_set hi, show (f.al == some i) = false by simpa using hne c f hc hcb, Bool.or_false]
  have hold : ∀ (c : Nat) (f : Bl), bl[c]? = some f → c ≠ b → f.live (L.setIfInBounds i true) = true → μ c < w.heap.size := fun c f hc hcb hv => (h.has c f hc (hliv c f hc hcb ▸ hv)).2.2.1
  have hal := hm.bel
  have hmk := hm.le
  refine ⟨h.bel.trans ⟨hal.os, hal.tape, hal.output, hal.size, fun k hk _ => hal.block k (Nat.lt_of_lt_of_le hk h.le)⟩, Nat.le_trans h.le hal.size, fun c f hc hv => ?_, fun c d f g hc hd hf hg hcd => ?_⟩
  · by_cases hcb : c = b
    · subst hcb
      rw [hb] at hc
      obtain rfl : e = f := Option.some.inj hc
      have hn : e.now (L.setIfInBounds i true) = e.before := by unfold Bl.now; rw [hput c e hb, hp]; rfl
      rw [hn]
      unfold upd
      rw [if_pos rfl]
      exact ⟨hm.range, hm.there, hm.lt, Or.inl (Nat.le_trans h.le hmk)⟩
    · obtain ⟨h1, h2, h3, h4⟩ := h.has c f hc (hliv c f hc hcb ▸ hv)
      unfold upd
      rw [if_neg hcb]
      have hn : f.now (L.setIfInBounds i true) = f.now L := by unfold Bl.now; rw [hput c f hc]
      rw [hn]
      exact ⟨range_below h1 hal h3, there_below h2 hal h3, Nat.lt_of_lt_of_le h3 hal.size, h4⟩
  · unfold upd
    by_cases hcb : c = b
    · subst hcb
      rw [if_pos rfl, if_neg (fun h => hcd h.symm)]
      exact Nat.ne_of_gt (Nat.lt_of_lt_of_le (hold d g hd (fun h => hcd h.symm) hg) hmk)
    · by_cases hdb : d = b
      · subst hdb
        rw [if_pos rfl, if_neg hcb]
        exact Nat.ne_of_lt (Nat.lt_of_lt_of_le (hold c f hc hcb hf) hmk)
      · rw [if_neg hcb, if_neg hdb]
        exact h.inj c d f g hc hd (hliv c f hc hcb ▸ hf) (hliv d g hd hdb ▸ hg) hcd
/-- Of what was there, block k alone was written; there lies cs now. -/
structure PutTo (k n : Nat) (cs : List Value) (w w' : World) : Prop where
  os : w'.os = w.os
  tape : w'.tape = w.tape
  output : w'.output = w.output
  size : w.heap.size ≤ w'.heap.size
  block : ∀ j, j < w.heap.size → j ≠ k → w'.heap[j]? = w.heap[j]?
  range : w'.rangeAt k 0 cs
  there : w'.there k 0 n
theorem setCells_other (k : Nat) : ∀ (vs : List Value) (o : Nat) (w : World) (j : Nat), j ≠ k → (w.setCells k o vs).heap[j]? = w.heap[j]?
  | [], _, _, _, _ => rfl
  | v :: r, o, w, j, h => by
    rw [World.setCells, setCells_other k r (o + 1) _ j h, Below.heap_setCell _ _ _ _ h]
theorem setCells_os (k : Nat) : ∀ (vs : List Value) (o : Nat) (w : World), (w.setCells k o vs).os = w.os ∧ (w.setCells k o vs).tape = w.tape ∧ (w.setCells k o vs).output = w.output
  | [], _, _ => ⟨rfl, rfl, rfl⟩
  | v :: r, o, w => by rw [World.setCells]; exact setCells_os k r (o + 1) _
/-- A store of some cells into a block. -/
theorem PutTo.store {k n o : Nat} {before after vs : List Value} (ht : w.there k 0 n) (hr : w.rangeAt k 0 before) (hl : o + vs.length ≤ n) (ha : ∀ j, after[j]? = if o ≤ j ∧ j < o + vs.length then vs[j - o]? else before[j]?) : PutTo k n after w (w.setCells k o vs) := by
  obtain ⟨h1, h2, h3⟩ := setCells_os k vs o w
  refine ⟨h1, h2, h3, by rw [setCells_size]; exact Nat.le_refl _, fun j _ hj => setCells_other k vs o w j hj, fun j v hv => ?_, there_setCells _ _ _ ht⟩
  have hto : w.there k o vs.length := fun j hj => by have := ht (o + j) (by omega); rwa [Nat.zero_add] at this
  rw [ha j] at hv
  rw [Nat.zero_add]
  by_cases hj : o ≤ j ∧ j < o + vs.length
  · rw [if_pos hj] at hv
    have := World.rangeAt_setCells_same w k o vs hto (j - o) v hv
    rwa [show o + (j - o) = j by omega] at this
  · rw [if_neg hj] at hv
    have h5 : w.rangeAt k j [v] := fun i u hu => by
      cases i with
      | zero =>
        obtain rfl : v = u := by simpa using hu
        have := hr j v hv
        rwa [Nat.zero_add] at this
      | succ i => simp at hu
    have h6 := World.rangeAt_setCells_apart h5 k o vs (Or.inr (by simp only [List.length_cons, List.length_nil]; omega))
    have := h6 0 v rfl
    exact this
theorem PutTo.whole {k : Nat} {before after : List Value} (ht : w.there k 0 before.length) (hr : w.rangeAt k 0 before) (hl : after.length = before.length) : PutTo k before.length after w (w.setCells k 0 after) :=
  PutTo.store ht hr (by omega) (fun j => by
    by_cases hj : 0 ≤ j ∧ j < 0 + after.length
    · rw [if_pos hj]; rfl
    · rw [if_neg hj, List.getElem?_eq_none (by omega), List.getElem?_eq_none (by omega)])
theorem Wd.put {i b : Nat} {e : Bl} (h : Wd w0 k0 X bl L μ w) (hi : i < L.size) (hb : bl[b]? = some e) (hs : e.st = some i) (hv : e.live L = true) (hp : PutTo (μ b) e.before.length e.after w w')
    (hne : ∀ (c : Nat) (f : Bl), bl[c]? = some f → c ≠ b → f.st ≠ some i) (hal : ∀ (c : Nat) (f : Bl), bl[c]? = some f → f.al ≠ some i) :
    Wd w0 k0 X bl (L.setIfInBounds i true) μ w' := by
  have hliv : ∀ (c : Nat) (f : Bl), bl[c]? = some f → f.live (L.setIfInBounds i true) = f.live L := fun c f hc => by
    rw [live_set hi, show (f.al == some i) = false by simpa using hal c f hc, Bool.or_false]
  obtain ⟨g1, g2, g3, g4⟩ := h.has b e hb hv
  have hle := h.le
  refine ⟨h.bel.trans ⟨hp.os, hp.tape, hp.output, hp.size, fun j hj hx => hp.block j (by omega) (fun e => g4.elim (fun h => by omega) (fun h => hx (e ▸ h)))⟩, Nat.le_trans h.le hp.size, fun c f hc hvc => ?_, fun c d f g hc hd hf hg => h.inj c d f g hc hd (hliv c f hc ▸ hf) (hliv d g hd ▸ hg)⟩
  rw [hliv c f hc] at hvc
  obtain ⟨h1, h2, h3, h4⟩ := h.has c f hc hvc
  by_cases hcb : c = b
  · subst hcb
    rw [hb] at hc
    obtain rfl : e = f := Option.some.inj hc
    have hn : e.now (L.setIfInBounds i true) = e.after := by
      unfold Bl.now
      rw [put_set hi, hs]
      simp
    rw [hn]
    exact ⟨hp.range, hp.there, Nat.lt_of_lt_of_le h3 hp.size, h4⟩
  · have hn : f.now (L.setIfInBounds i true) = f.now L := by
      unfold Bl.now
      rw [put_set hi, show (f.st == some i) = false by simpa using hne c f hc hcb, Bool.or_false]
    rw [hn]
    have hsame := hp.block (μ c) h3 (h.inj c b f e hc hb hvc hv hcb)
    refine ⟨fun j v hj => ?_, fun j hj => ?_, Nat.lt_of_lt_of_le h3 hp.size, h4⟩
    · rw [World.cell?_of_block (w := w) (a := ⟨μ c, 0 + j, none⟩) hsame]; exact h1 j v hj
    · rw [World.cell?_of_block (w := w) (a := ⟨μ c, 0 + j, none⟩) hsame, World.frozen?_of_block (w := w) (a := ⟨μ c, 0 + j, none⟩) hsame]; exact h2 j hj
end Go.Proofs.Ytboigmhioojenaa.RG
namespace Go.Proofs.Ytboigmhioojenaa.RG
open Go Go.RowKit
variable {P : Program} {ops : Array Oper} {Q : Exit → Act → World → Prop} {w0 w : World} {k0 : Nat} {X : List Nat} {its : List It} {bl : List Bl} {olds : List (Tmp × SV)} {a0 : Act} {L : Array Bool} {μ μ' μ0 : Nat → Nat}
/-- What is known of the slots, where the operations of L are done. -/
structure Ac (its : List It) (bl : List Bl) (a0 : Act) (L : Array Bool) (μ : Nat → Nat) (a : Act) : Prop where
  defers : a.defers = a0.defers
  size : a.tmps.size = a0.tmps.size
  got : ∀ (i : Nat) (it : It) (d : Tmp), its[i]? = some it → on L i = true → it.dst = some d → a.tmps[d]? = some (it.out.at μ) ∧ ∀ b, it.out.blk = some b → ∃ e : Bl, bl[b]? = some e ∧ e.live L = true
  rest : ∀ t : Tmp, (∀ (i : Nat) (it : It), its[i]? = some it → on L i = true → it.dst ≠ some t) → a.tmps[t]? = a0.tmps[t]?
def depB (o : Oper) (j : Nat) : Bool := o.after.any (fun e => Region.binds .any e && e.on == j)
/-- Who fills slot t, waits for operation i. -/
def freeB (ops : Array Oper) (its : List It) (i : Nat) (t : Tmp) : Bool := its.zipIdx.all (fun x => x.1.dst != some t || (match ops[x.2]? with | some o => depB o i | none => false))
def Known (ops : Array Oper) (i : Nat) (its : List It) (olds : List (Tmp × SV)) (need : List (Tmp × Nat)) (μ : Nat → Nat) (a : Act) : Prop :=
  (∀ (t : Tmp) (j : Nat) (it : It), (t, j) ∈ need → its[j]? = some it → a.eval (.tmp t) = it.out.at μ) ∧ (∀ (t : Tmp) (s : SV), (t, s) ∈ olds → freeB ops its i t = true → a.eval (.tmp t) = s.at μ)
/-- Operation i may read the block: nothing is stored into it, or by an operation that waits for i. -/
def readB (ops : Array Oper) (i : Nat) (e : Bl) : Bool := match e.st with | none => true | some s => match ops[s]? with | some o => depB o i | none => false
def Reads (ops : Array Oper) (i : Nat) (bl : List Bl) (μ : Nat → Nat) (w : World) : Prop := ∀ (b : Nat) (e : Bl), bl[b]? = some e → (e.al = none ∨ ∃ (o : Oper) (j : Nat), ops[i]? = some o ∧ e.al = some j ∧ depB o j = true) → readB ops i e = true → w.rangeAt (μ b) 0 e.before
def Does (P : Program) (Q : Exit → Act → World → Prop) (bl : List Bl) (o : Oper) (it : It) (μ : Nat → Nat) (a : Act) (w : World) (K : Act → World → Prop) : Kind → Prop
  | .stay => K (a.put o.dst (it.out.at μ)) w → o.wp P a w K Q
  | .pass => it.out = .v undef
  | .call => (∀ w', Below w.heap.size w w' → K (a.put o.dst (it.out.at μ)) w') → o.wp P a w K Q
  | .make b => ∀ e : Bl, bl[b]? = some e → (∀ (k : Nat) (w' : World), Made w k e.before w' → K (a.put o.dst (it.out.at (upd μ b k))) w') → o.wp P a w K Q
  | .put b => ∀ e : Bl, bl[b]? = some e → w.there (μ b) 0 e.before.length → w.rangeAt (μ b) 0 e.before → (∀ w', PutTo (μ b) e.before.length e.after w w' → K (a.put o.dst (it.out.at μ)) w') → o.wp P a w K Q
/-- An operation does what its row says. -/
def Cert (P : Program) (Q : Exit → Act → World → Prop) (w0 : World) (k0 : Nat) (X : List Nat) (ops : Array Oper) (i : Nat) (its : List It) (bl : List Bl) (olds : List (Tmp × SV)) (o : Oper) (it : It) : Prop :=
  ∀ (μ : Nat → Nat) (a : Act) (w : World) (K : Act → World → Prop), Known ops i its olds it.need μ a → Reads ops i bl μ w → BelX k0 X w0 w → Does P Q bl o it μ a w K it.kind
/-- The block of an address is there: operation o waits for its making, or has the address of an operation that it waits for. -/
def liveB (its : List It) (bl : List Bl) (o : Oper) (it : It) (b : Nat) : Bool :=
  (match bl[b]? with | some e => (match e.al with | none => true | some j => depB o j) | none => false) || it.need.any (fun x => depB o x.2 && (match its[x.2]? with | some jt => jt.dst.isSome && jt.out.blk == some b | none => false))
def kindB (its : List It) (bl : List Bl) (i : Nat) (o : Oper) (it : It) : Kind → Bool
  | .stay | .pass | .call => bl.all (fun e => e.al != some i && e.st != some i) && (match it.out.blk with | none => true | some b => liveB its bl o it b)
  | .make b => (match it.out.blk with | some c => c == b | none => false) && bl.zipIdx.all (fun x => x.1.st != some i && (x.1.al == some i) == (x.2 == b)) && (bl[b]?).isSome
  | .put b => (match it.out with | .v _ => true | _ => false) && bl.zipIdx.all (fun x => x.1.al != some i && (x.1.st == some i) == (x.2 == b)) && (match bl[b]? with | some e => (match e.al with | none => true | some j => depB o j) | none => false)
def Kind.isPass : Kind → Bool
  | .pass => true
  | _ => false
def guardB (its : List It) (o : Oper) (it : It) : Bool :=
  match o.guard with
  | none => !it.kind.isPass
  | some (j, want) => depB o j && (match its[j]? with | some jt => jt.dst.isSome && (match jt.out with | .v (.bool b) => (b == want) == !it.kind.isPass | _ => false) | none => false)
def okB (its : List It) (bl : List Bl) (i : Nat) (o : Oper) (it : It) : Bool :=
  (o.dst == it.dst) && guardB its o it && o.after.all (fun e => !Region.binds .any e || e.on < i) && it.need.all (fun tj => depB o tj.2 && ((its[tj.2]?).bind (·.dst)) == some tj.1) && kindB its bl i o it it.kind
def dstB : List It → Bool
  | [] => true
  | it :: r => (match it.dst with | none => true | some d => r.all (fun jt => jt.dst != some d)) && dstB r
def oldB (bl : List Bl) (olds : List (Tmp × SV)) : Bool :=
  olds.all (fun x => (match x.2.blk with | none => true | some b => match bl[b]? with | some e => e.al.isNone | none => false))
def allB (ops : Array Oper) (its : List It) (bl : List Bl) (olds : List (Tmp × SV)) (n : Nat) : Bool :=
  ops.size == its.length && dstB its && oldB bl olds && its.all (fun it => match it.dst with | none => true | some d => d < n) &&
  (List.range its.length).all (fun i => match ops[i]?, its[i]? with | some o, some it => okB its bl i o it | _, _ => false)
theorem dst_ne : ∀ {its : List It}, dstB its = true → ∀ (i j : Nat) (it jt : It) (d : Tmp), its[i]? = some it → its[j]? = some jt → it.dst = some d → jt.dst = some d → i = j
  | [], _, i, _, _, _, _, h, _, _, _ => by simp at h
  | x :: r, h, i, j, it, jt, d, hi, hj, di, dj => by
    simp only [dstB, Bool.and_eq_true] at h
    match i, j with
    | 0, 0 => rfl
    | 0, j + 1 =>
      simp only [List.getElem?_cons_zero, Option.some.injEq] at hi
      simp only [List.getElem?_cons_succ] at hj
      subst hi
      rw [di] at h
      have := List.all_eq_true.1 h.1 jt (List.mem_of_getElem? hj)
      rw [dj] at this
      simp at this
    | i + 1, 0 =>
      simp only [List.getElem?_cons_zero, Option.some.injEq] at hj
      simp only [List.getElem?_cons_succ] at hi
      subst hj
      rw [dj] at h
      have := List.all_eq_true.1 h.1 it (List.mem_of_getElem? hi)
      rw [di] at this
      simp at this
    | i + 1, j + 1 =>
      simp only [List.getElem?_cons_succ] at hi hj
      rw [dst_ne h.2 i j it jt d hi hj di dj]
theorem live_mono {e : Bl} {i : Nat} (hi : i < L.size) (h : e.live L = true) : e.live (L.setIfInBounds i true) = true := by rw [live_set hi, h, Bool.true_or]
theorem Ac.put {a : Act} {i : Nat} {it : It} (h : Ac its bl a0 L μ a) (hd : dstB its = true) (hi : i < L.size) (hit : its[i]? = some it) (hμ : ∀ (b : Nat) (e : Bl), bl[b]? = some e → e.live L = true → μ' b = μ b)
    (hin : ∀ d, it.dst = some d → d < a0.tmps.size) (hl : ∀ d, it.dst = some d → ∀ b, it.out.blk = some b → ∃ e : Bl, bl[b]? = some e ∧ e.live (L.setIfInBounds i true) = true)
    (v : Value) (hv : ∀ d, it.dst = some d → v = it.out.at μ') : Ac its bl a0 (L.setIfInBounds i true) μ' (a.put it.dst v) := by
  have hsame : ∀ (j : Nat) (jt : It) (d : Tmp), its[j]? = some jt → on L j = true → jt.dst = some d → a.tmps[d]? = some (jt.out.at μ') ∧ ∀ b, jt.out.blk = some b → ∃ e : Bl, bl[b]? = some e ∧ e.live (L.setIfInBounds i true) = true := fun j jt d hj ho hjd => by
    obtain ⟨h1, h2⟩ := h.got j jt d hj ho hjd
    refine ⟨?_, fun b hbo => ?_⟩
    · rw [h1]
      congr 1
      refine SV.at_congr fun b hb => ?_
      obtain ⟨e, he, hl⟩ := h2 b hb
      rw [hμ b e he hl]
    · obtain ⟨e, he, hl⟩ := h2 b hbo
      exact ⟨e, he, live_mono hi hl⟩
  cases hdst : it.dst with
  | none =>
    show Ac its bl a0 _ μ' a
    refine ⟨h.defers, h.size, fun j jt d hj ho hjd => ?_, fun t ht => h.rest t fun j jt hj ho => ht j jt hj (by rw [on_set hi, ho, Bool.true_or])⟩
    rw [on_set hi] at ho
    by_cases hij : i = j
    · subst hij
      rw [hit] at hj
      obtain rfl : it = jt := Option.some.inj hj
      rw [hdst] at hjd
      cases hjd
    · exact hsame j jt d hj (by simpa [hij] using ho) hjd
  | some d0 =>
    have hd0 := hin d0 hdst
    refine ⟨h.defers, ?_, fun j jt d hj ho hjd => ?_, fun t ht => ?_⟩
    · show (a.tmps.setIfInBounds d0 v).size = _
      rw [Array.size_setIfInBounds]; exact h.size
    · show (a.tmps.setIfInBounds d0 v)[d]? = _ ∧ _
      rw [Array.getElem?_setIfInBounds]
      rw [on_set hi] at ho
      by_cases hij : i = j
      · subst hij
        rw [hit] at hj
        obtain rfl : it = jt := Option.some.inj hj
        rw [hdst] at hjd
        obtain rfl : d0 = d := Option.some.inj hjd
        rw [if_pos rfl, if_pos (by rw [h.size]; exact hd0), hv d0 hdst]
        exact ⟨rfl, hl d0 hdst⟩
      · have hne : d0 ≠ d := fun hdd => hij (dst_ne hd i j it jt d0 hit hj hdst (hdd ▸ hjd))
        rw [if_neg hne]
        exact hsame j jt d hj (by simpa [hij] using ho) hjd
    · show (a.tmps.setIfInBounds d0 v)[t]? = _
      have hne : d0 ≠ t := fun hdt => ht i it hit (by rw [on_set hi]; simp) (by rw [hdst, hdt])
      rw [Array.getElem?_setIfInBounds, if_neg hne]
      exact h.rest t fun j jt hj ho => ht j jt hj (by rw [on_set hi, ho, Bool.true_or])
structure Inv (ops : Array Oper) (its : List It) (bl : List Bl) (a0 : Act) (w0 : World) (k0 : Nat) (X : List Nat) (μ0 : Nat → Nat) (L : Array Bool) (a : Act) (w : World) : Prop where
  size : L.size = its.length
  cl : ∀ (i : Nat) (o : Oper), ops[i]? = some o → on L i = true → ∀ e ∈ o.after, Region.binds .any e = true → on L e.on = true
  all : ∃ μ, (∀ (b : Nat) (e : Bl), bl[b]? = some e → e.al = none → μ b = μ0 b) ∧ Ac its bl a0 L μ a ∧ Wd w0 k0 X bl L μ w ∧ ∀ (b : Nat) (e : Bl), bl[b]? = some e → e.put L = true → e.live L = true
theorem wanted_none {o : Oper} (h : o.guard = none) (y : Nat → Option Bool) : Region.wanted o y = true := by unfold Region.wanted; rw [h]
theorem zip_all {p : Bl × Nat → Bool} (h : bl.zipIdx.all p = true) (b : Nat) (e : Bl) (hb : bl[b]? = some e) : p (e, b) = true :=
  List.all_eq_true.1 h (e, b) (by rw [List.mem_zipIdx_iff_getElem?]; exact hb)
theorem two {s t : Option Nat} {i c b : Nat} (h : (s != some i && (t == some i) == (c == b)) = true) : s ≠ some i ∧ (t = some i ↔ c = b) := by
  rw [Bool.and_eq_true] at h
  refine ⟨by simpa using h.1, ?_⟩
  have h2 : (t == some i) = (c == b) := by simpa using h.2
  constructor
  · intro ht
    rw [ht] at h2
    simpa using h2.symm
  · intro hc
    rw [hc] at h2
    simpa using h2
/-- One operation. -/
theorem step {i : Nat} {o : Oper} {it : It} {a : Act} (hd : dstB its = true) (ho : ops[i]? = some o) (hit : its[i]? = some it) (hok : okB its bl i o it = true) (hin : ∀ d, it.dst = some d → d < a0.tmps.size)
    (holds : ∀ (t : Tmp) (s : SV), (t, s) ∈ olds → a0.tmps[t]? = some (s.at μ0) ∧ ∀ b, s.blk = some b → ∃ e : Bl, bl[b]? = some e ∧ e.al = none)
    (hdops : ∀ (j : Nat) (oj : Oper) (jt : It), ops[j]? = some oj → its[j]? = some jt → oj.dst = jt.dst) (hops : ops.size = its.length) (hc : Cert P Q w0 k0 X ops i its bl olds o it) (hun : on L i = false) (hdep : ∀ e ∈ o.after, Region.binds .any e = true → on L e.on = true) (h : Inv ops its bl a0 w0 k0 X μ0 L a w) :
    wpOp P ops Q i (Inv ops its bl a0 w0 k0 X μ0 (L.setIfInBounds i true)) a w := by
  obtain ⟨hsz, hcl, μ, hμ, hA, hW, hO⟩ := h
  have hi : i < L.size := by rw [hsz]; exact (List.getElem?_eq_some_iff.1 hit).1
  simp only [okB, Bool.and_eq_true] at hok
  obtain ⟨⟨⟨⟨hdst, hg⟩, haft⟩, hneed⟩, hkind⟩ := hok
  have hdst' : o.dst = it.dst := by simpa using hdst
  have hdepB : ∀ j, depB o j = true → on L j = true := fun j hj => by
    obtain ⟨e, he, hb⟩ := Array.any_eq_true'.1 hj
    simp only [Bool.and_eq_true, beq_iff_eq] at hb
    rw [← hb.2]
    exact hdep e he hb.1
  have hwant : Region.wanted o (yielded ops a.tmps) = !it.kind.isPass := by
    unfold Region.wanted
    unfold guardB at hg
    cases hgd : o.guard with
    | none => rw [hgd] at hg; dsimp only at hg ⊢; rw [hg]
    | some jw =>
      obtain ⟨j, want⟩ := jw
      rw [hgd] at hg
      dsimp only at hg ⊢
      rw [Bool.and_eq_true] at hg
      cases hj : its[j]? with
      | none => rw [hj] at hg; cases hg.2
      | some jt =>
        rw [hj] at hg
        obtain ⟨h1, h2⟩ := hg
        dsimp only at h2
        rw [Bool.and_eq_true] at h2
        obtain ⟨d, hdj⟩ := Option.isSome_iff_exists.1 h2.1
        have hjl : j < its.length := (List.getElem?_eq_some_iff.1 hj).1
        have hoj : ops[j]? = some (ops[j]'(by rw [hops]; exact hjl)) := Array.getElem?_eq_getElem _
        have h3 := (hA.got j jt d hj (hdepB j h1) hdj).1
        have h4 : yielded ops a.tmps j = match jt.out.at μ with | .bool b => some b | _ => none := by
          unfold yielded
          rw [hoj]
          show (match (ops[j]'(by rw [hops]; exact hjl)).dst.bind (a.tmps[·]?) with | some (.bool b) => some b | _ => none) = _
          rw [hdops j _ jt hoj hj, hdj]
          show (match a.tmps[d]? with | some (.bool b) => some b | _ => none) = _
          rw [h3]
          cases jt.out.at μ <;> rfl
        rw [h4]
        have h5 := h2.2
        cases hout : jt.out with
        | p b x => rw [hout] at h5; cases h5
        | s b x y => rw [hout] at h5; cases h5
        | t b x y z => rw [hout] at h5; cases h5
        | v x =>
          rw [hout] at h5
          cases x with
          | bool b =>
            show (some b == some want) = _
            dsimp only at h5
            have : (b == want) = !it.kind.isPass := by simpa using h5
            rw [← this]
            cases b <;> cases want <;> rfl
          | _ => cases h5
  have hK : Known ops i its olds it.need μ a := by
    refine ⟨fun t j jt hm hj => ?_, fun t s hm hfree => ?_⟩
    · have h1 := List.all_eq_true.1 hneed (t, j) hm
      simp only [Bool.and_eq_true, hj] at h1
      have h2 : jt.dst = some t := by simpa using h1.2
      have h3 := (hA.got j jt t hj (hdepB j h1.1) h2).1
      show a.tmps.getD t undef = _
      rw [Array.getD_eq_getD_getElem?, h3]
      rfl
    · obtain ⟨h2, h3⟩ := holds t s hm
      have h4 := hA.rest t (fun j jt hj hon hdj => by
        have h5 := List.all_eq_true.1 hfree (jt, j) (by rw [List.mem_zipIdx_iff_getElem?]; exact hj)
        dsimp only at h5
        rw [hdj] at h5
        cases hoj : ops[j]? with
        | none => rw [hoj] at h5; simp at h5
        | some oj =>
          rw [hoj] at h5
          have h6 : depB oj i = true := by simpa using h5
          obtain ⟨e', he', hb'⟩ := Array.any_eq_true'.1 h6
          simp only [Bool.and_eq_true, beq_iff_eq] at hb'
          have := hcl j oj hoj hon e' he' hb'.1
          rw [hb'.2, hun] at this
          cases this)
      show a.tmps.getD t undef = _
      rw [Array.getD_eq_getD_getElem?, h4, h2]
      show s.at μ0 = s.at μ
      refine SV.at_congr fun b hb => ?_
      obtain ⟨e, he, hal⟩ := h3 b hb
      rw [hμ b e he hal]
  have hR : Reads ops i bl μ w := fun b e hb hal hst => by
    have := (hW.has b e hb (by
      unfold Bl.live
      rcases hal with hal | ⟨o', j, ho', hal, hd⟩
      · rw [hal]; rfl
      · rw [hal]
        show on L j = true
        rw [ho] at ho'
        obtain rfl := Option.some.inj ho'
        exact hdepB j hd)).1
    unfold Bl.now Bl.put at this
    unfold readB at hst
    cases hs : e.st with
    | none => rw [hs] at this; exact this
    | some s =>
      rw [hs] at this hst
      dsimp only at hst
      cases hos : ops[s]? with
      | none => rw [hos] at hst; cases hst
      | some os =>
        rw [hos] at hst
        have hns : on L s = false := by
          cases hon : on L s with
          | false => rfl
          | true =>
            obtain ⟨e', he', hb'⟩ := Array.any_eq_true'.1 hst
            simp only [Bool.and_eq_true, beq_iff_eq] at hb'
            have := hcl s os hos hon e' he' hb'.1
            rw [hb'.2, hun] at this
            cases this
        rw [show (Option.map (on L) (some s)).getD false = on L s from rfl, hns] at this
        exact this
  have hlive : ∀ b, liveB its bl o it b = true → ∃ e : Bl, bl[b]? = some e ∧ e.live L = true := fun b hb => by
    unfold liveB at hb
    rw [Bool.or_eq_true] at hb
    rcases hb with h2 | h2
    · cases he : bl[b]? with
      | none => rw [he] at h2; cases h2
      | some e =>
        rw [he] at h2
        dsimp only at h2
        refine ⟨e, rfl, ?_⟩
        unfold Bl.live
        cases hal : e.al with
        | none => rfl
        | some j => rw [hal] at h2; exact hdepB j h2
    · obtain ⟨x, hx, h3⟩ := List.any_eq_true.1 h2
      rw [Bool.and_eq_true] at h3
      cases hj : its[x.2]? with
      | none => rw [hj] at h3; cases h3.2
      | some jt =>
        rw [hj] at h3
        dsimp only at h3
        rw [Bool.and_eq_true] at h3
        obtain ⟨d, hd2⟩ := Option.isSome_iff_exists.1 h3.2.1
        exact (hA.got x.2 jt d hj (hdepB x.2 h3.1) hd2).2 b (by simpa using h3.2.2)
  have hcl' : ∀ (j : Nat) (oj : Oper), ops[j]? = some oj → on (L.setIfInBounds i true) j = true → ∀ e ∈ oj.after, Region.binds .any e = true → on (L.setIfInBounds i true) e.on = true := fun j oj hoj hon e he hb => by
    rw [on_set hi] at hon ⊢
    by_cases hij : i = j
    · subst hij
      rw [ho] at hoj
      obtain rfl : o = oj := Option.some.inj hoj
      rw [hdep e he hb, Bool.true_or]
    · rw [hcl j oj hoj (by simpa [hij] using hon) e he hb, Bool.true_or]
  have hsz' : (L.setIfInBounds i true).size = its.length := by rw [Array.size_setIfInBounds]; exact hsz
  have hC := hc μ a w (Inv ops its bl a0 w0 k0 X μ0 (L.setIfInBounds i true)) hK hR hW.bel
  unfold wpOp
  rw [ho]
  dsimp only
  rw [hwant]
  cases hk : it.kind with
  | pass =>
    rw [hk] at hC hkind
    simp only [kindB, Bool.and_eq_true] at hkind
    have hne : ∀ (b : Nat) (e : Bl), bl[b]? = some e → e.al ≠ some i ∧ e.st ≠ some i := fun b e hb => by simpa using List.all_eq_true.1 hkind.1 e (List.mem_of_getElem? hb)
    have hsame : ∀ (b : Nat) (e : Bl), bl[b]? = some e → e.live (L.setIfInBounds i true) = e.live L ∧ e.put (L.setIfInBounds i true) = e.put L := fun b e hb =>
      ⟨by rw [live_set hi, show (e.al == some i) = false by simpa using (hne b e hb).1, Bool.or_false], by rw [put_set hi, show (e.st == some i) = false by simpa using (hne b e hb).2, Bool.or_false]⟩
    show Inv ops its bl a0 w0 k0 X μ0 (L.setIfInBounds i true) (a.put o.dst undef) w
    refine ⟨hsz', hcl', μ, hμ, ?_, hW.same hsame, fun b e hb => by rw [(hsame b e hb).1, (hsame b e hb).2]; exact hO b e hb⟩
    rw [hdst']
    have hout : it.out = .v undef := hC
    refine hA.put hd hi hit (fun _ _ _ _ => rfl) hin (fun _ _ b hbx => ?_) _ (fun _ _ => by rw [hout]; rfl)
    rw [hout] at hbx
    cases hbx
  | stay =>
    rw [hk] at hC hkind
    simp only [kindB, Bool.and_eq_true] at hkind
    show o.wp P a w _ Q ∨ _
    left
    refine hC ?_
    have hne : ∀ (b : Nat) (e : Bl), bl[b]? = some e → e.al ≠ some i ∧ e.st ≠ some i := fun b e hb => by simpa using List.all_eq_true.1 hkind.1 e (List.mem_of_getElem? hb)
    have hsame : ∀ (b : Nat) (e : Bl), bl[b]? = some e → e.live (L.setIfInBounds i true) = e.live L ∧ e.put (L.setIfInBounds i true) = e.put L := fun b e hb =>
      ⟨by rw [live_set hi, show (e.al == some i) = false by simpa using (hne b e hb).1, Bool.or_false], by rw [put_set hi, show (e.st == some i) = false by simpa using (hne b e hb).2, Bool.or_false]⟩
    refine ⟨hsz', hcl', μ, hμ, ?_, hW.same hsame, fun b e hb => by rw [(hsame b e hb).1, (hsame b e hb).2]; exact hO b e hb⟩
    rw [hdst']
    refine hA.put hd hi hit (fun _ _ _ _ => rfl) hin (fun _ _ b hbx => ?_) _ (fun _ _ => rfl)
    have h2 := hkind.2
    rw [hbx] at h2
    obtain ⟨e, he, hl⟩ := hlive b h2
    exact ⟨e, he, live_mono hi hl⟩
  | call =>
    rw [hk] at hC hkind
    simp only [kindB, Bool.and_eq_true] at hkind
    show o.wp P a w _ Q ∨ _
    left
    refine hC fun w' hb' => ?_
    have hne : ∀ (b : Nat) (e : Bl), bl[b]? = some e → e.al ≠ some i ∧ e.st ≠ some i := fun b e hb => by simpa using List.all_eq_true.1 hkind.1 e (List.mem_of_getElem? hb)
    have hsame : ∀ (b : Nat) (e : Bl), bl[b]? = some e → e.live (L.setIfInBounds i true) = e.live L ∧ e.put (L.setIfInBounds i true) = e.put L := fun b e hb =>
      ⟨by rw [live_set hi, show (e.al == some i) = false by simpa using (hne b e hb).1, Bool.or_false], by rw [put_set hi, show (e.st == some i) = false by simpa using (hne b e hb).2, Bool.or_false]⟩
    refine ⟨hsz', hcl', μ, hμ, ?_, (hW.call hb').same hsame, fun b e hb => by rw [(hsame b e hb).1, (hsame b e hb).2]; exact hO b e hb⟩
    rw [hdst']
    refine hA.put hd hi hit (fun _ _ _ _ => rfl) hin (fun _ _ b hbx => ?_) _ (fun _ _ => rfl)
    have h2 := hkind.2
    rw [hbx] at h2
    obtain ⟨e, he, hl⟩ := hlive b h2
    exact ⟨e, he, live_mono hi hl⟩
  | make b =>
    rw [hk] at hC hkind
    simp only [kindB, Bool.and_eq_true] at hkind
    obtain ⟨⟨hout, hz⟩, hb0⟩ := hkind
    obtain ⟨e, hbe⟩ := Option.isSome_iff_exists.1 hb0
    have ha : e.al = some i := (two (zip_all hz b e hbe)).2.2 rfl
    have hstn : ∀ (c : Nat) (f : Bl), bl[c]? = some f → f.st ≠ some i := fun c f hc => (two (zip_all hz c f hc)).1
    have haln : ∀ (c : Nat) (f : Bl), bl[c]? = some f → c ≠ b → f.al ≠ some i := fun c f hc hcb h => hcb ((two (zip_all hz c f hc)).2.1 h)
    have hlv : e.live L = false := by unfold Bl.live; rw [ha]; exact hun
    have hpt : e.put L = false := by
      cases hp : e.put L with
      | false => rfl
      | true => have := hO b e hbe hp; rw [hlv] at this; cases this
    have hout' : it.out.blk = some b := by
      cases hoo : it.out.blk with
      | none => rw [hoo] at hout; cases hout
      | some c =>
        rw [hoo] at hout
        rw [show c = b by simpa using hout]
    show o.wp P a w _ Q ∨ _
    left
    refine hC e hbe fun k w' hm => ?_
    have hμb : ∀ (c : Nat) (f : Bl), bl[c]? = some f → f.live L = true → upd μ b k c = μ c := fun c f hc hl => by
      unfold upd
      rw [if_neg]
      rintro rfl
      rw [hbe] at hc
      obtain rfl : e = f := Option.some.inj hc
      rw [hlv] at hl
      cases hl
    refine ⟨hsz', hcl', upd μ b k, fun c f hc hal => ?_, ?_, hW.make hi hbe ha haln hstn hpt hm, fun c f hc => ?_⟩
    · rw [hμb c f hc (by unfold Bl.live; rw [hal]; rfl)]
      exact hμ c f hc hal
    · rw [hdst']
      refine hA.put hd hi hit hμb hin (fun _ _ c hcx => ?_) _ (fun _ _ => rfl)
      rw [hout'] at hcx
      have h1 : b = c := Option.some.inj hcx
      subst h1
      exact ⟨e, hbe, by rw [live_set hi, ha]; simp⟩
    · rw [put_set hi, show (f.st == some i) = false by simpa using hstn c f hc, Bool.or_false]
      exact fun hp => live_mono hi (hO c f hc hp)
  | put b =>
    rw [hk] at hC hkind
    simp only [kindB, Bool.and_eq_true] at hkind
    obtain ⟨⟨hdn, hz⟩, hb0⟩ := hkind
    cases hbe : bl[b]? with
    | none => rw [hbe] at hb0; cases hb0
    | some e =>
      rw [hbe] at hb0
      dsimp only at hb0
      have hs : e.st = some i := (two (zip_all hz b e hbe)).2.2 rfl
      have haln : ∀ (c : Nat) (f : Bl), bl[c]? = some f → f.al ≠ some i := fun c f hc => (two (zip_all hz c f hc)).1
      have hstn : ∀ (c : Nat) (f : Bl), bl[c]? = some f → c ≠ b → f.st ≠ some i := fun c f hc hcb h => hcb ((two (zip_all hz c f hc)).2.1 h)
      have hlv : e.live L = true := by
        unfold Bl.live
        cases hal : e.al with
        | none => rfl
        | some j =>
          have h2 := hb0
          rw [hal] at h2
          exact hdepB j h2
      show o.wp P a w _ Q ∨ _
      left
      have hpn : e.put L = false := by unfold Bl.put; rw [hs]; exact hun
      have hnow : e.now L = e.before := by unfold Bl.now; rw [hpn]; rfl
      refine hC e hbe (hW.has b e hbe hlv).2.1 (hnow ▸ (hW.has b e hbe hlv).1) fun w' hPT => ?_
      refine ⟨hsz', hcl', μ, hμ, ?_, hW.put hi hbe hs hlv hPT hstn haln, fun c f hc hp => ?_⟩
      · rw [hdst']
        refine hA.put hd hi hit (fun _ _ _ _ => rfl) hin (fun d hdd c hcx => ?_) _ (fun d hdd => rfl)
        cases hoo : it.out with
        | v x => rw [hoo] at hcx; cases hcx
        | p x y => rw [hoo] at hdn; cases hdn
        | s x y z => rw [hoo] at hdn; cases hdn
        | t x y z u => rw [hoo] at hdn; cases hdn
      · rw [live_set hi, show (f.al == some i) = false by simpa using haln c f hc, Bool.or_false]
        rw [put_set hi] at hp
        by_cases hcb : c = b
        · subst hcb
          rw [hbe] at hc
          obtain rfl : e = f := Option.some.inj hc
          exact hlv
        · rw [show (f.st == some i) = false by simpa using hstn c f hc hcb, Bool.or_false] at hp
          exact hO c f hc hp
end Go.Proofs.Ytboigmhioojenaa.RG
namespace Go.Proofs.Ytboigmhioojenaa.RG
open Go Go.RowKit
variable {P : Program} {ops : Array Oper} {Q : Exit → Act → World → Prop} {w0 w : World} {k0 : Nat} {X : List Nat} {its : List It} {bl : List Bl} {olds : List (Tmp × SV)} {a0 : Act} {L : Array Bool} {μ μ0 : Nat → Nat}
def puts (μ : Nat → Nat) : List It → Act → Act
  | [], a => a
  | it :: r, a => puts μ r (a.put it.dst (it.out.at μ))
theorem puts_defers (μ : Nat → Nat) : ∀ (its : List It) (a : Act), (puts μ its a).defers = a.defers
  | [], _ => rfl
  | it :: r, a => by
    rw [puts, puts_defers μ r]
    cases it.dst <;> rfl
theorem put_size (a : Act) (d : Option Tmp) (v : Value) : (a.put d v).tmps.size = a.tmps.size := by
  cases d with
  | none => rfl
  | some d => exact Array.size_setIfInBounds ..
theorem puts_size (μ : Nat → Nat) : ∀ (its : List It) (a : Act), (puts μ its a).tmps.size = a.tmps.size
  | [], _ => rfl
  | it :: r, a => by rw [puts, puts_size μ r, put_size]
theorem put_other (a : Act) {d : Option Tmp} (v : Value) {t : Tmp} (h : d ≠ some t) : (a.put d v).tmps[t]? = a.tmps[t]? := by
  cases d with
  | none => rfl
  | some d =>
    show (a.tmps.setIfInBounds d v)[t]? = _
    rw [Array.getElem?_setIfInBounds, if_neg (fun e => h (by rw [e]))]
theorem puts_other (μ : Nat → Nat) : ∀ (its : List It) (a : Act) (t : Tmp), (∀ it ∈ its, it.dst ≠ some t) → (puts μ its a).tmps[t]? = a.tmps[t]?
  | [], _, _, _ => rfl
  | it :: r, a, t, h => by
    rw [puts, puts_other μ r _ t (fun x hx => h x (List.mem_cons_of_mem _ hx)), put_other a _ (h it List.mem_cons_self)]
theorem puts_same (μ : Nat → Nat) : ∀ (its : List It) (a : Act) (i : Nat) (it : It) (d : Tmp), dstB its = true → its[i]? = some it → it.dst = some d → d < a.tmps.size → (puts μ its a).tmps[d]? = some (it.out.at μ)
  | [], _, i, _, _, _, h, _, _ => by simp at h
  | x :: r, a, 0, it, d, hB, h, hd, hs => by
    obtain rfl : x = it := by simpa using h
    simp only [dstB, Bool.and_eq_true, hd] at hB
    rw [puts, puts_other μ r _ d (fun y hy => by simpa using List.all_eq_true.1 hB.1 y hy), hd]
    show (a.tmps.setIfInBounds d _)[d]? = _
    rw [Array.getElem?_setIfInBounds, if_pos rfl, if_pos hs]
  | x :: r, a, i + 1, it, d, hB, h, hd, hs => by
    simp only [dstB, Bool.and_eq_true] at hB
    rw [puts]
    exact puts_same μ r _ i it d hB.2 (by simpa using h) hd (by rw [put_size]; exact hs)
theorem Act.ext' {a b : Act} (h1 : a.tmps = b.tmps) (h2 : a.defers = b.defers) : a = b := by
  cases a; cases b; subst h1; subst h2; rfl
theorem Ac.done {a : Act} (h : Ac its bl a0 L μ a) (hB : dstB its = true) (hin : ∀ it ∈ its, ∀ d, it.dst = some d → d < a0.tmps.size) (hall : ∀ i, i < its.length → on L i = true) : a = puts μ its a0 := by
  refine Act.ext' ?_ (by rw [puts_defers]; exact h.defers)
  apply Array.ext_getElem?
  intro t
  by_cases ht : ∃ (i : Nat) (it : It), its[i]? = some it ∧ it.dst = some t
  · obtain ⟨i, it, hi, hd⟩ := ht
    rw [(h.got i it t hi (hall i (List.getElem?_eq_some_iff.1 hi).1) hd).1, puts_same μ its a0 i it t hB hi hd (hin it (List.mem_of_getElem? hi) t hd)]
  · rw [h.rest t (fun i it hi _ hd => ht ⟨i, it, hi, hd⟩), puts_other μ its a0 t (fun it hm hd => ?_)]
    obtain ⟨i, hi⟩ := List.getElem?_of_mem hm
    exact ht ⟨i, it, hi, hd⟩
def unl (L : Array Bool) : Nat := L.toList.countP (fun b => !b)
theorem count_set : ∀ (l : List Bool) (i : Nat), l[i]? = some false → (l.set i true).countP (fun b => !b) + 1 = l.countP (fun b => !b)
  | [], i, h => by simp at h
  | x :: r, 0, h => by
    obtain rfl : x = false := by simpa using h
    simp
  | x :: r, i + 1, h => by
    have := count_set r i (by simpa using h)
    rw [List.set_cons_succ, List.countP_cons, List.countP_cons]
    omega
theorem unl_set {i : Nat} (h : L.getD i true = false) : unl (L.setIfInBounds i true) + 1 = unl L := by
  unfold unl
  rw [Array.toList_setIfInBounds]
  refine count_set _ _ ?_
  rw [Array.getElem?_toList]
  rw [Array.getD_eq_getD_getElem?] at h
  cases hh : L[i]? with
  | none => rw [hh] at h; cases h
  | some b => rw [hh] at h; rw [show b = false from h]
theorem unl_zero (h : unl L = 0) (i : Nat) (hi : i < L.size) : on L i = true := by
  have h1 := List.countP_eq_zero.1 h
  have h2 := h1 L[i] (by simp)
  unfold on
  rw [Array.getD_eq_getD_getElem?, Array.getElem?_eq_getElem hi]
  simpa using h2
/-- All that is asked of a region's rows. -/
structure Reg (P : Program) (ops : Array Oper) (Q : Exit → Act → World → Prop) (w0 : World) (k0 : Nat) (X : List Nat) (its : List It) (bl : List Bl) (olds : List (Tmp × SV)) (a0 : Act) (μ0 : Nat → Nat) : Prop where
  chk : allB ops its bl olds a0.tmps.size = true
  old : ∀ (t : Tmp) (s : SV), (t, s) ∈ olds → a0.tmps[t]? = some (s.at μ0)
  cert : ∀ (i : Nat) (o : Oper) (it : It), ops[i]? = some o → its[i]? = some it → Cert P Q w0 k0 X ops i its bl olds o it
theorem Reg.step {i : Nat} {o : Oper} {a : Act} (R : Reg P ops Q w0 k0 X its bl olds a0 μ0) (ho : ops[i]? = some o) (hun : on L i = false) (hdep : ∀ e ∈ o.after, Region.binds .any e = true → on L e.on = true) (h : Inv ops its bl a0 w0 k0 X μ0 L a w) :
    wpOp P ops Q i (Inv ops its bl a0 w0 k0 X μ0 (L.setIfInBounds i true)) a w := by
  have hk := R.chk
  simp only [allB, Bool.and_eq_true, beq_iff_eq] at hk
  obtain ⟨⟨⟨⟨hsz, hd⟩, hold⟩, hin⟩, hok⟩ := hk
  have hi : i < its.length := by rw [← hsz]; exact (Array.getElem?_eq_some_iff.1 ho).1
  obtain ⟨it, hit⟩ : ∃ it, its[i]? = some it := ⟨its[i], List.getElem?_eq_getElem hi⟩
  have h1 := List.all_eq_true.1 hok i (List.mem_range.2 hi)
  rw [ho, hit] at h1
  refine RG.step (olds := olds) hd ho hit h1 (fun d hdd => ?_) (fun t s hm => ?_) (fun j oj jt hoj hjt => ?_) hsz (R.cert i o it ho hit) hun hdep h
  · have := List.all_eq_true.1 hin it (List.mem_of_getElem? hit)
    rw [hdd] at this
    simpa using this
  · have h2 := List.all_eq_true.1 hold (t, s) hm
    refine ⟨R.old t s hm, fun b hbx => ?_⟩
    have h3 := h2
    dsimp only at h3
    rw [hbx] at h3
    dsimp only at h3
    cases he : bl[b]? with
    | none => rw [he] at h3; cases h3
    | some e => rw [he] at h3; exact ⟨e, rfl, by simpa using h3⟩
  · have h4 := List.all_eq_true.1 hok j (List.mem_range.2 (List.getElem?_eq_some_iff.1 hjt).1)
    rw [hoj, hjt] at h4
    simp only [okB, Bool.and_eq_true] at h4
    simpa using h4.1.1.1.1
theorem Reg.back {i : Nat} {o : Oper} (R : Reg P ops Q w0 k0 X its bl olds a0 μ0) (ho : ops[i]? = some o) : i < its.length ∧ ∀ e ∈ o.after, Region.binds .any e = true → e.on < i := by
  have hk := R.chk
  simp only [allB, Bool.and_eq_true, beq_iff_eq] at hk
  obtain ⟨⟨⟨⟨hsz, hd⟩, hold⟩, hin⟩, hok⟩ := hk
  have hi : i < its.length := by rw [← hsz]; exact (Array.getElem?_eq_some_iff.1 ho).1
  have h1 := List.all_eq_true.1 hok i (List.mem_range.2 hi)
  rw [ho, List.getElem?_eq_getElem hi] at h1
  simp only [okB, Bool.and_eq_true] at h1
  refine ⟨hi, fun e he hb => ?_⟩
  have := Array.all_eq_true'.1 h1.1.1.2 e he
  simpa [hb] using this
theorem Reg.size (R : Reg P ops Q w0 k0 X its bl olds a0 μ0) : ops.size = its.length := by
  have hk := R.chk
  simp only [allB, Bool.and_eq_true, beq_iff_eq] at hk
  exact hk.1.1.1.1
theorem Reg.full {a : Act} (R : Reg P ops Q w0 k0 X its bl olds a0 μ0) (h : Inv ops its bl a0 w0 k0 X μ0 L a w) (hr : Region.ready .any ops L = []) : ∀ i, i < its.length → on L i = true := by
  intro i
  induction i using Nat.strongRecOn with
  | ind i ih =>
    intro hi
    have ho : ops[i]? = some (ops[i]'(by rw [R.size]; exact hi)) := Array.getElem?_eq_getElem _
    cases hon : on L i with
    | true => rfl
    | false =>
      have : i ∈ Region.ready .any ops L := mem_ready.2 ⟨?_, _, ho, fun e he hb => ?_⟩
      · rw [hr] at this; cases this
      · unfold on at hon
        rw [Array.getD_eq_getD_getElem?, Array.getElem?_eq_getElem (by rw [h.size]; exact hi)] at hon ⊢
        exact hon
      · have hlt := (R.back ho).2 e he hb
        exact ih e.on hlt (Nat.lt_trans hlt hi)
/-- Blocks and what lies in them. -/
def ad (ks : List Nat) (b : Nat) : Nat := ks.getD b 0
structure St (w0 : World) (k0 : Nat) (X : List Nat) (cs : List (List Value)) (ks : List Nat) (w : World) : Prop where
  bel : BelX k0 X w0 w
  le : k0 ≤ w.heap.size
  len : ks.length = cs.length
  has : ∀ (b : Nat) (c : List Value), cs[b]? = some c → w.rangeAt (ad ks b) 0 c ∧ w.there (ad ks b) 0 c.length ∧ ad ks b < w.heap.size ∧ (k0 ≤ ad ks b ∨ ad ks b ∈ X)
  inj : ∀ (b c : Nat), b < cs.length → c < cs.length → b ≠ c → ad ks b ≠ ad ks c
theorem St.drew {cs : List (List Value)} {ks : List Nat} (h : St w0 k0 X cs ks w) : St w0 k0 X cs ks w.drew := ⟨h.bel.drew, h.le, h.len, h.has, h.inj⟩
def Bl.fin (e : Bl) : List Value := if e.st.isSome = true then e.after else e.before
def startB (bl : List Bl) (n : Nat) : Bool := bl.zipIdx.all (fun x => x.1.al.isNone == decide (x.2 < n)) && decide (n ≤ bl.length)
theorem start_inv {ops : Array Oper} {cs : List (List Value)} {ks : List Nat} (hS : St w0 k0 X cs ks w) (hB : startB bl cs.length = true) (hcs : (bl.map (·.before)).take cs.length = cs) :
    Inv ops its bl a0 w0 k0 X (ad ks) (Array.replicate its.length false) a0 w := by
  simp only [startB, Bool.and_eq_true] at hB
  have hoff : ∀ i, on (Array.replicate its.length false) i = false := fun i => by
    unfold on
    rw [Array.getD_eq_getD_getElem?, Array.getElem?_replicate]
    by_cases h : i < its.length
    · rw [if_pos h]; rfl
    · rw [if_neg h]; rfl
  have hlive : ∀ (b : Nat) (e : Bl), bl[b]? = some e → e.live (Array.replicate its.length false) = true → b < cs.length := fun b e hb hl => by
    have h1 := zip_all hB.1 b e hb
    unfold Bl.live at hl
    cases ha : e.al with
    | none => simpa [ha] using h1
    | some j => rw [ha] at hl; have : on (Array.replicate its.length false) j = true := hl; rw [hoff] at this; cases this
  have hput : ∀ e : Bl, e.put (Array.replicate its.length false) = false := fun e => by
    unfold Bl.put
    cases e.st with
    | none => rfl
    | some j => exact hoff j
  have hget : ∀ (b : Nat) (e : Bl), bl[b]? = some e → b < cs.length → cs[b]? = some e.before := fun b e hb hlt => by
    rw [← hcs, List.getElem?_take, if_pos hlt, List.getElem?_map, hb]
    rfl
  refine ⟨Array.size_replicate, (fun i o _ h => by rw [hoff] at h; cases h), ad ks, fun _ _ _ _ => rfl, ⟨rfl, rfl, fun i it d hi ho => ?_, fun _ _ => rfl⟩, ⟨hS.bel, hS.le, fun b e hb hl => ?_, fun b c e f hb hc he hf hbc => hS.inj b c (hlive b e hb he) (hlive c f hc hf) hbc⟩, fun b e hb hp => ?_⟩
  · rw [hoff] at ho; cases ho
  · unfold Bl.now
    rw [hput e]
    exact hS.has b e.before (hget b e hb (hlive b e hb hl))
  · rw [hput e] at hp; cases hp
theorem Inv.done {a : Act} {cs : List (List Value)} {ks : List Nat} (R : Reg P ops Q w0 k0 X its bl olds a0 (ad ks)) (h : Inv ops its bl a0 w0 k0 X (ad ks) L a w) (hlen : ks.length = cs.length) (hB : startB bl cs.length = true) (hall : ∀ i, i < its.length → on L i = true)
    (hst : ∀ e ∈ bl, ∀ j, e.al = some j ∨ e.st = some j → j < its.length) (hlenb : ∀ e ∈ bl, e.fin.length = e.before.length)
    (hp : ∀ (new : List Nat) (w' : World), new.length = bl.length - cs.length → St w0 k0 X (bl.map Bl.fin) (ks ++ new) w' → Q .normal (puts (ad (ks ++ new)) its a0) w') : Q .normal a w := by
  obtain ⟨hsz, -, μ, hμ, hA, hW, hO⟩ := h
  have hk := R.chk
  simp only [allB, Bool.and_eq_true, beq_iff_eq] at hk
  obtain ⟨⟨⟨⟨hsz2, hd⟩, hold⟩, hin⟩, hok⟩ := hk
  have hB' := hB
  simp only [startB, Bool.and_eq_true, decide_eq_true_eq] at hB
  have hlive : ∀ (b : Nat) (e : Bl), bl[b]? = some e → e.live L = true := fun b e hb => by
    unfold Bl.live
    cases ha : e.al with
    | none => rfl
    | some j => exact hall j (hst e (List.mem_of_getElem? hb) j (Or.inl ha))
  have hnow : ∀ (b : Nat) (e : Bl), bl[b]? = some e → e.now L = e.fin := fun b e hb => by
    unfold Bl.now Bl.put Bl.fin
    cases ha : e.st with
    | none => rfl
    | some j =>
      have := hall j (hst e (List.mem_of_getElem? hb) j (Or.inr ha))
      simp [this]
  have hnew : ∀ b, b < bl.length → ad (ks ++ (List.range (bl.length - cs.length)).map (fun j => μ (cs.length + j))) b = μ b := fun b hb => by
    unfold ad
    rw [List.getD_eq_getElem?_getD]
    by_cases hlt : b < cs.length
    · rw [List.getElem?_append_left (by rw [hlen]; exact hlt)]
      obtain ⟨e, he⟩ : ∃ e, bl[b]? = some e := ⟨bl[b], List.getElem?_eq_getElem hb⟩
      have h1 := zip_all hB.1 b e he
      have h2 : e.al = none := by simpa [hlt] using h1
      rw [hμ b e he h2]
      unfold ad
      rw [List.getD_eq_getElem?_getD]
    · rw [List.getElem?_append_right (by rw [hlen]; omega), List.getElem?_map, hlen, List.getElem?_range (by omega)]
      show μ (cs.length + (b - cs.length)) = μ b
      congr 1
      omega
  have hact := hA.done hd (fun it hm d hdd => by
    have := List.all_eq_true.1 hin it hm
    rw [hdd] at this
    simpa using this) hall
  have hpe : puts μ its a0 = puts (ad (ks ++ (List.range (bl.length - cs.length)).map (fun j => μ (cs.length + j)))) its a0 := by
    have key : ∀ it ∈ its, ∀ d, it.dst = some d → it.out.at μ = it.out.at (ad (ks ++ (List.range (bl.length - cs.length)).map (fun j => μ (cs.length + j)))) := fun it hm d hdd => by
      obtain ⟨i, hi⟩ := List.getElem?_of_mem hm
      have hg := (hA.got i it d hi (hall i (List.getElem?_eq_some_iff.1 hi).1) hdd).2
      refine SV.at_congr fun b hb => ?_
      obtain ⟨e, he, -⟩ := hg b hb
      rw [hnew b (List.getElem?_eq_some_iff.1 he).1]
    clear hA hact hold hok hin hd hsz2 hsz R hall hst hp
    generalize a0 = a1
    induction its generalizing a1 with
    | nil => rfl
    | cons it r ih =>
      rw [puts, puts]
      have h1 : a1.put it.dst (it.out.at μ) = a1.put it.dst (it.out.at (ad (ks ++ (List.range (bl.length - cs.length)).map (fun j => μ (cs.length + j))))) := by
        cases hdd : it.dst with
        | none => rfl
        | some d => rw [key it List.mem_cons_self d hdd]
      rw [h1]
      exact ih (fun x hx => key x (List.mem_cons_of_mem _ hx)) _
  rw [hact, hpe]
  refine hp _ w (by simp) ⟨hW.bel, hW.le, ?_, fun b c hc => ?_, fun b c hb hc hbc => ?_⟩
  · simp only [List.length_append, List.length_map, List.length_range]
    omega
  · rw [List.getElem?_map] at hc
    cases he : bl[b]? with
    | none => rw [he] at hc; cases hc
    | some e =>
      rw [he] at hc
      obtain rfl : e.fin = c := Option.some.inj hc
      have h1 := hW.has b e he (hlive b e he)
      rw [hnow b e he] at h1
      rw [hnew b (List.getElem?_eq_some_iff.1 he).1, hlenb e (List.mem_of_getElem? he)]
      exact h1
  · rw [List.length_map] at hb hc
    rw [hnew b hb, hnew c hc]
    exact hW.inj b c _ _ (List.getElem?_eq_getElem hb) (List.getElem?_eq_getElem hc) (hlive b _ (List.getElem?_eq_getElem hb)) (hlive c _ (List.getElem?_eq_getElem hc)) hbc
def endB (its : List It) (bl : List Bl) : Bool :=
  bl.all (fun e => (match e.al with | none => true | some j => decide (j < its.length)) && (match e.st with | none => true | some j => decide (j < its.length)) && e.fin.length == e.before.length)
theorem endB_st (h : endB its bl = true) : (∀ e ∈ bl, ∀ j, e.al = some j ∨ e.st = some j → j < its.length) ∧ ∀ e ∈ bl, e.fin.length = e.before.length := by
  refine ⟨fun e he j hj => ?_, fun e he => ?_⟩
  · have := List.all_eq_true.1 h e he
    simp only [Bool.and_eq_true] at this
    rcases hj with hj | hj
    · rw [hj] at this; simpa using this.1.1
    · rw [hj] at this; simpa using this.1.2
  · have := List.all_eq_true.1 h e he
    simp only [Bool.and_eq_true, beq_iff_eq] at this
    exact this.2
/-- THE LAW, for a region that draws its order. -/
theorem region_draws' {id : Nat} {cs : List (List Value)} {ks : List Nat} (hm : P.follows .mixedOrders = true) (hS : St w0 k0 X cs ks w) (R : Reg P ops Q w0 k0 X its bl olds a0 (ad ks)) (hB : startB bl cs.length = true) (hcs : (bl.map (·.before)).take cs.length = cs) (hE : (∀ e ∈ bl, ∀ j, e.al = some j ∨ e.st = some j → j < its.length) ∧ ∀ e ∈ bl, e.fin.length = e.before.length)
    (hp : ∀ (new : List Nat) (w' : World), new.length = bl.length - cs.length → St w0 k0 X (bl.map Bl.fin) (ks ++ new) w' → Q .normal (puts (ad (ks ++ new)) its a0) w') : (Code.region id ops true).wp P Q a0 w := by
  obtain ⟨hst, hlenb⟩ := hE
  have key : ∀ (fuel : Nat) (L : Array Bool) (a : Act) (w : World), unl L = fuel → Inv ops its bl a0 w0 k0 X (ad ks) L a w → wpAny P .any ops Q fuel L a w := by
    intro fuel
    induction fuel with
    | zero =>
      intro L a w hu hI
      have hall : ∀ i, i < its.length → on L i = true := fun i hi => unl_zero hu i (by rw [hI.size]; exact hi)
      refine ⟨?_, hI.done R hS.len hB hall hst hlenb hp⟩
      apply List.eq_nil_iff_forall_not_mem.2
      intro i hi
      obtain ⟨h1, o, ho, -⟩ := mem_ready.1 hi
      have h2 := hall i (R.back ho).1
      unfold on at h2
      rw [Array.getD_eq_getD_getElem?] at h1 h2
      cases hh : L[i]? with
      | none => rw [hh] at h1; cases h1
      | some b => rw [hh] at h1 h2; rw [show b = false from h1] at h2; cases h2
    | succ fuel ih =>
      intro L a w hu hI
      refine ⟨fun hr => hI.done R hS.len hB (R.full hI hr) hst hlenb hp, fun i hi => ?_⟩
      obtain ⟨h1, o, ho, hdep⟩ := mem_ready.1 hi
      have hoff : on L i = false := by
        unfold on
        rw [Array.getD_eq_getD_getElem?] at h1 ⊢
        cases hh : L[i]? with
        | none => rfl
        | some b => rw [hh] at h1; exact h1
      exact wpOp_mono (fun a' w' hI' => ih _ a' w' (by have := unl_set h1; omega) hI') (R.step ho hoff hdep hI)
  refine wp_region_any hm (key _ _ a0 _ ?_ ?_)
  · unfold unl
    rw [Array.toList_replicate, List.countP_replicate]
    simp
  · rw [R.size]
    exact start_inv hS.drew hB hcs
/-- THE LAW, for a region in the order of its text. -/
theorem region_text' {id : Nat} {cs : List (List Value)} {ks : List Nat} (hS : St w0 k0 X cs ks w) (R : Reg P ops Q w0 k0 X its bl olds a0 (ad ks)) (hB : startB bl cs.length = true) (hcs : (bl.map (·.before)).take cs.length = cs) (hE : (∀ e ∈ bl, ∀ j, e.al = some j ∨ e.st = some j → j < its.length) ∧ ∀ e ∈ bl, e.fin.length = e.before.length)
    (hp : ∀ (new : List Nat) (w' : World), new.length = bl.length - cs.length → St w0 k0 X (bl.map Bl.fin) (ks ++ new) w' → Q .normal (puts (ad (ks ++ new)) its a0) w') : (Code.region id ops false).wp P Q a0 w := by
  obtain ⟨hst, hlenb⟩ := hE
  have key : ∀ (m i : Nat) (L : Array Bool) (a : Act) (w : World), i + m = its.length → (∀ j, j < its.length → on L j = decide (j < i)) → Inv ops its bl a0 w0 k0 X (ad ks) L a w → wpOps P ops Q (List.range' i m) a w := by
    intro m
    induction m with
    | zero =>
      intro i L a w hi hL hI
      exact hI.done R hS.len hB (fun j hj => by rw [hL j hj]; simp; omega) hst hlenb hp
    | succ m ih =>
      intro i L a w hi hL hI
      rw [List.range'_succ, wpOps_cons]
      have ho : ops[i]? = some (ops[i]'(by rw [R.size]; omega)) := Array.getElem?_eq_getElem _
      refine wpOp_mono (fun a' w' hI' => ih (i + 1) _ a' w' (by omega) (fun j hj => ?_) hI') (R.step ho (by rw [hL i (by omega)]; simp) (fun e he hb => ?_) hI)
      · rw [on_set (by rw [hI.size]; omega), hL j hj]
        by_cases h1 : j < i
        · simp [h1]; omega
        · by_cases h2 : i = j
          · subst h2; simp
          · have : ¬ j < i + 1 := by omega
            simp [h1, h2, this]
      · have hlt := (R.back ho).2 e he hb
        rw [hL e.on (by omega)]
        simpa using hlt
  refine wp_region ?_
  rw [List.range_eq_range', R.size]
  refine key its.length 0 (Array.replicate its.length false) a0 w (by omega) (fun j hj => ?_) (start_inv hS hB hcs)
  unfold on
  rw [Array.getD_eq_getD_getElem?, Array.getElem?_replicate, if_pos hj]
  simp
theorem region_draws {id : Nat} {cs : List (List Value)} {ks : List Nat} (hm : P.follows .mixedOrders = true) (hS : St w0 k0 X cs ks w) (R : Reg P ops Q w0 k0 X its bl olds a0 (ad ks)) (hB : startB bl cs.length = true) (hcs : (bl.map (·.before)).take cs.length = cs) (hE : endB its bl = true)
    (hp : ∀ (new : List Nat) (w' : World), new.length = bl.length - cs.length → St w0 k0 X (bl.map Bl.fin) (ks ++ new) w' → Q .normal (puts (ad (ks ++ new)) its a0) w') : (Code.region id ops true).wp P Q a0 w :=
  region_draws' hm hS R hB hcs (endB_st hE) hp
theorem region_text {id : Nat} {cs : List (List Value)} {ks : List Nat} (hS : St w0 k0 X cs ks w) (R : Reg P ops Q w0 k0 X its bl olds a0 (ad ks)) (hB : startB bl cs.length = true) (hcs : (bl.map (·.before)).take cs.length = cs) (hE : endB its bl = true)
    (hp : ∀ (new : List Nat) (w' : World), new.length = bl.length - cs.length → St w0 k0 X (bl.map Bl.fin) (ks ++ new) w' → Q .normal (puts (ad (ks ++ new)) its a0) w') : (Code.region id ops false).wp P Q a0 w :=
  region_text' hS R hB hcs (endB_st hE) hp
end Go.Proofs.Ytboigmhioojenaa.RG
