import Derived.WalkKit
namespace Go.Proofs.Ytfclmmkgmhlbbaa
open Go.RowKit

theorem lt64 (x : BitVec 64) : (x.toNat : Int) < 18446744073709551616 := by
  have := x.isLt
  omega

theorem ofInt_toNat64 (x : BitVec 64) : BitVec.ofInt 64 (x.toNat : Int) = x := by
  apply BitVec.eq_of_toNat_eq
  rw [BitVec.ofInt_natCast, BitVec.toNat_ofNat]
  exact Nat.mod_eq_of_lt x.isLt

theorem wrap_u64_toNat (x : BitVec 64) : IntKind.u64.wrap (x.toNat : Int) = x.toNat := by
  rw [IntKind.wrap_u64]
  have := lt64 x
  exact Int.emod_eq_of_lt (by omega) this

/-- A word's number. -/
def u (v : BitVec 64) : Int := (v.toNat : Int)
theorem u_lt (v : BitVec 64) : u v < 18446744073709551616 := lt64 v
theorem u_nonneg (v : BitVec 64) : 0 ≤ u v := Int.natCast_nonneg _

theorem bits_xor64 (a b : BitVec 64) : bits .xor .u64 (u a) (u b) = u (a ^^^ b) := by
  show IntKind.u64.wrap ((BitVec.ofInt 64 (a.toNat : Int) ^^^ BitVec.ofInt 64 (b.toNat : Int)).toNat : Int) = _
  rw [ofInt_toNat64, ofInt_toNat64, wrap_u64_toNat]
  rfl

theorem bits_and64 (a b : BitVec 64) : bits .and .u64 (u a) (u b) = u (a &&& b) := by
  show IntKind.u64.wrap ((BitVec.ofInt 64 (a.toNat : Int) &&& BitVec.ofInt 64 (b.toNat : Int)).toNat : Int) = _
  rw [ofInt_toNat64, ofInt_toNat64, wrap_u64_toNat]
  rfl

theorem bits_or64 (a b : BitVec 64) : bits .or .u64 (u a) (u b) = u (a ||| b) := by
  show IntKind.u64.wrap ((BitVec.ofInt 64 (a.toNat : Int) ||| BitVec.ofInt 64 (b.toNat : Int)).toNat : Int) = _
  rw [ofInt_toNat64, ofInt_toNat64, wrap_u64_toNat]
  rfl

theorem bits_not64 (a : BitVec 64) : bits .xor .u64 IntKind.u64.max (u a) = u (~~~a) := by
  have e : IntKind.u64.max = u (BitVec.allOnes 64) := by decide +kernel
  rw [e, bits_xor64, BitVec.allOnes_xor]

theorem and63 (k : Nat) (hk : k < 64) : bits .and .u64 (k : Int) 63 = k := by
  have h : ∀ j : Fin 64, bits .and .u64 ((j.val : Nat) : Int) 63 = (j.val : Int) := by decide +kernel
  exact h ⟨k, hk⟩

theorem shl64 (x : BitVec 64) (k : Nat) : IntKind.u64.wrap (u x * 2 ^ k) = u (x <<< k) := by
  unfold u
  rw [IntKind.wrap_u64, BitVec.toNat_shiftLeft, Nat.shiftLeft_eq, Int.natCast_emod, Int.natCast_mul, Int.natCast_pow]
  rfl

theorem shr64 (x : BitVec 64) (k : Nat) : u x / 2 ^ k = u (x >>> k) := by
  unfold u
  rw [BitVec.toNat_ushiftRight, Nat.shiftRight_eq_div_pow, Int.natCast_ediv, Int.natCast_pow]
  rfl

def rol (w : BitVec 64) (n : Nat) : BitVec 64 := w <<< n ||| w >>> (64 - n)

abbrev St := Array (BitVec 64)

/-- A word as the model holds it. -/
def enc (v : BitVec 64) : Value := .int .u64 (u v)

def colsum (d : St) (x : Nat) : BitVec 64 := d[x]! ^^^ d[x + 5]! ^^^ d[x + 10]! ^^^ d[x + 15]! ^^^ d[x + 20]!
def sumsTo (d : St) : Nat → St
  | 0 => #[0, 0, 0, 0, 0]
  | k + 1 => (sumsTo d k).setIfInBounds k (colsum d k)
def xorAt (d : St) (i : Nat) (v : BitVec 64) : St := d.setIfInBounds i (d[i]! ^^^ v)
def innerTo (v : BitVec 64) (x : Nat) (d : St) : Nat → St
  | 0 => d
  | m + 1 => xorAt (innerTo v x d m) (x + 5 * m) v
def dcol (s : St) (x : Nat) : BitVec 64 := s[(x + 4) % 5]! ^^^ rol s[(x + 1) % 5]! 1
def thetaTo (s d : St) : Nat → St
  | 0 => d
  | k + 1 => innerTo (dcol s k) k (thetaTo s d k) 5
def theta (d : St) : St := thetaTo (sumsTo d 5) d 5

theorem xorAt_size (d : St) (i : Nat) (v : BitVec 64) : (xorAt d i v).size = d.size := by simp [xorAt]
theorem sumsTo_size (d : St) (k : Nat) : (sumsTo d k).size = 5 := by
  induction k with
  | zero => rfl
  | succ k ih => simp [sumsTo, ih]
theorem innerTo_size (v : BitVec 64) (x : Nat) (d : St) (m : Nat) : (innerTo v x d m).size = d.size := by
  induction m with
  | zero => rfl
  | succ k ih => simp [innerTo, xorAt_size, ih]
theorem thetaTo_size (s d : St) (m : Nat) : (thetaTo s d m).size = d.size := by
  induction m with
  | zero => rfl
  | succ k ih => simp [thetaTo, innerTo_size, ih]

/-- turnAndMove behind t rounds: x, y, what moves, the words. -/
structure Tm where
  x : Nat
  y : Nat
  m : BitVec 64
  d : St
def offs (t : Nat) : Nat := (t + 1) * (t + 2) / 2 % 64
def tmStep (t : Nat) (s : Tm) : Tm :=
  { x := s.y, y := (2 * s.x + 3 * s.y) % 5, m := s.d[s.y + 5 * ((2 * s.x + 3 * s.y) % 5)]!, d := s.d.setIfInBounds (s.y + 5 * ((2 * s.x + 3 * s.y) % 5)) (rol s.m (offs t)) }
def tmTo (d : St) : Nat → Tm
  | 0 => { x := 1, y := 0, m := d[1]!, d := d }
  | t + 1 => tmStep t (tmTo d t)
def rhopi (d : St) : St := (tmTo d 24).d
theorem tmTo_ok (d : St) (hd : d.size = 25) (t : Nat) : (tmTo d t).x < 5 ∧ (tmTo d t).y < 5 ∧ (tmTo d t).d.size = 25 := by
  induction t with
  | zero => exact ⟨show 1 < 5 by decide, show 0 < 5 by decide, hd⟩
  | succ t ih =>
    obtain ⟨h1, h2, h3⟩ := ih
    refine ⟨h2, ?_, ?_⟩
    · show (2 * (tmTo d t).x + 3 * (tmTo d t).y) % 5 < 5
      omega
    · show ((tmTo d t).d.setIfInBounds _ _).size = 25
      rw [Array.size_setIfInBounds, h3]

/-- mixRows: one row, then all of them. -/
def rowAt (d : St) (i : Nat) : St :=
  xorAt (xorAt (xorAt (xorAt (xorAt d i (~~~d[i + 1]! &&& d[i + 2]!)) (i + 1) (~~~d[i + 2]! &&& d[i + 3]!)) (i + 2) (~~~d[i + 3]! &&& d[i + 4]!)) (i + 3) (~~~d[i + 4]! &&& d[i]!)) (i + 4) (~~~d[i]! &&& d[i + 1]!)
def chiTo (d : St) : Nat → St
  | 0 => d
  | k + 1 => rowAt (chiTo d k) (5 * k)
def chi (d : St) : St := chiTo d 5
theorem rowAt_size (d : St) (i : Nat) : (rowAt d i).size = d.size := by simp [rowAt, xorAt_size]
theorem chiTo_size (d : St) (k : Nat) : (chiTo d k).size = d.size := by
  induction k with
  | zero => rfl
  | succ k ih => simp [chiTo, rowAt_size, ih]

end Go.Proofs.Ytfclmmkgmhlbbaa
