import Derived.Test.YtfclmmkgmhlbbaaP
namespace Go.Proofs.Ytfclmmkgmhlbbaa
open Go.RowKit

/-- A count as the model holds it. -/
def encI (n : Nat) : Value := .int .i64 (n : Int)

/-- The reference's round, step by step, as its loops have it. -/
def colIn (a : St) (x : Nat) (c : St) : Nat → St
  | 0 => c
  | y + 1 => xorAt (colIn a x c y) x a[x + 5 * y]!
def colTo (a : St) : Nat → St
  | 0 => Array.replicate 5 0
  | x + 1 => colIn a x (colTo a x) 5
def movIn (a : St) (tn : Array Nat) (x : Nat) (v : BitVec 64) (m : St) : Nat → St
  | 0 => m
  | y + 1 => (movIn a tn x v m y).setIfInBounds (y % 5 + 5 * ((2 * x + 3 * y) % 5)) (rol (a[x + 5 * y]! ^^^ v) tn[x + 5 * y]!)
def movTo (a : St) (tn : Array Nat) (c : St) : Nat → St
  | 0 => Array.replicate 25 0
  | x + 1 => movIn a tn x (dcol c x) (movTo a tn c x) 5
def outIn (m : St) (x : Nat) (o : St) : Nat → St
  | 0 => o
  | y + 1 => (outIn m x o y).setIfInBounds (x + 5 * y) (m[x + 5 * y]! ^^^ (~~~m[(x + 1) % 5 + 5 * y]! &&& m[(x + 2) % 5 + 5 * y]!))
def outTo (m : St) : Nat → St
  | 0 => Array.replicate 25 0
  | x + 1 => outIn m x (outTo m x) 5
def refRound (a : St) (tn : Array Nat) (c : BitVec 64) : St := xorAt (outTo (movTo a tn (colTo a 5) 5) 5) 0 c

theorem colIn_size (a : St) (x : Nat) (c : St) (y : Nat) : (colIn a x c y).size = c.size := by
  induction y with
  | zero => rfl
  | succ y ih => simp [colIn, xorAt_size, ih]
theorem colTo_size (a : St) (x : Nat) : (colTo a x).size = 5 := by
  induction x with
  | zero => simp [colTo]
  | succ x ih => simp [colTo, colIn_size, ih]
theorem movIn_size (a : St) (tn : Array Nat) (x : Nat) (v : BitVec 64) (m : St) (y : Nat) : (movIn a tn x v m y).size = m.size := by
  induction y with
  | zero => rfl
  | succ y ih => simp [movIn, ih]
theorem movTo_size (a : St) (tn : Array Nat) (c : St) (x : Nat) : (movTo a tn c x).size = 25 := by
  induction x with
  | zero => simp [movTo]
  | succ x ih => simp [movTo, movIn_size, ih]
theorem outIn_size (m : St) (x : Nat) (o : St) (y : Nat) : (outIn m x o y).size = o.size := by
  induction y with
  | zero => rfl
  | succ y ih => simp [outIn, ih]
theorem outTo_size (m : St) (x : Nat) : (outTo m x).size = 25 := by
  induction x with
  | zero => simp [outTo]
  | succ x ih => simp [outTo, outIn_size, ih]
theorem refRound_size (a : St) (tn : Array Nat) (c : BitVec 64) : (refRound a tn c).size = 25 := by simp [refRound, xorAt_size, outTo_size]

/-- The offsets, as the reference lays them. -/
structure Of where
  x : Nat
  y : Nat
  o : Array Nat
def ofTo : Nat → Of
  | 0 => { x := 1, y := 0, o := Array.replicate 25 0 }
  | t + 1 => { x := (ofTo t).y, y := (2 * (ofTo t).x + 3 * (ofTo t).y) % 5, o := (ofTo t).o.setIfInBounds ((ofTo t).x % 5 + 5 * ((ofTo t).y % 5)) (offs t) }
def offsetsL : Array Nat := (ofTo 24).o
theorem ofTo_ok (t : Nat) : (ofTo t).x < 5 ∧ (ofTo t).y < 5 ∧ (ofTo t).o.size = 25 := by
  induction t with
  | zero => exact ⟨show 1 < 5 by decide, show 0 < 5 by decide, show (Array.replicate 25 0).size = 25 by simp⟩
  | succ t ih =>
    obtain ⟨h1, h2, h3⟩ := ih
    refine ⟨h2, ?_, ?_⟩
    · show (2 * (ofTo t).x + 3 * (ofTo t).y) % 5 < 5
      omega
    · show ((ofTo t).o.setIfInBounds _ _).size = 25
      rw [Array.size_setIfInBounds, h3]

/-- BIT and CONSTANT of the reference. -/
def regTo : Nat → Nat
  | 0 => 1
  | i + 1 => rcReg (regTo i)
theorem regTo_lt (i : Nat) : regTo i < 256 := by
  induction i with
  | zero => decide
  | succ i ih => exact rcReg_lt _ ih
def bitL (t : Nat) : BitVec 64 := BitVec.ofNat 64 (regTo t % 2)
def conTo (r : Nat) : Nat → BitVec 64
  | 0 => 0
  | j + 1 => conTo r j ||| bitL (j + 7 * r) <<< (2 ^ j - 1)
def conL (r : Nat) : BitVec 64 := conTo r 7
def refTo (d : St) : Nat → St
  | 0 => d
  | k + 1 => refRound (refTo d k) offsetsL (conL k)

end Go.Proofs.Ytfclmmkgmhlbbaa
