import Derived.Test.YtmepmoalhgehhaaGreatDoorRows
import Derived.Lib.Mul64
import Derived.Laws.Bits64b
import Derived.Laws.Externs
import Derived.Laws.Unary
import Derived.WalkKit
import Derived.Laws.AppendOwn
import Derived.Laws.OwnMore
import Derived.Sort.Row
import Derived.Below
import Derived.Deep.LoopGhost
import Derived.Deep.QuietTactic
import Derived.StillTailTactics
import Derived.BigRegion
import Derived.BigQuiet
import Derived.Lib.TrailingZeros
import Derived.Deep.Draws
import Derived.Deep.OwnRows
import Derived.WalkSpells
import Derived.WalkLawsBesides
import Derived.Deep.RegionWith
import Derived.KernelRfl
import Derived.Lib.LazyBuf
import Derived.Lib.SliceRun
set_option linter.unusedVariables false
set_option linter.unusedSimpArgs false
namespace Go.Proofs.YtmepmoalhgehhaaGreatDoor.OC
theorem and_split (c y m n : Nat) (hc : c < 256) (hm : m < 256) : (c + 256 * y) &&& (m + 256 * n) = (c &&& m) + 256 * (y &&& n) := by
  have h1 : ((c + 256 * y) &&& (m + 256 * n)) % 2 ^ 8 = (c &&& m) := by
    rw [Nat.and_mod_two_pow]
    congr 1 <;> omega
  have h2 : ((c + 256 * y) &&& (m + 256 * n)) / 2 ^ 8 = (y &&& n) := by
    rw [Nat.and_div_two_pow]
    congr 1 <;> omega
  omega
def byteS (k m c : Nat) : Nat := ((c / 2 ^ k) &&& m) + (c &&& m)
/-- One stage of the count: by neighbours of 2^k bits; the mask does not let bits of the next byte in. -/
theorem stage_split (k m : Nat) (n c y : Nat) (hk : k = 1 ∧ m = 85 ∨ k = 2 ∧ m = 51) (hc : c < 256) :
    (((c + 256 * y) / 2 ^ k) &&& (m + 256 * n)) + ((c + 256 * y) &&& (m + 256 * n)) = byteS k m c + 256 * (((y / 2 ^ k) &&& n) + (y &&& n)) := by
  have low : ∀ e, e < 2 ^ k → ((c / 2 ^ k + 2 ^ (8 - k) * e) &&& m) = ((c / 2 ^ k) &&& m) := by
    have h1 : ∀ c : Fin 256, ∀ e : Fin 2, ((c.val / 2 + 128 * e.val) &&& 85) = ((c.val / 2) &&& 85) := by decide +kernel
    have h2 : ∀ c : Fin 256, ∀ e : Fin 4, ((c.val / 4 + 64 * e.val) &&& 51) = ((c.val / 4) &&& 51) := by decide +kernel
    rcases hk with ⟨rfl, rfl⟩ | ⟨rfl, rfl⟩
    · intro e he; exact h1 ⟨c, hc⟩ ⟨e, by simpa using he⟩
    · intro e he; exact h2 ⟨c, hc⟩ ⟨e, by simpa using he⟩
  have e1 : (c + 256 * y) / 2 ^ k = (c / 2 ^ k + 2 ^ (8 - k) * (y % 2 ^ k)) + 256 * (y / 2 ^ k) := by
    rcases hk with ⟨rfl, rfl⟩ | ⟨rfl, rfl⟩ <;> simp <;> omega
  have hm : m < 256 := by rcases hk with ⟨rfl, rfl⟩ | ⟨rfl, rfl⟩ <;> decide
  have hl : c / 2 ^ k + 2 ^ (8 - k) * (y % 2 ^ k) < 256 := by
    rcases hk with ⟨rfl, rfl⟩ | ⟨rfl, rfl⟩ <;> simp <;> omega
  have hp : 0 < 2 ^ k := Nat.two_pow_pos k
  rw [e1, and_split _ _ _ _ hl hm, and_split _ _ _ _ hc hm, low _ (Nat.mod_lt _ hp)]
  unfold byteS
  omega
def bytes (f : Nat → Nat) : Nat → Nat → Nat
  | 0, _ => 0
  | k + 1, x => f (x % 256) + 256 * bytes f k (x / 256)
def mask (m : Nat) : Nat → Nat
  | 0 => 0
  | k + 1 => m + 256 * mask m k
theorem stage (k m : Nat) (hk : k = 1 ∧ m = 85 ∨ k = 2 ∧ m = 51) : ∀ (j x : Nat), ((x / 2 ^ k) &&& mask m j) + (x &&& mask m j) = bytes (byteS k m) j x
  | 0, x => by simp [mask, bytes]
  | j + 1, x => by
    have hx : x = x % 256 + 256 * (x / 256) := by omega
    have := stage_split k m (mask m j) (x % 256) (x / 256) hk (by omega)
    rw [mask, bytes, ← stage k m hk j (x / 256), ← this, ← hx]
theorem bytes_bytes (f g : Nat → Nat) (hf : ∀ c, c < 256 → f c < 256) : ∀ (j x : Nat), bytes g j (bytes f j x) = bytes (fun c => g (f c)) j x
  | 0, x => rfl
  | j + 1, x => by
    have h := hf (x % 256) (by omega)
    rw [bytes, bytes, bytes, show (f (x % 256) + 256 * bytes f j (x / 256)) % 256 = f (x % 256) by omega, show (f (x % 256) + 256 * bytes f j (x / 256)) / 256 = bytes f j (x / 256) by omega, bytes_bytes f g hf j]
/-- ((x >> 4) + x) & 0x0f..: where each byte's two halves are small. -/
def byteT (c : Nat) : Nat := (c / 16 + c) &&& 15
theorem small_mod (f : Nat → Nat) (hf : ∀ c, c < 256 → f c % 16 ≤ 4 ∧ f c / 16 ≤ 4) : ∀ (j x : Nat), bytes f j x % 16 ≤ 4
  | 0, _ => Nat.zero_le _
  | j + 1, x => by
    have := (hf (x % 256) (by omega)).1
    rw [bytes]; omega
theorem third (f : Nat → Nat) (hf : ∀ c, c < 256 → f c % 16 ≤ 4 ∧ f c / 16 ≤ 4) : ∀ (j x : Nat), ((bytes f j x / 16 + bytes f j x) &&& mask 15 j) = bytes (fun c => byteT (f c)) j x
  | 0, x => by simp [mask, bytes]
  | j + 1, x => by
    have h := hf (x % 256) (by omega)
    have hs := small_mod f hf j (x / 256)
    have ih := third f hf j (x / 256)
    rw [bytes, bytes, mask]
    rw [← ih]
    generalize f (x % 256) = c at *
    generalize bytes f j (x / 256) = y at *
    have e : (c + 256 * y) / 16 + (c + 256 * y) = (c / 16 + c + 16 * (y % 16)) + 256 * (y / 16 + y) := by omega
    rw [e, and_split _ _ _ _ (by omega) (by decide)]
    have low : (c / 16 + c + 16 * (y % 16)) &&& 15 = byteT c := by
      unfold byteT
      rw [show (15 : Nat) = 2 ^ 4 - 1 from rfl, Nat.and_two_pow_sub_one_eq_mod, Nat.and_two_pow_sub_one_eq_mod]
      omega
    rw [low]
def popAux : Nat → Nat → Nat
  | 0, _ => 0
  | f + 1, x => x % 2 + popAux f (x / 2)
theorem popAux_add : ∀ (a b x : Nat), popAux (a + b) x = popAux a x + popAux b (x / 2 ^ a)
  | 0, b, x => by simp [popAux]
  | a + 1, b, x => by
    rw [show a + 1 + b = (a + b) + 1 by omega, popAux, popAux, popAux_add a b, Nat.div_div_eq_div_mul, Nat.pow_succ, Nat.mul_comm (2 ^ a) 2]
    omega
theorem popAux_mod : ∀ (a x : Nat), popAux a (x % 2 ^ a) = popAux a x
  | 0, x => rfl
  | a + 1, x => by
    have h1 : x % 2 ^ (a + 1) % 2 = x % 2 := Nat.mod_mod_of_dvd _ ⟨2 ^ a, by rw [Nat.pow_succ, Nat.mul_comm]⟩
    have h2 : x % 2 ^ (a + 1) / 2 = x / 2 % 2 ^ a := by
      rw [Nat.pow_succ, Nat.mul_comm, Nat.mod_mul_right_div_self]
    rw [popAux, popAux, h1, h2, popAux_mod a]
def cnt (c : Nat) : Nat := byteT (byteS 2 51 (byteS 1 85 c))
theorem cnt_is : ∀ c : Fin 256, cnt c.val = popAux 8 c.val ∧ cnt c.val ≤ 8 ∧ byteS 1 85 c.val < 256 ∧ byteS 2 51 (byteS 1 85 c.val) % 16 ≤ 4 ∧ byteS 2 51 (byteS 1 85 c.val) / 16 ≤ 4 := by decide +kernel
/-- math/bits.OnesCount64's steps, as numbers: what they count. -/
theorem ones (x a b c d e f : Nat) (h1 : a = ((x / 2) &&& 6148914691236517205) + (x &&& 6148914691236517205)) (h2 : b = ((a / 4) &&& 3689348814741910323) + (a &&& 3689348814741910323))
    (h3 : c = (b / 16 + b) &&& 1085102592571150095) (h4 : d = c + c / 256) (h5 : e = d + d / 65536) (h6 : f = e + e / 4294967296) : f % 128 = popAux 64 x ∧ f < 2 ^ 64 ∧ e < 2 ^ 64 ∧ d < 2 ^ 64 ∧ a < 2 ^ 64 ∧ b / 16 + b < 2 ^ 64 ∧ popAux 64 x ≤ 64 := by
  have m1 : (6148914691236517205 : Nat) = mask 85 8 := by decide
  have m2 : (3689348814741910323 : Nat) = mask 51 8 := by decide
  have m3 : (1085102592571150095 : Nat) = mask 15 8 := by decide
  have g1 : a = bytes (byteS 1 85) 8 x := by rw [h1, m1]; exact stage 1 85 (Or.inl ⟨rfl, rfl⟩) 8 x
  have g2 : b = bytes (fun c => byteS 2 51 (byteS 1 85 c)) 8 x := by
    rw [h2, m2, g1, ← bytes_bytes (byteS 1 85) (byteS 2 51) (fun c hc => (cnt_is ⟨c, hc⟩).2.2.1)]
    exact stage 2 51 (Or.inr ⟨rfl, rfl⟩) 8 _
  have g3 : c = bytes cnt 8 x := by rw [h3, m3, g2]; exact third _ (fun c hc => (cnt_is ⟨c, hc⟩).2.2.2) 8 x
  have al : a < 2 ^ 64 := by
    have l1 := @Nat.and_le_right (x / 2) 6148914691236517205
    have l2 := @Nat.and_le_right x 6148914691236517205
    omega
  have bl : b < 7378697629483820647 := by
    have l1 := @Nat.and_le_right (a / 4) 3689348814741910323
    have l2 := @Nat.and_le_right a 3689348814741910323
    omega
  have hpop : popAux 64 x = cnt (x % 256) + cnt (x / 256 % 256) + cnt (x / 256 / 256 % 256) + cnt (x / 256 / 256 / 256 % 256) + cnt (x / 256 / 256 / 256 / 256 % 256) + cnt (x / 256 / 256 / 256 / 256 / 256 % 256) + cnt (x / 256 / 256 / 256 / 256 / 256 / 256 % 256) + cnt (x / 256 / 256 / 256 / 256 / 256 / 256 / 256 % 256) := by
    have hb : ∀ y, popAux 8 y = cnt (y % 256) := fun y => by rw [(cnt_is ⟨y % 256, by omega⟩).1]; exact (popAux_mod 8 y).symm
    rw [show (64 : Nat) = 8 + (8 + (8 + (8 + (8 + (8 + (8 + 8)))))) from rfl]
    simp only [popAux_add 8, hb, show (2 : Nat) ^ 8 = 256 from rfl]
    omega
  have k : ∀ y, cnt (y % 256) ≤ 8 := fun y => (cnt_is ⟨y % 256, by omega⟩).2.1
  have k0 := k x
  have k1 := k (x / 256)
  have k2 := k (x / 256 / 256)
  have k3 := k (x / 256 / 256 / 256)
  have k4 := k (x / 256 / 256 / 256 / 256)
  have k5 := k (x / 256 / 256 / 256 / 256 / 256)
  have k6 := k (x / 256 / 256 / 256 / 256 / 256 / 256)
  have k7 := k (x / 256 / 256 / 256 / 256 / 256 / 256 / 256)
  simp only [bytes] at g3
  generalize cnt (x % 256) = t0 at *
  generalize cnt (x / 256 % 256) = t1 at *
  generalize cnt (x / 256 / 256 % 256) = t2 at *
  generalize cnt (x / 256 / 256 / 256 % 256) = t3 at *
  generalize cnt (x / 256 / 256 / 256 / 256 % 256) = t4 at *
  generalize cnt (x / 256 / 256 / 256 / 256 / 256 % 256) = t5 at *
  generalize cnt (x / 256 / 256 / 256 / 256 / 256 / 256 % 256) = t6 at *
  generalize cnt (x / 256 / 256 / 256 / 256 / 256 / 256 / 256 % 256) = t7 at *
  clear h1 h2 h3 g1 g2 m1 m2 m3 k
  have d1 : c / 256 = t1 + 256 * (t2 + 256 * (t3 + 256 * (t4 + 256 * (t5 + 256 * (t6 + 256 * t7))))) := by omega
  have d2 : d = (t0 + t1) + 256 * ((t1 + t2) + 256 * ((t2 + t3) + 256 * ((t3 + t4) + 256 * ((t4 + t5) + 256 * ((t5 + t6) + 256 * ((t6 + t7) + 256 * t7)))))) := by omega
  have d3 : d / 65536 = (t2 + t3) + 256 * ((t3 + t4) + 256 * ((t4 + t5) + 256 * ((t5 + t6) + 256 * ((t6 + t7) + 256 * t7)))) := by omega
  have d4 : e = (t0 + t1 + t2 + t3) + 256 * ((t1 + t2 + t3 + t4) + 256 * ((t2 + t3 + t4 + t5) + 256 * ((t3 + t4 + t5 + t6) + 256 * ((t4 + t5 + t6 + t7) + 256 * ((t5 + t6 + t7) + 256 * ((t6 + t7) + 256 * t7)))))) := by omega
  have d5 : e / 4294967296 = (t4 + t5 + t6 + t7) + 256 * ((t5 + t6 + t7) + 256 * ((t6 + t7) + 256 * t7)) := by omega
  have d6 : f = (t0 + t1 + t2 + t3 + t4 + t5 + t6 + t7) + 256 * ((t1 + t2 + t3 + t4 + (t5 + t6 + t7)) + 256 * ((t2 + t3 + t4 + t5 + (t6 + t7)) + 256 * ((t3 + t4 + t5 + t6 + t7) + 256 * ((t4 + t5 + t6 + t7) + 256 * ((t5 + t6 + t7) + 256 * ((t6 + t7) + 256 * t7)))))) := by omega
  refine ⟨by omega, by omega, by omega, by omega, al, by omega, by omega⟩
end Go.Proofs.YtmepmoalhgehhaaGreatDoor.OC
namespace Go.Proofs.YtmepmoalhgehhaaGreatDoor.OP
/-- The powers of 2 that make a number, the lowest first: those from 2^i on, of 2^i q. -/
def pw : Nat → Nat → Nat → List Nat
  | 0, _, _ => []
  | f + 1, i, q => if q % 2 = 1 then 2 ^ i :: pw f (i + 1) (q / 2) else pw f (i + 1) (q / 2)
def pop : Nat → Nat → Nat
  | 0, _ => 0
  | f + 1, x => x % 2 + pop f (x / 2)
theorem pw_len : ∀ f i q, (pw f i q).length = pop f q
  | 0, _, _ => rfl
  | f + 1, i, q => by
    rw [pw, pop]
    split
    · rw [List.length_cons, pw_len f]; omega
    · rw [pw_len f]; omega
def sum : List Nat → Nat
  | [] => 0
  | x :: l => x + sum l
theorem sum_app : ∀ a b : List Nat, sum (a ++ b) = sum a + sum b
  | [], b => by simp [sum]
  | x :: a, b => by rw [List.cons_append, sum, sum, sum_app a b]; omega
theorem pw_sum : ∀ f i q, q < 2 ^ f → sum (pw f i q) = 2 ^ i * q
  | 0, i, q, h => by
    have : q = 0 := by simpa using h
    subst this; rfl
  | f + 1, i, q, h => by
    rw [Nat.pow_succ] at h
    have ih := pw_sum f (i + 1) (q / 2) (by omega)
    rw [pw]
    have e : 2 ^ (i + 1) * (q / 2) = 2 ^ i * (2 * (q / 2)) := by rw [Nat.pow_succ, Nat.mul_assoc]
    split
    · rw [sum, ih, e, show q = 1 + 2 * (q / 2) by omega, Nat.mul_add, Nat.mul_one, show (1 + 2 * (q / 2)) / 2 = q / 2 by omega]
    · rw [ih, e]
      congr 1; omega
/-- The lowest power, and what is left without it. -/
theorem pw_step : ∀ (f i q : Nat), 0 < q → q < 2 ^ f → ∃ k m f', f' < f ∧ 2 ^ i * q = 2 ^ k * (2 * m + 1) ∧ pw f i q = 2 ^ k :: pw f' (k + 1) m ∧ m < 2 ^ f' ∧ k + 1 + f' = i + f
  | 0, i, q, h0, h => by simp at h; omega
  | f + 1, i, q, h0, h => by
    rw [Nat.pow_succ] at h
    by_cases hq : q % 2 = 1
    · refine ⟨i, q / 2, f, by omega, ?_, ?_, by omega, by omega⟩
      · congr 1; omega
      · rw [pw, if_pos hq]
    · obtain ⟨k, m, f', h1, h2, h3, h4, h5⟩ := pw_step f (i + 1) (q / 2) (by omega) (by omega)
      refine ⟨k, m, f', by omega, ?_, ?_, h4, by omega⟩
      · rw [← h2, Nat.pow_succ, Nat.mul_assoc]
        congr 1; omega
      · rw [pw, if_neg hq, h3]
/-- x & (x - 1) leaves out the lowest power. -/
theorem and_pred (k m : Nat) : (2 ^ k * (2 * m + 1)) &&& (2 ^ k * (2 * m + 1) - 1) = 2 ^ (k + 1) * m := by
  have hp : 0 < 2 ^ k := Nat.two_pow_pos k
  have e1 : 2 ^ k * (2 * m + 1) - 1 = 2 ^ k * (2 * m) + (2 ^ k - 1) := by rw [Nat.mul_add]; omega
  rw [e1]
  have h1 : ((2 ^ k * (2 * m + 1)) &&& (2 ^ k * (2 * m) + (2 ^ k - 1))) % 2 ^ k = 0 := by
    rw [Nat.and_mod_two_pow, Nat.mul_mod_right, Nat.zero_and]
  have h2 : ((2 ^ k * (2 * m + 1)) &&& (2 ^ k * (2 * m) + (2 ^ k - 1))) / 2 ^ k = 2 * m := by
    rw [Nat.and_div_two_pow, Nat.mul_div_cancel_left _ hp, Nat.mul_add_div hp, Nat.div_eq_of_lt (show 2 ^ k - 1 < 2 ^ k by omega)]
    show ((2 * m + 1) &&& (2 * m)) = 2 * m
    have a0 : 2 * m % 2 ^ 1 = 0 := by omega
    have a1 : ((2 * m + 1) &&& (2 * m)) % 2 ^ 1 = 0 := by rw [Nat.and_mod_two_pow, a0, Nat.and_zero]
    have a2 : ((2 * m + 1) &&& (2 * m)) / 2 ^ 1 = m := by
      rw [Nat.and_div_two_pow, show (2 * m + 1) / 2 ^ 1 = m by omega, show 2 * m / 2 ^ 1 = m by omega, Nat.and_self]
    omega
  have h3 := Nat.div_add_mod ((2 ^ k * (2 * m + 1)) &&& (2 ^ k * (2 * m) + (2 ^ k - 1))) (2 ^ k)
  rw [h1, h2, Nat.add_zero] at h3
  rw [← h3, Nat.pow_succ, Nat.mul_assoc]
/-- What the reference looks at, bit by bit: the same. -/
def bitsL (a : Nat) : Nat → List Nat
  | 0 => []
  | i + 1 => if (a / 2 ^ i) % 2 = 1 then bitsL a i ++ [2 ^ i] else bitsL a i
theorem pw_snoc : ∀ (f i q : Nat), pw (f + 1) i q = if (q / 2 ^ f) % 2 = 1 then pw f i q ++ [2 ^ (i + f)] else pw f i q
  | 0, i, q => by simp [pw]
  | f + 1, i, q => by
    have ih := pw_snoc f (i + 1) (q / 2)
    rw [pw, ih, Nat.div_div_eq_div_mul, show 2 * 2 ^ f = 2 ^ (f + 1) by rw [Nat.pow_succ, Nat.mul_comm], show i + 1 + f = i + (f + 1) by omega]
    conv => rhs; rw [pw]
    by_cases h1 : q / 2 ^ (f + 1) % 2 = 1 <;> by_cases h2 : q % 2 = 1
    · simp only [if_pos h1, if_pos h2, List.cons_append]
    · simp only [if_pos h1, if_neg h2]
    · simp only [if_neg h1, if_pos h2]
    · simp only [if_neg h1, if_neg h2]
theorem bits_pw (a : Nat) : ∀ n, bitsL a n = pw n 0 a
  | 0 => rfl
  | n + 1 => by rw [bitsL, pw_snoc, bits_pw a n, Nat.zero_add]
theorem pw_mod : ∀ (f i q : Nat), pw f i (q % 2 ^ f) = pw f i q
  | 0, _, _ => rfl
  | f + 1, i, q => by
    have h1 : q % 2 ^ (f + 1) % 2 = q % 2 := Nat.mod_mod_of_dvd _ ⟨2 ^ f, by rw [Nat.pow_succ, Nat.mul_comm]⟩
    have h2 : q % 2 ^ (f + 1) / 2 = q / 2 % 2 ^ f := by rw [Nat.pow_succ, Nat.mul_comm, Nat.mod_mul_right_div_self]
    rw [pw, pw, h1, h2, pw_mod f]
end Go.Proofs.YtmepmoalhgehhaaGreatDoor.OP
namespace Go.Proofs.YtmepmoalhgehhaaGreatDoor
open Go.RowKit Go.Sort
theorem and_i64_127 (f : Nat) (hf : f < 18446744073709551616) : bits .and .i64 (IntKind.i64.wrap (f : Int)) 127 = ((f % 128 : Nat) : Int) := by
  have h1 : (BitVec.ofInt 64 (IntKind.i64.wrap (f : Int))).toNat = f := by
    rw [BitVec.toNat_ofInt, IntKind.wrap_i64]
    omega
  have h2 : (BitVec.ofInt 64 127).toNat = 127 := rfl
  show IntKind.i64.wrap ((BitVec.ofInt 64 (IntKind.i64.wrap (f : Int)) &&& BitVec.ofInt 64 127).toNat : Int) = _
  rw [BitVec.toNat_and, h1, h2, IntKind.wrap_i64, show (127 : Nat) = 2 ^ 7 - 1 from rfl, Nat.and_two_pow_sub_one_eq_mod]
  omega
theorem wrU64 (a b n : Nat) (h : a + b = n) (hn : n < 18446744073709551616) : IntKind.u64.wrap ((a : Int) + (b : Int)) = (n : Int) := by
  rw [IntKind.wrap_u64]; omega
set_option maxHeartbeats 1000000 in
theorem ones_c (x : Nat) (hx : x < 18446744073709551616) (w : World) : Calls Tryz.prog 15 #[.int .u64 (x : Int)] w fun e w' => e = .returned (.int .i64 (OC.popAux 64 x : Int)) ∧ w' = w := by
  obtain ⟨a, ha⟩ : ∃ a, a = ((x / 2) &&& 6148914691236517205) + (x &&& 6148914691236517205) := ⟨_, rfl⟩
  obtain ⟨b, hb⟩ : ∃ b, b = ((a / 4) &&& 3689348814741910323) + (a &&& 3689348814741910323) := ⟨_, rfl⟩
  obtain ⟨c, hc⟩ : ∃ c, c = (b / 16 + b) &&& 1085102592571150095 := ⟨_, rfl⟩
  obtain ⟨d, hd⟩ : ∃ d, d = c + c / 256 := ⟨_, rfl⟩
  obtain ⟨e, he⟩ : ∃ e, e = d + d / 65536 := ⟨_, rfl⟩
  obtain ⟨f, hf⟩ : ∃ f, f = e + e / 4294967296 := ⟨_, rfl⟩
  obtain ⟨k1, k2, k3, k4, k5, k6, k7⟩ := OC.ones x a b c d e f ha hb hc hd he hf
  have hbl : b < 18446744073709551616 := by omega
  have hcl : c < 18446744073709551616 := by omega
  have e1 : IntKind.u64.wrap (bits .and .u64 ((x : Int) / 2) 6148914691236517205 + bits .and .u64 (x : Int) 6148914691236517205) = (a : Int) := by
    have g1 := bits_and_u64_nat (x / 2) 6148914691236517205 (by omega) (by omega)
    have g2 := bits_and_u64_nat x 6148914691236517205 hx (by omega)
    rw [show (x : Int) / 2 = ((x / 2 : Nat) : Int) by omega]
    exact (congrArg IntKind.u64.wrap (congr (congrArg HAdd.hAdd g1) g2)).trans (wrU64 _ _ _ ha.symm (by omega))
  have e2 : IntKind.u64.wrap (bits .and .u64 ((a : Int) / 4) 3689348814741910323 + bits .and .u64 (a : Int) 3689348814741910323) = (b : Int) := by
    have g1 := bits_and_u64_nat (a / 4) 3689348814741910323 (by omega) (by omega)
    have g2 := bits_and_u64_nat a 3689348814741910323 (by omega) (by omega)
    rw [show (a : Int) / 4 = ((a / 4 : Nat) : Int) by omega]
    exact (congrArg IntKind.u64.wrap (congr (congrArg HAdd.hAdd g1) g2)).trans (wrU64 _ _ _ hb.symm hbl)
  have e3 : bits .and .u64 (IntKind.u64.wrap ((b : Int) / 16 + (b : Int))) 1085102592571150095 = (c : Int) := by
    rw [show (b : Int) / 16 = ((b / 16 : Nat) : Int) by omega, wrU64 (b / 16) b _ rfl (by omega)]
    rw [hc]
    exact bits_and_u64_nat (b / 16 + b) 1085102592571150095 (by omega) (by omega)
  have e4 : IntKind.u64.wrap ((c : Int) + (c : Int) / 256) = (d : Int) := by rw [IntKind.wrap_u64]; omega
  have e5 : IntKind.u64.wrap ((d : Int) + (d : Int) / 65536) = (e : Int) := by rw [IntKind.wrap_u64]; omega
  have e6 : IntKind.u64.wrap ((e : Int) + (e : Int) / 4294967296) = (f : Int) := by rw [IntKind.wrap_u64]; omega
  have e7 : bits .and .i64 (wrap64 (f : Int)) 127 = (OC.popAux 64 x : Int) := by rw [show wrap64 (f : Int) = IntKind.i64.wrap (f : Int) by rw [IntKind.wrap_i64]; unfold wrap64; omega, and_i64_127 f (by omega), k1]
  clear ha hb hc hd he hf k1 k2 k3 k4 k5 k6 k7 hbl hcl
  generalize OC.popAux 64 x = r at *
  go_enter Tryz.func15, Tryz.ntmps15
  go_wp2
  go_ret
  exact ⟨rfl, rfl⟩
/-- A table of bytes, where the program lays it. -/
def TabB (g : Nat) (w : World) : Prop := ∀ i, i < 64 → ∃ k : Nat, k < 64 ∧ w.cell? ⟨g, i, none⟩ = some (.int .u8 (k : Int))
theorem tz_key (x a : Nat) (hx : x < 18446744073709551616) (hx0 : x ≠ 0) (hlow : x &&& (18446744073709551616 - x) = a) :
    IntKind.u64.wrap (bits BinOp.and IntKind.u64 (x : Int) (IntKind.u64.wrap (-(x : Int))) * 285870213051353865) / 288230376151711744 = ((a * 285870213051353865 % 18446744073709551616 / 288230376151711744 : Nat) : Int) := by
  have e1 : IntKind.u64.wrap (-(x : Int)) = ((18446744073709551616 - x : Nat) : Int) := by rw [IntKind.wrap_u64]; omega
  rw [e1, bits_and_u64_nat x _ hx (by omega), hlow, IntKind.wrap_u64]
  omega
theorem tz_core (x k idx : Nat) (w : World) (hx0 : ((x : Int) == 0) = false)
    (key : IntKind.u64.wrap (bits BinOp.and IntKind.u64 (x : Int) (IntKind.u64.wrap (-(x : Int))) * 285870213051353865) / 288230376151711744 = (idx : Int)) (hi : (idx : Int) < 64) (hk : k < 64) (hcell : w.cell? ⟨0, idx, none⟩ = some (.int .u8 (k : Int))) :
    Calls Tryz.prog 16 #[.int .u64 (x : Int)] w fun e w' => e = .returned (.int .i64 (k : Int)) ∧ w' = w := by
  go_enter Tryz.func16, Tryz.ntmps16
  go_wp2_with (simp only [key])
  go_ret
  exact ⟨rfl, rfl⟩
theorem tz_c (x : Nat) (hx : x < 18446744073709551616) (hx0 : x ≠ 0) (w : World) (hT : TabB 0 w) : Calls Tryz.prog 16 #[.int .u64 (x : Int)] w fun e w' => (∃ k : Int, e = .returned (.int .i64 k)) ∧ w' = w := by
  obtain ⟨hlow, hk⟩ := Lib.lowest_bit 64 x hx0 hx
  obtain ⟨hi, -⟩ := Lib.deBruijn64_at _ hk
  obtain ⟨k, hk2, hcell⟩ := hT _ hi
  refine (tz_core x k _ w (by simp; omega) (tz_key x _ hx hx0 hlow) (by omega) hk2 hcell).mono ?_
  rintro e w' ⟨rfl, rfl⟩
  exact ⟨⟨_, rfl⟩, rfl⟩
end Go.Proofs.YtmepmoalhgehhaaGreatDoor
namespace Go.Proofs.YtmepmoalhgehhaaGreatDoor
open Go.RowKit Go.Sort
/-- The table of TrailingZeros64, where the program lays it. -/
def TabX (w : World) : Prop := ∀ i, i < 64 → w.cell? ⟨0, i, none⟩ = some (.int .u8 (Lib.deBruijn64tab.getD i 0 : Int))
theorem TabX.below {w w' : World} (h : TabX w) (hb : Below w.heap.size w w') : TabX w' := fun i hi => by
  have h2 := h i hi
  rw [hb.cell (p := ⟨0, i, none⟩) (World.block_lt_of_cell? _ _ h2)]
  exact h2
theorem ctz_pow : ∀ k : Fin 20, Lib.ctz 64 (2 ^ k.val) = k.val ∧ OC.popAux 64 (2 ^ k.val) = 1 ∧ 2 ^ k.val ≤ 524288 ∧ 0 < 2 ^ k.val := by decide +kernel
theorem tzx_c (k : Nat) (x : Nat) (h0 : Lib.ctz 64 x = k) (hx0 : x ≠ 0) (hx : x < 18446744073709551616) (hk : k < 64) (w : World) (hT : TabX w) : Calls Tryz.prog 16 #[.int .u64 (x : Int)] w fun e w' => e = .returned (.int .i64 (k : Int)) ∧ w' = w := by
  obtain ⟨hlow, hkk⟩ := Lib.lowest_bit 64 x hx0 hx
  have key := tz_key x _ hx hx0 hlow
  rw [h0] at key
  obtain ⟨hi, htab⟩ := Lib.deBruijn64_at k hk
  have hcell := hT _ hi
  rw [htab] at hcell
  exact tz_core x k _ w (by simp; omega) key (by omega) hk hcell
theorem placex_c (k : Nat) (hk : k < 20) (x : Nat) (hx : x = 2 ^ k) (w : World) (hT : TabX w) : Calls Tryz.prog 6 #[.int .u64 (x : Int)] w fun e w' => e = .returned (.tuple #[.int .i64 (k : Int), .int .i64 0]) ∧ w' = w := by
  obtain ⟨h0, h1, h2, h3⟩ := ctz_pow ⟨k, hk⟩
  simp only [← hx] at h0 h1 h2 h3
  have hO := ones_c x (by omega) w
  rw [h1] at hO
  have hZ := tzx_c k x h0 (by omega) (by omega) (by omega) w hT
  have g1 : ¬ (524288 : Int) < (x : Int) := by omega
  clear hx h0 h1 hT
  go_enter Tryz.func6, Tryz.ntmps6
  go_wp2_with fail
  refine hO.mono ?_
  rintro e w' ⟨rfl, rfl⟩
  clear hO
  go_wp2_with fail
  refine hZ.mono ?_
  rintro e w' ⟨rfl, rfl⟩
  clear hZ
  go_wp2
  go_ret2
  exact ⟨rfl, rfl⟩
end Go.Proofs.YtmepmoalhgehhaaGreatDoor
namespace Go.Proofs.YtmepmoalhgehhaaGreatDoor.SP
open Go.RowKit
theorem lt64 (x : BitVec 64) : (x.toNat : Int) < 18446744073709551616 := by
  have := x.isLt
  omega
theorem ofInt_toNat64 (x : BitVec 64) : BitVec.ofInt 64 (x.toNat : Int) = x := by
  apply BitVec.eq_of_toNat_eq
  rw [BitVec.ofInt_natCast, BitVec.toNat_ofNat]
  exact Nat.mod_eq_of_lt x.isLt
theorem wrap_u64_toNat (x : BitVec 64) : IntKind.u64.wrap (x.toNat : Int) = x.toNat := by
  rw [IntKind.wrap_u64]
  have := lt64 x
  exact Int.emod_eq_of_lt (by omega) this
/-- A word's number. -/
def u (v : BitVec 64) : Int := (v.toNat : Int)
theorem u_lt (v : BitVec 64) : u v < 18446744073709551616 := lt64 v
theorem u_nonneg (v : BitVec 64) : 0 ≤ u v := Int.natCast_nonneg _
theorem bits_xor64 (a b : BitVec 64) : bits .xor .u64 (u a) (u b) = u (a ^^^ b) := by
  show IntKind.u64.wrap ((BitVec.ofInt 64 (a.toNat : Int) ^^^ BitVec.ofInt 64 (b.toNat : Int)).toNat : Int) = _
  rw [ofInt_toNat64, ofInt_toNat64, wrap_u64_toNat]
  rfl
theorem bits_and64 (a b : BitVec 64) : bits .and .u64 (u a) (u b) = u (a &&& b) := by
  show IntKind.u64.wrap ((BitVec.ofInt 64 (a.toNat : Int) &&& BitVec.ofInt 64 (b.toNat : Int)).toNat : Int) = _
  rw [ofInt_toNat64, ofInt_toNat64, wrap_u64_toNat]
  rfl
theorem bits_or64 (a b : BitVec 64) : bits .or .u64 (u a) (u b) = u (a ||| b) := by
  show IntKind.u64.wrap ((BitVec.ofInt 64 (a.toNat : Int) ||| BitVec.ofInt 64 (b.toNat : Int)).toNat : Int) = _
  rw [ofInt_toNat64, ofInt_toNat64, wrap_u64_toNat]
  rfl
theorem bits_not64 (a : BitVec 64) : bits .xor .u64 IntKind.u64.max (u a) = u (~~~a) := by
  have e : IntKind.u64.max = u (BitVec.allOnes 64) := by decide +kernel
  rw [e, bits_xor64, BitVec.allOnes_xor]
theorem and63 (k : Nat) (hk : k < 64) : bits .and .u64 (k : Int) 63 = k := by
  have h : ∀ j : Fin 64, bits .and .u64 ((j.val : Nat) : Int) 63 = (j.val : Int) := by decide +kernel
  exact h ⟨k, hk⟩
theorem shl64 (x : BitVec 64) (k : Nat) : IntKind.u64.wrap (u x * 2 ^ k) = u (x <<< k) := by
  unfold u
  rw [IntKind.wrap_u64, BitVec.toNat_shiftLeft, Nat.shiftLeft_eq, Int.natCast_emod, Int.natCast_mul, Int.natCast_pow]
  rfl
theorem shr64 (x : BitVec 64) (k : Nat) : u x / 2 ^ k = u (x >>> k) := by
  unfold u
  rw [BitVec.toNat_ushiftRight, Nat.shiftRight_eq_div_pow, Int.natCast_ediv, Int.natCast_pow]
  rfl
def rol (w : BitVec 64) (n : Nat) : BitVec 64 := w <<< n ||| w >>> (64 - n)
abbrev St := Array (BitVec 64)
/-- A word as the model holds it. -/
def enc (v : BitVec 64) : Value := .int .u64 (u v)
def colsum (d : St) (x : Nat) : BitVec 64 := d[x]! ^^^ d[x + 5]! ^^^ d[x + 10]! ^^^ d[x + 15]! ^^^ d[x + 20]!
def sumsTo (d : St) : Nat → St
  | 0 => #[0, 0, 0, 0, 0]
  | k + 1 => (sumsTo d k).setIfInBounds k (colsum d k)
def xorAt (d : St) (i : Nat) (v : BitVec 64) : St := d.setIfInBounds i (d[i]! ^^^ v)
def innerTo (v : BitVec 64) (x : Nat) (d : St) : Nat → St
  | 0 => d
  | m + 1 => xorAt (innerTo v x d m) (x + 5 * m) v
def dcol (s : St) (x : Nat) : BitVec 64 := s[(x + 4) % 5]! ^^^ rol s[(x + 1) % 5]! 1
def thetaTo (s d : St) : Nat → St
  | 0 => d
  | k + 1 => innerTo (dcol s k) k (thetaTo s d k) 5
def theta (d : St) : St := thetaTo (sumsTo d 5) d 5
theorem xorAt_size (d : St) (i : Nat) (v : BitVec 64) : (xorAt d i v).size = d.size := by simp [xorAt]
theorem sumsTo_size (d : St) (k : Nat) : (sumsTo d k).size = 5 := by
  induction k with
  | zero => rfl
  | succ k ih => simp [sumsTo, ih]
theorem innerTo_size (v : BitVec 64) (x : Nat) (d : St) (m : Nat) : (innerTo v x d m).size = d.size := by
  induction m with
  | zero => rfl
  | succ k ih => simp [innerTo, xorAt_size, ih]
theorem thetaTo_size (s d : St) (m : Nat) : (thetaTo s d m).size = d.size := by
  induction m with
  | zero => rfl
  | succ k ih => simp [thetaTo, innerTo_size, ih]
/-- turnAndMove behind t rounds: x, y, what moves, the words. -/
structure Tm where
  x : Nat
  y : Nat
  m : BitVec 64
  d : St
def offs (t : Nat) : Nat := (t + 1) * (t + 2) / 2 % 64
def tmStep (t : Nat) (s : Tm) : Tm :=
  { x := s.y, y := (2 * s.x + 3 * s.y) % 5, m := s.d[s.y + 5 * ((2 * s.x + 3 * s.y) % 5)]!, d := s.d.setIfInBounds (s.y + 5 * ((2 * s.x + 3 * s.y) % 5)) (rol s.m (offs t)) }
def tmTo (d : St) : Nat → Tm
  | 0 => { x := 1, y := 0, m := d[1]!, d := d }
  | t + 1 => tmStep t (tmTo d t)
def rhopi (d : St) : St := (tmTo d 24).d
theorem tmTo_ok (d : St) (hd : d.size = 25) (t : Nat) : (tmTo d t).x < 5 ∧ (tmTo d t).y < 5 ∧ (tmTo d t).d.size = 25 := by
  induction t with
  | zero => exact ⟨show 1 < 5 by decide, show 0 < 5 by decide, hd⟩
  | succ t ih =>
    obtain ⟨h1, h2, h3⟩ := ih
    refine ⟨h2, ?_, ?_⟩
    · show (2 * (tmTo d t).x + 3 * (tmTo d t).y) % 5 < 5
      omega
    · show ((tmTo d t).d.setIfInBounds _ _).size = 25
      rw [Array.size_setIfInBounds, h3]
/-- mixRows: one row, then all of them. -/
def rowAt (d : St) (i : Nat) : St :=
  xorAt (xorAt (xorAt (xorAt (xorAt d i (~~~d[i + 1]! &&& d[i + 2]!)) (i + 1) (~~~d[i + 2]! &&& d[i + 3]!)) (i + 2) (~~~d[i + 3]! &&& d[i + 4]!)) (i + 3) (~~~d[i + 4]! &&& d[i]!)) (i + 4) (~~~d[i]! &&& d[i + 1]!)
def chiTo (d : St) : Nat → St
  | 0 => d
  | k + 1 => rowAt (chiTo d k) (5 * k)
def chi (d : St) : St := chiTo d 5
theorem rowAt_size (d : St) (i : Nat) : (rowAt d i).size = d.size := by simp [rowAt, xorAt_size]
theorem chiTo_size (d : St) (k : Nat) : (chiTo d k).size = d.size := by
  induction k with
  | zero => rfl
  | succ k ih => simp [chiTo, rowAt_size, ih]
end Go.Proofs.YtmepmoalhgehhaaGreatDoor.SP
namespace Go.Proofs.YtmepmoalhgehhaaGreatDoor.SP
open Go.RowKit
/-- The register of the rounds' constants, one step on. -/
def rcReg (r : Nat) : Nat := if 255 < 2 * r then (2 * r) ^^^ 369 else 2 * r
def rcTo (r : Nat) : Nat → BitVec 64 × Nat
  | 0 => (0, r)
  | j + 1 => ((rcTo r j).1 ||| BitVec.ofNat 64 ((rcTo r j).2 % 2) <<< (2 ^ j - 1), rcReg (rcTo r j).2)
theorem rcReg_lt (r : Nat) (h : r < 256) : rcReg r < 256 := by
  have H : ∀ j : Fin 256, rcReg j.val < 256 := by decide +kernel
  exact H ⟨r, h⟩
theorem rcTo_lt (r : Nat) (h : r < 256) (j : Nat) : (rcTo r j).2 < 256 := by
  induction j with
  | zero => exact h
  | succ j ih => exact rcReg_lt _ ih
theorem rc_xor (r : Nat) (h : r < 256) : bits .xor .i64 ((r : Int) * 2) 369 = (((2 * r) ^^^ 369 : Nat) : Int) := by
  have H : ∀ j : Fin 256, bits .xor .i64 ((j.val : Int) * 2) 369 = (((2 * j.val) ^^^ 369 : Nat) : Int) := by decide +kernel
  exact H ⟨r, h⟩
theorem rc_and (r : Nat) (h : r < 256) : bits .and .i64 (r : Int) 1 = u (BitVec.ofNat 64 (r % 2)) := by
  have H : ∀ j : Fin 256, bits .and .i64 (j.val : Int) 1 = u (BitVec.ofNat 64 (j.val % 2)) := by decide +kernel
  exact H ⟨r, h⟩
theorem wrap_u (x : BitVec 64) : IntKind.u64.wrap (u x) = u x := wrap_u64_toNat x
def kround (d : St) (c : BitVec 64) : St := xorAt (chi (rhopi (theta d))) 0 c
/-- A round's constant, and the register as the next round needs it. -/
def rcC (r : Nat) : BitVec 64 := (rcTo r 7).1
def rcN (r : Nat) : Nat := (rcTo r 7).2
theorem rcN_lt (r : Nat) (h : r < 256) : rcN r < 256 := by
  unfold rcN
  exact rcTo_lt r h 7
def rcAt : Nat → Nat
  | 0 => 1
  | k + 1 => rcN (rcAt k)
theorem rcAt_lt (k : Nat) : rcAt k < 256 := by
  induction k with
  | zero => decide
  | succ k ih => exact rcN_lt _ ih
/-- The words behind k rounds. -/
def permTo (d : St) : Nat → St
  | 0 => d
  | k + 1 => kround (permTo d k) (rcC (rcAt k))
def perm (d : St) : St := permTo d 24
theorem theta_size (d : St) : (theta d).size = d.size := thetaTo_size _ _ _
theorem rhopi_size (d : St) (hd : d.size = 25) : (rhopi d).size = 25 := (tmTo_ok d hd 24).2.2
theorem chi_size (d : St) : (chi d).size = d.size := chiTo_size _ _
theorem kround_size (d : St) (c : BitVec 64) (hd : d.size = 25) : (kround d c).size = 25 := by
  unfold kround
  rw [xorAt_size, chi_size, rhopi_size]
  rw [theta_size, hd]
theorem permTo_size (d : St) (hd : d.size = 25) (k : Nat) : (permTo d k).size = 25 := by
  induction k with
  | zero => exact hd
  | succ k ih => exact kround_size _ _ ih
theorem perm_size (d : St) (hd : d.size = 25) : (perm d).size = 25 := permTo_size d hd 24
abbrev Bs := Array UInt8
/-- A byte's number; a byte as the model holds it. -/
def ub (x : UInt8) : Int := (x.toNat : Int)
def encB (x : UInt8) : Value := .int .u8 (ub x)
/-- A byte as a word; a word's lowest byte. -/
def wide (x : UInt8) : BitVec 64 := BitVec.ofNat 64 x.toNat
def low (v : BitVec 64) : UInt8 := UInt8.ofNat v.toNat
theorem ub_lt (x : UInt8) : ub x < 256 := by
  have := x.toNat_lt
  unfold ub
  omega
theorem ub_nonneg (x : UInt8) : 0 ≤ ub x := Int.natCast_nonneg _
theorem wide_ub (x : UInt8) : ub x = u (wide x) := by
  unfold ub u wide
  rw [BitVec.toNat_ofNat, Nat.mod_eq_of_lt]
  have := x.toNat_lt
  omega
theorem wrap_ub (x : UInt8) : IntKind.u64.wrap (ub x) = u (wide x) := by rw [wide_ub, wrap_u]
theorem low_u (v : BitVec 64) : IntKind.u8.wrap (u v) = ub (low v) := by
  have e : IntKind.u8.wrap (u v) = u v % 256 := by simp [IntKind.wrap, IntKind.bits, IntKind.signed]
  rw [e]
  unfold u ub low
  rw [UInt8.toNat_ofNat']
  omega
/-- The word that begins at place o, its first k bytes. -/
def wordTo (bs : Bs) (o : Nat) : Nat → BitVec 64
  | 0 => 0
  | i + 1 => wordTo bs o i ||| wide bs[o + i]! <<< (8 * i)
def wordOf (bs : Bs) (o : Nat) : BitVec 64 := wordTo bs o 8
def mixTo (bs : Bs) (d : St) : Nat → St
  | 0 => d
  | i + 1 => xorAt (mixTo bs d i) i (wordOf bs (8 * i))
theorem mixTo_size (bs : Bs) (d : St) (k : Nat) : (mixTo bs d k).size = d.size := by
  induction k with
  | zero => rfl
  | succ k ih => simp [mixTo, xorAt_size, ih]
def byteOf (d : St) (k : Nat) : UInt8 := low (d[k / 8]! >>> (8 * (k % 8)))
def frontTo (d : St) (n : Nat) : Nat → Bs
  | 0 => Array.replicate n 0
  | k + 1 => (frontTo d n k).setIfInBounds k (byteOf d k)
def front (d : St) (n : Nat) : Bs := frontTo d n n
theorem frontTo_size (d : St) (n k : Nat) : (frontTo d n k).size = n := by
  induction k with
  | zero => simp [frontTo]
  | succ k ih => simp [frontTo, ih]
theorem front_size (d : St) (n : Nat) : (front d n).size = n := frontTo_size d n n
end Go.Proofs.YtmepmoalhgehhaaGreatDoor.SP
namespace Go.Proofs.YtmepmoalhgehhaaGreatDoor.SP
open Go.RowKit Go.Sort
/-- Of all that was there, only the cells off .. off + n - 1 of block b may have turned; no block has gone. -/
structure Only (b off n : Nat) (w w' : World) : Prop where
  os : w'.os = w.os
  tape : w'.tape = w.tape
  output : w'.output = w.output
  size : w.heap.size ≤ w'.heap.size
  block : ∀ k, k < w.heap.size → k ≠ b → w'.heap[k]? = w.heap[k]?
  cell : ∀ o, (o < off ∨ off + n ≤ o) → w'.cell? ⟨b, o, none⟩ = w.cell? ⟨b, o, none⟩
  froz : ∀ o, w'.frozen? ⟨b, o, none⟩ = w.frozen? ⟨b, o, none⟩
variable {b off n : Nat} {w w1 w2 : World}
theorem Only.refl (b off n : Nat) (w : World) : Only b off n w w := ⟨rfl, rfl, rfl, Nat.le_refl _, fun _ _ _ => rfl, fun _ _ => rfl, fun _ => rfl⟩
theorem Only.trans (h : Only b off n w w1) (k : Only b off n w1 w2) : Only b off n w w2 :=
  ⟨k.os.trans h.os, k.tape.trans h.tape, k.output.trans h.output, Nat.le_trans h.size k.size,
    fun i hi hn => (k.block i (Nat.lt_of_lt_of_le hi h.size) hn).trans (h.block i hi hn),
    fun o ho => (k.cell o ho).trans (h.cell o ho), fun o => (k.froz o).trans (h.froz o)⟩
theorem Only.drewN (h : Only b off n w w1) (q : Nat) : Only b off n w (w1.drewN q) := ⟨h.os, h.tape, h.output, h.size, h.block, h.cell, h.froz⟩
theorem Only.drew (h : Only b off n w w1) : Only b off n w w1.drew := ⟨h.os, h.tape, h.output, h.size, h.block, h.cell, h.froz⟩
theorem Only.setCell (h : Only b off n w w1) {o : Nat} (h1 : off ≤ o) (h2 : o < off + n) (v : Value) : Only b off n w (w1.setCell ⟨b, o, none⟩ v) := by
  refine h.trans ⟨rfl, rfl, rfl, by simp, fun k _ hn => Below.heap_setCell _ _ _ _ hn, fun o' ho => ?_, fun o' => by simp⟩
  exact World.cell?_setCell_other _ _ _ _ (by intro e; simp only [Addr.mk.injEq, and_true, true_and] at e; omega)
theorem Only.alloc (h : Only b off n w w1) (hb : b < w1.heap.size) (o : Obj) : Only b off n w (w1.alloc o) := by
  refine h.trans ⟨rfl, rfl, rfl, by simp, fun k hk _ => Below.heap_alloc _ _ _ hk, fun o' _ => ?_, fun o' => ?_⟩
  · exact World.cell?_alloc_lt _ _ _ hb
  · exact World.frozen?_alloc_old _ _ _ (by show b ≠ _; omega)
theorem Only.below (h : Only b off n w w1) {B : Nat} (hB : B ≤ w.heap.size) (hb : B ≤ b) : Below B w w1 :=
  ⟨h.os, h.tape, h.output, h.size, fun k hk => h.block k (by omega) (by omega)⟩
/-- What only makes memory turns nothing of the row. -/
theorem Only.of_below {B : Nat} (h : Below B w w1) (hB : B = w.heap.size) (hb : b < B) : Only b off n w w1 :=
  ⟨h.os, h.tape, h.output, h.size, fun k hk _ => h.block k (by omega), fun o _ => h.cell (p := ⟨b, o, none⟩) hb, fun o => h.frozen (p := ⟨b, o, none⟩) hb⟩
theorem Only.other (h : Only b off n w w1) {c o : Nat} (hc : c ≠ b) (hs : c < w.heap.size) : w1.cell? ⟨c, o, none⟩ = w.cell? ⟨c, o, none⟩ ∧ w1.frozen? ⟨c, o, none⟩ = w.frozen? ⟨c, o, none⟩ :=
  ⟨World.cell?_of_block (w := w) (h.block c hs hc), World.frozen?_of_block (w := w) (h.block c hs hc)⟩
/-- What was done to a block of one's own, just made, turned nothing that was there. -/
theorem Only.fresh {o m : Nat} {x : Obj} (h : Only w.heap.size o m (w.alloc x) w1) : Below w.heap.size w w1 :=
  ((Below.refl _ _).alloc (Nat.le_refl _) x).trans (h.below (by simp) (Nat.le_refl _))
section
variable {α : Type} [Inhabited α] {enc : α → Value} {d : Array α}
theorem Holds.lt (h : Holds enc w b off d) (hd : 0 < d.size) : b < w.heap.size := World.block_lt_of_cell? _ _ (h 0 hd).1
theorem Holds.other {c o : Nat} (h : Holds enc w c o d) (k : Only b off n w w1) (hc : c ≠ b) (hd : 0 < d.size) : Holds enc w1 c o d := by
  intro j hj
  have := h j hj
  have := k.other (o := o + j) hc (Holds.lt h hd)
  rw [this.1, this.2]
  exact h j hj
theorem Holds.same {o : Nat} (h : Holds enc w b o d) (k : Only b off n w w1) (hd : o + d.size ≤ off ∨ off + n ≤ o) : Holds enc w1 b o d := by
  intro j hj
  rw [k.cell _ (by omega), k.froz]
  exact h j hj
theorem Holds.below {B : Nat} (h : Holds enc w b off d) (k : Below B w w1) (hb : b < B) : Holds enc w1 b off d := by
  intro j hj
  rw [k.cell (p := ⟨b, off + j, none⟩) hb, k.frozen (p := ⟨b, off + j, none⟩) hb]
  exact h j hj
theorem Holds.drewN (h : Holds enc w b off d) (q : Nat) : Holds enc (w.drewN q) b off d := h
theorem Holds.drew (h : Holds enc w b off d) : Holds enc w.drew b off d := h
theorem Holds.set (h : Holds enc w b off d) {i : Nat} (hi : i < d.size) (x : α) : Holds enc (w.setCell ⟨b, off + i, none⟩ (enc x)) b off (d.setIfInBounds i x) := by
  intro j hj
  rw [Array.size_setIfInBounds] at hj
  rw [World.frozen?_setCell]
  by_cases e : j = i
  · subst e
    rw [getElem!_set_same d j x hi]
    exact ⟨World.cell?_setCell_same _ _ _ (h j hj).1, (h j hj).2⟩
  · rw [getElem!_set_other d i j x e, World.cell?_setCell_other _ _ _ _ (by intro e'; simp only [Addr.mk.injEq, and_true, true_and] at e'; omega)]
    exact h j hj
/-- A block of one's own, just made. -/
theorem Holds.new (w : World) (t : TypeId) (d : Array α) : Holds enc (w.alloc (.cells (d.map enc) t)) w.heap.size 0 d := by
  intro j hj
  rw [World.cell?_alloc_new, World.frozen?_alloc_new]
  refine ⟨?_, rfl⟩
  simp only [Nat.zero_add, Array.getElem?_map, Array.getElem?_eq_getElem hj, Option.map_some, getElem!_pos d j hj]
/-- A block of one's own, made by 'make'. -/
theorem Holds.made (w : World) (t : TypeId) (n : Nat) (x : α) : Holds enc (w.alloc (.cells (madeCells #[enc x] n) t)) w.heap.size 0 (Array.replicate n x) := by
  intro j hj
  rw [Array.size_replicate] at hj
  rw [World.cell?_alloc_new, World.frozen?_alloc_new]
  refine ⟨?_, rfl⟩
  rw [getElem!_pos _ j (by simpa using hj), Array.getElem_replicate]
  simp [madeCells, hj, Nat.mod_one]
end
theorem Holds.xor {d : St} (h : Holds enc w b off d) {i : Nat} (hi : i < d.size) {x : BitVec 64} (hx : d[i]! = x) (v : BitVec 64) : Holds enc (w.setCell ⟨b, off + i, none⟩ (.int .u64 (u (x ^^^ v)))) b off (xorAt d i v) := by
  unfold xorAt
  rw [hx]
  exact Holds.set h hi (x ^^^ v)
theorem xorAt_other (d : St) (i j : Nat) (v : BitVec 64) (h : j ≠ i) : (xorAt d i v)[j]! = d[j]! := getElem!_set_other d i j _ h
end Go.Proofs.YtmepmoalhgehhaaGreatDoor.SP
namespace Go.Proofs.YtmepmoalhgehhaaGreatDoor.SP
open Go.RowKit Go.Sort
theorem mixed : Tryz.prog.follows .mixedOrders = true := by kernel_rfl
theorem at_word {w : World} {b off : Nat} {d : St} (h : Holds enc w b off d) (i : Nat) (hi : i < d.size) {x : BitVec 64} (hx : d[i]! = x) :
    w.cell? ⟨b, off + i, none⟩ = some (.int .u64 (u x)) ∧ w.frozen? ⟨b, off + i, none⟩ = false := by
  rw [← hx]; exact h i hi
theorem ret_int {k : IntKind} {a b : Int} (h : a = b) : Ending.returned (.int k a) = .returned (.int k b) := by rw [h]
set_option maxHeartbeats 400000 in
theorem rotl_any (x : BitVec 64) (k : Nat) (w : World) (hk : k < 64) :
    Calls Tryz.prog 146 #[.int .u64 (u x), .int .i64 (k : Int)] w fun e w' => e = .returned (.int .u64 (u (rol x k))) ∧ w' = w := by
  have h63 := and63 k hk
  have h1 : (0 : Int) ≤ 64 - (k : Int) := by omega
  go_enter Tryz.func146, Tryz.ntmps146
  go_wp2
  go_ret
  refine ⟨ret_int ?_, rfl⟩
  rw [shl64, shr64, bits_or64]
  rfl
end Go.Proofs.YtmepmoalhgehhaaGreatDoor.SP
namespace Go.Proofs.YtmepmoalhgehhaaGreatDoor.SP
open Go.RowKit Go.Sort
theorem holds_zero5 (w : World) (t : TypeId) : Holds enc (w.alloc (.cells #[.int .u64 0, .int .u64 0, .int .u64 0, .int .u64 0, .int .u64 0] t)) w.heap.size 0 (#[0, 0, 0, 0, 0] : St) := by
  have h := Holds.new (enc := enc) w t (#[0, 0, 0, 0, 0] : St)
  have e : Array.map enc (#[0, 0, 0, 0, 0] : St) = #[.int .u64 0, .int .u64 0, .int .u64 0, .int .u64 0, .int .u64 0] := by simp [enc, u]
  rw [e] at h
  exact h
attribute [local go_sem] bits_xor64 bits_and64 bits_or64
set_option maxHeartbeats 1000000 in
set_option maxRecDepth 100000 in
theorem mixColumns_any (b off : Nat) (d : St) (w : World) (hd : d.size = 25) (hH : Holds enc w b off d) :
    Calls Tryz.prog 128 #[.pointer (some ⟨b, off, none⟩)] w fun e w' => e = .returned (.tuple #[]) ∧ Only b off 25 w w' ∧ Holds enc w' b off (theta d) := by
  have hb := Holds.lt hH (by omega)
  go_enter Tryz.func128, Tryz.ntmps128
  go_wp2
  generalize hW1 : (w.alloc _) = W1
  go_loopg [7] 5 (fun g s7 wr => ∃ k sk, k + g = 5 ∧ s7 = .int .i64 (k : Nat) ∧ Holds enc wr w.heap.size 0 sk ∧ Only w.heap.size 0 5 W1 wr ∧ Hid (sk = sumsTo d k))
  case atStart =>
    refine ⟨0, #[0, 0, 0, 0, 0], rfl, rfl, ?_, Only.refl _ _ _ _, rfl⟩
    rw [← hW1]
    exact holds_zero5 w 185
  case round =>
    obtain ⟨k, sk, hk, rfl, hS, hO, HE⟩ := hrel
    have hHw : Holds enc wr b off d := Holds.other (by rw [← hW1]; exact Holds.below hH ((Below.refl _ _).alloc (Nat.le_refl _) _) hb) hO (by omega) (by omega)
    by_cases hlt : k < 5
    · obtain ⟨x0, hx0⟩ : ∃ x, d[k]! = x := ⟨_, rfl⟩
      obtain ⟨x1, hx1⟩ : ∃ x, d[k + 5]! = x := ⟨_, rfl⟩
      obtain ⟨x2, hx2⟩ : ∃ x, d[k + 10]! = x := ⟨_, rfl⟩
      obtain ⟨x3, hx3⟩ : ∃ x, d[k + 15]! = x := ⟨_, rfl⟩
      obtain ⟨x4, hx4⟩ : ∃ x, d[k + 20]! = x := ⟨_, rfl⟩
      obtain ⟨x5, hx5⟩ : ∃ x, sk[k]! = x := ⟨_, rfl⟩
      have hss : sk.size = 5 := by rw [HE.out, sumsTo_size]
      obtain ⟨c0, f0⟩ := at_word hHw k (by omega) hx0
      obtain ⟨c1, f1⟩ := at_word hHw (k + 5) (by omega) hx1
      obtain ⟨c2, f2⟩ := at_word hHw (k + 10) (by omega) hx2
      obtain ⟨c3, f3⟩ := at_word hHw (k + 15) (by omega) hx3
      obtain ⟨c4, f4⟩ := at_word hHw (k + 20) (by omega) hx4
      obtain ⟨c5, f5⟩ := at_word hS k (by omega) hx5
      rw [Nat.zero_add] at c5 f5
      have HX : Hid (colsum d k = x0 ^^^ x1 ^^^ x2 ^^^ x3 ^^^ x4) := by rw [← hx0, ← hx1, ← hx2, ← hx3, ← hx4]; rfl
      clear hx0 hx1 hx2 hx3 hx4 hx5 hHw
      have k5 : (k : Int) < 5 := by omega
      have b0 : (k : Int) < 25 := by omega
      have b1 : (k : Int) + 5 < 25 := by omega
      have b2 : (k : Int) + 10 < 25 := by omega
      have b3 : (k : Int) + 15 < 25 := by omega
      have b4 : (k : Int) + 20 < 25 := by omega
      have p1 : 0 ≤ (k : Int) + 5 := by omega
      have p2 : 0 ≤ (k : Int) + 10 := by omega
      have p3 : 0 ≤ (k : Int) + 15 := by omega
      have p4 : 0 ≤ (k : Int) + 20 := by omega
      have e1 : ((k : Int) + 5).toNat = k + 5 := by omega
      have e2 : ((k : Int) + 10).toNat = k + 10 := by omega
      have e3 : ((k : Int) + 15).toNat = k + 15 := by omega
      have e4 : ((k : Int) + 20).toNat = k + 20 := by omega
      have v1 : IntKind.i64.wrap ((k : Int) + 5) = (k : Int) + 5 := IntWalk.i64_in _ (by omega)
      have v2 : IntKind.i64.wrap ((k : Int) + 10) = (k : Int) + 10 := IntWalk.i64_in _ (by omega)
      have v3 : IntKind.i64.wrap ((k : Int) + 15) = (k : Int) + 15 := IntWalk.i64_in _ (by omega)
      have v4 : IntKind.i64.wrap ((k : Int) + 20) = (k : Int) + 20 := IntWalk.i64_in _ (by omega)
      go_wp2_with fail
      go_still_tail 35, mixed
      go_wp2
      go_roundg (gk - 1)
      case measure => omega
      case rel =>
        refine ⟨k + 1, sk.setIfInBounds k (x0 ^^^ x1 ^^^ x2 ^^^ x3 ^^^ x4), by omega, by go_num, ?_, ?_, ?_⟩
        · have := Holds.set hS (i := k) (by omega) (x0 ^^^ x1 ^^^ x2 ^^^ x3 ^^^ x4)
          rw [Nat.zero_add] at this
          exact Holds.drew this
        · exact (hO.setCell (Nat.zero_le _) (by omega) _).drew
        · show _ = (sumsTo d k).setIfInBounds k (colsum d k)
          rw [HX.out, HE.out]
    · have hk5 : k = 5 := by omega
      subst hk5
      have HS : Hid (sk = sumsTo d 5) := HE
      have hO2 : Only b off 25 w wr := by
        rw [← hW1] at hO
        exact Only.of_below hO.fresh rfl hb
      clear hk hlt HE hO hW1
      go_wp2
      go_loopg [46] 5 (fun g s46 wq => ∃ k dk, k + g = 5 ∧ s46 = .int .i64 (k : Nat) ∧ Holds enc wq b off dk ∧ Only b off 25 wr wq ∧ Hid (dk = thetaTo sk d k))
      case atStart => exact ⟨0, d, rfl, rfl, hHw, Only.refl _ _ _ _, rfl⟩
      case round =>
        obtain ⟨k, dk, hk, rfl, hD, hO, HE⟩ := hrel
        by_cases hlt : k < 5
        · have hss : sk.size = 5 := by rw [HS.out, sumsTo_size]
          have hSw := Holds.other hS hO (by omega) (by omega)
          obtain ⟨y0, hy0⟩ : ∃ x, sk[(k + 4) % 5]! = x := ⟨_, rfl⟩
          obtain ⟨y1, hy1⟩ : ∃ x, sk[(k + 1) % 5]! = x := ⟨_, rfl⟩
          obtain ⟨c0, f0⟩ := at_word hSw ((k + 4) % 5) (by omega) hy0
          obtain ⟨c1, f1⟩ := at_word hSw ((k + 1) % 5) (by omega) hy1
          rw [Nat.zero_add] at c0 c1
          have HD : Hid (dcol sk k = y0 ^^^ rol y1 1) := by rw [← hy0, ← hy1]; rfl
          clear hy0 hy1 f0 f1
          have k5 : (k : Int) < 5 := by omega
          go_wp2_with fail
          go_quiet ((go_at_call 146; exact Calls.quiet_of_same (rotl_any _ 1 _ (by decide))))
          clear c0 c1
          go_wp2
          have hO1 := hO.drewN nq
          have hD1 := Holds.drewN hD nq
          have hds : dk.size = 25 := by rw [HE.out, thetaTo_size, hd]
          go_loopg [6] 5 (fun g s6 wq => ∃ m dm, m + g = 5 ∧ s6 = .int .i64 ((k + 5 * m : Nat) : Int) ∧ Holds enc wq b off dm ∧ Only b off 25 wr wq ∧ Hid (dm = innerTo (y0 ^^^ rol y1 1) k dk m))
          case atStart => exact ⟨0, dk, rfl, rfl, hD1, (Only.refl _ _ _ _).drewN _, rfl⟩
          case round =>
            obtain ⟨m, dm, hm, rfl, hM, hOm, HM⟩ := hrel
            by_cases hlt2 : m < 5
            · have hms : dm.size = 25 := by rw [HM.out, innerTo_size, hds]
              obtain ⟨z, hz⟩ : ∃ x, dm[k + 5 * m]! = x := ⟨_, rfl⟩
              obtain ⟨c, f⟩ := at_word hM (k + 5 * m) (by omega) hz
              have HZ : Hid (dm[k + 5 * m]! = z) := hz
              clear hz
              have r1 : ((k + 5 * m : Nat) : Int) < 25 := by omega
              generalize hi : k + 5 * m = i at *
              have Hi : Hid (k + 5 * m = i) := hi
              clear hi
              go_wp2_with fail
              go_still_tail 9, mixed
              go_wp2
              go_roundg (gk - 1)
              case measure => omega
              case rel =>
                refine ⟨m + 1, dm.setIfInBounds i (z ^^^ (y0 ^^^ rol y1 1)), by omega, ?_, ?_, ?_, ?_⟩
                · rw [← Hi.out]; go_num
                · exact Holds.drew (Holds.set hM (by omega) _)
                · exact (hOm.setCell (Nat.le_add_right _ _) (by omega) _).drew
                · show _ = xorAt (innerTo (y0 ^^^ rol y1 1) k dk m) (k + 5 * m) (y0 ^^^ rol y1 1)
                  rw [← HM.out, Hi.out, ← HZ.out]
                  rfl
            · have hm5 : m = 5 := by omega
              subst hm5
              have r1 : (25 : Int) ≤ ((k + 5 * 5 : Nat) : Int) := by omega
              generalize hi : k + 5 * 5 = i at *
              go_wp2
              go_roundg (4 - k)
              case measure => omega
              case rel =>
                refine ⟨k + 1, dm, by omega, by go_num, hM, hO.trans hOm, ?_⟩
                show _ = innerTo (dcol sk k) k (thetaTo sk d k) 5
                rw [← HE.out, HD.out]
                exact HM.out
        · have hk5 : k = 5 := by omega
          subst hk5
          go_wp2
          go_end0
          refine ⟨rfl, hO2.trans hO, ?_⟩
          have : theta d = dk := by rw [HE.out, HS.out]; rfl
          rw [this]
          exact hD
end Go.Proofs.YtmepmoalhgehhaaGreatDoor.SP
namespace Go.Proofs.YtmepmoalhgehhaaGreatDoor.SP
open Go.RowKit Go.Sort
attribute [local go_sem] bits_xor64 bits_and64 bits_or64
theorem offs_int (t : Nat) (h : t < 24) : (wrap64 ((wrap64 (((t : Int) + 1) * ((t : Int) + 2))).tdiv 2)).tmod 64 = (offs t : Int) := by
  have H : ∀ j : Fin 24, (wrap64 ((wrap64 (((j.val : Int) + 1) * ((j.val : Int) + 2))).tdiv 2)).tmod 64 = (offs j.val : Int) := by decide +kernel
  exact H ⟨t, h⟩
set_option maxHeartbeats 1000000 in
set_option maxRecDepth 100000 in
theorem turnAndMove_any (b off : Nat) (d : St) (w : World) (hd : d.size = 25) (hH : Holds enc w b off d) :
    Calls Tryz.prog 129 #[.pointer (some ⟨b, off, none⟩)] w fun e w' => e = .returned (.tuple #[]) ∧ Only b off 25 w w' ∧ Holds enc w' b off (rhopi d) := by
  obtain ⟨x1, hx1⟩ : ∃ x, d[1]! = x := ⟨_, rfl⟩
  obtain ⟨c1, f1⟩ := at_word hH 1 (by omega) hx1
  go_enter Tryz.func129, Tryz.ntmps129
  go_wp2
  go_loopg [2, 3, 4, 12] 24 (fun g sx sy sm st wr => ∃ t T, t + g = 24 ∧ st = .int .i64 (t : Nat) ∧ sx = .int .i64 (T.x : Nat) ∧ sy = .int .i64 (T.y : Nat) ∧ sm = .int .u64 (u T.m) ∧ Holds enc wr b off T.d ∧ Only b off 25 w wr ∧ Hid (T = tmTo d t))
  case atStart => exact ⟨0, tmTo d 0, rfl, rfl, rfl, rfl, by rw [← hx1]; rfl, hH, Only.refl _ _ _ _, rfl⟩
  case round =>
    obtain ⟨t, ⟨x, y, m, dk⟩, ht, rfl, rfl, rfl, rfl, hD, hO, HE⟩ := hrel
    have hok := tmTo_ok d hd t
    rw [← HE.out] at hok
    obtain ⟨hx, hy, hs⟩ := hok
    dsimp only at hx hy hs hD
    clear c1 f1 hx1
    by_cases hlt : t < 24
    · obtain ⟨i, hi⟩ : ∃ i, y + 5 * ((2 * x + 3 * y) % 5) = i := ⟨_, rfl⟩
      obtain ⟨z, hz⟩ : ∃ z, dk[i]! = z := ⟨_, rfl⟩
      have hib : i < 25 := by omega
      obtain ⟨c, f⟩ := at_word hD i (by omega) hz
      have Hz : Hid (dk[i]! = z) := hz
      have Hi : Hid (y + 5 * ((2 * x + 3 * y) % 5) = i) := hi
      have l24 : (t : Int) < 24 := by omega
      clear hz hi
      go_wp2_with fail
      rw [offs_int t hlt]
      refine (rotl_any m (offs t) _ (Nat.mod_lt _ (by decide))).mono ?_
      rintro e w' ⟨rfl, rfl⟩
      go_wp2_with fail
      obtain ⟨y2, hy2⟩ : ∃ n, (2 * x + 3 * y) % 5 = n := ⟨_, rfl⟩
      have hy2' : (2 * (x : Int) + 3 * (y : Int)) % 5 = (y2 : Int) := by omega
      rw [hy2']
      have Hy2 : Hid ((2 * x + 3 * y) % 5 = y2) := hy2
      have r0 : y2 < 5 := by omega
      clear hy2 hy2'
      have r1 : (0 : Int) ≤ (y : Int) + 5 * (y2 : Int) := by omega
      have r2 : (y : Int) + 5 * (y2 : Int) < 25 := by omega
      have r3 : ((y : Int) + 5 * (y2 : Int)).toNat = i := by have := Hi.out; have := Hy2.out; omega
      have s1 : IntKind.i64.wrap (5 * (y2 : Int)) = 5 * (y2 : Int) := IntWalk.i64_in _ (by omega)
      have s2 : IntKind.i64.wrap ((y : Int) + 5 * (y2 : Int)) = (y : Int) + 5 * (y2 : Int) := IntWalk.i64_in _ (by omega)
      go_region
      go_wp2
      go_roundg (gk - 1)
      case measure => omega
      case rel =>
        refine ⟨t + 1, ⟨y, y2, z, dk.setIfInBounds i (rol m (offs t))⟩, by omega, by go_num, rfl, rfl, rfl, ?_, ?_, ?_⟩
        · exact Holds.drew (Holds.set hD (by omega) _)
        · exact (hO.setCell (Nat.le_add_right _ _) (by omega) _).drew
        · show _ = tmStep t (tmTo d t)
          rw [← HE.out]
          simp only [tmStep, Hy2.out]
          have e : y + 5 * y2 = i := by have := Hi.out; have := Hy2.out; omega
          rw [e, Hz.out]
    · have ht24 : t = 24 := by omega
      subst ht24
      go_wp2
      go_end0
      refine ⟨rfl, hO, ?_⟩
      show Holds enc _ b off (tmTo d 24).d
      rw [← HE.out]
      exact hD
end Go.Proofs.YtmepmoalhgehhaaGreatDoor.SP
namespace Go.Proofs.YtmepmoalhgehhaaGreatDoor.SP
open Go.RowKit Go.Sort
attribute [local go_sem] bits_xor64 bits_and64 bits_or64 bits_not64
set_option maxHeartbeats 1000000 in
set_option maxRecDepth 100000 in
theorem mixRows_any (b off : Nat) (d : St) (w : World) (hd : d.size = 25) (hH : Holds enc w b off d) :
    Calls Tryz.prog 130 #[.pointer (some ⟨b, off, none⟩)] w fun e w' => e = .returned (.tuple #[]) ∧ Only b off 25 w w' ∧ Holds enc w' b off (chi d) := by
  go_enter Tryz.func130, Tryz.ntmps130
  go_wp2
  go_loopg [2] 5 (fun g si wr => ∃ k dk, k + g = 5 ∧ si = .int .i64 ((5 * k : Nat) : Int) ∧ Holds enc wr b off dk ∧ Only b off 25 w wr ∧ Hid (dk = chiTo d k))
  case atStart => exact ⟨0, d, rfl, rfl, hH, Only.refl _ _ _ _, rfl⟩
  case round =>
    obtain ⟨k, dk, hk, rfl, hD, hO, HE⟩ := hrel
    have hs : dk.size = 25 := by rw [HE.out, chiTo_size, hd]
    by_cases hlt : k < 5
    · obtain ⟨i, hi⟩ : ∃ i, 5 * k = i := ⟨_, rfl⟩
      rw [hi]
      have Hi : Hid (5 * k = i) := hi
      obtain ⟨x0, hx0⟩ : ∃ x, dk[i]! = x := ⟨_, rfl⟩
      obtain ⟨x1, hx1⟩ : ∃ x, dk[i + 1]! = x := ⟨_, rfl⟩
      obtain ⟨x2, hx2⟩ : ∃ x, dk[i + 2]! = x := ⟨_, rfl⟩
      obtain ⟨x3, hx3⟩ : ∃ x, dk[i + 3]! = x := ⟨_, rfl⟩
      obtain ⟨x4, hx4⟩ : ∃ x, dk[i + 4]! = x := ⟨_, rfl⟩
      obtain ⟨c0, f0⟩ := at_word hD i (by omega) hx0
      obtain ⟨c1, f1⟩ := at_word hD (i + 1) (by omega) hx1
      obtain ⟨c2, f2⟩ := at_word hD (i + 2) (by omega) hx2
      obtain ⟨c3, f3⟩ := at_word hD (i + 3) (by omega) hx3
      obtain ⟨c4, f4⟩ := at_word hD (i + 4) (by omega) hx4
      have HX0 : Hid (dk[i]! = x0) := hx0
      have HX1 : Hid (dk[i + 1]! = x1) := hx1
      have HX2 : Hid (dk[i + 2]! = x2) := hx2
      have HX3 : Hid (dk[i + 3]! = x3) := hx3
      have HX4 : Hid (dk[i + 4]! = x4) := hx4
      have Q0 := HX0
      have Q1 := HX1
      have Q2 := HX2
      have Q3 := HX3
      have Q4 := HX4
      have i20 : i ≤ 20 := by omega
      clear hx0 hx1 hx2 hx3 hx4 hi
      have b0 : (i : Int) < 25 := by omega
      have b1 : (i : Int) + 1 < 25 := by omega
      have p1 : 0 ≤ (i : Int) + 1 := by omega
      have e1 : ((i : Int) + 1).toNat = i + 1 := by omega
      have v1 : IntKind.i64.wrap ((i : Int) + 1) = (i : Int) + 1 := IntWalk.i64_in _ (by omega)
      have b2 : (i : Int) + 2 < 25 := by omega
      have p2 : 0 ≤ (i : Int) + 2 := by omega
      have e2 : ((i : Int) + 2).toNat = i + 2 := by omega
      have v2 : IntKind.i64.wrap ((i : Int) + 2) = (i : Int) + 2 := IntWalk.i64_in _ (by omega)
      have b3 : (i : Int) + 3 < 25 := by omega
      have p3 : 0 ≤ (i : Int) + 3 := by omega
      have e3 : ((i : Int) + 3).toNat = i + 3 := by omega
      have v3 : IntKind.i64.wrap ((i : Int) + 3) = (i : Int) + 3 := IntWalk.i64_in _ (by omega)
      have b4 : (i : Int) + 4 < 25 := by omega
      have p4 : 0 ≤ (i : Int) + 4 := by omega
      have e4 : ((i : Int) + 4).toNat = i + 4 := by omega
      have v4 : IntKind.i64.wrap ((i : Int) + 4) = (i : Int) + 4 := IntWalk.i64_in _ (by omega)
      go_wp2_with fail
      go_quiet (fail)
      clear c1 c2 c3 c4 f1 f2 f3 f4 b1 p1 e1 v1 b2 p2 e2 v2 b3 p3 e3 v3 b4 p4 e4 v4
      go_wp2_with fail
      go_region
      go_wp2_with fail
      generalize hW0 : World.setCell _ _ _ = W0
      have hs0 : (xorAt dk i (~~~x1 &&& x2)).size = 25 := by rw [xorAt_size]; omega
      have hD0 : Holds enc W0 b off (xorAt dk i (~~~x1 &&& x2)) := by rw [← hW0]; exact Holds.xor (Holds.drewN hD _) (by omega) HX0.out _
      have hO0 : Only b off 25 w W0 := by rw [← hW0]; exact (hO.drewN _).setCell (o := off + i) (by omega) (by omega) _
      generalize hd0 : xorAt dk i (~~~x1 &&& x2) = d0 at *
      have Hd0 : Hid (xorAt dk i (~~~x1 &&& x2) = d0) := hd0
      have HX1 : Hid (d0[i + 1]! = x1) := by show _ = _; rw [← hd0, xorAt_other _ _ _ _ (by omega)]; exact HX1.out
      have HX2 : Hid (d0[i + 2]! = x2) := by show _ = _; rw [← hd0, xorAt_other _ _ _ _ (by omega)]; exact HX2.out
      have HX3 : Hid (d0[i + 3]! = x3) := by show _ = _; rw [← hd0, xorAt_other _ _ _ _ (by omega)]; exact HX3.out
      have HX4 : Hid (d0[i + 4]! = x4) := by show _ = _; rw [← hd0, xorAt_other _ _ _ _ (by omega)]; exact HX4.out
      obtain ⟨c1, f1⟩ := at_word hD0 (i + 1) (by omega) HX1.out
      clear hd0 hW0 c0 f0
      have b1 : (i : Int) + 1 < 25 := by omega
      have p1 : 0 ≤ (i : Int) + 1 := by omega
      have e1 : ((i : Int) + 1).toNat = i + 1 := by omega
      have v1 : IntKind.i64.wrap ((i : Int) + 1) = (i : Int) + 1 := IntWalk.i64_in _ (by omega)
      go_region
      go_wp2_with fail
      generalize hW1 : World.setCell _ _ _ = W1
      have hs1 : (xorAt d0 (i + 1) (~~~x2 &&& x3)).size = 25 := by rw [xorAt_size]; omega
      have hD1 : Holds enc W1 b off (xorAt d0 (i + 1) (~~~x2 &&& x3)) := by rw [← hW1]; exact Holds.xor hD0 (by omega) HX1.out _
      have hO1 : Only b off 25 w W1 := by rw [← hW1]; exact (hO0).setCell (o := off + (i + 1)) (by omega) (by omega) _
      generalize hd1 : xorAt d0 (i + 1) (~~~x2 &&& x3) = d1 at *
      have Hd1 : Hid (xorAt d0 (i + 1) (~~~x2 &&& x3) = d1) := hd1
      have HX2 : Hid (d1[i + 2]! = x2) := by show _ = _; rw [← hd1, xorAt_other _ _ _ _ (by omega)]; exact HX2.out
      have HX3 : Hid (d1[i + 3]! = x3) := by show _ = _; rw [← hd1, xorAt_other _ _ _ _ (by omega)]; exact HX3.out
      have HX4 : Hid (d1[i + 4]! = x4) := by show _ = _; rw [← hd1, xorAt_other _ _ _ _ (by omega)]; exact HX4.out
      obtain ⟨c2, f2⟩ := at_word hD1 (i + 2) (by omega) HX2.out
      clear hd1 hW1 c1 f1
      clear b1 p1 e1 v1
      have b2 : (i : Int) + 2 < 25 := by omega
      have p2 : 0 ≤ (i : Int) + 2 := by omega
      have e2 : ((i : Int) + 2).toNat = i + 2 := by omega
      have v2 : IntKind.i64.wrap ((i : Int) + 2) = (i : Int) + 2 := IntWalk.i64_in _ (by omega)
      go_region
      go_wp2_with fail
      generalize hW2 : World.setCell _ _ _ = W2
      have hs2 : (xorAt d1 (i + 2) (~~~x3 &&& x4)).size = 25 := by rw [xorAt_size]; omega
      have hD2 : Holds enc W2 b off (xorAt d1 (i + 2) (~~~x3 &&& x4)) := by rw [← hW2]; exact Holds.xor hD1 (by omega) HX2.out _
      have hO2 : Only b off 25 w W2 := by rw [← hW2]; exact (hO1).setCell (o := off + (i + 2)) (by omega) (by omega) _
      generalize hd2 : xorAt d1 (i + 2) (~~~x3 &&& x4) = d2 at *
      have Hd2 : Hid (xorAt d1 (i + 2) (~~~x3 &&& x4) = d2) := hd2
      have HX3 : Hid (d2[i + 3]! = x3) := by show _ = _; rw [← hd2, xorAt_other _ _ _ _ (by omega)]; exact HX3.out
      have HX4 : Hid (d2[i + 4]! = x4) := by show _ = _; rw [← hd2, xorAt_other _ _ _ _ (by omega)]; exact HX4.out
      obtain ⟨c3, f3⟩ := at_word hD2 (i + 3) (by omega) HX3.out
      clear hd2 hW2 c2 f2
      clear b2 p2 e2 v2
      have b3 : (i : Int) + 3 < 25 := by omega
      have p3 : 0 ≤ (i : Int) + 3 := by omega
      have e3 : ((i : Int) + 3).toNat = i + 3 := by omega
      have v3 : IntKind.i64.wrap ((i : Int) + 3) = (i : Int) + 3 := IntWalk.i64_in _ (by omega)
      go_region
      go_wp2_with fail
      generalize hW3 : World.setCell _ _ _ = W3
      have hs3 : (xorAt d2 (i + 3) (~~~x4 &&& x0)).size = 25 := by rw [xorAt_size]; omega
      have hD3 : Holds enc W3 b off (xorAt d2 (i + 3) (~~~x4 &&& x0)) := by rw [← hW3]; exact Holds.xor hD2 (by omega) HX3.out _
      have hO3 : Only b off 25 w W3 := by rw [← hW3]; exact (hO2).setCell (o := off + (i + 3)) (by omega) (by omega) _
      generalize hd3 : xorAt d2 (i + 3) (~~~x4 &&& x0) = d3 at *
      have Hd3 : Hid (xorAt d2 (i + 3) (~~~x4 &&& x0) = d3) := hd3
      have HX4 : Hid (d3[i + 4]! = x4) := by show _ = _; rw [← hd3, xorAt_other _ _ _ _ (by omega)]; exact HX4.out
      obtain ⟨c4, f4⟩ := at_word hD3 (i + 4) (by omega) HX4.out
      clear hd3 hW3 c3 f3
      clear b3 p3 e3 v3
      have b4 : (i : Int) + 4 < 25 := by omega
      have p4 : 0 ≤ (i : Int) + 4 := by omega
      have e4 : ((i : Int) + 4).toNat = i + 4 := by omega
      have v4 : IntKind.i64.wrap ((i : Int) + 4) = (i : Int) + 4 := IntWalk.i64_in _ (by omega)
      go_region
      go_wp2
      generalize hW4 : World.setCell _ _ _ = W4
      have hs4 : (xorAt d3 (i + 4) (~~~x0 &&& x1)).size = 25 := by rw [xorAt_size]; omega
      have hD4 : Holds enc W4 b off (xorAt d3 (i + 4) (~~~x0 &&& x1)) := by rw [← hW4]; exact Holds.xor hD3 (by omega) HX4.out _
      have hO4 : Only b off 25 w W4 := by rw [← hW4]; exact (hO3).setCell (o := off + (i + 4)) (by omega) (by omega) _
      generalize hd4 : xorAt d3 (i + 4) (~~~x0 &&& x1) = d4 at *
      have Hd4 : Hid (xorAt d3 (i + 4) (~~~x0 &&& x1) = d4) := hd4
      clear hd4 hW4 c4 f4
      clear b4 p4 e4 v4
      go_roundg (gk - 1)
      case measure => omega
      case rel =>
        refine ⟨k + 1, d4, by omega, ?_, ?_, ?_, ?_⟩
        · rw [← Hi.out]; go_num
        · exact hD4
        · exact hO4.drewN 4
        · show d4 = rowAt (chiTo d k) (5 * k)
          rw [← HE.out, Hi.out]
          unfold rowAt
          rw [Q0.out, Q1.out, Q2.out, Q3.out, Q4.out, Hd0.out, Hd1.out, Hd2.out, Hd3.out, Hd4.out]
    · have hk5 : k = 5 := by omega
      subst hk5
      go_wp2
      go_end0
      refine ⟨rfl, hO, ?_⟩
      show Holds enc _ b off (chiTo d 5)
      rw [← HE.out]
      exact hD
end Go.Proofs.YtmepmoalhgehhaaGreatDoor.SP
namespace Go.Proofs.YtmepmoalhgehhaaGreatDoor.SP
open Go.RowKit Go.Sort
attribute [local go_sem] bits_xor64 bits_and64 bits_or64 wrap_u
theorem place_int (j : Nat) (hj : j < 7) : ∃ p : Nat, wrap64 (wrap64 ((2 : Int) ^ j) - 1) = (p : Int) ∧ p ≤ 63 ∧ Hid (2 ^ j - 1 = p) := by
  have H : ∀ j : Fin 7, wrap64 (wrap64 ((2 : Int) ^ j.val) - 1) = ((2 ^ j.val - 1 : Nat) : Int) ∧ 2 ^ j.val - 1 ≤ 63 := by decide +kernel
  exact ⟨_, (H ⟨j, hj⟩).1, (H ⟨j, hj⟩).2, rfl⟩
set_option maxHeartbeats 1000000 in
set_option maxRecDepth 100000 in
theorem roundConstant_any (r : Nat) (w : World) (hr : r < 256) :
    Calls Tryz.prog 131 #[.int .i64 (r : Int)] w fun e w' => e = .returned (.tuple #[.int .u64 (u (rcC r)), .int .i64 (rcN r : Int)]) ∧ w' = w := by
  go_enter Tryz.func131, Tryz.ntmps131
  go_wp2
  go_loop [0, 2, 6] (fun s0 s2 s6 => ∃ j : Nat, j ≤ 7 ∧ ∃ (c : BitVec 64) (q : Nat), s6 = .int .i64 j ∧ s2 = .int .u64 (u c) ∧ s0 = .int .i64 q ∧ q < 256 ∧ Hid (rcTo r j = (c, q))) (fun _ _ s6 => 7 - (intOf s6).toNat)
  case atStart => exact ⟨0, by decide, 0, r, rfl, rfl, rfl, hr, rfl⟩
  case round =>
    obtain ⟨j, hj, c, q, rfl, rfl, rfl, hq, HE⟩ := hrel
    by_cases hlt : j < 7
    · have a1 := rc_and q hq
      have a2 := rc_xor q hq
      obtain ⟨p, a3, hp, HP⟩ := place_int j hlt
      have HC : Hid (rcTo r (j + 1) = (c ||| BitVec.ofNat 64 (q % 2) <<< p, rcReg q)) := by
        show ((rcTo r j).1 ||| BitVec.ofNat 64 ((rcTo r j).2 % 2) <<< (2 ^ j - 1), rcReg (rcTo r j).2) = _
        rw [HE.out, HP.out]
      have hs := shl64 (BitVec.ofNat 64 (q % 2)) p
      have hlt2 := rcReg_lt q hq
      by_cases h255 : 255 < 2 * q
      · have HR : Hid (rcReg q = 2 * q ^^^ 369) := if_pos h255
        rw [HR.out] at hlt2
        generalize 2 * q ^^^ 369 = q2 at *
        go_wp2
        go_round
        case rel => exact ⟨j + 1, by omega, _, q2, by go_num, rfl, rfl, hlt2, by rw [HC.out, HR.out]; rfl⟩
        case measure => simp [intOf]; omega
      · have HR : Hid (rcReg q = 2 * q) := if_neg h255
        go_wp2
        go_round
        case rel => exact ⟨j + 1, by omega, _, 2 * q, by go_num, rfl, by go_num, by omega, by rw [HC.out, HR.out]; rfl⟩
        case measure => simp [intOf]; omega
    · have hj7 : j = 7 := by omega
      subst hj7
      go_wp2
      go_ret2
      unfold rcC rcN
      rw [HE.out]
      exact ⟨rfl, rfl⟩
set_option maxHeartbeats 1000000 in
set_option maxRecDepth 100000 in
theorem permute_any (b off : Nat) (d : St) (w : World) (hd : d.size = 25) (hH : Holds enc w b off d) :
    Calls Tryz.prog 97 #[.pointer (some ⟨b, off, none⟩)] w fun e w' => e = .returned (.tuple #[]) ∧ Only b off 25 w w' ∧ Holds enc w' b off (perm d) := by
  go_enter Tryz.func97, Tryz.ntmps97
  go_wp2
  go_loopg [2, 3, 4] 24 (fun g sc sr sk wr => ∃ (k : Nat) (c : BitVec 64) (dk : St), k + g = 24 ∧ sk = .int .i64 k ∧ sc = .int .u64 (u c) ∧ sr = .int .i64 (rcAt k : Nat) ∧ Holds enc wr b off dk ∧ Only b off 25 w wr ∧ Hid (dk = permTo d k))
  case atStart => exact ⟨0, 0, d, rfl, rfl, rfl, rfl, hH, Only.refl _ _ _ _, rfl⟩
  case round =>
    obtain ⟨k, c, dk, hk, rfl, rfl, rfl, hD, hO, HE⟩ := hrel
    have hs : dk.size = 25 := by rw [HE.out, permTo_size d hd]
    by_cases hlt : k < 24
    · have k24 : (k : Int) < 24 := by omega
      go_wp2_with fail
      refine (mixColumns_any b off dk _ hs hD).mono ?_
      rintro e w1 ⟨rfl, hO1, hD1⟩
      go_wp2_with fail
      refine (turnAndMove_any b off _ _ (by rw [theta_size, hs]) hD1).mono ?_
      rintro e w2 ⟨rfl, hO2, hD2⟩
      go_wp2_with fail
      refine (mixRows_any b off _ _ (rhopi_size _ (by rw [theta_size, hs])) hD2).mono ?_
      rintro e w3 ⟨rfl, hO3, hD3⟩
      have HN : Hid (rcAt (k + 1) = rcN (rcAt k)) := rfl
      have HK : Hid (permTo d (k + 1) = kround (permTo d k) (rcC (rcAt k))) := rfl
      have hrl := rcAt_lt k
      generalize rcAt k = r at *
      go_wp2_with fail
      refine (roundConstant_any r _ hrl).mono ?_
      rintro e w4 ⟨rfl, rfl⟩
      have hs3 : (chi (rhopi (theta dk))).size = 25 := by rw [chi_size, rhopi_size _ (by rw [theta_size, hs])]
      obtain ⟨x, hx⟩ : ∃ x, (chi (rhopi (theta dk)))[0]! = x := ⟨_, rfl⟩
      obtain ⟨c0, f0⟩ := at_word hD3 0 (by omega) hx
      rw [Nat.add_zero] at c0 f0
      have HX : Hid ((chi (rhopi (theta dk)))[0]! = x) := hx
      clear hx
      go_wp2_with fail
      go_region
      go_wp2
      go_roundg (gk - 1)
      case measure => omega
      case rel =>
        refine ⟨k + 1, rcC r, kround dk (rcC r), by omega, by go_num, rfl, by rw [HN.out], ?_, ?_, ?_⟩
        · exact Holds.drew (Holds.xor (i := 0) hD3 (by omega) HX.out (rcC r))
        · exact ((((hO.trans hO1).trans hO2).trans hO3).setCell (o := off) (by omega) (by omega) _).drew
        · rw [HK.out, HE.out]; rfl
    · have hk24 : k = 24 := by omega
      subst hk24
      go_wp2
      go_end0
      refine ⟨rfl, hO, ?_⟩
      unfold perm
      rw [← HE.out]
      exact hD
end Go.Proofs.YtmepmoalhgehhaaGreatDoor.SP
namespace Go.Proofs.YtmepmoalhgehhaaGreatDoor.SP
open Go.RowKit Go.Sort Go.Deep
attribute [local go_sem] bits_xor64 bits_and64 bits_or64 wrap_u wrap_ub
theorem at_byte {w : World} {b off : Nat} {d : Bs} (h : Holds encB w b off d) (i : Nat) (hi : i < d.size) {x : UInt8} (hx : d[i]! = x) :
    w.cell? ⟨b, off + i, none⟩ = some (.int .u8 (ub x)) ∧ w.frozen? ⟨b, off + i, none⟩ = false := by
  rw [← hx]; exact h i hi
set_option maxHeartbeats 1000000 in
set_option maxRecDepth 100000 in
theorem word_any (sb so o len cap : Nat) (bs : Bs) (w : World) (hB : Holds encB w sb so bs) (h8 : 8 ≤ len) (ho : o + 8 ≤ bs.size) (hl : len ≤ 4611686018427387904) :
    Calls Tryz.prog 127 #[.slice (some ⟨sb, so + o, none⟩) len cap] w fun e w' => e = .returned (.int .u64 (u (wordOf bs o))) ∧ w' = w := by
  go_enter Tryz.func127, Tryz.ntmps127
  go_wp2
  go_loop [3, 5] (fun s3 s5 => ∃ (k : Nat) (c : BitVec 64), k ≤ 8 ∧ s5 = .int .i64 k ∧ s3 = .int .u64 (u c) ∧ Hid (wordTo bs o k = c)) (fun _ s5 => 8 - (intOf s5).toNat)
  case atStart => exact ⟨0, 0, by decide, rfl, rfl, rfl⟩
  case round =>
    obtain ⟨k, c, hk, rfl, rfl, HE⟩ := hrel
    by_cases hlt : k < 8
    · obtain ⟨x, hx⟩ : ∃ x, bs[o + k]! = x := ⟨_, rfl⟩
      obtain ⟨c0, f0⟩ := at_byte hB (o + k) (by omega) hx
      rw [← Nat.add_assoc] at c0
      have HC : Hid (wordTo bs o (k + 1) = c ||| wide x <<< (8 * k)) := by
        show wordTo bs o k ||| wide bs[o + k]! <<< (8 * k) = _
        rw [HE.out, hx]
      clear hx f0
      have hs := shl64 (wide x) (8 * k)
      have k8 : (k : Int) < (len : Int) := by omega
      go_wp2
      go_round
      case rel => exact ⟨k + 1, _, by omega, by go_num, rfl, HC⟩
      case measure => simp [intOf]; omega
    · have hk8 : k = 8 := by omega
      subst hk8
      go_wp2
      go_ret
      unfold wordOf
      rw [HE.out]
      exact ⟨rfl, rfl⟩
set_option maxHeartbeats 1000000 in
set_option maxRecDepth 100000 in
theorem mix_any (b off sb so len cap : Nat) (bs : Bs) (d : St) (w : World) (hd : d.size = 25) (hH : Holds enc w b off d) (hB : Holds encB w sb so bs) (hl : bs.size = len) (hlen : len ≤ 200) (hcap : len ≤ cap)
    (hdis : sb ≠ b ∨ so + len ≤ off ∨ off + 25 ≤ so) :
    Calls Tryz.prog 96 #[.pointer (some ⟨b, off, none⟩), .slice (some ⟨sb, so, none⟩) len cap] w fun e w' => e = .returned (.tuple #[]) ∧ Only b off 25 w w' ∧ Holds enc w' b off (mixTo bs d (len / 8)) := by
  go_enter Tryz.func96, Tryz.ntmps96
  go_wp2
  go_loopg [8] (len / 8) (fun g s8 wr => ∃ (k : Nat) (dk : St), k + g = len / 8 ∧ s8 = .int .i64 k ∧ Holds enc wr b off dk ∧ Only b off 25 w wr ∧ Hid (dk = mixTo bs d k))
  case atStart => exact ⟨0, d, by omega, rfl, hH, Only.refl _ _ _ _, rfl⟩
  case round =>
    obtain ⟨k, dk, hk, rfl, hD, hO, HE⟩ := hrel
    have hs : dk.size = 25 := by rw [HE.out, mixTo_size, hd]
    by_cases hlt : k < len / 8
    · have hBr : Holds encB wr sb so bs := by
        by_cases hsb : sb = b
        · subst hsb
          exact Holds.same hB hO (by omega)
        · exact Holds.other hB hO hsb (by omega)
      obtain ⟨x, hx⟩ : ∃ x, dk[k]! = x := ⟨_, rfl⟩
      obtain ⟨c0, f0⟩ := at_word hD k (by omega) hx
      have HX : Hid (dk[k]! = x) := hx
      clear hx
      have r0 : (k : Int) < 25 := by omega
      have r1 : (0 : Int) ≤ (k : Int) * 8 := by omega
      have r2 : (k : Int) * 8 ≤ (len : Int) := by omega
      have r3 : ((k : Int) * 8).toNat = 8 * k := by omega
      have s1 : IntKind.i64.wrap ((k : Int) * 8) = (k : Int) * 8 := IntWalk.i64_in _ (by omega)
      have lt : (k : Int) < (len : Int) / 8 := by omega
      go_wp2_with fail
      have hne : (cap = 8 * k) = False := eq_false (by omega)
      have HB : Hid (Holds encB wr.drew sb so bs) := Holds.drew hBr
      have Q4 : Hid (8 * k + 8 ≤ bs.size) := by show _ ≤ _; omega
      clear hBr
      go_region_with (go_at_call 127; refine (word_any sb so (8 * k) (len - 8 * k) (cap - 8 * k) bs _ HB.out (by omega) Q4.out (by omega)).mono ?_; rintro e w2 ⟨rfl, rfl⟩)
      all_goals
        go_wp2
        go_roundg (gk - 1)
        case measure => omega
        case rel =>
          refine ⟨k + 1, xorAt dk k (wordOf bs (8 * k)), by omega, by go_num, ?_, ?_, ?_⟩
          · exact Holds.drew (Holds.xor hD (by omega) HX.out _)
          · exact (hO.setCell (o := off + k) (by omega) (by omega) _).drew
          · rw [HE.out]; rfl
    · have hk8 : k = len / 8 := by omega
      have lt : (len : Int) / 8 ≤ (k : Int) := by omega
      go_wp2
      go_end0
      refine ⟨rfl, hO, ?_⟩
      rw [← hk8, ← HE.out]
      exact hD
theorem slice22 : Tryz.prog.underlying 24 = some (.slice 5) := by kernel_rfl
theorem info5 : (Tryz.prog.info? 5).map (fun i => (i.zero, i.size, i.bytes)) = some (some (.int .u8 0), 1, 1) := by kernel_rfl
theorem encB_zero : encB 0 = .int .u8 0 := rfl
attribute [local go_sem] low_u
set_option maxHeartbeats 1000000 in
set_option maxRecDepth 100000 in
theorem front_any (b off n : Nat) (d : St) (w : World) (hd : d.size = 25) (hH : Holds enc w b off d) (hn : n ≤ 200) :
    Calls Tryz.prog 40 #[.pointer (some ⟨b, off, none⟩), .int .i64 (n : Int)] w fun e w' => e = .returned (.slice (some ⟨w.heap.size, 0, none⟩) n n) ∧ Below w.heap.size w w' ∧ Holds encB w' w.heap.size 0 (front d n) := by
  have hb := Holds.lt hH (by omega)
  have hmk := run_make_row' (P := Tryz.prog) 24 5 (.int .u8 0) 1 slice22 info5 rfl .i64 .i64 n (by omega) (by omega)
  go_enter Tryz.func40, Tryz.ntmps40
  go_wp2
  generalize hW1 : (w.alloc _) = W1
  go_loopg [11] n (fun g s11 wr => ∃ (k : Nat) (bs : Bs), k + g = n ∧ s11 = .int .i64 k ∧ Holds encB wr w.heap.size 0 bs ∧ Only w.heap.size 0 n W1 wr ∧ Hid (bs = frontTo d n k))
  case atStart =>
    refine ⟨0, _, by omega, rfl, ?_, Only.refl _ _ _ _, rfl⟩
    rw [← hW1]
    exact Holds.made (enc := encB) w 5 n 0
  case round =>
    obtain ⟨k, bs, hk, rfl, hB, hO, HE⟩ := hrel
    have hs : bs.size = n := by rw [HE.out, frontTo_size]
    have hD : Holds enc wr b off d := Holds.other (by rw [← hW1]; exact Holds.below hH ((Below.refl _ _).alloc (Nat.le_refl _) _) hb) hO (by omega) (by omega)
    by_cases hlt : k < n
    · obtain ⟨x, hx⟩ : ∃ x, d[k / 8]! = x := ⟨_, rfl⟩
      obtain ⟨c0, f0⟩ := at_word hD (k / 8) (by omega) hx
      obtain ⟨c1, f1⟩ := hB k (by omega)
      rw [Nat.zero_add] at c1 f1
      have HX : Hid (byteOf d k = low (x >>> (8 * (k % 8)))) := by show low _ = _; rw [hx]
      clear hx f0
      have r0 : (k : Int) / 8 < 25 := by omega
      have r1 : (k : Int) < (n : Int) := by omega
      have hsr := shr64 x (8 * (k % 8))
      go_wp2
      go_roundg (gk - 1)
      case measure => omega
      case rel =>
        refine ⟨k + 1, bs.setIfInBounds k (low (x >>> (8 * (k % 8)))), by omega, by go_num, ?_, ?_, ?_⟩
        · have := Holds.set hB (i := k) (by omega) (low (x >>> (8 * (k % 8))))
          rw [Nat.zero_add] at this
          exact this
        · exact hO.setCell (o := k) (by omega) (by omega) _
        · show _ = (frontTo d n k).setIfInBounds k (byteOf d k)
          rw [HX.out, HE.out]
    · have hkn : k = n := by omega
      have lt : (n : Int) ≤ (k : Int) := by omega
      go_wp2
      go_ret
      refine ⟨rfl, ?_, ?_⟩
      · rw [← hW1] at hO
        exact hO.fresh
      · unfold front
        rw [HE.out, hkn] at hB
        exact hB
end Go.Proofs.YtmepmoalhgehhaaGreatDoor.SP
namespace Go.Proofs.YtmepmoalhgehhaaGreatDoor.SP
open Go.RowKit
/-- A count as the model holds it. -/
def encI (n : Nat) : Value := .int .i64 (n : Int)
/-- The reference's round, step by step, as its loops have it. -/
def colIn (a : St) (x : Nat) (c : St) : Nat → St
  | 0 => c
  | y + 1 => xorAt (colIn a x c y) x a[x + 5 * y]!
def colTo (a : St) : Nat → St
  | 0 => Array.replicate 5 0
  | x + 1 => colIn a x (colTo a x) 5
def movIn (a : St) (tn : Array Nat) (x : Nat) (v : BitVec 64) (m : St) : Nat → St
  | 0 => m
  | y + 1 => (movIn a tn x v m y).setIfInBounds (y % 5 + 5 * ((2 * x + 3 * y) % 5)) (rol (a[x + 5 * y]! ^^^ v) tn[x + 5 * y]!)
def movTo (a : St) (tn : Array Nat) (c : St) : Nat → St
  | 0 => Array.replicate 25 0
  | x + 1 => movIn a tn x (dcol c x) (movTo a tn c x) 5
def outIn (m : St) (x : Nat) (o : St) : Nat → St
  | 0 => o
  | y + 1 => (outIn m x o y).setIfInBounds (x + 5 * y) (m[x + 5 * y]! ^^^ (~~~m[(x + 1) % 5 + 5 * y]! &&& m[(x + 2) % 5 + 5 * y]!))
def outTo (m : St) : Nat → St
  | 0 => Array.replicate 25 0
  | x + 1 => outIn m x (outTo m x) 5
def refRound (a : St) (tn : Array Nat) (c : BitVec 64) : St := xorAt (outTo (movTo a tn (colTo a 5) 5) 5) 0 c
theorem colIn_size (a : St) (x : Nat) (c : St) (y : Nat) : (colIn a x c y).size = c.size := by
  induction y with
  | zero => rfl
  | succ y ih => simp [colIn, xorAt_size, ih]
theorem colTo_size (a : St) (x : Nat) : (colTo a x).size = 5 := by
  induction x with
  | zero => simp [colTo]
  | succ x ih => simp [colTo, colIn_size, ih]
theorem movIn_size (a : St) (tn : Array Nat) (x : Nat) (v : BitVec 64) (m : St) (y : Nat) : (movIn a tn x v m y).size = m.size := by
  induction y with
  | zero => rfl
  | succ y ih => simp [movIn, ih]
theorem movTo_size (a : St) (tn : Array Nat) (c : St) (x : Nat) : (movTo a tn c x).size = 25 := by
  induction x with
  | zero => simp [movTo]
  | succ x ih => simp [movTo, movIn_size, ih]
theorem outIn_size (m : St) (x : Nat) (o : St) (y : Nat) : (outIn m x o y).size = o.size := by
  induction y with
  | zero => rfl
  | succ y ih => simp [outIn, ih]
theorem outTo_size (m : St) (x : Nat) : (outTo m x).size = 25 := by
  induction x with
  | zero => simp [outTo]
  | succ x ih => simp [outTo, outIn_size, ih]
theorem refRound_size (a : St) (tn : Array Nat) (c : BitVec 64) : (refRound a tn c).size = 25 := by simp [refRound, xorAt_size, outTo_size]
/-- The offsets, as the reference lays them. -/
structure Of where
  x : Nat
  y : Nat
  o : Array Nat
def ofTo : Nat → Of
  | 0 => { x := 1, y := 0, o := Array.replicate 25 0 }
  | t + 1 => { x := (ofTo t).y, y := (2 * (ofTo t).x + 3 * (ofTo t).y) % 5, o := (ofTo t).o.setIfInBounds ((ofTo t).x % 5 + 5 * ((ofTo t).y % 5)) (offs t) }
def offsetsL : Array Nat := (ofTo 24).o
theorem ofTo_ok (t : Nat) : (ofTo t).x < 5 ∧ (ofTo t).y < 5 ∧ (ofTo t).o.size = 25 := by
  induction t with
  | zero => exact ⟨show 1 < 5 by decide, show 0 < 5 by decide, show (Array.replicate 25 0).size = 25 by simp⟩
  | succ t ih =>
    obtain ⟨h1, h2, h3⟩ := ih
    refine ⟨h2, ?_, ?_⟩
    · show (2 * (ofTo t).x + 3 * (ofTo t).y) % 5 < 5
      omega
    · show ((ofTo t).o.setIfInBounds _ _).size = 25
      rw [Array.size_setIfInBounds, h3]
/-- BIT and CONSTANT of the reference. -/
def regTo : Nat → Nat
  | 0 => 1
  | i + 1 => rcReg (regTo i)
theorem regTo_lt (i : Nat) : regTo i < 256 := by
  induction i with
  | zero => decide
  | succ i ih => exact rcReg_lt _ ih
def bitL (t : Nat) : BitVec 64 := BitVec.ofNat 64 (regTo t % 2)
def conTo (r : Nat) : Nat → BitVec 64
  | 0 => 0
  | j + 1 => conTo r j ||| bitL (j + 7 * r) <<< (2 ^ j - 1)
def conL (r : Nat) : BitVec 64 := conTo r 7
def refTo (d : St) : Nat → St
  | 0 => d
  | k + 1 => refRound (refTo d k) offsetsL (conL k)
end Go.Proofs.YtmepmoalhgehhaaGreatDoor.SP
namespace Go.Proofs.YtmepmoalhgehhaaGreatDoor.SP
theorem con_eq : ∀ k : Fin 24, conL k.val = rcC (rcAt k.val) := by decide +kernel
theorem offsets_eq : offsetsL = #[0, 1, 62, 28, 27, 36, 44, 6, 55, 20, 3, 10, 43, 25, 39, 41, 45, 15, 21, 8, 18, 2, 61, 56, 14] := by decide +kernel
theorem rol_zero (x : BitVec 64) : rol x 0 = x := by
  unfold rol
  rw [BitVec.shiftLeft_zero, Nat.sub_zero, BitVec.ushiftRight_eq_zero (Nat.le_refl 64), BitVec.or_zero]
theorem zx (x : BitVec 64) : 0 ^^^ x = x := BitVec.zero_xor
theorem col_one (a0 a1 a2 a3 a4 a5 a6 a7 a8 a9 a10 a11 a12 a13 a14 a15 a16 a17 a18 a19 a20 a21 a22 a23 a24 : BitVec 64) : colTo #[a0, a1, a2, a3, a4, a5, a6, a7, a8, a9, a10, a11, a12, a13, a14, a15, a16, a17, a18, a19, a20, a21, a22, a23, a24] 5 = #[0 ^^^ a0 ^^^ a5 ^^^ a10 ^^^ a15 ^^^ a20, 0 ^^^ a1 ^^^ a6 ^^^ a11 ^^^ a16 ^^^ a21, 0 ^^^ a2 ^^^ a7 ^^^ a12 ^^^ a17 ^^^ a22, 0 ^^^ a3 ^^^ a8 ^^^ a13 ^^^ a18 ^^^ a23, 0 ^^^ a4 ^^^ a9 ^^^ a14 ^^^ a19 ^^^ a24] := by kernel_rfl
theorem sums_one (a0 a1 a2 a3 a4 a5 a6 a7 a8 a9 a10 a11 a12 a13 a14 a15 a16 a17 a18 a19 a20 a21 a22 a23 a24 : BitVec 64) : sumsTo #[a0, a1, a2, a3, a4, a5, a6, a7, a8, a9, a10, a11, a12, a13, a14, a15, a16, a17, a18, a19, a20, a21, a22, a23, a24] 5 = #[a0 ^^^ a5 ^^^ a10 ^^^ a15 ^^^ a20, a1 ^^^ a6 ^^^ a11 ^^^ a16 ^^^ a21, a2 ^^^ a7 ^^^ a12 ^^^ a17 ^^^ a22, a3 ^^^ a8 ^^^ a13 ^^^ a18 ^^^ a23, a4 ^^^ a9 ^^^ a14 ^^^ a19 ^^^ a24] := by kernel_rfl
theorem col_eq (a0 a1 a2 a3 a4 a5 a6 a7 a8 a9 a10 a11 a12 a13 a14 a15 a16 a17 a18 a19 a20 a21 a22 a23 a24 : BitVec 64) : colTo #[a0, a1, a2, a3, a4, a5, a6, a7, a8, a9, a10, a11, a12, a13, a14, a15, a16, a17, a18, a19, a20, a21, a22, a23, a24] 5 = sumsTo #[a0, a1, a2, a3, a4, a5, a6, a7, a8, a9, a10, a11, a12, a13, a14, a15, a16, a17, a18, a19, a20, a21, a22, a23, a24] 5 := by
  rw [col_one, sums_one]
  simp only [zx]
theorem mov_one (S : St) (a0 a1 a2 a3 a4 a5 a6 a7 a8 a9 a10 a11 a12 a13 a14 a15 a16 a17 a18 a19 a20 a21 a22 a23 a24 : BitVec 64) : movTo #[a0, a1, a2, a3, a4, a5, a6, a7, a8, a9, a10, a11, a12, a13, a14, a15, a16, a17, a18, a19, a20, a21, a22, a23, a24] #[0, 1, 62, 28, 27, 36, 44, 6, 55, 20, 3, 10, 43, 25, 39, 41, 45, 15, 21, 8, 18, 2, 61, 56, 14] S 5 = #[rol (a0 ^^^ dcol S 0) 0, rol (a6 ^^^ dcol S 1) 44, rol (a12 ^^^ dcol S 2) 43, rol (a18 ^^^ dcol S 3) 21, rol (a24 ^^^ dcol S 4) 14, rol (a3 ^^^ dcol S 3) 28, rol (a9 ^^^ dcol S 4) 20, rol (a10 ^^^ dcol S 0) 3, rol (a16 ^^^ dcol S 1) 45, rol (a22 ^^^ dcol S 2) 61, rol (a1 ^^^ dcol S 1) 1, rol (a7 ^^^ dcol S 2) 6, rol (a13 ^^^ dcol S 3) 25, rol (a19 ^^^ dcol S 4) 8, rol (a20 ^^^ dcol S 0) 18, rol (a4 ^^^ dcol S 4) 27, rol (a5 ^^^ dcol S 0) 36, rol (a11 ^^^ dcol S 1) 10, rol (a17 ^^^ dcol S 2) 15, rol (a23 ^^^ dcol S 3) 56, rol (a2 ^^^ dcol S 2) 62, rol (a8 ^^^ dcol S 3) 55, rol (a14 ^^^ dcol S 4) 39, rol (a15 ^^^ dcol S 0) 41, rol (a21 ^^^ dcol S 1) 2] := by kernel_rfl
theorem rho_one (S : St) (a0 a1 a2 a3 a4 a5 a6 a7 a8 a9 a10 a11 a12 a13 a14 a15 a16 a17 a18 a19 a20 a21 a22 a23 a24 : BitVec 64) : rhopi (thetaTo S #[a0, a1, a2, a3, a4, a5, a6, a7, a8, a9, a10, a11, a12, a13, a14, a15, a16, a17, a18, a19, a20, a21, a22, a23, a24] 5) = #[a0 ^^^ dcol S 0, rol (a6 ^^^ dcol S 1) 44, rol (a12 ^^^ dcol S 2) 43, rol (a18 ^^^ dcol S 3) 21, rol (a24 ^^^ dcol S 4) 14, rol (a3 ^^^ dcol S 3) 28, rol (a9 ^^^ dcol S 4) 20, rol (a10 ^^^ dcol S 0) 3, rol (a16 ^^^ dcol S 1) 45, rol (a22 ^^^ dcol S 2) 61, rol (a1 ^^^ dcol S 1) 1, rol (a7 ^^^ dcol S 2) 6, rol (a13 ^^^ dcol S 3) 25, rol (a19 ^^^ dcol S 4) 8, rol (a20 ^^^ dcol S 0) 18, rol (a4 ^^^ dcol S 4) 27, rol (a5 ^^^ dcol S 0) 36, rol (a11 ^^^ dcol S 1) 10, rol (a17 ^^^ dcol S 2) 15, rol (a23 ^^^ dcol S 3) 56, rol (a2 ^^^ dcol S 2) 62, rol (a8 ^^^ dcol S 3) 55, rol (a14 ^^^ dcol S 4) 39, rol (a15 ^^^ dcol S 0) 41, rol (a21 ^^^ dcol S 1) 2] := by kernel_rfl
theorem mov_eq (S : St) (a0 a1 a2 a3 a4 a5 a6 a7 a8 a9 a10 a11 a12 a13 a14 a15 a16 a17 a18 a19 a20 a21 a22 a23 a24 : BitVec 64) : movTo #[a0, a1, a2, a3, a4, a5, a6, a7, a8, a9, a10, a11, a12, a13, a14, a15, a16, a17, a18, a19, a20, a21, a22, a23, a24] offsetsL S 5 = rhopi (thetaTo S #[a0, a1, a2, a3, a4, a5, a6, a7, a8, a9, a10, a11, a12, a13, a14, a15, a16, a17, a18, a19, a20, a21, a22, a23, a24] 5) := by
  rw [offsets_eq, mov_one, rho_one, rol_zero]
theorem out_eq (a0 a1 a2 a3 a4 a5 a6 a7 a8 a9 a10 a11 a12 a13 a14 a15 a16 a17 a18 a19 a20 a21 a22 a23 a24 : BitVec 64) : outTo #[a0, a1, a2, a3, a4, a5, a6, a7, a8, a9, a10, a11, a12, a13, a14, a15, a16, a17, a18, a19, a20, a21, a22, a23, a24] 5 = chi #[a0, a1, a2, a3, a4, a5, a6, a7, a8, a9, a10, a11, a12, a13, a14, a15, a16, a17, a18, a19, a20, a21, a22, a23, a24] := by kernel_rfl
theorem list25 {α : Type} (l : List α) (h : l.length = 25) : ∃ a0 a1 a2 a3 a4 a5 a6 a7 a8 a9 a10 a11 a12 a13 a14 a15 a16 a17 a18 a19 a20 a21 a22 a23 a24, l = [a0, a1, a2, a3, a4, a5, a6, a7, a8, a9, a10, a11, a12, a13, a14, a15, a16, a17, a18, a19, a20, a21, a22, a23, a24] := by
  match l, h with
  | [a0, a1, a2, a3, a4, a5, a6, a7, a8, a9, a10, a11, a12, a13, a14, a15, a16, a17, a18, a19, a20, a21, a22, a23, a24], _ => exact ⟨_, _, _, _, _, _, _, _, _, _, _, _, _, _, _, _, _, _, _, _, _, _, _, _, _, rfl⟩
theorem arr25 {α : Type} (d : Array α) (h : d.size = 25) : ∃ a0 a1 a2 a3 a4 a5 a6 a7 a8 a9 a10 a11 a12 a13 a14 a15 a16 a17 a18 a19 a20 a21 a22 a23 a24, d = #[a0, a1, a2, a3, a4, a5, a6, a7, a8, a9, a10, a11, a12, a13, a14, a15, a16, a17, a18, a19, a20, a21, a22, a23, a24] := by
  obtain ⟨l⟩ := d
  obtain ⟨a0, a1, a2, a3, a4, a5, a6, a7, a8, a9, a10, a11, a12, a13, a14, a15, a16, a17, a18, a19, a20, a21, a22, a23, a24, rfl⟩ := list25 l h
  exact ⟨_, _, _, _, _, _, _, _, _, _, _, _, _, _, _, _, _, _, _, _, _, _, _, _, _, rfl⟩
theorem out_chi (m : St) (h : m.size = 25) : outTo m 5 = chi m := by
  obtain ⟨a0, a1, a2, a3, a4, a5, a6, a7, a8, a9, a10, a11, a12, a13, a14, a15, a16, a17, a18, a19, a20, a21, a22, a23, a24, rfl⟩ := arr25 m h
  exact out_eq _ _ _ _ _ _ _ _ _ _ _ _ _ _ _ _ _ _ _ _ _ _ _ _ _
theorem round_eq (d : St) (h : d.size = 25) (c : BitVec 64) : refRound d offsetsL c = kround d c := by
  have hm : movTo d offsetsL (colTo d 5) 5 = rhopi (theta d) := by
    obtain ⟨a0, a1, a2, a3, a4, a5, a6, a7, a8, a9, a10, a11, a12, a13, a14, a15, a16, a17, a18, a19, a20, a21, a22, a23, a24, rfl⟩ := arr25 d h
    rw [col_eq, mov_eq]
    rfl
  unfold refRound kround
  rw [hm, out_chi _ (rhopi_size _ (by rw [theta_size, h]))]
theorem refTo_eq (d : St) (h : d.size = 25) (k : Nat) (hk : k ≤ 24) : refTo d k = permTo d k := by
  induction k with
  | zero => rfl
  | succ k ih =>
    show refRound (refTo d k) offsetsL (conL k) = kround (permTo d k) (rcC (rcAt k))
    rw [ih (by omega), con_eq ⟨k, by omega⟩, round_eq _ (permTo_size d h k)]
theorem offsets_lt : ∀ i, i < 25 → offsetsL[i]! < 64 := by
  intro i hi
  have H : ∀ j : Fin 25, offsetsL[j.val]! < 64 := by decide +kernel
  exact H ⟨i, hi⟩
theorem offsets_size : offsetsL.size = 25 := by rw [offsets_eq]; rfl
end Go.Proofs.YtmepmoalhgehhaaGreatDoor.SP
namespace Go.Proofs.YtmepmoalhgehhaaGreatDoor.SP
open Go.Sort
def zero25 : St := Array.replicate 25 0
/-- S1: the state of 200 bytes, permuted. -/
def permB (bs : Bs) : Bs := front (perm (mixTo bs zero25 25)) 200
/-- The reference's words out of bytes, behind i rounds. -/
def orTo (bs : Bs) : Nat → St
  | 0 => zero25
  | i + 1 => (orTo bs i).setIfInBounds (i / 8) ((orTo bs i)[i / 8]! ||| wide bs[i]! <<< (8 * (i % 8)))
theorem orTo_size (bs : Bs) (i : Nat) : (orTo bs i).size = 25 := by
  induction i with
  | zero => simp [orTo, zero25]
  | succ i ih => simp [orTo, ih]
theorem zero25_at (j : Nat) (h : j < 25) : zero25[j]! = 0 := by
  have h' : j < (Array.replicate 25 (0 : BitVec 64)).size := by rw [Array.size_replicate]; exact h
  unfold zero25
  rw [getElem!_pos (Array.replicate 25 (0 : BitVec 64)) j h', Array.getElem_replicate]
theorem orTo_at (bs : Bs) (n j : Nat) (hn : n ≤ 200) (hj : j < 25) :
    (orTo bs n)[j]! = if j < n / 8 then wordOf bs (8 * j) else if j = n / 8 then wordTo bs (8 * j) (n % 8) else 0 := by
  induction n with
  | zero =>
    rw [orTo, zero25_at j hj]
    by_cases h : j = 0
    · subst h; rfl
    · simp [h]
  | succ n ih =>
    have ih := ih (by omega)
    rw [orTo]
    by_cases hjn : j = n / 8
    · rw [← hjn, getElem!_set_same _ _ _ (by rw [orTo_size]; omega), ih, if_neg (by omega), if_pos hjn]
      have hb : bs[n]! = bs[8 * j + n % 8]! := by
        have : n = 8 * j + n % 8 := by omega
        rw [← this]
      rw [hb]
      show wordTo bs (8 * j) (n % 8 + 1) = _
      by_cases h8 : n % 8 = 7
      · rw [if_pos (by omega), h8]
        rfl
      · rw [if_neg (by omega), if_pos (by omega), show (n + 1) % 8 = n % 8 + 1 by omega]
    · rw [getElem!_set_other _ _ _ _ hjn, ih]
      by_cases h1 : j < n / 8
      · rw [if_pos h1, if_pos (by omega)]
      · rw [if_neg h1, if_neg hjn, if_neg (by omega)]
        by_cases h2 : j = (n + 1) / 8
        · rw [if_pos h2, show (n + 1) % 8 = 0 by omega]
          rfl
        · rw [if_neg h2]
theorem mixTo_at (bs : Bs) (d : St) (hd : d.size = 25) (n j : Nat) (hn : n ≤ 25) (hj : j < 25) : (mixTo bs d n)[j]! = if j < n then d[j]! ^^^ wordOf bs (8 * j) else d[j]! := by
  induction n with
  | zero => rfl
  | succ n ih =>
    have ih := ih (by omega)
    rw [mixTo]
    unfold xorAt
    by_cases hjn : j = n
    · rw [← hjn, getElem!_set_same _ _ _ (by rw [mixTo_size, hd]; exact hj), if_pos (by omega)]
      rw [← hjn] at ih
      rw [ih, if_neg (by omega)]
    · rw [getElem!_set_other _ _ _ _ hjn, ih]
      by_cases h1 : j < n
      · rw [if_pos h1, if_pos (by omega)]
      · rw [if_neg h1, if_neg (by omega)]
theorem st_ext (a b : St) (ha : a.size = 25) (hb : b.size = 25) (h : ∀ j, j < 25 → a[j]! = b[j]!) : a = b := by
  apply Array.ext (by omega)
  intro i h1 h2
  have := h i (by omega)
  rwa [getElem!_pos a i h1, getElem!_pos b i h2] at this
theorem or_mix (bs : Bs) : orTo bs 200 = mixTo bs zero25 25 := by
  have hz : zero25.size = 25 := by simp [zero25]
  refine st_ext _ _ (orTo_size _ _) (by rw [mixTo_size, hz]) (fun j hj => ?_)
  rw [orTo_at bs 200 j (Nat.le_refl _) hj, mixTo_at bs zero25 hz 25 j (Nat.le_refl _) hj, if_pos (by omega), if_pos hj, zero25_at j hj, zx]
theorem ref_permB (bs : Bs) : front (refTo (orTo bs 200) 24) 200 = permB bs := by
  have hz : zero25.size = 25 := by simp [zero25]
  rw [refTo_eq _ (orTo_size _ _) 24 (Nat.le_refl _), or_mix]
  rfl
end Go.Proofs.YtmepmoalhgehhaaGreatDoor.SP
namespace Go.Proofs.YtmepmoalhgehhaaGreatDoor.SP
open Go.RowKit Go.Sort
theorem holds_zero25 (w : World) (t : TypeId) : Holds enc (w.alloc (.cells #[.int .u64 0, .int .u64 0, .int .u64 0, .int .u64 0, .int .u64 0, .int .u64 0, .int .u64 0, .int .u64 0, .int .u64 0, .int .u64 0, .int .u64 0, .int .u64 0, .int .u64 0, .int .u64 0, .int .u64 0, .int .u64 0, .int .u64 0, .int .u64 0, .int .u64 0, .int .u64 0, .int .u64 0, .int .u64 0, .int .u64 0, .int .u64 0, .int .u64 0] t)) w.heap.size 0 zero25 := by
  have h := Holds.new (enc := enc) w t zero25
  have e : Array.map enc zero25 = #[.int .u64 0, .int .u64 0, .int .u64 0, .int .u64 0, .int .u64 0, .int .u64 0, .int .u64 0, .int .u64 0, .int .u64 0, .int .u64 0, .int .u64 0, .int .u64 0, .int .u64 0, .int .u64 0, .int .u64 0, .int .u64 0, .int .u64 0, .int .u64 0, .int .u64 0, .int .u64 0, .int .u64 0, .int .u64 0, .int .u64 0, .int .u64 0, .int .u64 0] := by
    simp [zero25, Array.replicate, List.replicate]
    rfl
  rw [e] at h
  exact h
end Go.Proofs.YtmepmoalhgehhaaGreatDoor.SP
namespace Go.Proofs.YtmepmoalhgehhaaGreatDoor.SP
open Go.RowKit Go.Sort
/-- What Lent lays at place i behind the text. -/
def fill (i : Nat) : UInt8 := UInt8.ofNat (i % 251) ^^^ 165
theorem fill_int (i : Nat) : bits .xor .u8 ((i : Int) % 251) 165 = ub (fill i) := by
  have H : ∀ j : Fin 251, bits .xor .u8 (j.val : Int) 165 = ub (UInt8.ofNat j.val ^^^ 165) := by decide +kernel
  have := H ⟨i % 251, Nat.mod_lt _ (by decide)⟩
  simpa [fill] using this
def lentTo (s : ByteArray) : Nat → Bs
  | 0 => s.data ++ Array.replicate 160 0
  | k + 1 => (lentTo s k).setIfInBounds (s.size + k) (fill (s.size + k))
def lent (s : ByteArray) : Bs := lentTo s 160
theorem lentTo_size (s : ByteArray) (k : Nat) : (lentTo s k).size = s.size + 160 := by
  induction k with
  | zero => simp [lentTo]
  | succ k ih => simp [lentTo, ih]
theorem lent_size (s : ByteArray) : (lent s).size = s.size + 160 := lentTo_size s 160
variable {w w1 : World} {b o n : Nat}
theorem heap_setCells (b : Nat) {k : Nat} (hk : k ≠ b) : ∀ (vs : List Value) (p : Nat) (w : World), (w.setCells b p vs).heap[k]? = w.heap[k]?
  | [], _, _ => rfl
  | v :: r, p, w => by rw [World.setCells, heap_setCells b hk r (p + 1) _, Below.heap_setCell _ _ _ _ hk]
theorem Only.setCells (h : Only b o n w w1) (vs : List Value) (p : Nat) (hp : o ≤ p) (hn : p + vs.length ≤ o + n) : Only b o n w (w1.setCells b p vs) := by
  have h0 := below_setCells (B := 0) (b := b) (Nat.zero_le _) vs p w1 (Below.refl 0 w1)
  exact h.trans ⟨h0.os, h0.tape, h0.output, h0.size, fun k _ hk => heap_setCells b hk vs p w1,
    fun q hq => World.cell?_setCells_out b vs p w1 ⟨b, q, none⟩ (fun _ _ => by simp only; omega), fun q => World.frozen?_setCells b vs p w1 _⟩
/-- A row behind 'copy': what was copied stands at its place, all else as it stood. -/
theorem Holds.setCells {bs r : Bs} (h : Holds encB w b o bs) (vs : List Value) (p : Nat) (hr : r.size = bs.size) (hp : p + vs.length ≤ bs.size)
    (h1 : ∀ j (hj : j < vs.length), vs[j] = encB r[p + j]!) (h2 : ∀ j, j < bs.size → j < p ∨ p + vs.length ≤ j → r[j]! = bs[j]!) : Holds encB (w.setCells b (o + p) vs) b o r := by
  intro j hj
  rw [hr] at hj
  rw [World.frozen?_setCells]
  refine ⟨?_, (h j hj).2⟩
  by_cases hin : j < p ∨ p + vs.length ≤ j
  · rw [World.cell?_setCells_out b vs (o + p) w ⟨b, o + j, none⟩ (fun _ _ => by simp only; omega), h2 j hj hin]
    exact (h j hj).1
  · have hj2 : j - p < vs.length := by omega
    have := World.cell?_setCells_in b vs (o + p) w (fun i hi => by
      have := (h (p + i) (by omega)).1
      rw [← Nat.add_assoc] at this
      rw [this]; rfl) (j - p) hj2
    rw [show o + p + (j - p) = o + j by omega] at this
    rw [this, h1 (j - p) hj2, show p + (j - p) = j by omega]
theorem app_front (a r : Bs) (j : Nat) (hj : j < a.size) : (a ++ r)[j]! = a[j] := by
  have h : j < (a ++ r).size := by rw [Array.size_append]; omega
  rw [getElem!_pos (a ++ r) j h, Array.getElem_append_left hj]
theorem app_back (a r : Bs) (j : Nat) (h1 : a.size ≤ j) (h2 : j < a.size + r.size) : (a ++ r)[j]! = r[j - a.size]! := by
  have h : j < (a ++ r).size := by rw [Array.size_append]; omega
  have h3 : j - a.size < r.size := by omega
  rw [getElem!_pos (a ++ r) j h, Array.getElem_append_right h1, getElem!_pos r (j - a.size) h3]
theorem rep_at (n j : Nat) (h : j < n) : (Array.replicate n (0 : UInt8))[j]! = 0 := by
  have h' : j < (Array.replicate n (0 : UInt8)).size := by rw [Array.size_replicate]; exact h
  rw [getElem!_pos (Array.replicate n (0 : UInt8)) j h', Array.getElem_replicate]
theorem lent_front (s : ByteArray) (j : Nat) (hj : j < s.data.size) : (lentTo s 0)[j]! = s.data[j] := app_front _ _ j hj
theorem lent_back (s : ByteArray) (j : Nat) (h1 : s.data.size ≤ j) (h2 : j < s.data.size + 160) : (lentTo s 0)[j]! = 0 := by
  rw [lentTo, app_back _ _ j h1 (by rw [Array.size_replicate]; exact h2), rep_at _ _ (by omega)]
theorem holds_lent0 (s : ByteArray) (n : Nat) (hn : s.size + 160 = n) (h : Holds encB w b 0 (Array.replicate n (0 : UInt8))) :
    Holds encB (w.setCells b 0 (s.data.toList.map fun x => Value.int .u8 (x.toNat : Int))) b 0 (lentTo s 0) := by
  have hl : s.data.size = s.size := rfl
  refine Holds.setCells (o := 0) (p := 0) h _ (by rw [lentTo_size, Array.size_replicate, hn]) (by rw [List.length_map, Array.length_toList, Array.size_replicate]; omega) (fun j hj => ?_) (fun j hj hout => ?_)
  · rw [List.length_map, Array.length_toList] at hj
    rw [Nat.zero_add, lent_front s j hj, List.getElem_map, Array.getElem_toList]
    rfl
  · rw [Array.size_replicate] at hj
    rw [List.length_map, Array.length_toList] at hout
    rw [lent_back s j (by omega) (by omega), rep_at n j hj]
theorem size_of5 (P : Program) (e : TypeId) (h : (P.info? e).map (·.size) = some 1) : ∀ w, (Go.sizeOf e).run P w = .ok 1 w := by
  intro w
  cases hq : P.info? e with
  | none => simp [hq] at h
  | some i =>
    simp [hq] at h
    simp [Go.sizeOf, typeInfo, hq, h]
theorem conv_str (P : Program) (src dst e : TypeId) (hs : P.underlying src = some (.slice e)) (he : P.underlying e = some (.int .u8)) (hd : P.underlying dst = some .string)
    (w : World) (b o n cap : Nat) (bs : Bs) (hB : Holds encB w b o bs) (hn : bs.size = n) : (convert src dst (.slice (some ⟨b, o, none⟩) n cap)).run P w = .ok (.string ⟨bs⟩) w := by
  have h := run_convert_bytes_back (P := P) w src dst e ⟨b, o, none⟩ cap bs.toList hs he hd (fun j hj => by
    have hj' : j < bs.size := by simpa using hj
    have hc := (hB j hj').1
    rw [getElem!_pos bs j hj'] at hc
    have e1 : (⟨b, o, none⟩ : Addr).add j = ⟨b, o + j, none⟩ := by
      unfold Addr.add
      by_cases h0 : j = 0
      · subst h0; rfl
      · rw [if_neg h0]
    rw [e1, hc]
    simp [encB, ub])
  simpa [hn] using h
end Go.Proofs.YtmepmoalhgehhaaGreatDoor.SP
namespace Go.Proofs.YtmepmoalhgehhaaGreatDoor.SP
open Go.RowKit Go.Sort Go.Deep
theorem int5 : Tryz.prog.underlying 5 = some (.int .u8) := by kernel_rfl
theorem str9 : Tryz.prog.underlying 9 = some .string := by kernel_rfl
theorem size5 : ∀ w, (Go.sizeOf 5).run Tryz.prog w = .ok 1 w := size_of5 Tryz.prog 5 (by kernel_rfl)
theorem lent_step (s : ByteArray) (k : Nat) : lentTo s (k + 1) = (lentTo s k).setIfInBounds (s.size + k) (fill (s.size + k)) := rfl
end Go.Proofs.YtmepmoalhgehhaaGreatDoor.SP
namespace Go.Proofs.YtmepmoalhgehhaaGreatDoor.SP
open Go.Sort
/-! ### Words and bytes -/
theorem wide_bit (x : UInt8) (i : Nat) : (wide x).getLsbD i = x.toNat.testBit i := by
  unfold wide
  rw [BitVec.getLsbD_ofNat]
  by_cases h : i < 64
  · simp [h]
  · have : x.toNat.testBit i = false := Nat.testBit_lt_two_pow (Nat.lt_of_lt_of_le x.toNat_lt (Nat.pow_le_pow_right (by decide) (by omega : 8 ≤ i)))
    simp [h, this]
theorem byte_bit_high (x : UInt8) (i : Nat) (h : 8 ≤ i) : x.toNat.testBit i = false :=
  Nat.testBit_lt_two_pow (Nat.lt_of_lt_of_le x.toNat_lt (Nat.pow_le_pow_right (by decide) h))
theorem wordTo_bit (bs : Bs) (o n k : Nat) (hn : n ≤ 8) (hk : k < 64) : (wordTo bs o n).getLsbD k = (decide (k < 8 * n) && (bs[o + k / 8]!).toNat.testBit (k % 8)) := by
  induction n with
  | zero => simp [wordTo]
  | succ n ih =>
    rw [wordTo, BitVec.getLsbD_or, ih (by omega), BitVec.getLsbD_shiftLeft, wide_bit]
    by_cases h1 : k < 8 * n
    · simp [h1, hk, show k < 8 * (n + 1) by omega]
    · by_cases h2 : k < 8 * (n + 1)
      · have e1 : k / 8 = n := by omega
        have e2 : k - 8 * n = k % 8 := by omega
        simp [h1, h2, hk, e1, e2]
      · have := byte_bit_high bs[o + n]! (k - 8 * n) (by omega)
        simp [h1, h2, hk, this]
theorem low_bit (v : BitVec 64) (i : Nat) (h : i < 8) : (low v).toNat.testBit i = v.getLsbD i := by
  unfold low
  rw [UInt8.toNat_ofNat', Nat.testBit_mod_two_pow, BitVec.getLsbD]
  simp [h]
theorem byte_ext (x y : UInt8) (h : ∀ i, i < 8 → x.toNat.testBit i = y.toNat.testBit i) : x = y := by
  apply UInt8.toNat_inj.1
  apply Nat.eq_of_testBit_eq
  intro i
  by_cases hi : i < 8
  · exact h i hi
  · rw [byte_bit_high x i (by omega), byte_bit_high y i (by omega)]
theorem frontTo_at (d : St) (n k j : Nat) (hk : k ≤ n) (hj : j < n) : (frontTo d n k)[j]! = if j < k then byteOf d j else 0 := by
  induction k with
  | zero =>
    have h' : j < (Array.replicate n (0 : UInt8)).size := by rw [Array.size_replicate]; exact hj
    rw [frontTo, getElem!_pos (Array.replicate n (0 : UInt8)) j h', Array.getElem_replicate, if_neg (by omega)]
  | succ k ih =>
    rw [frontTo]
    by_cases h : j = k
    · subst h
      rw [getElem!_set_same _ _ _ (by rw [frontTo_size]; exact hj), if_pos (by omega)]
    · rw [getElem!_set_other _ _ _ _ h, ih (by omega)]
      by_cases h1 : j < k
      · rw [if_pos h1, if_pos (by omega)]
      · rw [if_neg h1, if_neg (by omega)]
theorem front_at (d : St) (n j : Nat) (hj : j < n) : (front d n)[j]! = byteOf d j := by
  unfold front
  rw [frontTo_at d n n j (Nat.le_refl _) hj, if_pos hj]
/-- The word that was laid out in bytes is read back. -/
theorem word_front (d : St) (n j : Nat) (hj : 8 * j + 8 ≤ n) : wordOf (front d n) (8 * j) = d[j]! := by
  apply BitVec.eq_of_getLsbD_eq
  intro k hk
  unfold wordOf
  rw [wordTo_bit _ _ 8 k (Nat.le_refl _) hk, front_at d n _ (by omega)]
  unfold byteOf
  have e1 : (8 * j + k / 8) / 8 = j := by omega
  have e2 : (8 * j + k / 8) % 8 = k / 8 := by omega
  rw [low_bit _ _ (Nat.mod_lt _ (by decide)), BitVec.getLsbD_ushiftRight, e1, e2, show 8 * (k / 8) + k % 8 = k by omega]
  simp [hk]
theorem mix_front (d : St) (hd : d.size = 25) : mixTo (front d 200) zero25 25 = d := by
  have hz : zero25.size = 25 := by simp [zero25]
  refine st_ext _ _ (by rw [mixTo_size, hz]) hd (fun j hj => ?_)
  rw [mixTo_at _ zero25 hz 25 j (Nat.le_refl _) hj, if_pos hj, zero25_at j hj, zx, word_front d 200 j (by omega)]
theorem permB_front (d : St) (hd : d.size = 25) : permB (front d 200) = front (perm d) 200 := by
  unfold permB
  rw [mix_front d hd]
/-! ### The sponge, byte by byte -/
structure Sp where
  d : St
  p : Bs
  h : Nat
structure Ok (S : Sp) : Prop where
  d25 : S.d.size = 25
  p136 : S.p.size = 136
  hlt : S.h < 136
def soakL (S : Sp) : Sp := { d := perm (mixTo S.p S.d 17), p := S.p, h := 0 }
def putB (S : Sp) (x : UInt8) : Sp :=
  if S.h + 1 = 136 then soakL { d := S.d, p := S.p.setIfInBounds S.h x, h := S.h } else { d := S.d, p := S.p.setIfInBounds S.h x, h := S.h + 1 }
def takeL (S : Sp) (l : List UInt8) : Sp := l.foldl putB S
def splice (p : Bs) : Nat → List UInt8 → Bs
  | _, [] => p
  | i, x :: r => splice (p.setIfInBounds i x) (i + 1) r
theorem takeL_append (S : Sp) (a b : List UInt8) : takeL S (a ++ b) = takeL (takeL S a) b := List.foldl_append
theorem splice_size (p : Bs) (i : Nat) (l : List UInt8) : (splice p i l).size = p.size := by
  induction l generalizing p i with
  | nil => rfl
  | cons x r ih => rw [splice, ih, Array.size_setIfInBounds]
theorem splice_at (p : Bs) (i : Nat) (l : List UInt8) (j : Nat) (hl : i + l.length ≤ p.size) (hj : j < p.size) : (splice p i l)[j]! = if i ≤ j ∧ j < i + l.length then l[j - i]! else p[j]! := by
  induction l generalizing p i with
  | nil => simp [splice]; omega
  | cons x r ih =>
    simp only [List.length_cons] at hl
    rw [splice, ih _ _ (by rw [Array.size_setIfInBounds]; omega) (by rw [Array.size_setIfInBounds]; exact hj)]
    by_cases h : j = i
    · subst h
      rw [if_neg (by omega), getElem!_set_same _ _ _ hj, if_pos (by simp), Nat.sub_self]
      rfl
    · rw [getElem!_set_other _ _ _ _ h]
      by_cases h1 : i + 1 ≤ j ∧ j < i + 1 + r.length
      · rw [if_pos h1, if_pos (by simp; omega), show j - i = (j - (i + 1)) + 1 by omega]
        rfl
      · rw [if_neg h1, if_neg (by simp; omega)]
theorem soak_mk (d : St) (p : Bs) (h : Nat) : soakL ⟨d, p, h⟩ = ⟨perm (mixTo p d 17), p, 0⟩ := by unfold soakL; rfl
theorem soakL_d (S : Sp) : (soakL S).d = perm (mixTo S.p S.d 17) := by
  obtain ⟨d, p, h⟩ := S
  rw [soak_mk]
theorem soakL_p (S : Sp) : (soakL S).p = S.p := by
  obtain ⟨d, p, h⟩ := S
  rw [soak_mk]
theorem soakL_h (S : Sp) : (soakL S).h = 0 := by
  obtain ⟨d, p, h⟩ := S
  rw [soak_mk]
theorem soak_ok {S : Sp} (h1 : S.d.size = 25) (h2 : S.p.size = 136) : Ok (soakL S) := by
  have hd : (mixTo S.p S.d 17).size = 25 := by rw [mixTo_size, h1]
  refine ⟨?_, by rw [soakL_p, h2], ?_⟩
  · rw [soakL_d]
    exact perm_size _ hd
  · rw [soakL_h]
    decide
theorem putB_ok {S : Sp} (h : Ok S) (x : UInt8) : Ok (putB S x) := by
  have := h.hlt
  unfold putB
  by_cases e : S.h + 1 = 136
  · rw [if_pos e]
    exact soak_ok h.d25 (by show (S.p.setIfInBounds _ _).size = 136; rw [Array.size_setIfInBounds]; exact h.p136)
  · rw [if_neg e]
    exact ⟨h.d25, by show (S.p.setIfInBounds _ _).size = 136; rw [Array.size_setIfInBounds]; exact h.p136, by show S.h + 1 < 136; omega⟩
theorem takeL_ok {S : Sp} (h : Ok S) (l : List UInt8) : Ok (takeL S l) := by
  induction l generalizing S with
  | nil => exact h
  | cons x r ih => exact ih (putB_ok h x)
theorem putB_h {S : Sp} (h : Ok S) (x : UInt8) : (putB S x).h = (S.h + 1) % 136 := by
  have := h.hlt
  unfold putB
  by_cases e : S.h + 1 = 136
  · rw [if_pos e, e]; rfl
  · rw [if_neg e, Nat.mod_eq_of_lt (by omega)]
theorem takeL_h {S : Sp} (h : Ok S) (l : List UInt8) : (takeL S l).h = (S.h + l.length) % 136 := by
  induction l generalizing S with
  | nil => exact (Nat.mod_eq_of_lt h.hlt).symm
  | cons x r ih =>
    show (takeL (putB S x) r).h = _
    rw [ih (putB_ok h x), putB_h h x, List.length_cons]
    omega
theorem takeL_chunk (S : Sp) (l : List UInt8) (hl : l ≠ []) (hle : S.h + l.length ≤ 136) :
    takeL S l = if S.h + l.length = 136 then soakL { d := S.d, p := splice S.p S.h l, h := S.h } else { d := S.d, p := splice S.p S.h l, h := S.h + l.length } := by
  induction l generalizing S with
  | nil => exact absurd rfl hl
  | cons x r ih =>
    show takeL (putB S x) r = _
    simp only [List.length_cons] at hle ⊢
    cases r with
    | nil =>
      unfold putB takeL splice
      simp only [List.foldl_nil, List.length_nil]
      by_cases e : S.h + 1 = 136
      · rw [if_pos e, if_pos (by omega)]; rfl
      · rw [if_neg e, if_neg (by omega)]; rfl
    | cons y r' =>
      have e : ¬ S.h + 1 = 136 := by simp only [List.length_cons] at hle; omega
      have hp : putB S x = { d := S.d, p := S.p.setIfInBounds S.h x, h := S.h + 1 } := by unfold putB; rw [if_neg e]
      rw [hp, ih _ (by simp) (by simp only [List.length_cons] at hle ⊢; omega)]
      simp only [splice, List.length_cons]
      by_cases e2 : S.h + (r'.length + 1 + 1) = 136
      · rw [if_pos (by omega), if_pos e2]; rfl
      · rw [if_neg (by omega), if_neg e2, show S.h + 1 + (r'.length + 1) = S.h + (r'.length + 1 + 1) by omega]
/-! ### The end -/
/-- The piece with the ending, as 'end' leaves it. -/
def ended (p : Bs) (h : Nat) (e : UInt8) : Bs :=
  let q := (splice p h (List.replicate (136 - h) 0)).setIfInBounds h e
  q.setIfInBounds 135 (q[135]! ^^^ 128)
def finalL (S : Sp) (e : UInt8) : Sp := soakL { d := S.d, p := ended S.p S.h e, h := S.h }
/-- What stands behind the bytes up to a whole piece. -/
def tailpad (h : Nat) (e : UInt8) : List UInt8 :=
  (e :: List.replicate (135 - h) 0).set (135 - h) ((e :: List.replicate (135 - h) 0)[135 - h]! ^^^ 128)
theorem tailpad_length (h : Nat) (e : UInt8) (hh : h < 136) : (tailpad h e).length = 136 - h := by
  unfold tailpad
  rw [List.length_set, List.length_cons, List.length_replicate]
  omega
theorem bs_ext (a b : Bs) (n : Nat) (ha : a.size = n) (hb : b.size = n) (h : ∀ j, j < n → a[j]! = b[j]!) : a = b := by
  apply Array.ext (by omega)
  intro i h1 h2
  have := h i (by omega)
  rwa [getElem!_pos a i h1, getElem!_pos b i h2] at this
theorem pad_at (h : Nat) (e : UInt8) (j : Nat) (hj : j < 136 - h) (hh : h < 136) : (tailpad h e)[j]! = (if j = 0 then e else 0) ^^^ (if j = 135 - h then 128 else 0) := by
  have hc : ∀ j, j < 136 - h → (e :: List.replicate (135 - h) (0 : UInt8))[j]! = if j = 0 then e else 0 := by
    intro j hj
    cases j with
    | zero => rfl
    | succ j =>
      have hl : j + 1 < (e :: List.replicate (135 - h) (0 : UInt8)).length := by rw [List.length_cons, List.length_replicate]; omega
      rw [getElem!_pos (e :: List.replicate (135 - h) (0 : UInt8)) (j + 1) hl]
      simp
  have hlen : (tailpad h e).length = 136 - h := tailpad_length h e hh
  have hl : j < (e :: List.replicate (135 - h) (0 : UInt8)).length := by rw [List.length_cons, List.length_replicate]; omega
  rw [getElem!_pos (tailpad h e) j (by rw [hlen]; exact hj)]
  unfold tailpad
  rw [List.getElem_set]
  by_cases h1 : 135 - h = j
  · rw [if_pos h1, hc (135 - h) (by omega), h1, if_pos (rfl : j = j)]
  · rw [if_neg h1, if_neg (show ¬ j = 135 - h by omega)]
    have := hc j hj
    rw [getElem!_pos (e :: List.replicate (135 - h) (0 : UInt8)) j hl] at this
    rw [this]
    simp
theorem ended_size (p : Bs) (h : Nat) (e : UInt8) : (ended p h e).size = p.size := by
  unfold ended
  simp only [Array.size_setIfInBounds, splice_size]
theorem rep_list_at (n j : Nat) (h : j < n) : (List.replicate n (0 : UInt8))[j]! = 0 := by
  rw [getElem!_pos _ j (by simpa using h)]
  simp
theorem ended_eq (p : Bs) (h : Nat) (e : UInt8) (hp : p.size = 136) (hh : h < 136) : ended p h e = splice p h (tailpad h e) := by
  have hs : (splice p h (List.replicate (136 - h) 0)).size = 136 := by rw [splice_size, hp]
  refine bs_ext _ _ 136 (by rw [ended_size, hp]) (by rw [splice_size, hp]) (fun j hj => ?_)
  have hq : ∀ j, j < 136 → ((splice p h (List.replicate (136 - h) 0)).setIfInBounds h e)[j]! = if j < h then p[j]! else if j = h then e else 0 := by
    intro j hj
    by_cases h1 : j = h
    · rw [h1, getElem!_set_same _ _ _ (by omega), if_neg (by omega), if_pos rfl]
    · rw [getElem!_set_other _ _ _ _ h1, splice_at _ _ _ _ (by rw [List.length_replicate, hp]; omega) (by omega), List.length_replicate]
      by_cases h2 : j < h
      · rw [if_neg (by omega), if_pos h2]
      · rw [if_pos (by omega), if_neg h2, if_neg h1, rep_list_at _ _ (by omega)]
  have hR : (splice p h (tailpad h e))[j]! = if j < h then p[j]! else (if j = h then e else 0) ^^^ (if j = 135 then 128 else 0) := by
    rw [splice_at _ _ _ _ (by rw [tailpad_length h e hh, hp]; omega) (by omega), tailpad_length h e hh]
    by_cases h2 : j < h
    · rw [if_neg (show ¬ (h ≤ j ∧ j < h + (136 - h)) by omega), if_pos h2]
    · rw [if_pos (show h ≤ j ∧ j < h + (136 - h) by omega), if_neg h2, pad_at h e _ (by omega) hh]
      have e1 : (j - h = 0) = (j = h) := by apply propext; omega
      have e2 : (j - h = 135 - h) = (j = 135) := by apply propext; omega
      simp only [e1, e2]
  have hL : (ended p h e)[j]! = if j < h then p[j]! else (if j = h then e else 0) ^^^ (if j = 135 then 128 else 0) := by
    unfold ended
    by_cases h135 : j = 135
    · rw [h135, getElem!_set_same _ _ _ (by rw [Array.size_setIfInBounds, hs]; decide), hq 135 (by decide), if_neg (show ¬ 135 < h by omega), if_neg (show ¬ 135 < h by omega), if_pos (rfl : 135 = 135)]
    · rw [getElem!_set_other _ _ _ _ h135, hq j hj]
      by_cases h2 : j < h
      · rw [if_pos h2, if_pos h2]
      · rw [if_neg h2, if_neg h2, if_neg h135]
        simp
  rw [hL, hR]
theorem finalL_eq {S : Sp} (h : Ok S) (e : UInt8) : finalL S e = takeL S (tailpad S.h e) := by
  have := h.hlt
  have hl := tailpad_length S.h e h.hlt
  rw [takeL_chunk S _ (by intro c; rw [c] at hl; simp at hl; omega) (by omega), if_pos (by omega)]
  unfold finalL
  rw [ended_eq _ _ _ h.p136 h.hlt]
end Go.Proofs.YtmepmoalhgehhaaGreatDoor.SP
namespace Go.Proofs.YtmepmoalhgehhaaGreatDoor.SP
open Go.RowKit Go.Sort Go.Deep
theorem Only.widen {b o n o' n' : Nat} {w w' : World} (h : Only b o n w w') (h1 : o' ≤ o) (h2 : o + n ≤ o' + n') : Only b o' n' w w' :=
  ⟨h.os, h.tape, h.output, h.size, h.block, fun q hq => h.cell q (by omega), h.froz⟩
/-- A sponge lies in block b. -/
structure HSp (w : World) (b : Nat) (S : Sp) : Prop where
  d : Holds enc w b 0 S.d
  p : Holds encB w b 25 S.p
  h : w.cell? ⟨b, 161, none⟩ = some (.int .i64 (S.h : Int))
  f : w.frozen? ⟨b, 161, none⟩ = false
theorem HSp.drew {w : World} {b : Nat} {S : Sp} (h : HSp w b S) : HSp w.drew b S := ⟨h.d, h.p, h.h, h.f⟩
theorem HSp.drewN {w : World} {b : Nat} {S : Sp} (h : HSp w b S) (q : Nat) : HSp (w.drewN q) b S := ⟨h.d, h.p, h.h, h.f⟩
theorem HSp.lt {w : World} {b : Nat} {S : Sp} (h : HSp w b S) : b < w.heap.size := World.block_lt_of_cell? _ _ h.h
theorem HSp.below {w w' : World} {b B : Nat} {S : Sp} (h : HSp w b S) (k : Below B w w') (hb : b < B) : HSp w' b S :=
  ⟨Holds.below h.d k hb, Holds.below h.p k hb, by rw [k.cell (p := ⟨b, 161, none⟩) hb]; exact h.h, by rw [k.frozen (p := ⟨b, 161, none⟩) hb]; exact h.f⟩
set_option maxHeartbeats 1000000 in
set_option maxRecDepth 100000 in
theorem soak_any (b : Nat) (S : Sp) (w : World) (h25 : S.d.size = 25) (h136 : S.p.size = 136) (hS : HSp w b S) :
    Calls Tryz.prog 69 #[.pointer (some ⟨b, 0, none⟩)] w fun e w' => e = .returned (.tuple #[]) ∧ Only b 0 162 w w' ∧ HSp w' b (soakL S) := by
  obtain ⟨d, p, h⟩ := S
  dsimp only at h25 h136
  have hD : Holds enc w b 0 d := hS.d
  have hP : Holds encB w b 25 p := hS.p
  have hc := hS.h
  have hf := hS.f
  dsimp only at hc
  rw [soak_mk]
  clear hS
  have hps : (perm (mixTo p d 17)).size = 25 := perm_size _ (by rw [mixTo_size, h25])
  generalize hpm : perm (mixTo p d 17) = pd at hps ⊢
  have HPM : Hid (perm (mixTo p d 17) = pd) := hpm
  clear hpm
  go_enter Tryz.func69, Tryz.ntmps69
  go_wp2
  go_still_tail 7, mixed
  go_wp2_with fail
  refine (mix_any b 0 b 25 136 136 p d _ h25 (Holds.drew hD) (Holds.drew hP) h136 (by decide) (Nat.le_refl _) (by omega)).mono ?_
  rintro e w1 ⟨rfl, hO1, hD1⟩
  have hO1' : Only b 0 25 w w1 := ((Only.refl b 0 25 w).drew).trans hO1
  have hD1' : Holds enc w1 b 0 (mixTo p d 17) := hD1
  have hP1 := Holds.same hP hO1' (by omega)
  have c1 : w1.cell? ⟨b, 161, none⟩ = some (.int .i64 (h : Int)) := by rw [hO1'.cell 161 (by omega)]; exact hc
  have f1 : w1.frozen? ⟨b, 161, none⟩ = false := by rw [hO1'.froz]; exact hf
  clear hO1 hD1
  go_wp2_with fail
  refine (permute_any b 0 _ _ (by rw [mixTo_size, h25]) hD1').mono ?_
  rintro e w2 ⟨rfl, hO2, hD2⟩
  rw [HPM.out] at hD2
  have hP2 := Holds.same hP1 hO2 (by omega)
  have c2 : w2.cell? ⟨b, 161, none⟩ = some (.int .i64 (h : Int)) := by rw [hO2.cell 161 (by omega)]; exact c1
  have f2 : w2.frozen? ⟨b, 161, none⟩ = false := by rw [hO2.froz]; exact f1
  go_wp2
  go_end0
  have hO3 : Only b 161 1 w2 (w2.setCell ⟨b, 161, none⟩ (.int .i64 0)) := (Only.refl b 161 1 w2).setCell (by omega) (by omega) _
  have hD3 : Holds enc _ b 0 pd := Holds.same hD2 hO3 (Or.inl (by omega))
  have hP3 : Holds encB _ b 25 p := Holds.same hP2 hO3 (Or.inl (by omega))
  exact ⟨rfl, ((hO1'.trans hO2).widen (Nat.le_refl _) (by omega)).trans (hO3.widen (by omega) (by omega)), ⟨hD3, hP3, World.cell?_setCell_same _ _ _ c2, by rw [World.frozen?_setCell]; exact f2⟩⟩
end Go.Proofs.YtmepmoalhgehhaaGreatDoor.SP
