import Derived.Test.YtlbaoipgdheigaaDoorRows
import Derived.Lib.Mul64
import Derived.Laws.Bits64b
import Derived.Laws.Externs
import Derived.Laws.Unary
import Derived.WalkKit
import Derived.Laws.AppendOwn
import Derived.Laws.OwnMore
import Derived.Sort.Row
import Derived.Below
import Derived.Deep.LoopGhost
import Derived.Deep.QuietTactic
import Derived.StillTailTactics
import Derived.BigRegion
import Derived.BigQuiet
import Derived.Lib.TrailingZeros
import Derived.Lib.SlBuf
import Derived.Laws.CopyRow
import Derived.Laws.IdiomCopy
import Derived.Lib.AppendZeros
import Derived.Test.YtlbaoipgdheigaaDoorTie
import Derived.Test.YtlbaoipgdheigaaDoorCards
import Derived.ChangeOld
import Derived.ProofKit
import Derived.LaidMore
import Derived.OpenShut
import Derived.Stop.Joined
import Derived.SevenTiedAt
import Derived.Lib.LaidTab
set_option linter.unusedVariables false
set_option linter.unusedSimpArgs false
namespace Go.Proofs.YtlbaoipgdheigaaDoor.OC
theorem and_split (c y m n : Nat) (hc : c < 256) (hm : m < 256) : (c + 256 * y) &&& (m + 256 * n) = (c &&& m) + 256 * (y &&& n) := by
  have h1 : ((c + 256 * y) &&& (m + 256 * n)) % 2 ^ 8 = (c &&& m) := by
    rw [Nat.and_mod_two_pow]
    congr 1 <;> omega
  have h2 : ((c + 256 * y) &&& (m + 256 * n)) / 2 ^ 8 = (y &&& n) := by
    rw [Nat.and_div_two_pow]
    congr 1 <;> omega
  omega
def byteS (k m c : Nat) : Nat := ((c / 2 ^ k) &&& m) + (c &&& m)
/-- One stage of the count: by neighbours of 2^k bits; the mask does not let bits of the next byte in. -/
theorem stage_split (k m : Nat) (n c y : Nat) (hk : k = 1 ∧ m = 85 ∨ k = 2 ∧ m = 51) (hc : c < 256) :
    (((c + 256 * y) / 2 ^ k) &&& (m + 256 * n)) + ((c + 256 * y) &&& (m + 256 * n)) = byteS k m c + 256 * (((y / 2 ^ k) &&& n) + (y &&& n)) := by
  have low : ∀ e, e < 2 ^ k → ((c / 2 ^ k + 2 ^ (8 - k) * e) &&& m) = ((c / 2 ^ k) &&& m) := by
    have h1 : ∀ c : Fin 256, ∀ e : Fin 2, ((c.val / 2 + 128 * e.val) &&& 85) = ((c.val / 2) &&& 85) := by decide +kernel
    have h2 : ∀ c : Fin 256, ∀ e : Fin 4, ((c.val / 4 + 64 * e.val) &&& 51) = ((c.val / 4) &&& 51) := by decide +kernel
    rcases hk with ⟨rfl, rfl⟩ | ⟨rfl, rfl⟩
    · intro e he; exact h1 ⟨c, hc⟩ ⟨e, by simpa using he⟩
    · intro e he; exact h2 ⟨c, hc⟩ ⟨e, by simpa using he⟩
  have e1 : (c + 256 * y) / 2 ^ k = (c / 2 ^ k + 2 ^ (8 - k) * (y % 2 ^ k)) + 256 * (y / 2 ^ k) := by
    rcases hk with ⟨rfl, rfl⟩ | ⟨rfl, rfl⟩ <;> simp <;> omega
  have hm : m < 256 := by rcases hk with ⟨rfl, rfl⟩ | ⟨rfl, rfl⟩ <;> decide
  have hl : c / 2 ^ k + 2 ^ (8 - k) * (y % 2 ^ k) < 256 := by
    rcases hk with ⟨rfl, rfl⟩ | ⟨rfl, rfl⟩ <;> simp <;> omega
  have hp : 0 < 2 ^ k := Nat.two_pow_pos k
  rw [e1, and_split _ _ _ _ hl hm, and_split _ _ _ _ hc hm, low _ (Nat.mod_lt _ hp)]
  unfold byteS
  omega
def bytes (f : Nat → Nat) : Nat → Nat → Nat
  | 0, _ => 0
  | k + 1, x => f (x % 256) + 256 * bytes f k (x / 256)
def mask (m : Nat) : Nat → Nat
  | 0 => 0
  | k + 1 => m + 256 * mask m k
theorem stage (k m : Nat) (hk : k = 1 ∧ m = 85 ∨ k = 2 ∧ m = 51) : ∀ (j x : Nat), ((x / 2 ^ k) &&& mask m j) + (x &&& mask m j) = bytes (byteS k m) j x
  | 0, x => by simp [mask, bytes]
  | j + 1, x => by
    have hx : x = x % 256 + 256 * (x / 256) := by omega
    have := stage_split k m (mask m j) (x % 256) (x / 256) hk (by omega)
    rw [mask, bytes, ← stage k m hk j (x / 256), ← this, ← hx]
theorem bytes_bytes (f g : Nat → Nat) (hf : ∀ c, c < 256 → f c < 256) : ∀ (j x : Nat), bytes g j (bytes f j x) = bytes (fun c => g (f c)) j x
  | 0, x => rfl
  | j + 1, x => by
    have h := hf (x % 256) (by omega)
    rw [bytes, bytes, bytes, show (f (x % 256) + 256 * bytes f j (x / 256)) % 256 = f (x % 256) by omega, show (f (x % 256) + 256 * bytes f j (x / 256)) / 256 = bytes f j (x / 256) by omega, bytes_bytes f g hf j]
/-- ((x >> 4) + x) & 0x0f..: where each byte's two halves are small. -/
def byteT (c : Nat) : Nat := (c / 16 + c) &&& 15
theorem small_mod (f : Nat → Nat) (hf : ∀ c, c < 256 → f c % 16 ≤ 4 ∧ f c / 16 ≤ 4) : ∀ (j x : Nat), bytes f j x % 16 ≤ 4
  | 0, _ => Nat.zero_le _
  | j + 1, x => by
    have := (hf (x % 256) (by omega)).1
    rw [bytes]; omega
theorem third (f : Nat → Nat) (hf : ∀ c, c < 256 → f c % 16 ≤ 4 ∧ f c / 16 ≤ 4) : ∀ (j x : Nat), ((bytes f j x / 16 + bytes f j x) &&& mask 15 j) = bytes (fun c => byteT (f c)) j x
  | 0, x => by simp [mask, bytes]
  | j + 1, x => by
    have h := hf (x % 256) (by omega)
    have hs := small_mod f hf j (x / 256)
    have ih := third f hf j (x / 256)
    rw [bytes, bytes, mask]
    rw [← ih]
    generalize f (x % 256) = c at *
    generalize bytes f j (x / 256) = y at *
    have e : (c + 256 * y) / 16 + (c + 256 * y) = (c / 16 + c + 16 * (y % 16)) + 256 * (y / 16 + y) := by omega
    rw [e, and_split _ _ _ _ (by omega) (by decide)]
    have low : (c / 16 + c + 16 * (y % 16)) &&& 15 = byteT c := by
      unfold byteT
      rw [show (15 : Nat) = 2 ^ 4 - 1 from rfl, Nat.and_two_pow_sub_one_eq_mod, Nat.and_two_pow_sub_one_eq_mod]
      omega
    rw [low]
def popAux : Nat → Nat → Nat
  | 0, _ => 0
  | f + 1, x => x % 2 + popAux f (x / 2)
theorem popAux_add : ∀ (a b x : Nat), popAux (a + b) x = popAux a x + popAux b (x / 2 ^ a)
  | 0, b, x => by simp [popAux]
  | a + 1, b, x => by
    rw [show a + 1 + b = (a + b) + 1 by omega, popAux, popAux, popAux_add a b, Nat.div_div_eq_div_mul, Nat.pow_succ, Nat.mul_comm (2 ^ a) 2]
    omega
theorem popAux_mod : ∀ (a x : Nat), popAux a (x % 2 ^ a) = popAux a x
  | 0, x => rfl
  | a + 1, x => by
    have h1 : x % 2 ^ (a + 1) % 2 = x % 2 := Nat.mod_mod_of_dvd _ ⟨2 ^ a, by rw [Nat.pow_succ, Nat.mul_comm]⟩
    have h2 : x % 2 ^ (a + 1) / 2 = x / 2 % 2 ^ a := by
      rw [Nat.pow_succ, Nat.mul_comm, Nat.mod_mul_right_div_self]
    rw [popAux, popAux, h1, h2, popAux_mod a]
def cnt (c : Nat) : Nat := byteT (byteS 2 51 (byteS 1 85 c))
theorem cnt_is : ∀ c : Fin 256, cnt c.val = popAux 8 c.val ∧ cnt c.val ≤ 8 ∧ byteS 1 85 c.val < 256 ∧ byteS 2 51 (byteS 1 85 c.val) % 16 ≤ 4 ∧ byteS 2 51 (byteS 1 85 c.val) / 16 ≤ 4 := by decide +kernel
/-- math/bits.OnesCount64's steps, as numbers: what they count. -/
theorem ones (x a b c d e f : Nat) (h1 : a = ((x / 2) &&& 6148914691236517205) + (x &&& 6148914691236517205)) (h2 : b = ((a / 4) &&& 3689348814741910323) + (a &&& 3689348814741910323))
    (h3 : c = (b / 16 + b) &&& 1085102592571150095) (h4 : d = c + c / 256) (h5 : e = d + d / 65536) (h6 : f = e + e / 4294967296) : f % 128 = popAux 64 x ∧ f < 2 ^ 64 ∧ e < 2 ^ 64 ∧ d < 2 ^ 64 ∧ a < 2 ^ 64 ∧ b / 16 + b < 2 ^ 64 ∧ popAux 64 x ≤ 64 := by
  have m1 : (6148914691236517205 : Nat) = mask 85 8 := by decide
  have m2 : (3689348814741910323 : Nat) = mask 51 8 := by decide
  have m3 : (1085102592571150095 : Nat) = mask 15 8 := by decide
  have g1 : a = bytes (byteS 1 85) 8 x := by rw [h1, m1]; exact stage 1 85 (Or.inl ⟨rfl, rfl⟩) 8 x
  have g2 : b = bytes (fun c => byteS 2 51 (byteS 1 85 c)) 8 x := by
    rw [h2, m2, g1, ← bytes_bytes (byteS 1 85) (byteS 2 51) (fun c hc => (cnt_is ⟨c, hc⟩).2.2.1)]
    exact stage 2 51 (Or.inr ⟨rfl, rfl⟩) 8 _
  have g3 : c = bytes cnt 8 x := by rw [h3, m3, g2]; exact third _ (fun c hc => (cnt_is ⟨c, hc⟩).2.2.2) 8 x
  have al : a < 2 ^ 64 := by
    have l1 := @Nat.and_le_right (x / 2) 6148914691236517205
    have l2 := @Nat.and_le_right x 6148914691236517205
    omega
  have bl : b < 7378697629483820647 := by
    have l1 := @Nat.and_le_right (a / 4) 3689348814741910323
    have l2 := @Nat.and_le_right a 3689348814741910323
    omega
  have hpop : popAux 64 x = cnt (x % 256) + cnt (x / 256 % 256) + cnt (x / 256 / 256 % 256) + cnt (x / 256 / 256 / 256 % 256) + cnt (x / 256 / 256 / 256 / 256 % 256) + cnt (x / 256 / 256 / 256 / 256 / 256 % 256) + cnt (x / 256 / 256 / 256 / 256 / 256 / 256 % 256) + cnt (x / 256 / 256 / 256 / 256 / 256 / 256 / 256 % 256) := by
    have hb : ∀ y, popAux 8 y = cnt (y % 256) := fun y => by rw [(cnt_is ⟨y % 256, by omega⟩).1]; exact (popAux_mod 8 y).symm
    rw [show (64 : Nat) = 8 + (8 + (8 + (8 + (8 + (8 + (8 + 8)))))) from rfl]
    simp only [popAux_add 8, hb, show (2 : Nat) ^ 8 = 256 from rfl]
    omega
  have k : ∀ y, cnt (y % 256) ≤ 8 := fun y => (cnt_is ⟨y % 256, by omega⟩).2.1
  have k0 := k x
  have k1 := k (x / 256)
  have k2 := k (x / 256 / 256)
  have k3 := k (x / 256 / 256 / 256)
  have k4 := k (x / 256 / 256 / 256 / 256)
  have k5 := k (x / 256 / 256 / 256 / 256 / 256)
  have k6 := k (x / 256 / 256 / 256 / 256 / 256 / 256)
  have k7 := k (x / 256 / 256 / 256 / 256 / 256 / 256 / 256)
  simp only [bytes] at g3
  generalize cnt (x % 256) = t0 at *
  generalize cnt (x / 256 % 256) = t1 at *
  generalize cnt (x / 256 / 256 % 256) = t2 at *
  generalize cnt (x / 256 / 256 / 256 % 256) = t3 at *
  generalize cnt (x / 256 / 256 / 256 / 256 % 256) = t4 at *
  generalize cnt (x / 256 / 256 / 256 / 256 / 256 % 256) = t5 at *
  generalize cnt (x / 256 / 256 / 256 / 256 / 256 / 256 % 256) = t6 at *
  generalize cnt (x / 256 / 256 / 256 / 256 / 256 / 256 / 256 % 256) = t7 at *
  clear h1 h2 h3 g1 g2 m1 m2 m3 k
  have d1 : c / 256 = t1 + 256 * (t2 + 256 * (t3 + 256 * (t4 + 256 * (t5 + 256 * (t6 + 256 * t7))))) := by omega
  have d2 : d = (t0 + t1) + 256 * ((t1 + t2) + 256 * ((t2 + t3) + 256 * ((t3 + t4) + 256 * ((t4 + t5) + 256 * ((t5 + t6) + 256 * ((t6 + t7) + 256 * t7)))))) := by omega
  have d3 : d / 65536 = (t2 + t3) + 256 * ((t3 + t4) + 256 * ((t4 + t5) + 256 * ((t5 + t6) + 256 * ((t6 + t7) + 256 * t7)))) := by omega
  have d4 : e = (t0 + t1 + t2 + t3) + 256 * ((t1 + t2 + t3 + t4) + 256 * ((t2 + t3 + t4 + t5) + 256 * ((t3 + t4 + t5 + t6) + 256 * ((t4 + t5 + t6 + t7) + 256 * ((t5 + t6 + t7) + 256 * ((t6 + t7) + 256 * t7)))))) := by omega
  have d5 : e / 4294967296 = (t4 + t5 + t6 + t7) + 256 * ((t5 + t6 + t7) + 256 * ((t6 + t7) + 256 * t7)) := by omega
  have d6 : f = (t0 + t1 + t2 + t3 + t4 + t5 + t6 + t7) + 256 * ((t1 + t2 + t3 + t4 + (t5 + t6 + t7)) + 256 * ((t2 + t3 + t4 + t5 + (t6 + t7)) + 256 * ((t3 + t4 + t5 + t6 + t7) + 256 * ((t4 + t5 + t6 + t7) + 256 * ((t5 + t6 + t7) + 256 * ((t6 + t7) + 256 * t7)))))) := by omega
  refine ⟨by omega, by omega, by omega, by omega, al, by omega, by omega⟩
end Go.Proofs.YtlbaoipgdheigaaDoor.OC
namespace Go.Proofs.YtlbaoipgdheigaaDoor.OP
/-- The powers of 2 that make a number, the lowest first: those from 2^i on, of 2^i q. -/
def pw : Nat → Nat → Nat → List Nat
  | 0, _, _ => []
  | f + 1, i, q => if q % 2 = 1 then 2 ^ i :: pw f (i + 1) (q / 2) else pw f (i + 1) (q / 2)
def pop : Nat → Nat → Nat
  | 0, _ => 0
  | f + 1, x => x % 2 + pop f (x / 2)
theorem pw_len : ∀ f i q, (pw f i q).length = pop f q
  | 0, _, _ => rfl
  | f + 1, i, q => by
    rw [pw, pop]
    split
    · rw [List.length_cons, pw_len f]; omega
    · rw [pw_len f]; omega
def sum : List Nat → Nat
  | [] => 0
  | x :: l => x + sum l
theorem sum_app : ∀ a b : List Nat, sum (a ++ b) = sum a + sum b
  | [], b => by simp [sum]
  | x :: a, b => by rw [List.cons_append, sum, sum, sum_app a b]; omega
theorem pw_sum : ∀ f i q, q < 2 ^ f → sum (pw f i q) = 2 ^ i * q
  | 0, i, q, h => by
    have : q = 0 := by simpa using h
    subst this; rfl
  | f + 1, i, q, h => by
    rw [Nat.pow_succ] at h
    have ih := pw_sum f (i + 1) (q / 2) (by omega)
    rw [pw]
    have e : 2 ^ (i + 1) * (q / 2) = 2 ^ i * (2 * (q / 2)) := by rw [Nat.pow_succ, Nat.mul_assoc]
    split
    · rw [sum, ih, e, show q = 1 + 2 * (q / 2) by omega, Nat.mul_add, Nat.mul_one, show (1 + 2 * (q / 2)) / 2 = q / 2 by omega]
    · rw [ih, e]
      congr 1; omega
/-- The lowest power, and what is left without it. -/
theorem pw_step : ∀ (f i q : Nat), 0 < q → q < 2 ^ f → ∃ k m f', f' < f ∧ 2 ^ i * q = 2 ^ k * (2 * m + 1) ∧ pw f i q = 2 ^ k :: pw f' (k + 1) m ∧ m < 2 ^ f' ∧ k + 1 + f' = i + f
  | 0, i, q, h0, h => by simp at h; omega
  | f + 1, i, q, h0, h => by
    rw [Nat.pow_succ] at h
    by_cases hq : q % 2 = 1
    · refine ⟨i, q / 2, f, by omega, ?_, ?_, by omega, by omega⟩
      · congr 1; omega
      · rw [pw, if_pos hq]
    · obtain ⟨k, m, f', h1, h2, h3, h4, h5⟩ := pw_step f (i + 1) (q / 2) (by omega) (by omega)
      refine ⟨k, m, f', by omega, ?_, ?_, h4, by omega⟩
      · rw [← h2, Nat.pow_succ, Nat.mul_assoc]
        congr 1; omega
      · rw [pw, if_neg hq, h3]
/-- x & (x - 1) leaves out the lowest power. -/
theorem and_pred (k m : Nat) : (2 ^ k * (2 * m + 1)) &&& (2 ^ k * (2 * m + 1) - 1) = 2 ^ (k + 1) * m := by
  have hp : 0 < 2 ^ k := Nat.two_pow_pos k
  have e1 : 2 ^ k * (2 * m + 1) - 1 = 2 ^ k * (2 * m) + (2 ^ k - 1) := by rw [Nat.mul_add]; omega
  rw [e1]
  have h1 : ((2 ^ k * (2 * m + 1)) &&& (2 ^ k * (2 * m) + (2 ^ k - 1))) % 2 ^ k = 0 := by
    rw [Nat.and_mod_two_pow, Nat.mul_mod_right, Nat.zero_and]
  have h2 : ((2 ^ k * (2 * m + 1)) &&& (2 ^ k * (2 * m) + (2 ^ k - 1))) / 2 ^ k = 2 * m := by
    rw [Nat.and_div_two_pow, Nat.mul_div_cancel_left _ hp, Nat.mul_add_div hp, Nat.div_eq_of_lt (show 2 ^ k - 1 < 2 ^ k by omega)]
    show ((2 * m + 1) &&& (2 * m)) = 2 * m
    have a0 : 2 * m % 2 ^ 1 = 0 := by omega
    have a1 : ((2 * m + 1) &&& (2 * m)) % 2 ^ 1 = 0 := by rw [Nat.and_mod_two_pow, a0, Nat.and_zero]
    have a2 : ((2 * m + 1) &&& (2 * m)) / 2 ^ 1 = m := by
      rw [Nat.and_div_two_pow, show (2 * m + 1) / 2 ^ 1 = m by omega, show 2 * m / 2 ^ 1 = m by omega, Nat.and_self]
    omega
  have h3 := Nat.div_add_mod ((2 ^ k * (2 * m + 1)) &&& (2 ^ k * (2 * m) + (2 ^ k - 1))) (2 ^ k)
  rw [h1, h2, Nat.add_zero] at h3
  rw [← h3, Nat.pow_succ, Nat.mul_assoc]
/-- What the reference looks at, bit by bit: the same. -/
def bitsL (a : Nat) : Nat → List Nat
  | 0 => []
  | i + 1 => if (a / 2 ^ i) % 2 = 1 then bitsL a i ++ [2 ^ i] else bitsL a i
theorem pw_snoc : ∀ (f i q : Nat), pw (f + 1) i q = if (q / 2 ^ f) % 2 = 1 then pw f i q ++ [2 ^ (i + f)] else pw f i q
  | 0, i, q => by simp [pw]
  | f + 1, i, q => by
    have ih := pw_snoc f (i + 1) (q / 2)
    rw [pw, ih, Nat.div_div_eq_div_mul, show 2 * 2 ^ f = 2 ^ (f + 1) by rw [Nat.pow_succ, Nat.mul_comm], show i + 1 + f = i + (f + 1) by omega]
    conv => rhs; rw [pw]
    by_cases h1 : q / 2 ^ (f + 1) % 2 = 1 <;> by_cases h2 : q % 2 = 1
    · simp only [if_pos h1, if_pos h2, List.cons_append]
    · simp only [if_pos h1, if_neg h2]
    · simp only [if_neg h1, if_pos h2]
    · simp only [if_neg h1, if_neg h2]
theorem bits_pw (a : Nat) : ∀ n, bitsL a n = pw n 0 a
  | 0 => rfl
  | n + 1 => by rw [bitsL, pw_snoc, bits_pw a n, Nat.zero_add]
theorem pw_mod : ∀ (f i q : Nat), pw f i (q % 2 ^ f) = pw f i q
  | 0, _, _ => rfl
  | f + 1, i, q => by
    have h1 : q % 2 ^ (f + 1) % 2 = q % 2 := Nat.mod_mod_of_dvd _ ⟨2 ^ f, by rw [Nat.pow_succ, Nat.mul_comm]⟩
    have h2 : q % 2 ^ (f + 1) / 2 = q / 2 % 2 ^ f := by rw [Nat.pow_succ, Nat.mul_comm, Nat.mod_mul_right_div_self]
    rw [pw, pw, h1, h2, pw_mod f]
end Go.Proofs.YtlbaoipgdheigaaDoor.OP
namespace Go.Proofs.YtlbaoipgdheigaaDoor
open Go.RowKit Go.Sort
theorem and_i64_127 (f : Nat) (hf : f < 18446744073709551616) : bits .and .i64 (IntKind.i64.wrap (f : Int)) 127 = ((f % 128 : Nat) : Int) := by
  have h1 : (BitVec.ofInt 64 (IntKind.i64.wrap (f : Int))).toNat = f := by
    rw [BitVec.toNat_ofInt, IntKind.wrap_i64]
    omega
  have h2 : (BitVec.ofInt 64 127).toNat = 127 := rfl
  show IntKind.i64.wrap ((BitVec.ofInt 64 (IntKind.i64.wrap (f : Int)) &&& BitVec.ofInt 64 127).toNat : Int) = _
  rw [BitVec.toNat_and, h1, h2, IntKind.wrap_i64, show (127 : Nat) = 2 ^ 7 - 1 from rfl, Nat.and_two_pow_sub_one_eq_mod]
  omega
theorem wr64 (a b n : Nat) (h : a + b = n) (hn : n < 18446744073709551616) : IntKind.u64.wrap ((a : Int) + (b : Int)) = (n : Int) := by
  rw [IntKind.wrap_u64]; omega
set_option maxHeartbeats 1000000 in
theorem ones_c (x : Nat) (hx : x < 18446744073709551616) (w : World) : Calls Tryd.prog 7 #[.int .u64 (x : Int)] w fun e w' => e = .returned (.int .i64 (OC.popAux 64 x : Int)) ∧ w' = w := by
  obtain ⟨a, ha⟩ : ∃ a, a = ((x / 2) &&& 6148914691236517205) + (x &&& 6148914691236517205) := ⟨_, rfl⟩
  obtain ⟨b, hb⟩ : ∃ b, b = ((a / 4) &&& 3689348814741910323) + (a &&& 3689348814741910323) := ⟨_, rfl⟩
  obtain ⟨c, hc⟩ : ∃ c, c = (b / 16 + b) &&& 1085102592571150095 := ⟨_, rfl⟩
  obtain ⟨d, hd⟩ : ∃ d, d = c + c / 256 := ⟨_, rfl⟩
  obtain ⟨e, he⟩ : ∃ e, e = d + d / 65536 := ⟨_, rfl⟩
  obtain ⟨f, hf⟩ : ∃ f, f = e + e / 4294967296 := ⟨_, rfl⟩
  obtain ⟨k1, k2, k3, k4, k5, k6, k7⟩ := OC.ones x a b c d e f ha hb hc hd he hf
  have hbl : b < 18446744073709551616 := by omega
  have hcl : c < 18446744073709551616 := by omega
  have e1 : IntKind.u64.wrap (bits .and .u64 ((x : Int) / 2) 6148914691236517205 + bits .and .u64 (x : Int) 6148914691236517205) = (a : Int) := by
    have g1 := bits_and_u64_nat (x / 2) 6148914691236517205 (by omega) (by omega)
    have g2 := bits_and_u64_nat x 6148914691236517205 hx (by omega)
    rw [show (x : Int) / 2 = ((x / 2 : Nat) : Int) by omega]
    exact (congrArg IntKind.u64.wrap (congr (congrArg HAdd.hAdd g1) g2)).trans (wr64 _ _ _ ha.symm (by omega))
  have e2 : IntKind.u64.wrap (bits .and .u64 ((a : Int) / 4) 3689348814741910323 + bits .and .u64 (a : Int) 3689348814741910323) = (b : Int) := by
    have g1 := bits_and_u64_nat (a / 4) 3689348814741910323 (by omega) (by omega)
    have g2 := bits_and_u64_nat a 3689348814741910323 (by omega) (by omega)
    rw [show (a : Int) / 4 = ((a / 4 : Nat) : Int) by omega]
    exact (congrArg IntKind.u64.wrap (congr (congrArg HAdd.hAdd g1) g2)).trans (wr64 _ _ _ hb.symm hbl)
  have e3 : bits .and .u64 (IntKind.u64.wrap ((b : Int) / 16 + (b : Int))) 1085102592571150095 = (c : Int) := by
    rw [show (b : Int) / 16 = ((b / 16 : Nat) : Int) by omega, wr64 (b / 16) b _ rfl (by omega)]
    rw [hc]
    exact bits_and_u64_nat (b / 16 + b) 1085102592571150095 (by omega) (by omega)
  have e4 : IntKind.u64.wrap ((c : Int) + (c : Int) / 256) = (d : Int) := by rw [IntKind.wrap_u64]; omega
  have e5 : IntKind.u64.wrap ((d : Int) + (d : Int) / 65536) = (e : Int) := by rw [IntKind.wrap_u64]; omega
  have e6 : IntKind.u64.wrap ((e : Int) + (e : Int) / 4294967296) = (f : Int) := by rw [IntKind.wrap_u64]; omega
  have e7 : bits .and .i64 (wrap64 (f : Int)) 127 = (OC.popAux 64 x : Int) := by rw [show wrap64 (f : Int) = IntKind.i64.wrap (f : Int) by rw [IntKind.wrap_i64]; unfold wrap64; omega, and_i64_127 f (by omega), k1]
  clear ha hb hc hd he hf k1 k2 k3 k4 k5 k6 k7 hbl hcl
  generalize OC.popAux 64 x = r at *
  go_enter Tryd.func7, Tryd.ntmps7
  go_wp2
  go_ret
  exact ⟨rfl, rfl⟩
/-- A table of bytes, where the program lays it. -/
def TabB (g : Nat) (w : World) : Prop := ∀ i, i < 64 → ∃ k : Nat, k < 64 ∧ w.cell? ⟨g, i, none⟩ = some (.int .u8 (k : Int))
theorem tz_key (x a : Nat) (hx : x < 18446744073709551616) (hx0 : x ≠ 0) (hlow : x &&& (18446744073709551616 - x) = a) :
    IntKind.u64.wrap (bits BinOp.and IntKind.u64 (x : Int) (IntKind.u64.wrap (-(x : Int))) * 285870213051353865) / 288230376151711744 = ((a * 285870213051353865 % 18446744073709551616 / 288230376151711744 : Nat) : Int) := by
  have e1 : IntKind.u64.wrap (-(x : Int)) = ((18446744073709551616 - x : Nat) : Int) := by rw [IntKind.wrap_u64]; omega
  rw [e1, bits_and_u64_nat x _ hx (by omega), hlow, IntKind.wrap_u64]
  omega
theorem tz_core (x k idx : Nat) (w : World) (hx0 : ((x : Int) == 0) = false)
    (key : IntKind.u64.wrap (bits BinOp.and IntKind.u64 (x : Int) (IntKind.u64.wrap (-(x : Int))) * 285870213051353865) / 288230376151711744 = (idx : Int)) (hi : (idx : Int) < 64) (hk : k < 64) (hcell : w.cell? ⟨0, idx, none⟩ = some (.int .u8 (k : Int))) :
    Calls Tryd.prog 9 #[.int .u64 (x : Int)] w fun e w' => e = .returned (.int .i64 (k : Int)) ∧ w' = w := by
  go_enter Tryd.func9, Tryd.ntmps9
  go_wp2_with (simp only [key])
  go_ret
  exact ⟨rfl, rfl⟩
theorem tz_c (x : Nat) (hx : x < 18446744073709551616) (hx0 : x ≠ 0) (w : World) (hT : TabB 0 w) : Calls Tryd.prog 9 #[.int .u64 (x : Int)] w fun e w' => (∃ k : Int, e = .returned (.int .i64 k)) ∧ w' = w := by
  obtain ⟨hlow, hk⟩ := Lib.lowest_bit 64 x hx0 hx
  obtain ⟨hi, -⟩ := Lib.deBruijn64_at _ hk
  obtain ⟨k, hk2, hcell⟩ := hT _ hi
  refine (tz_core x k _ w (by simp; omega) (tz_key x _ hx hx0 hlow) (by omega) hk2 hcell).mono ?_
  rintro e w' ⟨rfl, rfl⟩
  exact ⟨⟨_, rfl⟩, rfl⟩
end Go.Proofs.YtlbaoipgdheigaaDoor
namespace Go.Proofs.YtlbaoipgdheigaaDoor
open Go.RowKit Go.Sort
/-- It returned a value, of which something holds. -/
def RetU (Q : Value → World → Prop) (e : Ending) (w : World) : Prop := ∃ v, e = .returned v ∧ Q v w
theorem hidU {p : Prop} (h : p) : Hid p := h
set_option maxHeartbeats 1000000 in
theorem mul64_c (m : Nat) (hm : m ≤ 1000) (w : World) : Calls Tryd.prog 12 #[.int .u64 1, .int .u64 (m : Int)] w fun e w' => e = .returned (.tuple #[.int .u64 0, .int .u64 (m : Int)]) ∧ w' = w := by
  have a1 : bits .and .u64 1 4294967295 = 1 := rfl
  have a2 : bits .and .u64 (m : Int) 4294967295 = (m : Int) := by
    have h := bits_and_u64_nat m 4294967295 (by omega) (by omega)
    rw [show (4294967295 : Nat) = 2 ^ 32 - 1 from rfl, Nat.and_two_pow_sub_one_eq_mod, Nat.mod_eq_of_lt (by omega)] at h
    exact h
  have a0 : bits .and .u64 0 4294967295 = 0 := rfl
  have d1 : (m : Int) / 4294967296 = 0 := by omega
  have w1 : IntKind.u64.wrap (m : Int) = (m : Int) := by rw [IntKind.wrap_u64]; omega
  go_enter Tryd.func12, Tryd.ntmps12
  go_wp2
  go_ret2
  exact ⟨rfl, rfl⟩
theorem mul_c (m : Nat) (hm : m ≤ 1000) (w : World) : Calls Tryd.prog 10 #[.int .u64 1, .int .u64 (m : Int)] w fun e w' => e = .returned (.tuple #[.int .u64 0, .int .u64 (m : Int)]) ∧ w' = w := by
  have h := mul64_c m hm w
  go_enter Tryd.func10, Tryd.ntmps10
  go_wp2_with fail
  refine h.mono ?_
  rintro e w' ⟨rfl, rfl⟩
  clear h
  go_wp2
  go_ret2
  exact ⟨rfl, rfl⟩
theorem undU64 : Tryd.prog.underlying 23 = some (.slice 22) := by kernel_rfl
theorem szU64 : (Tryd.prog.info? 22).map (·.size) = some 1 := by kernel_rfl
theorem infoU64 : (Tryd.prog.info? 22).map (fun i => (i.size, i.bytes, i.zero.map fun z => z.cells.size)) = some (1, 8, some 1) := by kernel_rfl
theorem step_copy_run {P : Program} {ops : Array Oper} {o : Oper} {a : Act} {w : World} {K : Act → World → Prop} {Q : Exit → Act → World → Prop} {E : Prop} (hg : o.guard = none) (d s : Operand) (t t' : TypeId)
    (ho : o.op = .call { callee := .builtin .copy, args := #[d, s], argTypes := #[t, t'] }) (v u : Value) (hd : a.eval d = v) (hs : a.eval s = u)
    (v' : Value) (w' : World) (hr : (Builtin.copy_ #[t, t'] o.type #[v, u]).run P w = .ok v' w') (h : K (a.put o.dst v') w') : if Region.wanted o (yielded ops a.tmps) = true then Oper.wp P o a w K Q else E := by
  have hw : Region.wanted o (yielded ops a.tmps) = true := by simp [Region.wanted, hg]
  rw [if_pos hw]
  exact Lib.wp_copy_run w d s t t' ho v u hd hs hr h
/-- A row of numbers, the first n of which are x. -/
def Rp (g m n : Nat) (x : Value) (w : World) : Prop := ∃ cur : Array Value, w.heap[g]? = some (.cells cur 22 (0, 0)) ∧ cur.size = m ∧ ∀ j, j < n → cur[j]? = some x
theorem Rp.cell {g m n : Nat} {x : Value} {w : World} (h : Rp g m n x w) (hn : n ≤ m) (j : Nat) (hj : j < n) : w.cell? ⟨g, j, none⟩ = some x := by
  obtain ⟨cur, h1, h2, h3⟩ := h
  have h4 := h3 j hj
  unfold World.cell?
  simp [h1, h4]
/-- 'copy(l[n:], l[:k])', or of another row: k more are x. -/
theorem Rp.copy {g m n k sl sc dc : Nat} {x : Value} {w : World} {a : Addr} (h : Rp g m n x w) (hx : x.oneCell' = true) (hk : k = Nat.min sl (m - n)) (hn : n ≤ m) (hsrc : ∀ j, j < k → w.cell? (a.add j) = some x) :
    ∃ w', (∀ ty, (Builtin.copy_ #[23, 23] ty #[.slice (some ⟨g, n, none⟩) (m - n) dc, .slice (some a) sl sc]).run Tryd.prog w = .ok (goInt k) w') ∧ Rp g m (n + k) x w' ∧ (∀ B, B ≤ g → Below B w w') ∧ w'.heap.size = w.heap.size := by
  obtain ⟨cur, h1, h2, h3⟩ := h
  have hlen : (List.replicate k x).length = k := List.length_replicate
  have hkm : n + k ≤ m := by have : Nat.min sl (m - n) ≤ m - n := Nat.min_le_right _ _; omega
  have hr := fun ty => run_copy_row (P := Tryd.prog) w 23 23 ty 22 g n (m - n) dc a sl sc cur 22 (List.replicate k x) undU64 szU64 h1 (by rw [hlen]; exact hk) (fun j v hj => by
    have hjk : j < k := by have := (List.getElem?_eq_some_iff.1 hj).1; omega
    rw [List.getElem?_replicate, if_pos hjk] at hj
    obtain rfl := Option.some.inj hj
    exact hsrc j hjk) (by rw [hlen, h2]; exact hkm) (fun v hv => by rw [List.eq_of_mem_replicate hv]; exact hx)
  rw [hlen] at hr
  refine ⟨_, hr, ⟨_, setRow_heap w g cur _ 22 _ h1, ?_, fun j hj => ?_⟩, fun B hB => ?_, ?_⟩
  · simp [h2]; omega
  · have hc2 : cur.toList.length = m := by rw [Array.length_toList, h2]
    rw [List.getElem?_toArray, List.append_assoc]
    by_cases hjn : j < n
    · rw [List.getElem?_append_left (by rw [List.length_take]; omega), List.getElem?_take, if_pos hjn, Array.getElem?_toList]
      exact h3 j hjn
    · rw [List.getElem?_append_right (by rw [List.length_take]; omega), List.length_take, Nat.min_eq_left (by omega), List.getElem?_append_left (by rw [hlen]; omega), List.getElem?_replicate, if_pos (by omega)]
  · exact ⟨rfl, rfl, rfl, by simp [World.setRow], fun k hk => setRow_other w g k _ (by omega)⟩
  · simp [World.setRow]
theorem mkU (N : Nat) (hN : N ≤ 1000) : ∃ C0 : Array Value, C0.size = N ∧ ∀ w : World, (Instr.makeSlice 23 (.int .i64 (N : Int)) (.int .i64 (N : Int))).run Tryd.prog w = .ok (.slice (some ⟨w.heap.size, 0, none⟩) N N) (w.alloc (.cells C0 22)) := by
  obtain ⟨i, hi1, hi2⟩ := Option.map_eq_some_iff.1 infoU64
  simp only [Prod.mk.injEq] at hi2
  obtain ⟨h1, h2, h3⟩ := hi2
  obtain ⟨z, hz, hz2⟩ := Option.map_eq_some_iff.1 h3
  refine ⟨madeCells z.cells (N * 1), by rw [size_madeCells]; omega, fun w => ?_⟩
  have hb : (i.bytes : Int) * (N : Int) ≤ 281474976710656 := by rw [h2]; omega
  have := run_make (P := Tryd.prog) w 23 22 i z undU64 hi1 hz .i64 .i64 (N : Int) (N : Int) (by omega) (by omega) hb (by omega)
  rw [Int.toNat_natCast, h1] at this
  exact this
theorem slU_hi (b n c k : Nat) (h : k ≤ c) (w : World) : (Instr.sliceAt 23 (.slice (some ⟨b, 0, none⟩) n c) none (some (.int .i64 (k : Int))) none).run Tryd.prog w = .ok (.slice (some ⟨b, 0, none⟩) k c) w := by
  have h1 : ¬ (k : Int) < 0 := by omega
  have h2 : (k : Int) ≤ (c : Int) := by omega
  go_simp
theorem slU_lo (b n k : Nat) (h : k < n) (w : World) : (Instr.sliceAt 23 (.slice (some ⟨b, 0, none⟩) n n) (some (.int .i64 (k : Int))) none none).run Tryd.prog w = .ok (.slice (some ⟨b, k, none⟩) (n - k) (n - k)) w := by
  have h1 : ¬ (k : Int) < 0 := by omega
  have h2 : (k : Int) ≤ (n : Int) := by omega
  have h3 : k < n := h
  have h4 : n - k ≠ 0 := by omega
  go_simp
  intro e
  omega
/-- What slices.Repeat of one number answers. -/
def RepR (w : World) (m : Nat) (x : Value) (e : Value) (w' : World) : Prop := Below w.heap.size w w' ∧ ∃ g, e = .slice (some ⟨g, 0, none⟩) m m ∧ w.heap.size ≤ g ∧ Rp g m m x w'
set_option maxHeartbeats 1000000 in
set_option maxRecDepth 20000 in
theorem rep_c (r m : Nat) (x : Value) (hx : x.oneCell' = true) (hm : m ≤ 1000) (w : World) (hc : w.cell? ⟨r, 0, none⟩ = some x) :
    Calls Tryd.prog 8 #[.slice (some ⟨r, 0, none⟩) 1 1, .int .i64 (m : Int)] w (RetU (RepR w m x)) := by
  have hM := mul_c m hm w
  have g1 : ¬ (m : Int) < 0 := by omega
  have w1 : IntKind.u64.wrap (m : Int) = (m : Int) := by rw [IntKind.wrap_u64]; omega
  have g2 : ¬ (9223372036854775807 : Int) < (m : Int) := by omega
  have hr : r < w.heap.size := World.block_lt_of_cell? _ _ hc
  go_enter Tryd.func8, Tryd.ntmps8
  go_wp2_with fail
  refine hM.mono ?_
  rintro e w' ⟨rfl, rfl⟩
  clear hM
  obtain ⟨C0, hC0, hmk⟩ := mkU m hm
  have hb0 : Below w'.heap.size w' (w'.alloc (.cells C0 22)) := (Below.refl _ _).alloc (Nat.le_refl _) _
  have hR0 : Rp w'.heap.size m 0 x (w'.alloc (.cells C0 22)) := ⟨C0, Array.getElem?_push_size, hC0, fun j hj => absurd hj (Nat.not_lt_zero _)⟩
  have hcr : (w'.alloc (.cells C0 22)).cell? ⟨r, 0, none⟩ = some x := by rw [hb0.cell (p := ⟨r, 0, none⟩) hr]; exact hc
  obtain ⟨w2, hcp, hR2, hB2, hs2⟩ := hR0.copy (k := Nat.min 1 m) (sl := 1) (sc := 1) (dc := m) (a := ⟨r, 0, none⟩) hx (by rw [Nat.sub_zero]) (Nat.zero_le _) (fun j hj => by
    have hj2 : j < Nat.min 1 m := hj
    have : j = 0 := by have : Nat.min 1 m ≤ 1 := Nat.min_le_left _ _; omega
    subst this
    exact hcr)
  rw [Nat.sub_zero] at hcp
  rw [Nat.zero_add] at hR2
  have KI : Hid (Below w'.heap.size w' w2 ∧ Rp w'.heap.size m (Nat.min 1 m) x w2) := ⟨hb0.trans (hB2 _ (Nat.le_refl _)), hR2⟩
  have hn1 : Nat.min 1 m ≤ m := Nat.min_le_right _ _
  have hn2 : 0 < m → 0 < Nat.min 1 m := fun h => by show 0 < min 1 m; omega
  have hcp2 := hcp 3
  generalize Nat.min 1 m = n1 at *
  unfold goInt at hcp2
  clear hb0 hR0 hcr hB2 hs2 hR2 hcp hr
  go_wp2_with (at_builtin; refine Lib.wpList_copy_run _ rfl _ _ 23 23 rfl _ _ rfl rfl hcp2 ?_)
  generalize hgg : w'.heap.size = g at KI ⊢
  clear hcp2 hmk
  go_loopg [8] m (fun gk s8 wr => ∃ n : Nat, n ≤ m ∧ (0 < m → 0 < n) ∧ m ≤ n + gk ∧ s8 = .int .i64 (n : Int) ∧ Hid (Below g w' wr ∧ Rp g m n x wr))
  case atStart => exact ⟨n1, hn1, hn2, by omega, rfl, KI⟩
  case round =>
    clear KI
    obtain ⟨n, hnm, hn0, hgk, rfl, KM⟩ := hrel
    by_cases hlt : n < m
    · have hlt' : (n : Int) < (m : Int) := by omega
      have hk0 : 0 < Nat.min n (m - n) := by show 0 < min n (m - n); omega
      have hk1 : n + Nat.min n (m - n) ≤ m := by show n + min n (m - n) ≤ m; omega
      have hk2 : Nat.min n (m - n) ≤ n := Nat.min_le_left _ _
      have hRd : Rp g m n x wr.drew := KM.out.2
      obtain ⟨w2, hcp, hR2, hB2, hs2⟩ := hRd.copy (k := Nat.min n (m - n)) (sl := n) (sc := m) (dc := m - n) (a := ⟨g, 0, none⟩) hx rfl hnm (fun j hj => by
        have : (⟨g, 0, none⟩ : Addr).add j = ⟨g, j, none⟩ := by
          unfold Addr.add
          by_cases h0 : j = 0
          · subst h0; rfl
          · rw [if_neg h0, Nat.zero_add]
        rw [this]
        exact hRd.cell hnm j (by omega))
      have hcp2 := hcp 3
      have hsh := slU_hi g m m n hnm
      have hsll := slU_lo g m n hlt
      have KN : Hid (Below g w' w2 ∧ Rp g m (n + Nat.min n (m - n)) x w2) := ⟨KM.out.1.drew.trans (hB2 g (Nat.le_refl _)), hR2⟩
      generalize Nat.min n (m - n) = k at *
      unfold goInt at hcp2
      clear hcp hR2 hB2 hs2 hRd KM
      go_wp2_with fail
      go_region_law (refine step_copy_run rfl (.tmp 41) (.tmp 44) 23 23 rfl (.slice (some ⟨g, n, none⟩) (m - n) (m - n)) (.slice (some ⟨g, 0, none⟩) n m) (by simp [Act.eval, Act.put]) (by simp [Act.eval, Act.put]) _ _ hcp2 ?_)
      go_wp2
      go_roundg (gk - 1)
      case measure => omega
      case rel => exact ⟨n + k, hk1, fun _ => by omega, by omega, congrArg (Value.int IntKind.i64) (show IntKind.i64.wrap ((n : Int) + (k : Int)) = ((n + k : Nat) : Int) by rw [IntKind.wrap_i64]; omega), KN⟩
    · have hlt' : ¬ (n : Int) < (m : Int) := by omega
      obtain rfl : n = m := by omega
      have KF : Hid (RepR w' n x (.slice (some ⟨g, 0, none⟩) n n) wr) := ⟨by rw [hgg]; exact KM.out.1, g, rfl, Nat.le_of_eq hgg, KM.out.2⟩
      clear KM
      go_wp2
      go_ret
      exact ⟨_, rfl, KF.out⟩
end Go.Proofs.YtlbaoipgdheigaaDoor
namespace Go.Proofs.YtlbaoipgdheigaaDoor
open Go.RowKit Go.Sort
def uV (L : List Nat) : List Value := L.map fun x : Nat => Value.int .u64 (x : Int)
theorem uV_app (L M : List Nat) : uV (L ++ M) = uV L ++ uV M := List.map_append
theorem uV_one {L : List Nat} : ∀ u ∈ uV L, u.oneCell' = true := fun u hu => by
  obtain ⟨x, -, rfl⟩ := List.mem_map.1 hu
  rfl
/-- A list of numbers of one's own. -/
structure UL (w0 W : World) (v : Value) (L : List Nat) : Prop where
  bl : Below w0.heap.size w0 W
  ow : W.ownsRow w0.heap.size 22 1 v L.length (uV L)
theorem UL.nil (w0 W : World) (h : Below w0.heap.size w0 W) : UL w0 W (.slice none 0 0) [] := ⟨h, World.ownsRow_nil _ _ _ _⟩
theorem UL.slice {w0 W : World} {v : Value} {L : List Nat} (h : UL w0 W v L) : ∃ q c, v = .slice q L.length c := by
  rcases h.ow.2 with ⟨rfl, h0⟩ | ⟨g, cap, cur, rfl, -⟩
  · exact ⟨none, 0, by rw [h0]⟩
  · exact ⟨_, _, rfl⟩
theorem UL.below {w0 W W' : World} {v : Value} {L : List Nat} (h : UL w0 W v L) (hb : Below W.heap.size W W') : UL w0 W' v L := by
  refine ⟨h.bl.trans (hb.mono h.bl.size), ?_⟩
  obtain ⟨h1, h2⟩ := h.ow
  refine ⟨h1, ?_⟩
  rcases h2 with h2 | ⟨g, cap, cur, h3, h4, h5, h6⟩
  · exact Or.inl h2
  · refine Or.inr ⟨g, cap, cur, h3, h4, ?_, h6⟩
    rw [hb.block g (Array.getElem?_eq_some_iff.1 h5).1]
    exact h5
theorem addU0 (g o j : Nat) : (⟨g, o, none⟩ : Addr).add j = ⟨g, o + j, none⟩ := by
  unfold Addr.add
  by_cases h0 : j = 0
  · subst h0; rw [if_pos rfl]; rfl
  · rw [if_neg h0]
/-- 'append(l, m...)'. -/
theorem UL.join {w0 W : World} {v : Value} {L M : List Nat} (h : UL w0 W v L) (hL : L.length + M.length ≤ 100000) (g c : Nat) (hc : ∀ j u, (uV M)[j]? = some u → W.cell? ⟨g, j, none⟩ = some u) :
    ∃ q' n' c' W', (∀ ty, (Builtin.append_ #[23, 23] ty #[v, .slice (some ⟨g, 0, none⟩) M.length c]).run Tryd.prog W = .ok (.slice q' n' c') W') ∧ UL w0 W' (.slice q' n' c') (L ++ M) := by
  obtain ⟨i, hi1, hi2⟩ := Option.map_eq_some_iff.1 infoU64
  simp only [Prod.mk.injEq] at hi2
  obtain ⟨h1, h2, h3⟩ := hi2
  obtain ⟨z, hz, hz2⟩ := Option.map_eq_some_iff.1 h3
  have hr := fun ty => run_append_own (P := Tryd.prog) W w0.heap.size 23 ty 22 i z 1 8 undU64 hi1 hz h1 h2 hz2 (by decide) v L.length (uV L) h.ow ⟨g, 0, none⟩ M.length c (uV M) (by rw [Nat.mul_one]; exact List.length_map _) (fun j u hj => by rw [addU0, Nat.zero_add]; exact hc j u hj) uV_one (by unfold maxLen; omega) (by omega) h.bl.size
  obtain ⟨v', W', r1, r2, r3, -⟩ := hr 23
  have hu : UL w0 W' v' (L ++ M) := by
    refine ⟨?_, ?_⟩
    · refine ⟨by rw [r3.os, h.bl.os], by rw [r3.tape, h.bl.tape], by rw [r3.output, h.bl.output], Nat.le_trans h.bl.size r3.size, fun k hk => ?_⟩
      rw [r3.block k (Nat.lt_of_lt_of_le hk h.bl.size) (fun e => ?_)]
      · exact h.bl.block k hk
      · have := (h.ow.lt k e.symm).1
        omega
    · rw [List.length_append, uV_app]
      exact r2
  obtain ⟨q, c', rfl⟩ := hu.slice
  refine ⟨q, _, c', W', fun ty => ?_, hu⟩
  exact r1
/-- 'append(l, x)'. -/
theorem UL.push {w0 W : World} {v : Value} {L : List Nat} (h : UL w0 W v L) (hL : L.length ≤ 10000) (x : Nat) :
    ∃ q' n' c' W', (∀ ty, (Builtin.append_ #[23, 23] ty #[v, .slice (some ⟨W.heap.size, 0, none⟩) 1 1]).run Tryd.prog (W.alloc (.cells #[.int .u64 (x : Int)] 22)) = .ok (.slice q' n' c') W') ∧ UL w0 W' (.slice q' n' c') (L ++ [x]) := by
  have hb : Below W.heap.size W (W.alloc (.cells #[.int .u64 (x : Int)] 22)) := (Below.refl _ _).alloc (Nat.le_refl _) _
  exact (h.below hb).join (M := [x]) (by simp; omega) W.heap.size 1 (fun j u hj => by
    have hj0 : j = 0 := by have := (List.getElem?_eq_some_iff.1 hj).1; simp [uV] at this; omega
    subst hj0
    obtain rfl := Option.some.inj hj
    simp)
theorem pop_eq : ∀ f x, OC.popAux f x = OP.pop f x
  | 0, _ => rfl
  | f + 1, x => by rw [OC.popAux, OP.pop, pop_eq f]
theorem pop_zero : ∀ f, OC.popAux f 0 = 0
  | 0 => rfl
  | f + 1 => by rw [OC.popAux, Nat.zero_div, pop_zero f]
theorem pop_small (x : Nat) (h : x < 524288) : OC.popAux 64 x = (OP.pw 19 0 x).length := by
  rw [show (64 : Nat) = 19 + 45 from rfl, OC.popAux_add, show x / 2 ^ 19 = 0 from Nat.div_eq_of_lt h, pop_zero, OP.pw_len, pop_eq, Nat.add_zero]
theorem pw_zero : ∀ f i, OP.pw f i 0 = []
  | 0, _ => rfl
  | f + 1, i => by rw [OP.pw, if_neg (by decide), Nat.zero_div, pw_zero f]
theorem pw_mem : ∀ f i q x, x ∈ OP.pw f i q → ∃ k, i ≤ k ∧ k < i + f ∧ x = 2 ^ k
  | 0, i, q, x, h => by cases h
  | f + 1, i, q, x, h => by
    rw [OP.pw] at h
    split at h
    · rcases List.mem_cons.1 h with rfl | h
      · exact ⟨i, Nat.le_refl _, by omega, rfl⟩
      · obtain ⟨k, h1, h2, h3⟩ := pw_mem f (i + 1) (q / 2) x h
        exact ⟨k, by omega, by omega, h3⟩
    · obtain ⟨k, h1, h2, h3⟩ := pw_mem f (i + 1) (q / 2) x h
      exact ⟨k, by omega, by omega, h3⟩
/-- What Split makes of an amount. -/
def spl (a : Nat) : List Nat := OP.pw 19 0 (a % 524288) ++ List.replicate (a / 524288) 524288
/-- What both Splits answer. -/
def SplR (w : World) (a : Nat) (e : Value) (w' : World) : Prop := (64 < a / 524288 + (OP.pw 19 0 (a % 524288)).length ∧ e = .tuple #[.slice none 0 0, .int .i64 1] ∧ Below w.heap.size w w') ∨ (a / 524288 + (OP.pw 19 0 (a % 524288)).length ≤ 64 ∧ ∃ q n c, e = .tuple #[.slice q n c, .int .i64 0] ∧ UL w w' (.slice q n c) (spl a))
set_option maxHeartbeats 2000000 in
set_option maxRecDepth 20000 in
theorem split_c (a : Nat) (ha : a < 18446744073709551616) (w : World) : Calls Tryd.prog 4 #[.int .u64 (a : Int)] w (RetU (SplR w a)) := by
  obtain ⟨rest, hrest⟩ : ∃ r, r = a % 524288 := ⟨_, rfl⟩
  obtain ⟨many, hmany⟩ : ∃ m, m = a / 524288 := ⟨_, rfl⟩
  have hr1 : rest < 524288 := by omega
  have hO := ones_c rest (by omega) w
  rw [pop_small rest hr1] at hO
  have q1 : (a : Int) % 524288 = (rest : Int) := by omega
  have q2 : (a : Int) / 524288 = (many : Int) := by omega
  obtain ⟨o, ho⟩ : ∃ o, o = (OP.pw 19 0 rest).length := ⟨_, rfl⟩
  have ho64 : o ≤ 64 := by
    have := (OC.ones rest _ _ _ _ _ _ rfl rfl rfl rfl rfl rfl).2.2.2.2.2.2
    rw [pop_small rest hr1] at this
    omega
  rw [← ho] at hO
  have w1 : IntKind.u64.wrap (o : Int) = (o : Int) := by rw [IntKind.wrap_u64]; omega
  have w2 : IntKind.u64.wrap ((many : Int) + (o : Int)) = ((many + o : Nat) : Int) := by rw [IntKind.wrap_u64]; omega
  by_cases hbig : 64 < many + o
  · have g1 : (64 : Int) < (many : Int) + (o : Int) := by omega
    have KF : Hid (SplR w a (.tuple #[.slice none 0 0, .int .i64 1]) w) := Or.inl ⟨by rw [← hmany, ← hrest, ← ho]; exact hbig, rfl, Below.refl _ _⟩
    clear ho hrest hmany
    go_enter Tryd.func4, Tryd.ntmps4
    go_wp2_with fail
    refine hO.mono ?_
    rintro e w' ⟨rfl, rfl⟩
    clear hO
    go_wp2
    go_ret2
    exact ⟨_, rfl, KF.out⟩
  · have g1 : ¬ (64 : Int) < (many : Int) + (o : Int) := by omega
    have hm64 : many ≤ 64 := by omega
    have HE : Hid (∀ e w', (∃ q n c, e = .tuple #[.slice q n c, .int .i64 0] ∧ UL w w' (.slice q n c) (OP.pw 19 0 rest ++ List.replicate many 524288)) → SplR w a e w') := fun e w' h => Or.inr ⟨by rw [← hmany, ← hrest, ← ho]; omega, by unfold spl; rw [← hmany, ← hrest]; exact h⟩
    have Ho := hidU ho
    clear hrest hmany ho
    go_enter Tryd.func4, Tryd.ntmps4
    go_wp2_with fail
    refine hO.mono ?_
    rintro e w' ⟨rfl, rfl⟩
    clear hO
    go_wp2_with fail
    have KI : Hid (∃ (i f q : Nat) (L : List Nat), f ≤ 19 ∧ i + f = 19 ∧ q < 2 ^ f ∧ rest = 2 ^ i * q ∧ L ++ OP.pw f i q = OP.pw 19 0 rest ∧ UL w' w' (.slice none 0 0) L) := ⟨0, 19, rest, [], Nat.le_refl _, rfl, hr1, by omega, rfl, UL.nil _ _ (Below.refl _ _)⟩
    go_loopg [4, 6] 19 (fun gk s4 s6 wr => ∃ r : Nat, s4 = .int .u64 (r : Int) ∧ r < 524288 ∧ Hid (∃ (i f q : Nat) (L : List Nat), f ≤ gk ∧ i + f = 19 ∧ q < 2 ^ f ∧ r = 2 ^ i * q ∧ L ++ OP.pw f i q = OP.pw 19 0 rest ∧ UL w' wr s6 L))
    case atStart => exact ⟨rest, rfl, hr1, KI⟩
    case round =>
      clear KI
      obtain ⟨r, rfl, hr2, KM⟩ := hrel
      obtain ⟨i, f, q, L, hf, hif, hq, hrq, hpw, hU⟩ := KM.out
      by_cases hr0 : 0 < r
      · have g0 : (0 : Int) < (r : Int) := by omega
        have hq0 : 0 < q := by
          rcases Nat.eq_zero_or_pos q with h | h
          · rw [h, Nat.mul_zero] at hrq; omega
          · exact h
        obtain ⟨k, m, f', h1, h2, h3, h4, h5⟩ := OP.pw_step f i q hq0 hq
        rw [← hrq] at h2
        obtain ⟨p, hp⟩ : ∃ p, p = 2 ^ k := ⟨_, rfl⟩
        obtain ⟨r', hr'⟩ : ∃ r', r' = 2 ^ (k + 1) * m := ⟨_, rfl⟩
        have e1 : bits .and .u64 (r : Int) (IntKind.u64.wrap (-(r : Int))) = (p : Int) := by
          have e0 : IntKind.u64.wrap (-(r : Int)) = ((18446744073709551616 - r : Nat) : Int) := by rw [IntKind.wrap_u64]; omega
          have := Lib.and_neg 64 k m (by rw [← h2]; omega)
          rw [← h2] at this
          rw [e0, bits_and_u64_nat r _ (by omega) (by omega), hp]
          exact congrArg Nat.cast this
        have w3 : IntKind.u64.wrap ((r : Int) - 1) = ((r - 1 : Nat) : Int) := by rw [IntKind.wrap_u64]; omega
        have e2 : bits .and .u64 (r : Int) ((r - 1 : Nat) : Int) = (r' : Int) := by
          rw [bits_and_u64_nat r _ (by omega) (by omega), hr', ← OP.and_pred k m, ← h2]
        have hr'l : r' ≤ r := by
          have := @Nat.and_le_left r (r - 1)
          have e3 : r &&& (r - 1) = r' := by rw [hr', ← OP.and_pred k m, ← h2]
          omega
        have hLl : L.length ≤ 10000 := by
          have := congrArg List.length hpw
          rw [List.length_append, ← Ho.out] at this
          omega
        obtain ⟨qs, cs, rfl⟩ := hU.slice
        obtain ⟨q', n', c', W', hap, hU'⟩ := hU.push hLl p
        have HAP := hidU (hap 23)
        have KN : Hid (∃ (i f q : Nat) (L : List Nat), f ≤ gk - 1 ∧ i + f = 19 ∧ q < 2 ^ f ∧ r' = 2 ^ i * q ∧ L ++ OP.pw f i q = OP.pw 19 0 rest ∧ UL w' W' (.slice q' n' c') L) := ⟨k + 1, f', m, L ++ [p], by omega, by omega, h4, hr', by rw [← hpw, h3, hp, List.append_assoc]; rfl, hU'⟩
        have hgk : 0 < gk := by omega
        clear hf hif hq hrq hpw hU hq0 h1 h2 h3 h4 h5 hp hr' hap hU' KM
        go_wp2_with (at_builtin; refine Lib.wpList_append_run _ rfl _ _ _ _ rfl _ _ rfl rfl _ _ HAP.out ?_)
        go_roundg (gk - 1)
        case measure => omega
        case rel => exact ⟨r', rfl, by omega, KN⟩
      · have g0 : ¬ (0 : Int) < (r : Int) := by omega
        have hq0 : q = 0 := by
          rcases Nat.eq_zero_or_pos q with h | h
          · exact h
          · have := Nat.mul_pos (Nat.two_pow_pos i) h; omega
        rw [hq0, pw_zero, List.append_nil] at hpw
        subst hpw
        obtain ⟨qs, cs, rfl⟩ := hU.slice
        have hb1 : Below wr.heap.size wr (wr.alloc (.cells #[.int .u64 524288] 22)) := (Below.refl _ _).alloc (Nat.le_refl _) _
        have hR := rep_c wr.heap.size many (.int .u64 524288) rfl (by omega) (wr.alloc (.cells #[.int .u64 524288] 22)) (by simp)
        have wm : wrap64 (many : Int) = (many : Int) := by unfold wrap64; omega
        have KU : Hid (UL w' (wr.alloc (.cells #[.int .u64 524288] 22)) (.slice qs (OP.pw 19 0 rest).length cs) (OP.pw 19 0 rest)) := hU.below hb1
        clear hf hif hq hrq hU hb1 hq0 KM
        rw [← Ho.out] at KU ⊢
        go_wp2_with fail
        refine hR.mono ?_
        rintro e w3 ⟨v3, rfl, hb3, g, rfl, hg, hRp⟩
        have hl : (List.replicate many 524288).length = many := List.length_replicate
        obtain ⟨q', n', c', W', hap, hU'⟩ := (KU.out.below hb3).join (M := List.replicate many 524288) (by rw [hl, ← Ho.out]; omega) g many (fun j u hj => by
          have hjm : j < many := by have := (List.getElem?_eq_some_iff.1 hj).1; simpa [uV] using this
          have hu : u = .int .u64 524288 := by simp [uV, hjm] at hj; exact hj.symm
          rw [hu]
          exact hRp.cell (Nat.le_refl _) j hjm)
        rw [hl] at hap
        have HAP := hidU (hap 23)
        have KF : Hid (SplR w' a (.tuple #[.slice q' n' c', .int .i64 0]) W') := HE.out _ _ ⟨q', n', c', rfl, hU'⟩
        clear hR hb3 hg hRp hU' hap KU hl HE
        go_wp2_with (at_builtin; refine Lib.wpList_append_run _ rfl _ _ _ _ rfl _ _ rfl rfl _ _ HAP.out ?_)
        go_ret2
        exact ⟨_, rfl, KF.out⟩
end Go.Proofs.YtlbaoipgdheigaaDoor
namespace Go.Proofs.YtlbaoipgdheigaaDoor
open Go.RowKit Go.Sort
theorem i19 {i : Nat} (h : i < 19) : i = 0 ∨ i = 1 ∨ i = 2 ∨ i = 3 ∨ i = 4 ∨ i = 5 ∨ i = 6 ∨ i = 7 ∨ i = 8 ∨ i = 9 ∨ i = 10 ∨ i = 11 ∨ i = 12 ∨ i = 13 ∨ i = 14 ∨ i = 15 ∨ i = 16 ∨ i = 17 ∨ i = 18 := by omega
theorem pow19 {i : Nat} (h : i < 19) : 2 ^ i ≤ 262144 := by
  rcases i19 h with rfl | rfl | rfl | rfl | rfl | rfl | rfl | rfl | rfl | rfl | rfl | rfl | rfl | rfl | rfl | rfl | rfl | rfl | rfl <;> decide
theorem wrap_pow (i : Nat) (h : i < 19) : IntKind.u64.wrap ((2 : Int) ^ i) = ((2 ^ i : Nat) : Int) := by
  have h2 := pow19 h
  have e : (2 : Int) ^ i = ((2 ^ i : Nat) : Int) := by rw [Int.natCast_pow]; rfl
  rw [e]
  generalize (2 ^ i : Nat) = p at h2
  rw [IntKind.wrap_u64]
  omega
theorem div_pow (a i : Nat) : (a : Int) / (2 : Int) ^ i = ((a / 2 ^ i : Nat) : Int) := by
  rw [Int.natCast_ediv, Int.natCast_pow]
  rfl
theorem and_one (y : Nat) (hy : y < 18446744073709551616) : bits .and .u64 (y : Int) 1 = ((y % 2 : Nat) : Int) := by
  have h := bits_and_u64_nat y 1 hy (by omega)
  rw [Nat.and_one_is_mod] at h
  exact h
theorem bits_spl (a : Nat) : OP.bitsL a 19 = OP.pw 19 0 (a % 524288) := by
  rw [OP.bits_pw, show (524288 : Nat) = 2 ^ 19 from rfl, OP.pw_mod]
theorem bits_len (a : Nat) : ∀ n, (OP.bitsL a n).length ≤ n
  | 0 => Nat.le_refl _
  | n + 1 => by
    have := bits_len a n
    rw [OP.bitsL]
    split
    · rw [List.length_append, List.length_singleton]; omega
    · omega
set_option maxHeartbeats 2000000 in
set_option maxRecDepth 20000 in
theorem rsplit_c (a : Nat) (ha : a < 18446744073709551616) (w : World) : Calls Tryd.prog 5 #[.int .u64 (a : Int)] w (RetU (SplR w a)) := by
  obtain ⟨many, hmany⟩ : ∃ m, m = a / 524288 := ⟨_, rfl⟩
  have q2 : (a : Int) / 524288 = (many : Int) := by omega
  by_cases hbig : 64 < many
  · have g1 : (64 : Int) < (many : Int) := by omega
    have KF : Hid (SplR w a (.tuple #[.slice none 0 0, .int .i64 1]) w) := Or.inl ⟨by rw [← hmany]; omega, rfl, Below.refl _ _⟩
    clear hmany
    go_enter Tryd.func5, Tryd.ntmps5
    go_wp2
    go_ret2
    exact ⟨_, rfl, KF.out⟩
  · have g1 : ¬ (64 : Int) < (many : Int) := by omega
    have Hm := hidU hmany
    clear hmany
    go_enter Tryd.func5, Tryd.ntmps5
    go_wp2_with fail
    go_loopg [5, 6] 19 (fun gk s5 s6 wr => ∃ i : Nat, i + gk = 19 ∧ s6 = .int .i64 (i : Int) ∧ Hid (UL w wr s5 (OP.bitsL a i)))
    case atStart => exact ⟨0, by omega, rfl, UL.nil _ _ (Below.refl _ _)⟩
    case round =>
      obtain ⟨i, hig, rfl, KM⟩ := hrel
      have hU := KM.out
      obtain ⟨qs, cs, rfl⟩ := hU.slice
      by_cases hi : i < 19
      · have hi' : (i : Int) < 19 := by omega
        have hP := wrap_pow i hi
        have hdv := div_pow a i
        have hyl : a / 2 ^ i < 18446744073709551616 := Nat.lt_of_le_of_lt (Nat.div_le_self _ _) ha
        have han := and_one (a / 2 ^ i) hyl
        rw [← hdv] at han
        clear hdv
        have HB : Hid (OP.bitsL a (i + 1) = if (a / 2 ^ i) % 2 = 1 then OP.bitsL a i ++ [2 ^ i] else OP.bitsL a i) := OP.bitsL.eq_2 a i
        obtain ⟨q', n', c', W', hap, hU'⟩ := hU.push (Nat.le_trans (bits_len a i) (by omega)) (2 ^ i)
        have HAP := hidU (hap 23)
        generalize hy0 : a / 2 ^ i = y at han HB hyl
        generalize (2 ^ i : Nat) = p at hP HB HAP hU' hap
        clear hy0
        by_cases hy : y % 2 = 1
        · have KN : Hid (UL w W' (.slice q' n' c') (OP.bitsL a (i + 1))) := by
            show UL _ _ _ _
            rw [HB.out, if_pos hy]
            exact hU'
          rw [hy] at han
          clear HB hU' hU KM hap
          go_wp2_with (at_builtin; refine Lib.wpList_append_run _ rfl _ _ _ _ rfl _ _ rfl rfl _ _ HAP.out ?_)
          go_roundg (gk - 1)
          case measure => omega
          case rel => exact ⟨i + 1, by omega, rfl, KN⟩
        · have hy0 : y % 2 = 0 := by omega
          have KN : Hid (UL w wr (.slice qs (OP.bitsL a i).length cs) (OP.bitsL a (i + 1))) := by
            show UL _ _ _ _
            rw [HB.out, if_neg hy]
            exact hU
          rw [hy0] at han
          clear HB hU' hU KM hap HAP
          go_wp2
          go_roundg (gk - 1)
          case measure => omega
          case rel => exact ⟨i + 1, by omega, rfl, KN⟩
      · have hi' : ¬ (i : Int) < 19 := by omega
        obtain rfl : i = 19 := by omega
        have KI : Hid (UL w wr (.slice qs (OP.bitsL a 19).length cs) (OP.bitsL a 19 ++ List.replicate (many - many) 524288)) := by
          show UL _ _ _ _
          rw [Nat.sub_self, List.replicate_zero, List.append_nil]
          exact hU
        have hbl := bits_len a 19
        have HBS := hidU (bits_spl a)
        clear hU KM
        generalize OP.bitsL a 19 = L0 at KI HBS hbl ⊢
        go_wp2_with fail
        go_loopg [5, 7] many (fun gk s5 s7 wq => s7 = .int .u64 (gk : Int) ∧ gk ≤ many ∧ Hid (UL w wq s5 (L0 ++ List.replicate (many - gk) 524288)))
        case atStart => exact ⟨rfl, Nat.le_refl _, KI⟩
        case round =>
          clear KI
          obtain ⟨rfl, hgm, KM⟩ := hrel
          have hU := KM.out
          obtain ⟨q5, c5, rfl⟩ := hU.slice
          have hll : (L0 ++ List.replicate (many - gk) 524288).length = L0.length + (many - gk) := by rw [List.length_append, List.length_replicate]
          by_cases hg0 : 0 < gk
          · have g0 : (0 : Int) < (gk : Int) := by omega
            have w3 : IntKind.u64.wrap ((gk : Int) - 1) = ((gk - 1 : Nat) : Int) := by rw [IntKind.wrap_u64]; omega
            obtain ⟨q', n', c', W', hap, hU'⟩ := hU.push (by rw [hll]; omega) 524288
            have HAP := hidU (hap 23)
            have KN : Hid (UL w W' (.slice q' n' c') (L0 ++ List.replicate (many - (gk - 1)) 524288)) := by
              show UL _ _ _ _
              rw [show many - (gk - 1) = many - gk + 1 by omega, List.replicate_succ', ← List.append_assoc]
              exact hU'
            clear hU' hU KM hap hll
            go_wp2_with (at_builtin; refine Lib.wpList_append_run _ rfl _ _ _ _ rfl _ _ rfl rfl _ _ HAP.out ?_)
            go_roundg (gk - 1)
            case measure => omega
            case rel => exact ⟨rfl, by omega, KN⟩
          · have g0 : ¬ (0 : Int) < (gk : Int) := by omega
            obtain rfl : gk = 0 := by omega
            have HLL := hidU hll
            rw [hll]
            rw [hll] at hU
            obtain ⟨ll, hL⟩ : ∃ ll, ll = L0.length + (many - 0) := ⟨_, rfl⟩
            rw [← hL]
            rw [← hL] at hU
            have HS : Hid (a / 524288 + (OP.pw 19 0 (a % 524288)).length = ll) := by show _ = _; rw [← HBS.out, ← Hm.out, hL]; omega
            by_cases h64 : 64 < ll
            · have g64 : (64 : Int) < (ll : Int) := by omega
              have KF : Hid (SplR w a (.tuple #[.slice none 0 0, .int .i64 1]) wr) := Or.inl ⟨by rw [HS.out]; exact h64, rfl, hU.bl⟩
              clear hU KM hll hL
              go_wp2
              go_ret2
              exact ⟨_, rfl, KF.out⟩
            · have g64 : ¬ (64 : Int) < (ll : Int) := by omega
              have KF : Hid (SplR w a (.tuple #[.slice q5 ll c5, .int .i64 0]) wr) := Or.inr ⟨by rw [HS.out]; omega, q5, ll, c5, rfl, by
                unfold spl
                rw [← HBS.out, ← Hm.out]
                exact hU⟩
              clear hU KM hll hL
              go_wp2
              go_ret2
              exact ⟨_, rfl, KF.out⟩
theorem pop_pow {k : Nat} (h : k ≤ 19) : OC.popAux 64 (2 ^ k) = 1 ∧ 2 ^ k ≤ 524288 ∧ 0 < 2 ^ k := by
  have : k < 19 ∨ k = 19 := by omega
  rcases this with h | rfl
  · rcases i19 h with rfl | rfl | rfl | rfl | rfl | rfl | rfl | rfl | rfl | rfl | rfl | rfl | rfl | rfl | rfl | rfl | rfl | rfl | rfl <;> decide
  · decide
theorem place_c (k : Nat) (hk : k ≤ 19) (x : Nat) (hx : x = 2 ^ k) (w : World) (hT : TabB 0 w) : Calls Tryd.prog 6 #[.int .u64 (x : Int)] w fun e w' => (∃ i : Int, e = .returned (.tuple #[.int .i64 i, .int .i64 0])) ∧ w' = w := by
  obtain ⟨h1, h2, h3⟩ := pop_pow hk
  rw [← hx] at h1 h2 h3
  have hO := ones_c x (by omega) w
  rw [h1] at hO
  have hZ := tz_c x (by omega) (by omega) w hT
  have g1 : ¬ (524288 : Int) < (x : Int) := by omega
  clear hx h1 hT
  go_enter Tryd.func6, Tryd.ntmps6
  go_wp2_with fail
  refine hO.mono ?_
  rintro e w' ⟨rfl, rfl⟩
  clear hO
  go_wp2_with fail
  refine hZ.mono ?_
  rintro e w' ⟨⟨i, rfl⟩, rfl⟩
  clear hZ
  go_wp2
  go_ret2
  exact ⟨⟨i, rfl⟩, rfl⟩
end Go.Proofs.YtlbaoipgdheigaaDoor
namespace Go.Proofs.YtlbaoipgdheigaaDoor
open Go.RowKit Go.Sort
theorem sum_rep (x : Nat) : ∀ m, OP.sum (List.replicate m x) = m * x
  | 0 => by simp [OP.sum]
  | m + 1 => by rw [List.replicate_succ, OP.sum, sum_rep x m, Nat.add_mul]; omega
theorem sum_spl (a : Nat) : OP.sum (spl a) = a := by
  unfold spl
  rw [OP.sum_app, OP.pw_sum 19 0 (a % 524288) (Nat.mod_lt _ (by decide)), sum_rep]
  omega
theorem sum_take (L : List Nat) (i : Nat) : OP.sum (L.take i) ≤ OP.sum L := by
  have h := OP.sum_app (L.take i) (L.drop i)
  rw [List.take_append_drop] at h
  omega
theorem spl_mem (a x : Nat) (h : x ∈ spl a) : ∃ k, k ≤ 19 ∧ x = 2 ^ k := by
  unfold spl at h
  rcases List.mem_append.1 h with h | h
  · obtain ⟨k, -, h1, h2⟩ := pw_mem 19 0 _ x h
    exact ⟨k, by omega, h2⟩
  · exact ⟨19, Nat.le_refl _, List.eq_of_mem_replicate h⟩
theorem TabB.below {w w' : World} (h : TabB 0 w) (hb : Below w.heap.size w w') : TabB 0 w' := fun i hi => by
  obtain ⟨k, h1, h2⟩ := h i hi
  exact ⟨k, h1, by rw [hb.cell (p := ⟨0, i, none⟩) (World.block_lt_of_cell? _ _ h2)]; exact h2⟩
theorem UL.at {w0 W : World} {q : Option Addr} {n c : Nat} {L : List Nat} (h : UL w0 W (.slice q n c) L) (i x : Nat) (hx : L[i]? = some x) : ∃ g, q = some ⟨g, 0, none⟩ ∧ n = L.length ∧ W.cell? ⟨g, i, none⟩ = some (.int .u64 (x : Int)) := by
  have hi : i < L.length := (List.getElem?_eq_some_iff.1 hx).1
  rcases id h.ow with ⟨-, ⟨h1, h0⟩ | ⟨g, cap, cur, h1, -⟩⟩
  · omega
  · injection h1 with h1 h2 h3
    subst h1
    refine ⟨g, rfl, h2, ?_⟩
    have := h.ow.cells (g := g) rfl i (.int .u64 (x : Int)) (by unfold uV; rw [List.getElem?_map, hx]; rfl)
    rw [addU0, Nat.zero_add] at this
    exact this
theorem idxU (g n c i : Nat) (hi : i < n) (w : World) : (Instr.indexAt 23 (.slice (some ⟨g, 0, none⟩) n c) (.int .i64 (i : Int))).run Tryd.prog w = .ok (.pointer (some ⟨g, i, none⟩)) w := by
  have h1 : ¬ (i : Int) < 0 := by omega
  have h2 : (i : Int) < (n : Int) := by omega
  go_simp
set_option maxHeartbeats 2000000 in
set_option maxRecDepth 20000 in
theorem splitL (a : Nat) (ha : a < 18446744073709551616) (w : World) (hT : TabB 0 w) : Calls Tryd.prog 3 #[.int .u64 (a : Int)] w fun e w' => e = .returned (.bool true) ∧ Below w.heap.size w w' := by
  have hS := split_c a ha w
  have HT := hidU hT
  clear hT
  go_enter Tryd.func3, Tryd.ntmps3
  go_wp2_with fail
  refine hS.mono ?_
  rintro e w1 ⟨v1, rfl, ⟨hbig, rfl, hb1⟩ | ⟨hle, q, n, c, rfl, hU1⟩⟩
  · have hR := rsplit_c a ha w1
    have K1 : Hid (Below w.heap.size w w1 ∧ 64 < a / 524288 + (OP.pw 19 0 (a % 524288)).length) := ⟨hb1, hbig⟩
    clear hb1 hbig hS
    go_wp2_with fail
    refine hR.mono ?_
    rintro e w2 ⟨v2, rfl, ⟨-, rfl, hb2⟩ | ⟨hle, -⟩⟩
    · have K2 : Hid (Below w.heap.size w w2) := K1.out.1.trans (hb2.mono K1.out.1.size)
      clear hR hb2 K1
      go_wp2
      go_loopg [7, 8] 0 (fun gk s7 s8 wr => s7 = .int .u64 0 ∧ s8 = .int .i64 0 ∧ w2 = wr)
      case atStart => exact ⟨rfl, rfl, rfl⟩
      case round =>
        obtain ⟨rfl, rfl, rfl⟩ := hrel
        go_wp2
        go_ret
        exact ⟨rfl, K2.out⟩
    · have := K1.out.2
      omega
  · have hR := rsplit_c a ha w1
    have K1 : Hid (UL w w1 (.slice q n c) (spl a) ∧ a / 524288 + (OP.pw 19 0 (a % 524288)).length ≤ 64) := ⟨hU1, hle⟩
    clear hU1 hle hS
    go_wp2_with fail
    refine hR.mono ?_
    rintro e w2 ⟨v2, rfl, ⟨hbig, -⟩ | ⟨-, q2, n2, c2, rfl, hU2⟩⟩
    · have := K1.out.2
      omega
    · obtain ⟨qq, cc, e1⟩ := K1.out.1.slice
      obtain ⟨qq2, cc2, e2⟩ := hU2.slice
      cases e1
      cases e2
      have hU1 := K1.out.1.below hU2.bl
      have K2 : Hid (Below w.heap.size w w2 ∧ UL w w2 (.slice q (spl a).length c) (spl a) ∧ UL w1 w2 (.slice q2 (spl a).length c2) (spl a)) := ⟨hU1.bl, hU1, hU2⟩
      have hll : (spl a).length ≤ 64 := by
        have := K1.out.2
        unfold spl
        rw [List.length_append, List.length_replicate]
        omega
      have hsum := sum_spl a
      have hmem := spl_mem a
      clear K1 hR hU1 hU2
      generalize spl a = L at *
      go_wp2_with fail
      go_loopg [7, 8] L.length (fun gk s7 s8 wr => ∃ i : Nat, i + gk = L.length ∧ s7 = .int .u64 ((OP.sum (L.take i) : Nat) : Int) ∧ s8 = .int .i64 (i : Int) ∧ Hid (Below w2.heap.size w2 wr))
      case atStart => exact ⟨0, by omega, rfl, rfl, Below.refl _ _⟩
      case round =>
        obtain ⟨i, hig, rfl, rfl, KM⟩ := hrel
        by_cases hi : i < L.length
        · have hi' : (i : Int) < (L.length : Int) := by omega
          obtain ⟨x, hx⟩ : ∃ x, L[i]? = some x := ⟨_, List.getElem?_eq_getElem hi⟩
          obtain ⟨k, hk1, hk2⟩ := hmem x (List.mem_of_getElem? hx)
          obtain ⟨g, rfl, -, hc1⟩ := (K2.out.2.1.below KM.out).at i x hx
          obtain ⟨g2, rfl, -, hc2⟩ := (K2.out.2.2.below KM.out).at i x hx
          have hix1 := idxU g L.length c i hi
          have hix2 := idxU g2 L.length c2 i hi
          have hTr : TabB 0 wr := (HT.out.below K2.out.1).below KM.out
          have hPl := place_c k hk1 x hk2 wr hTr
          have htk : L.take (i + 1) = L.take i ++ [x] := by rw [List.take_add_one, hx]; rfl
          have hs1 : OP.sum (L.take i) + x = OP.sum (L.take (i + 1)) := by rw [htk, OP.sum_app]; simp [OP.sum]
          have hs2 := sum_take L (i + 1)
          have hwr : IntKind.u64.wrap (((OP.sum (L.take i) : Nat) : Int) + (x : Int)) = ((OP.sum (L.take (i + 1)) : Nat) : Int) := by rw [IntKind.wrap_u64]; omega
          generalize OP.sum (L.take i) = s0 at *
          generalize hE : OP.sum (L.take (i + 1)) = s1 at hs1 hs2 hwr
          clear htk hTr hx hk2
          go_wp2_with fail
          refine hPl.mono ?_
          rintro e w3 ⟨⟨pl, rfl⟩, rfl⟩
          go_wp2_with fail
          go_region
          have KN : Hid (Below w2.heap.size w2 w3.drew) := KM.out.drew
          go_wp2
          go_roundg (gk - 1)
          case measure => omega
          case rel => exact ⟨i + 1, by omega, by rw [hE], by first | rfl | (congr 1; unfold wrap64; omega), KN⟩
        · have hi' : ¬ (i : Int) < (L.length : Int) := by omega
          obtain rfl : i = L.length := by omega
          rw [List.take_of_length_le (Nat.le_refl _), hsum]
          have KF : Hid (Below w.heap.size w wr) := K2.out.1.trans (KM.out.mono K2.out.1.size)
          go_wp2
          go_ret
          exact ⟨rfl, KF.out⟩
end Go.Proofs.YtlbaoipgdheigaaDoor
/-
  THE ROW OF 'KeysSplit' round its walk: a number; a table that the program lays; and the tied card.
-/
namespace Go.Proofs.YtlbaoipgdheigaaDoor.keysSplit
open Go.ChangeShapes Go.WideShapes Go.ChangeAt Go.RowKit
theorem own : ownKnob Tryd.prog.godebug = none := by kernel_rfl
theorem gTab : Tryd.prog.globalNamed "math/bits.deBruijn64tab" = some 0 := by kernel_rfl
theorem tTab : (Tryd.prog.globals[0]?).map (·.type) = some 37 := by kernel_rfl
theorem uTab : Tryd.prog.underlying 37 = some (.array 64 5) := by kernel_rfl
theorem u5 : Tryd.prog.underlying 5 = some (.int .u8) := by kernel_rfl
theorem c5 : Tryd.prog.cellsOf 5 = 1 := by kernel_rfl
theorem cTab : Tryd.prog.cellsOf 37 = 64 := by kernel_rfl
/-- The door's own heap meets the condition. -/
theorem door_met (os : Os) (args : Array Value) : laidMetH Tryd.prog Rows.keysSplitRow.laid ((World.doorLaid Tryd.prog 14 os).forCall (fun _ _ => 0) ⟨#[], args, []⟩).memory :=
  laidMetH_of_parts3 (fuel := 8) (laidMet_of_run' 8 (by kernel_rfl) (by kernel_rfl)) (by kernel_rfl) (by kernel_rfl)
theorem tab_le : ∀ i, i < 64 → Lib.deBruijn64tab.getD i 0 < 64 := by decide +kernel
def zs : List Int := Lib.deBruijn64tab.map fun n : Nat => (n : Int)
theorem laid_is : (Rows.keysSplitRow.laid : List (String × DataW Unit)) = [("math/bits.deBruijn64tab", Lib.tabData .u8 zs)] := by kernel_rfl
/-- What the condition gives the walk: the table's cells. -/
theorem of_laid {W : World} (h : laidMetH Tryd.prog Rows.keysSplitRow.laid W) : TabB 0 W := by
  rw [MakeChecks.laidMetH_plain _ _ _ (by kernel_rfl), laid_is] at h
  have hT := Lib.tabIs_of_head gTab tTab uTab u5 c5 cTab h
  intro i hi
  have hl : i < zs.length := by show i < (Lib.deBruijn64tab.map _).length; rw [List.length_map]; exact hi
  refine ⟨Lib.deBruijn64tab.getD i 0, tab_le i hi, ?_⟩
  rw [hT.cell gTab i hl]
  congr 2
  unfold zs
  rw [List.getD_eq_getElem?_getD, List.getElem?_map, List.getD_eq_getElem?_getD]
  cases Lib.deBruijn64tab[i]? <;> rfl
set_option maxRecDepth 100000 in
theorem lifted (os : Os) (started : os.Started) (H : Type) (enc : TypeId × Value → H) :
    ReturnsInHanded {} Tryd.checked os 3 .any (fun w args => (Rows.keysSplitSpec.pre enc Tryd.prog Tryd.f3 [] false w args ∧ laidMetH Tryd.prog Rows.keysSplitRow.laid w) ∧ sizedMet enc Tryd.prog Tryd.f3 (OpenSpec.ofChange Rows.keysSplitSpec) false w args)
      (Rows.keysSplitSpec.post enc Tryd.prog Tryd.f3 false true false false) := by
  refine returnsInHanded_of_change_and (C := Tryd.checked) (X := fun w _ => laidMetH Tryd.prog Rows.keysSplitRow.laid w) (fun _ _ _ hh h => h.of_heap hh) own started (by kernel_rfl) Tryd.func3
    (ChangeSpec.witness_shaped (enc := enc) (C := Tryd.checked) (os := os) (X := fun w _ => laidMetH Tryd.prog Rows.keysSplitRow.laid w) false (World.doorLaid Tryd.prog 14 os) #[.int .u64 0] 8 rfl (World.shaped_of_RefB (by kernel_rfl) (by kernel_rfl)) (by kernel_rfl) (by kernel_rfl) (by kernel_rfl) (door_met os _)) ?_
  intro W base args ds gs before hval0 hW _ _ hL _
  have hval : ∀ (j : Nat) t v, Tryd.f3.params[j]? = some t → args[j]? = some v → Value.okWide Tryd.prog W .any base t v := hval0
  have hW' := hW
  obtain ⟨p, q, hA0, hV, rfl, hfz, hnd⟩ := hW
  have hA : DataW.TrodAll enc Tryd.prog W 0 (fun _ => true) true Tryd.f3.params.toList args.toList ds p := hA0
  rw [Tryd.params3] at hA hval
  obtain ⟨v0, vs0, d0, ds0, p0, q0, hargs, rfl, rfl, h0, r0⟩ := trodAll_cons hA
  obtain ⟨rfl, rfl, rfl⟩ := trodAll_nil r0
  obtain rfl : args = #[v0] := by cases args; simp_all
  obtain ⟨rfl, rfl⟩ := trodVars_none hV
  obtain ⟨a0, rfl, rfl, rfl, w0⟩ := open_int Tryd.underlying22 (hval 0 22 v0 rfl rfl) h0
  have hr : 0 ≤ a0 ∧ a0 ≤ 18446744073709551615 := by
    simp only [Lit.wf, Bool.and_eq_true, decide_eq_true_eq] at w0
    exact w0
  obtain ⟨a, rfl⟩ : ∃ a : Nat, a0 = (a : Int) := ⟨a0.toNat, by omega⟩
  refine (splitL a (by omega) W (of_laid hL)).mono fun e W' ⟨he, bel⟩ => ?_
  subst he
  exact ⟨_, rfl, _, _, _, [], _, [], hW', trodAll_mk1 (shut_bool Tryd.underlying4 _), (trodAll_cons_mk (shut_int Tryd.underlying22 w0) trodAll_mk0), rfl, bel.frame _, fun h => by cases h⟩
theorem over : Rows.KeysSplitSaid :=
  OpenClaim.holds_of_wide 3 Tryd.f3 rfl rfl rfl rfl rfl rfl rfl ⟨rfl, rfl, rfl, rfl, rfl⟩ rfl rfl rfl rfl rfl (by kernel_rfl) Tryd.func3 (by kernel_rfl)
    (of_decide_eq_true (by kernel_rfl)) (by unfold Func.isWrapper; first | (rw [if_pos (by decide +kernel)]; kernel_rfl) | (rw [if_neg (by decide +kernel)]; exact ⟨rfl, rfl⟩))
    (fun os started H enc _ => lifted os started H enc)
/-- THE TIED CARD. -/
theorem card_holds : Rows.KeysSplitCardSaid :=
  Claim7.holds_tied_plain_at .later [] [.data] true Rows.keysSplitCard.stood.harness false
    over (fun _ h => by cases h) (by kernel_rfl) (fun _ h => by cases h) keysSplit_row_tie rfl ⟨rfl, rfl⟩ (by kernel_rfl) rfl
    (fun f fn hf hfn => by
      obtain rfl : f = 3 := Option.some.inj ((show Tryd.prog.funcNamed "mintvault/mintvaultlaw9.KeysSplit" = some 3 by kernel_rfl).symm.trans hf) |>.symm
      obtain rfl : fn = Tryd.f3 := (Option.some.inj (Tryd.func3.symm.trans hfn)).symm
      exact ⟨by kernel_rfl, fun j t ht => by
        rw [Tryd.params3] at ht
        have hm : t ∈ [22] := by simpa using Array.mem_of_getElem? ht
        have hall : ([22].all fun u => !Tryd.prog.wantsStandIn u) = true := by kernel_rfl
        exact (show Tryd.prog.wantsStandIn t = false by simpa using List.all_eq_true.1 hall t hm)⟩)
    (by kernel_rfl)
end Go.Proofs.YtlbaoipgdheigaaDoor.keysSplit
namespace Go.Proofs.YtlbaoipgdheigaaDoor
/-- THE STATEMENT. -/
theorem keysSplit_holds : Rows.KeysSplitCardSaid := keysSplit.card_holds
#print axioms keysSplit_holds
end Go.Proofs.YtlbaoipgdheigaaDoor
