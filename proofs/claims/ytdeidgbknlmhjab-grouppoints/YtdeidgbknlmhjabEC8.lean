import Derived.Test.YtdeidgbknlmhjabEC7
namespace Go.Proofs.Ytdeidgbknlmhjab.EC
variable {P : Nat} [NeZero P]

/-- So many times a point. -/
def mul : Nat → Pt P → Pt P
  | 0, _ => none
  | n + 1, a => add (mul n a) a
theorem none_on : On (none : Pt P) := trivial
theorem none_add (a : Pt P) : add none a = a := rfl
theorem Cur.on (C : Cur P) {a b : Pt P} (ha : On a) (hb : On b) : On (add a b) := add_on C.pr C.two a b ha hb
theorem Cur.comm (C : Cur P) {a b : Pt P} (ha : On a) (hb : On b) : add a b = add b a := add_comm C.pr C.two a b ha hb
theorem Cur.assoc (C : Cur P) {a b c : Pt P} (ha : On a) (hb : On b) (hc : On c) : add (add a b) c = add a (add b c) := add_assoc C.pr C.two C.sev a b c ha hb hc
theorem Cur.neg_l (C : Cur P) {a : Pt P} (ha : On a) : add (neg a) a = none := by
  rw [C.comm (neg_on ha) ha, add_neg]
theorem Cur.swap (C : Cur P) {a b c d : Pt P} (ha : On a) (hb : On b) (hc : On c) (hd : On d) : add (add a b) (add c d) = add (add a c) (add b d) := by
  rw [C.assoc ha hb (C.on hc hd), ← C.assoc hb hc hd, C.comm hb hc, C.assoc hc hb hd, ← C.assoc ha hc (C.on hb hd)]
theorem mul_on (C : Cur P) {a : Pt P} (ha : On a) : ∀ n, On (mul n a)
  | 0 => none_on
  | n + 1 => C.on (mul_on C ha n) ha
theorem mul_add (C : Cur P) {a : Pt P} (ha : On a) (m : Nat) : ∀ n, mul (m + n) a = add (mul m a) (mul n a)
  | 0 => (add_none _).symm
  | n + 1 => by
    show add (mul (m + n) a) a = add (mul m a) (add (mul n a) a)
    rw [mul_add C ha m n, C.assoc (mul_on C ha m) (mul_on C ha n) ha]

def zmul : Int → Pt P → Pt P
  | .ofNat n, a => mul n a
  | .negSucc n, a => neg (mul (n + 1) a)
theorem zmul_on (C : Cur P) {a : Pt P} (ha : On a) : ∀ n, On (zmul n a)
  | .ofNat n => mul_on C ha n
  | .negSucc n => neg_on (mul_on C ha (n + 1))
theorem zmul_succ (C : Cur P) {a : Pt P} (ha : On a) : ∀ n, zmul (n + 1) a = add (zmul n a) a
  | .ofNat n => rfl
  | .negSucc 0 => by
    show (none : Pt P) = add (neg (add none a)) a
    rw [none_add, C.neg_l ha]
  | .negSucc (n + 1) => by
    show neg (mul (n + 1) a) = add (neg (add (mul (n + 1) a) a)) a
    have h1 := mul_on C ha (n + 1)
    rw [neg_add C.pr C.two h1 ha, C.assoc (neg_on h1) (neg_on ha) ha, C.neg_l ha, add_none]
theorem zmul_pred (C : Cur P) {a : Pt P} (ha : On a) (n : Int) : zmul (n - 1) a = add (zmul n a) (neg a) := by
  have h := zmul_succ C ha (n - 1)
  rw [Int.sub_add_cancel] at h
  rw [h, C.assoc (zmul_on C ha _) ha (neg_on ha), add_neg, add_none]
theorem zmul_nat (C : Cur P) {a : Pt P} (ha : On a) (m : Int) : ∀ n : Nat, zmul (m + n) a = add (zmul m a) (zmul n a)
  | 0 => by rw [Int.natCast_zero, Int.add_zero]; exact (add_none _).symm
  | n + 1 => by
    rw [show m + ((n + 1 : Nat) : Int) = (m + n) + 1 by omega, zmul_succ C ha, zmul_nat C ha m n, show ((n + 1 : Nat) : Int) = (n : Int) + 1 by omega, zmul_succ C ha,
      C.assoc (zmul_on C ha _) (zmul_on C ha _) ha]
theorem zmul_neg (C : Cur P) {a : Pt P} (ha : On a) : ∀ n : Nat, zmul (-(n : Int)) a = neg (zmul n a)
  | 0 => rfl
  | n + 1 => by
    have h1 : zmul (((n + 1 : Nat) : Int)) a = add (zmul n a) a := by rw [show ((n + 1 : Nat) : Int) = (n : Int) + 1 by omega, zmul_succ C ha]
    rw [h1, neg_add C.pr C.two (zmul_on C ha _) ha, ← zmul_neg C ha n, show -((n + 1 : Nat) : Int) = -(n : Int) - 1 by omega, zmul_pred C ha]
theorem zmul_sub (C : Cur P) {a : Pt P} (ha : On a) (m : Int) : ∀ n : Nat, zmul (m - n) a = add (zmul m a) (zmul (-(n : Int)) a)
  | 0 => by rw [Int.natCast_zero, Int.sub_zero]; exact (add_none _).symm
  | n + 1 => by
    rw [show m - ((n + 1 : Nat) : Int) = (m - n) - 1 by omega, zmul_pred C ha, zmul_sub C ha m n, show -((n + 1 : Nat) : Int) = -(n : Int) - 1 by omega, zmul_pred C ha,
      C.assoc (zmul_on C ha _) (zmul_on C ha _) (neg_on ha)]
theorem zmul_add (C : Cur P) {a : Pt P} (ha : On a) (m n : Int) : zmul (m + n) a = add (zmul m a) (zmul n a) := by
  rcases Int.le_total 0 n with h | h
  · obtain ⟨k, rfl⟩ := Int.eq_ofNat_of_zero_le h
    exact zmul_nat C ha m k
  · obtain ⟨k, hk⟩ := Int.eq_ofNat_of_zero_le (show 0 ≤ -n by omega)
    obtain rfl : n = -(k : Int) := by omega
    rw [← zmul_sub C ha m k, Int.sub_eq_add_neg]
theorem zmul_one (a : Pt P) : zmul 1 a = a := none_add a
theorem zmul_zero (a : Pt P) : zmul 0 a = none := rfl

/-- The sum of k points, each so many times. -/
def tot (a : Nat → Pt P) : Nat → (Nat → Int) → Pt P
  | 0, _ => none
  | k + 1, f => add (tot a k f) (zmul (f k) (a k))
theorem tot_on (C : Cur P) {a : Nat → Pt P} (f : Nat → Int) : ∀ k, (∀ i, i < k → On (a i)) → On (tot a k f)
  | 0, _ => none_on
  | k + 1, h => C.on (tot_on C f k fun i hi => h i (by omega)) (zmul_on C (h k (by omega)) _)
theorem tot_congr {a : Nat → Pt P} {f g : Nat → Int} : ∀ k, (∀ i, i < k → f i = g i) → tot a k f = tot a k g
  | 0, _ => rfl
  | k + 1, h => by
    show add (tot a k f) _ = add (tot a k g) _
    rw [tot_congr k (fun i hi => h i (by omega)), h k (by omega)]
theorem tot_zero (a : Nat → Pt P) {f : Nat → Int} : ∀ k, (∀ i, i < k → f i = 0) → tot a k f = none
  | 0, _ => rfl
  | k + 1, h => by
    show add (tot a k f) _ = none
    rw [tot_zero a k (fun i hi => h i (by omega)), h k (by omega)]
    rfl
theorem tot_add (C : Cur P) {a : Nat → Pt P} (f g : Nat → Int) : ∀ k, (∀ i, i < k → On (a i)) → tot a k (fun j => f j + g j) = add (tot a k f) (tot a k g)
  | 0, _ => rfl
  | k + 1, h => by
    have h1 : ∀ i, i < k → On (a i) := fun i hi => h i (by omega)
    have h2 := h k (by omega)
    show add (tot a k _) (zmul (f k + g k) (a k)) = add (add (tot a k f) (zmul (f k) (a k))) (add (tot a k g) (zmul (g k) (a k)))
    rw [tot_add C f g k h1, zmul_add C h2, C.swap (tot_on C f k h1) (tot_on C g k h1) (zmul_on C h2 _) (zmul_on C h2 _)]
theorem tot_one (C : Cur P) {a : Nat → Pt P} (i : Nat) (d : Int) : ∀ k, i < k → (∀ i, i < k → On (a i)) → tot a k (fun j => if j = i then d else 0) = zmul d (a i)
  | k + 1, hi, h => by
    show add (tot a k _) (zmul (if k = i then d else 0) (a k)) = _
    by_cases hk : k = i
    · subst hk
      rw [if_pos rfl, tot_zero a k (fun j hj => if_neg (by omega))]
      rfl
    · rw [if_neg hk, tot_one C i d k (by omega) (fun j hj => h j (by omega))]
      exact add_none _
theorem tot_upd (C : Cur P) {a : Nat → Pt P} (f : Nat → Int) (i : Nat) (d : Int) (k : Nat) (hi : i < k) (h : ∀ i, i < k → On (a i)) :
    tot a k (fun j => if j = i then f j + d else f j) = add (tot a k f) (zmul d (a i)) := by
  rw [← tot_one C i d k hi h, ← tot_add C f _ k h]
  refine tot_congr k fun j _ => ?_
  by_cases hj : j = i
  · rw [if_pos hj, if_pos hj]
  · rw [if_neg hj, if_neg hj, Int.add_zero]
theorem tot_twice (C : Cur P) {a : Nat → Pt P} (f : Nat → Int) (k : Nat) (h : ∀ i, i < k → On (a i)) : tot a k (fun j => 2 * f j) = add (tot a k f) (tot a k f) := by
  rw [← tot_add C f f k h]
  exact tot_congr k fun j _ => by omega
end Go.Proofs.Ytdeidgbknlmhjab.EC
