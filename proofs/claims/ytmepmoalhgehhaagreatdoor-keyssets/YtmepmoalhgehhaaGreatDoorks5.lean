import Derived.Deep.CutRange
import Derived.Deep.Draws
import Derived.Deep.RegionHeld3
import Derived.Deep.LoopGhost
import Derived.Laws.BitsLemmas
import Derived.OrdersHeld
import Derived.Deep.RegionHeld
import Derived.Deep.DeepCutAuto
import Derived.Laws.Tables
import Derived.Test.YtmepmoalhgehhaaGreatDoorks4
set_option linter.unusedVariables false
set_option linter.unusedSimpArgs false
namespace Go.Proofs.YtmepmoalhgehhaaGreatDoor.EC
variable {P : Nat} [NeZero P]
/-- So many times a point. -/
def mul : Nat → Pt P → Pt P
  | 0, _ => none
  | n + 1, a => add (mul n a) a
theorem none_on : On (none : Pt P) := trivial
theorem none_add (a : Pt P) : add none a = a := rfl
theorem Cur.on (C : Cur P) {a b : Pt P} (ha : On a) (hb : On b) : On (add a b) := add_on C.pr C.two a b ha hb
theorem Cur.comm (C : Cur P) {a b : Pt P} (ha : On a) (hb : On b) : add a b = add b a := add_comm C.pr C.two a b ha hb
theorem Cur.assoc (C : Cur P) {a b c : Pt P} (ha : On a) (hb : On b) (hc : On c) : add (add a b) c = add a (add b c) := add_assoc C.pr C.two C.sev a b c ha hb hc
theorem Cur.neg_l (C : Cur P) {a : Pt P} (ha : On a) : add (neg a) a = none := by
  rw [C.comm (neg_on ha) ha, add_neg]
theorem Cur.swap (C : Cur P) {a b c d : Pt P} (ha : On a) (hb : On b) (hc : On c) (hd : On d) : add (add a b) (add c d) = add (add a c) (add b d) := by
  rw [C.assoc ha hb (C.on hc hd), ← C.assoc hb hc hd, C.comm hb hc, C.assoc hc hb hd, ← C.assoc ha hc (C.on hb hd)]
theorem mul_on (C : Cur P) {a : Pt P} (ha : On a) : ∀ n, On (mul n a)
  | 0 => none_on
  | n + 1 => C.on (mul_on C ha n) ha
theorem mul_add (C : Cur P) {a : Pt P} (ha : On a) (m : Nat) : ∀ n, mul (m + n) a = add (mul m a) (mul n a)
  | 0 => (add_none _).symm
  | n + 1 => by
    show add (mul (m + n) a) a = add (mul m a) (add (mul n a) a)
    rw [mul_add C ha m n, C.assoc (mul_on C ha m) (mul_on C ha n) ha]
def zmul : Int → Pt P → Pt P
  | .ofNat n, a => mul n a
  | .negSucc n, a => neg (mul (n + 1) a)
theorem zmul_on (C : Cur P) {a : Pt P} (ha : On a) : ∀ n, On (zmul n a)
  | .ofNat n => mul_on C ha n
  | .negSucc n => neg_on (mul_on C ha (n + 1))
theorem zmul_succ (C : Cur P) {a : Pt P} (ha : On a) : ∀ n, zmul (n + 1) a = add (zmul n a) a
  | .ofNat n => rfl
  | .negSucc 0 => by
    show (none : Pt P) = add (neg (add none a)) a
    rw [none_add, C.neg_l ha]
  | .negSucc (n + 1) => by
    show neg (mul (n + 1) a) = add (neg (add (mul (n + 1) a) a)) a
    have h1 := mul_on C ha (n + 1)
    rw [neg_add C.pr C.two h1 ha, C.assoc (neg_on h1) (neg_on ha) ha, C.neg_l ha, add_none]
theorem zmul_pred (C : Cur P) {a : Pt P} (ha : On a) (n : Int) : zmul (n - 1) a = add (zmul n a) (neg a) := by
  have h := zmul_succ C ha (n - 1)
  rw [Int.sub_add_cancel] at h
  rw [h, C.assoc (zmul_on C ha _) ha (neg_on ha), add_neg, add_none]
theorem zmul_nat (C : Cur P) {a : Pt P} (ha : On a) (m : Int) : ∀ n : Nat, zmul (m + n) a = add (zmul m a) (zmul n a)
  | 0 => by rw [Int.natCast_zero, Int.add_zero]; exact (add_none _).symm
  | n + 1 => by
    rw [show m + ((n + 1 : Nat) : Int) = (m + n) + 1 by omega, zmul_succ C ha, zmul_nat C ha m n, show ((n + 1 : Nat) : Int) = (n : Int) + 1 by omega, zmul_succ C ha,
      C.assoc (zmul_on C ha _) (zmul_on C ha _) ha]
theorem zmul_neg (C : Cur P) {a : Pt P} (ha : On a) : ∀ n : Nat, zmul (-(n : Int)) a = neg (zmul n a)
  | 0 => rfl
  | n + 1 => by
    have h1 : zmul (((n + 1 : Nat) : Int)) a = add (zmul n a) a := by rw [show ((n + 1 : Nat) : Int) = (n : Int) + 1 by omega, zmul_succ C ha]
    rw [h1, neg_add C.pr C.two (zmul_on C ha _) ha, ← zmul_neg C ha n, show -((n + 1 : Nat) : Int) = -(n : Int) - 1 by omega, zmul_pred C ha]
theorem zmul_sub (C : Cur P) {a : Pt P} (ha : On a) (m : Int) : ∀ n : Nat, zmul (m - n) a = add (zmul m a) (zmul (-(n : Int)) a)
  | 0 => by rw [Int.natCast_zero, Int.sub_zero]; exact (add_none _).symm
  | n + 1 => by
    rw [show m - ((n + 1 : Nat) : Int) = (m - n) - 1 by omega, zmul_pred C ha, zmul_sub C ha m n, show -((n + 1 : Nat) : Int) = -(n : Int) - 1 by omega, zmul_pred C ha,
      C.assoc (zmul_on C ha _) (zmul_on C ha _) (neg_on ha)]
theorem zmul_add (C : Cur P) {a : Pt P} (ha : On a) (m n : Int) : zmul (m + n) a = add (zmul m a) (zmul n a) := by
  rcases Int.le_total 0 n with h | h
  · obtain ⟨k, rfl⟩ := Int.eq_ofNat_of_zero_le h
    exact zmul_nat C ha m k
  · obtain ⟨k, hk⟩ := Int.eq_ofNat_of_zero_le (show 0 ≤ -n by omega)
    obtain rfl : n = -(k : Int) := by omega
    rw [← zmul_sub C ha m k, Int.sub_eq_add_neg]
theorem zmul_one (a : Pt P) : zmul 1 a = a := none_add a
theorem zmul_zero (a : Pt P) : zmul 0 a = none := rfl
/-- The sum of k points, each so many times. -/
def tot (a : Nat → Pt P) : Nat → (Nat → Int) → Pt P
  | 0, _ => none
  | k + 1, f => add (tot a k f) (zmul (f k) (a k))
theorem tot_on (C : Cur P) {a : Nat → Pt P} (f : Nat → Int) : ∀ k, (∀ i, i < k → On (a i)) → On (tot a k f)
  | 0, _ => none_on
  | k + 1, h => C.on (tot_on C f k fun i hi => h i (by omega)) (zmul_on C (h k (by omega)) _)
theorem tot_congr {a : Nat → Pt P} {f g : Nat → Int} : ∀ k, (∀ i, i < k → f i = g i) → tot a k f = tot a k g
  | 0, _ => rfl
  | k + 1, h => by
    show add (tot a k f) _ = add (tot a k g) _
    rw [tot_congr k (fun i hi => h i (by omega)), h k (by omega)]
theorem tot_zero (a : Nat → Pt P) {f : Nat → Int} : ∀ k, (∀ i, i < k → f i = 0) → tot a k f = none
  | 0, _ => rfl
  | k + 1, h => by
    show add (tot a k f) _ = none
    rw [tot_zero a k (fun i hi => h i (by omega)), h k (by omega)]
    rfl
theorem tot_add (C : Cur P) {a : Nat → Pt P} (f g : Nat → Int) : ∀ k, (∀ i, i < k → On (a i)) → tot a k (fun j => f j + g j) = add (tot a k f) (tot a k g)
  | 0, _ => rfl
  | k + 1, h => by
    have h1 : ∀ i, i < k → On (a i) := fun i hi => h i (by omega)
    have h2 := h k (by omega)
    show add (tot a k _) (zmul (f k + g k) (a k)) = add (add (tot a k f) (zmul (f k) (a k))) (add (tot a k g) (zmul (g k) (a k)))
    rw [tot_add C f g k h1, zmul_add C h2, C.swap (tot_on C f k h1) (tot_on C g k h1) (zmul_on C h2 _) (zmul_on C h2 _)]
theorem tot_one (C : Cur P) {a : Nat → Pt P} (i : Nat) (d : Int) : ∀ k, i < k → (∀ i, i < k → On (a i)) → tot a k (fun j => if j = i then d else 0) = zmul d (a i)
  | k + 1, hi, h => by
    show add (tot a k _) (zmul (if k = i then d else 0) (a k)) = _
    by_cases hk : k = i
    · subst hk
      rw [if_pos rfl, tot_zero a k (fun j hj => if_neg (by omega))]
      rfl
    · rw [if_neg hk, tot_one C i d k (by omega) (fun j hj => h j (by omega))]
      exact add_none _
theorem tot_upd (C : Cur P) {a : Nat → Pt P} (f : Nat → Int) (i : Nat) (d : Int) (k : Nat) (hi : i < k) (h : ∀ i, i < k → On (a i)) :
    tot a k (fun j => if j = i then f j + d else f j) = add (tot a k f) (zmul d (a i)) := by
  rw [← tot_one C i d k hi h, ← tot_add C f _ k h]
  refine tot_congr k fun j _ => ?_
  by_cases hj : j = i
  · rw [if_pos hj, if_pos hj]
  · rw [if_neg hj, if_neg hj, Int.add_zero]
theorem tot_twice (C : Cur P) {a : Nat → Pt P} (f : Nat → Int) (k : Nat) (h : ∀ i, i < k → On (a i)) : tot a k (fun j => 2 * f j) = add (tot a k f) (tot a k f) := by
  rw [← tot_add C f f k h]
  exact tot_congr k fun j _ => by omega
end Go.Proofs.YtmepmoalhgehhaaGreatDoor.EC
namespace Go.Proofs.YtmepmoalhgehhaaGreatDoor.EC
/-- No cube is -7, where (-7)^((P-1)/3) is not 1. -/
theorem sev_nat {P c : Nat} (hP : NT.IsP P) (h3 : P = 3 * c + 1) (h7 : 7 < P) (hk : (P - 7) ^ c % P ≠ 1) (x : Nat) : (x * x * x + 7) % P ≠ 0 := fun e => by
  have hx : ¬ P ∣ x := fun hd => by
    have h1 : P ∣ x * x * x := Nat.dvd_mul_left_of_dvd hd _
    have h2 : P ∣ 7 := (Nat.dvd_add_right h1).1 (Nat.dvd_of_mod_eq_zero e)
    have := Nat.le_of_dvd (by decide) h2
    omega
  have h1 := hP.fermat1 x hx
  have h2 : x * x * x % P = P - 7 := by
    have hlt : x * x * x % P < P := Nat.mod_lt _ (by omega)
    have h4 : (x * x * x % P + 7) % P = 0 := by rw [Nat.mod_add_mod]; exact e
    by_cases hq : x * x * x % P + 7 < P
    · rw [Nat.mod_eq_of_lt hq] at h4; omega
    · rw [Nat.mod_eq_sub_mod (by omega), Nat.mod_eq_of_lt (by omega)] at h4
      omega
  apply hk
  rw [← h2, ← Nat.pow_mod]
  rw [← h1]
  congr 1
  rw [show P - 1 = 3 * c by omega, Nat.pow_mul]
  congr 1
  rw [Nat.pow_succ, Nat.pow_succ, Nat.pow_one]
theorem cur_of {P c : Nat} [NeZero P] (hP : NT.IsP P) (h3 : P = 3 * c + 1) (h7 : 7 < P) (hk : (P - 7) ^ c % P ≠ 1) : Cur P := by
  refine ⟨hP, fun e => ?_, fun x e => ?_⟩
  · have := congrArg Fin.val e
    rw [val_zero] at this
    have h2 : (2 : Fin P).val = 2 % P := rfl
    rw [h2, Nat.mod_eq_of_lt (by omega)] at this
    omega
  · have e2 : x * x * x + 7 = 0 := by rw [← e]; grobner
    have := congrArg Fin.val e2
    rw [val_zero, Fin.val_add, Fin.val_mul, Fin.val_mul] at this
    have h2 : (7 : Fin P).val = 7 % P := rfl
    rw [h2, Nat.mod_mul_mod, Nat.mod_add_mod, Nat.add_mod_mod] at this
    exact sev_nat hP h3 h7 hk x.val this
theorem no_root : NT.pm 115792089237316195423570985008687907853269984665640564039457584007908834671663 256 (115792089237316195423570985008687907853269984665640564039457584007908834671663 - 7) 38597363079105398474523661669562635951089994888546854679819194669302944890554 1 ≠ 1 := by decide +kernel
theorem pm_ne {P c k : Nat} (hc : c < 2 ^ k) (h1 : 1 < P) (h : NT.pm P k (P - 7) c 1 ≠ 1) : (P - 7) ^ c % P ≠ 1 := fun e => h (by rw [NT.pm_eq P k _ c 1 hc h1, Nat.one_mul]; exact e)
theorem cur : ∃ (P : Nat) (_ : NeZero P), P = 115792089237316195423570985008687907853269984665640564039457584007908834671663 ∧ Cur P := by
  have hp := NT.pP
  have hk := no_root
  have h3 : 115792089237316195423570985008687907853269984665640564039457584007908834671663 = 3 * 38597363079105398474523661669562635951089994888546854679819194669302944890554 + 1 := by decide +kernel
  have hc : 38597363079105398474523661669562635951089994888546854679819194669302944890554 < 2 ^ 256 := by decide +kernel
  have h7 : 7 < 115792089237316195423570985008687907853269984665640564039457584007908834671663 := by decide +kernel
  generalize 38597363079105398474523661669562635951089994888546854679819194669302944890554 = c at *
  generalize 115792089237316195423570985008687907853269984665640564039457584007908834671663 = P at *
  have hz : NeZero P := ⟨by omega⟩
  exact ⟨P, hz, rfl, cur_of hp h3 h7 (pm_ne hc (by omega) hk)⟩
end Go.Proofs.YtmepmoalhgehhaaGreatDoor.EC
namespace Go.Proofs.YtmepmoalhgehhaaGreatDoor
open Go.RowKit Go.Sort
/-- What the loop of fold keeps. -/
structure FoldI (w wr : World) (g0 g1 g2 a b c d p q r s : Nat) : Prop where
  bl : Below w.heap.size w wr
  pr : At4 wr w.heap.size g0 g1 g2 0
  lo : At4 wr (w.heap.size + 1) a b c d
  hi : At4 wr (w.heap.size + 1 + 1) p q r s
  re : At4 wr (w.heap.size + 1 + 1 + 1) 0 0 0 0
  ha : a < 18446744073709551616
  hb : b < 18446744073709551616
  hc : c < 18446744073709551616
  hd : d < 18446744073709551616
  hp : p < 18446744073709551616
  hq : q < 18446744073709551616
  hr : r < 18446744073709551616
  hs : s < 18446744073709551616
theorem fold_end {a b c d p q r s g0 g1 g2 t k P gk : Nat} (hP : P + val g0 g1 g2 0 = top) (hP2 : top < 2 * P) (hlt : val a b c d < top) (hg : gk = val a b c d + top * val 0 0 0 0)
    (he : t + top * k = val a b c d + val g0 g1 g2 0) (hk : k ≤ 1) (es : t = val p q r s) (ht : t < top) : (k = 0 → val a b c d = gk % P) ∧ (k = 1 → val p q r s = gk % P) := by
  have hg' : gk = val a b c d := by rw [hg]; rfl
  rw [hg']
  generalize val a b c d = x at *
  generalize val g0 g1 g2 0 = g at *
  refine ⟨fun h => ?_, fun h => ?_⟩
  · subst h
    rw [Nat.mod_eq_of_lt (by omega)]
  · subst h
    rw [← es, Nat.mod_eq_sub_mod (by omega), Nat.mod_eq_of_lt (by omega)]
    omega
theorem val_pos {p q r s : Nat} (h : ¬ (p = 0 ∧ q = 0 ∧ r = 0 ∧ s = 0)) : 0 < val p q r s := by unfold val; omega
theorem fold_less {x h g P gk : Nat} (hpos : 0 < h) (hP : P + g = top) (hP2 : top < 2 * P) (hg : gk = x + top * h) : x + g * h < gk ∧ (x + g * h) % P = gk % P := by
  have e : gk = x + g * h + P * h := by rw [hg, ← hP, Nat.add_mul]; omega
  rw [e, Nat.add_mul_mod_self_left]
  have : 0 < P * h := Nat.mul_pos (by omega) hpos
  exact ⟨by omega, rfl⟩
theorem fold_one {l t a b c d g h x : Nat} (h1 : g * h + x = l + 18446744073709551616 * t) (h2 : t = val a b c d) : val l a b c + top * val d 0 0 0 = x + val g 0 0 0 * h := by
  have e : val g 0 0 0 = g := by unfold val; omega
  rw [e]
  generalize g * h = y at *
  unfold val at *
  unfold top
  omega
theorem val_mul (g0 g1 g2 h : Nat) : val g0 g1 g2 0 * h = g0 * h + 18446744073709551616 * (g1 * h) + 340282366920938463463374607431768211456 * (g2 * h) := by
  unfold val
  rw [Nat.add_mul, Nat.add_mul, Nat.add_mul, Nat.mul_assoc, Nat.mul_assoc]
  omega
theorem fold_three {l0 l1 l2 g0 g1 g2 h x a b c d a' b' c' d' a'' b'' c'' d'' : Nat} (h1 : l0 + 18446744073709551616 * val a b c d = g0 * h + x)
    (h2 : l1 + 18446744073709551616 * val a' b' c' d' = g1 * h + val a b c d) (h3 : l2 + 18446744073709551616 * val a'' b'' c'' d'' = g2 * h + val a' b' c' d') :
    val l0 l1 l2 a'' + top * val b'' c'' d'' 0 = x + val g0 g1 g2 0 * h := by
  rw [val_mul]
  generalize g0 * h = y0 at *
  generalize g1 * h = y1 at *
  generalize g2 * h = y2 at *
  generalize val a b c d = v1 at *
  generalize val a' b' c' d' = v2 at *
  unfold val at *
  unfold top
  omega
set_option maxHeartbeats 2000000 in
theorem fold_any (g0 g1 g2 : Nat) (x y : Value) (m n P : Nat) (hg0 : g0 < 18446744073709551616) (hg1 : g1 < 18446744073709551616) (hg2 : g2 < 18446744073709551616)
    (hor : (g1 = 0 ∧ g2 = 0) ∨ ∃ o : Nat, bits .or .u64 (g1 : Int) (g2 : Int) = (o : Int) ∧ o ≠ 0) (hP : P + val g0 g1 g2 0 = top) (hP2 : top < 2 * P) (hx : Four x m) (hy : Four y n) (w : World) :
    Calls Tryz.prog 133 #[.agg #[.int .u64 (g0 : Int), .int .u64 (g1 : Int), .int .u64 (g2 : Int), .int .u64 0], x, y] w (Ret fun e w' => Below w.heap.size w w' ∧ Four e ((m + top * n) % P)) := by
  obtain ⟨a, b, c, d, rfl, ha, hb, hc, hd, em⟩ := hx
  obtain ⟨p, q, r, s, rfl, hp, hq, hr, hs, en⟩ := hy
  go_enter Tryz.func133, Tryz.ntmps133
  go_wp2
  go_loopg [] (val a b c d + top * val p q r s) (fun g wr => ∃ (a b c d p q r s : Nat), FoldI w wr g0 g1 g2 a b c d p q r s ∧ g = val a b c d + top * val p q r s ∧ Hid (g % P = (m + top * n) % P))
  case atStart =>
    have b4 := below4 w (.cells #[.int .u64 (g0 : Int), .int .u64 (g1 : Int), .int .u64 (g2 : Int), .int .u64 0] 138) (.cells #[.int .u64 (a : Int), .int .u64 (b : Int), .int .u64 (c : Int), .int .u64 (d : Int)] 136) (.cells #[.int .u64 (p : Int), .int .u64 (q : Int), .int .u64 (r : Int), .int .u64 (s : Int)] 136) (.cells #[.int .u64 0, .int .u64 0, .int .u64 0, .int .u64 0] 136)
    refine ⟨a, b, c, d, p, q, r, s, ⟨b4, ?_, ?_, ?_, ?_, ha, hb, hc, hd, hp, hq, hr, hs⟩, rfl, ?_⟩
    · exact (((At4.new w 138 g0 g1 g2 0).alloc _).alloc _).alloc _
    · exact ((At4.made (w.alloc _) 136 a b c d (World.size_alloc _ _)).alloc _).alloc _
    · exact (At4.made ((w.alloc _).alloc _) 136 p q r s (by simp)).alloc _
    · exact At4.made (((w.alloc _).alloc _).alloc _) 136 0 0 0 0 (by simp)
    · rw [em, en]; rfl
  case round =>
    obtain ⟨a, b, c, d, p, q, r, s, hI, hg, HE⟩ := hrel
    clear em en ha hb hc hd hp hq hr hs
    obtain ⟨bl, pr, lo, hi, re, ha, hb, hc, hd, hp, hq, hr, hs⟩ := hI
    have HB : Hid (Below w.heap.size w wr) := bl
    clear bl
    generalize h3 : w.heap.size + 1 + 1 + 1 = k3 at re ⊢
    generalize h2 : w.heap.size + 1 + 1 = k2 at hi ⊢
    generalize h1 : w.heap.size + 1 = k1 at lo ⊢
    have H : Hid (w.heap.size + 1 = k1 ∧ w.heap.size + 1 + 1 = k2 ∧ w.heap.size + 1 + 1 + 1 = k3) := ⟨h1, h2, h3⟩
    generalize h0 : w.heap.size = k0 at pr HB ⊢
    have H0 : Hid (w.heap.size = k0) := h0
    have Q01 : Hid (k0 ≤ k1) := by unfold Hid; omega
    have n01 : k0 ≠ k1 := by omega
    have n02 : k0 ≠ k2 := by omega
    have n03 : k0 ≠ k3 := by omega
    have n12 : k1 ≠ k2 := by omega
    have n13 : k1 ≠ k3 := by omega
    have n23 : k2 ≠ k3 := by omega
    have z0 := pr.lt
    have z1 := lo.lt
    have z2 := hi.lt
    have z3 := re.lt
    clear h0 h1 h2 h3
    by_cases hz : p = 0 ∧ q = 0 ∧ r = 0 ∧ s = 0
    · obtain ⟨rfl, rfl, rfl, rfl⟩ := hz
      obtain ⟨p0, p1, p2, p3, pf⟩ := id pr
      obtain ⟨l0, l1, l2, l3, lf⟩ := id lo
      obtain ⟨h0, h1, h2, h3, hf⟩ := id hi
      obtain ⟨r0, r1, r2, r3, rf⟩ := id re
      go_wp2_with fail
      refine (plus_any _ _ _ _ (Four.mk ha hb hc hd rfl) (Four.mk hg0 hg1 hg2 (by decide) rfl) _).mono ?_
      rintro e w1 ⟨v, rfl, hb1, v4, t, k, rfl, ⟨a', b', c', d', rfl, ha', hb', hc', hd', es⟩, hk, he⟩
      have hfin := fold_end hP hP2 (val_lt ha hb hc hd) hg he hk es (es ▸ val_lt ha' hb' hc' hd')
      rw [HE.out] at hfin
      have HF : Hid _ := hfin
      clear hfin
      clear p0 p1 p2 p3 pf l0 l1 l2 l3 lf h0 h1 h2 h3 hf r0 r1 r2 r3 rf he es hg HE
      have lo1 := lo.call hb1
      have re1 := re.call hb1
      have z3 := re1.lt
      have z1 := lo1.lt
      have HB1 : Hid (Below k0 w w1) := HB.out.trans (hb1.mono (by omega))
      obtain ⟨l0, l1, l2, l3, lf⟩ := id lo1
      obtain ⟨r0, r1, r2, r3, rf⟩ := id re1
      have hk' : k = 0 ∨ k = 1 := by omega
      rcases hk' with rfl | rfl
      · go_wp2
        have rf1 := ((((re1.set0 a).set1 b).set2 c).set3 d).alloc (.cells #[.int .u64 (a' : Int), .int .u64 (b' : Int), .int .u64 (c' : Int), .int .u64 (d' : Int)] 136)
        refine bodyPost_ret (v := ?v0) ?hr0 rfl ?hR0
        case hr0 => simp [results, Tryz.results133, go_sem, rf1.c0, rf1.c1, rf1.c2, rf1.c3]; rfl
        refine ⟨_, rfl, ?_, Four.mk ha hb hc hd (HF.out.1 trivial).symm⟩
        rw [H0.out]
        have q0 : k0 ≤ k3 := by have := H.out; have := H0.out; omega
        have q1 := (((HB1.out.setCell (p := ⟨k3, 0, none⟩) q0 (.int .u64 (a : Int))).setCell (p := ⟨k3, 1, none⟩) q0 (.int .u64 (b : Int))).setCell (p := ⟨k3, 2, none⟩) q0 (.int .u64 (c : Int))).setCell (p := ⟨k3, 3, none⟩) q0 (.int .u64 (d : Int))
        exact q1.alloc (by simp; omega) _
      · go_wp2
        have rf1 := ((((re1.set0 a').set1 b').set2 c').set3 d').alloc (.cells #[.int .u64 (a' : Int), .int .u64 (b' : Int), .int .u64 (c' : Int), .int .u64 (d' : Int)] 136)
        refine bodyPost_ret (v := ?v1) ?hr1 rfl ?hR1
        case hr1 => simp [results, Tryz.results133, go_sem, rf1.c0, rf1.c1, rf1.c2, rf1.c3]; rfl
        refine ⟨_, rfl, ?_, Four.mk ha' hb' hc' hd' (HF.out.2 trivial).symm⟩
        rw [H0.out]
        have q0 : k0 ≤ k3 := by have := H.out; have := H0.out; omega
        have q1 := (((HB1.out.setCell (p := ⟨k3, 0, none⟩) q0 (.int .u64 (a' : Int))).setCell (p := ⟨k3, 1, none⟩) q0 (.int .u64 (b' : Int))).setCell (p := ⟨k3, 2, none⟩) q0 (.int .u64 (c' : Int))).setCell (p := ⟨k3, 3, none⟩) q0 (.int .u64 (d' : Int))
        exact q1.alloc (by simp; omega) _
    · go_upto_region 1 with fail
      go_cut [12] from 10 to 72 (fun c wx => c = .bool true ∧ wr = wx)
      case first =>
        obtain ⟨h0, h1, h2, h3, hf⟩ := id hi
        go_wp2_with fail
        all_goals (go_meet; exact ⟨rfl, rfl⟩)
      case rest =>
        obtain ⟨rfl, rfl⟩ := hcut
        have hlt := fold_less (val_pos hz) hP hP2 hg
        clear hz
        obtain ⟨p0, p1, p2, p3, pf⟩ := id pr
        obtain ⟨l0, l1, l2, l3, lf⟩ := id lo
        obtain ⟨h0, h1, h2, h3, hf⟩ := id hi
        rcases hor with ⟨rfl, rfl⟩ | ⟨o, ho, hne⟩
        · have hor : bits .or .u64 0 0 = 0 := by decide +kernel
          go_wp2_with fail
          refine (row_any g0 _ _ _ _ hg0 (Four.mk hp hq hr hs rfl) (Four.mk ha hb hc hd rfl) _).mono ?_
          rintro e w1 ⟨v, rfl, hb1, l, v4, t, rfl, hl, ⟨a', b', c', d', rfl, ha', hb', hc', hd', es⟩, he⟩
          have lo1 := (lo.alloc _).call hb1
          have hi1 := (hi.alloc _).call hb1
          have pr1 := (pr.alloc _).call hb1
          have re1 := (re.alloc _).call hb1
          have tm1 := (At4.new wr 136 0 0 0 0).call hb1
          have HB1 : Hid (Below k0 w w1) := (HB.out.alloc (by omega) _).trans (hb1.mono (by simp; omega))
          clear hb1 p0 p1 p2 p3 pf l0 l1 l2 l3 lf h0 h1 h2 h3 hf lo hi pr re
          generalize hk4 : wr.heap.size = k4 at tm1 z0 z1 z2 z3 ⊢
          clear hk4
          have m0 : k0 ≠ k4 := by omega
          have m1 : k1 ≠ k4 := by omega
          have m2 : k2 ≠ k4 := by omega
          have m3 : k3 ≠ k4 := by omega
          have M : Hid (k0 < k4) := z0
          clear z0 z1 z2 z3
          have z0 := pr1.lt
          have z1 := lo1.lt
          have z2 := hi1.lt
          have z3 := re1.lt
          have z4 := tm1.lt
          have HQ : Hid (g0 * val p q r s + val a b c d = l + 18446744073709551616 * t ∧ t = val a' b' c' d') := ⟨he.symm, es⟩
          have HL : Hid (_ ∧ _) := hlt
          clear he es hlt hg
          obtain ⟨p0, p1, p2, p3, pf⟩ := id pr1
          obtain ⟨l0, l1, l2, l3, lf⟩ := id lo1
          obtain ⟨h0, h1, h2, h3, hf⟩ := id hi1
          obtain ⟨t0, t1, t2, t3, tf⟩ := id tm1
          go_wp2
          go_region
          go_wp2
          obtain ⟨q1, q2, q3⟩ := H.out
          have q0 := H0.out
          subst q1 q2 q3 q0
          go_roundg (val l a' b' c' + top * val d' 0 0 0)
          case measure => rw [fold_one HQ.out.1 HQ.out.2]; exact HL.out.1
          case rel =>
            refine ⟨l, a', b', c', d', 0, 0, 0, ⟨?_, ?_, ?_, ?_, ?_, hl, ha', hb', hc', hd', by decide, by decide, by decide⟩, rfl, ?_⟩
            · have s1 := (HB1.out.setCell (p := ⟨w.heap.size + 1, 0, none⟩) (Nat.le_succ _) (.int .u64 (l : Int)))
              exact (below_set4 (below_set4 (below_set4 s1 (Nat.le_of_lt M.out) _ _ _ _) (Nat.le_succ _) _ _ _ _) (by omega) _ _ _ _).drew
            · exact ((((pr1.other n01.symm _).other4 m0.symm _ _ _ _).other4 n01.symm _ _ _ _).other4 n02.symm _ _ _ _).drew
            · exact ((((lo1.set0 l).other4 m1.symm _ _ _ _).self4 l a' b' c').other4 n12.symm _ _ _ _).drew
            · exact ((((hi1.other n12 _).other4 m2.symm _ _ _ _).other4 n12 _ _ _ _).self4 d' 0 0 0).drew
            · exact ((((re1.other n13 _).other4 m3.symm _ _ _ _).other4 n13 _ _ _ _).other4 n23 _ _ _ _).drew
            · unfold Hid
              rw [fold_one HQ.out.1 HQ.out.2, ← HE.out]
              exact HL.out.2
        · go_wp2_with fail
          refine (row_any g0 _ _ _ _ hg0 (Four.mk hp hq hr hs rfl) (Four.mk ha hb hc hd rfl) _).mono ?_
          rintro e w1 ⟨v, rfl, hb1, l, v4, t, rfl, hl, ⟨a', b', c', d', rfl, ha', hb', hc', hd', es⟩, he⟩
          have lo1 := (lo.alloc _).call hb1
          have hi1 := (hi.alloc _).call hb1
          have pr1 := (pr.alloc _).call hb1
          have re1 := (re.alloc _).call hb1
          have tm1 := (At4.new wr 136 0 0 0 0).call hb1
          have HB1 : Hid (Below k0 w w1) := (HB.out.alloc (by omega) _).trans (hb1.mono (by simp; omega))
          clear hb1 p0 p1 p2 p3 pf l0 l1 l2 l3 lf h0 h1 h2 h3 hf lo hi pr re
          generalize hk4 : wr.heap.size = k4 at tm1 z0 z1 z2 z3 ⊢
          clear hk4
          have m0 : k0 ≠ k4 := by omega
          have m1 : k1 ≠ k4 := by omega
          have m2 : k2 ≠ k4 := by omega
          have m3 : k3 ≠ k4 := by omega
          have M : Hid (k0 < k4) := z0
          clear z0 z1 z2 z3
          have HQ1 : Hid (l + 18446744073709551616 * val a' b' c' d' = g0 * val p q r s + val a b c d) := by unfold Hid; rw [← es]; exact he
          have HL : Hid (_ ∧ _) := hlt
          clear he es hlt hg
          have z0 := pr1.lt
          have z1 := lo1.lt
          have z2 := hi1.lt
          have z3 := re1.lt
          have z4 := tm1.lt
          obtain ⟨p0, p1, p2, p3, pf⟩ := id pr1
          obtain ⟨l0, l1, l2, l3, lf⟩ := id lo1
          obtain ⟨h0, h1, h2, h3, hf⟩ := id hi1
          obtain ⟨t0, t1, t2, t3, tf⟩ := id tm1
          go_wp2_with fail
          refine (row_any g1 _ _ _ _ hg1 (Four.mk hp hq hr hs rfl) (Four.mk ha' hb' hc' hd' rfl) _).mono ?_
          rintro e w2 ⟨v, rfl, hb2, l', v5, t, rfl, hl', ⟨a2, b2, c2, d2, rfl, ha2, hb2', hc2, hd2, es⟩, he⟩
          have lo2 := ((lo1.set0 l).other4 m1.symm _ _ _ _).call hb2
          have hi2 := ((hi1.other n12 _).other4 m2.symm _ _ _ _).call hb2
          have pr2 := ((pr1.other n01.symm _).other4 m0.symm _ _ _ _).call hb2
          have re2 := ((re1.other n13 _).other4 m3.symm _ _ _ _).call hb2
          have tm2 := ((tm1.other m1 _).self4 a' b' c' d').call hb2
          have HB2 : Hid (Below k0 w w2) := ((below_set4 (HB1.out.setCell (p := ⟨k1, 0, none⟩) Q01.out _) (Nat.le_of_lt M.out) _ _ _ _).trans (hb2.mono (by simp; omega)))
          clear hb2 p0 p1 p2 p3 pf l0 l1 l2 l3 lf h0 h1 h2 h3 hf t0 t1 t2 t3 tf lo1 hi1 pr1 re1 tm1 HB1 z0 z1 z2 z3 z4
          have HQ2 : Hid (l' + 18446744073709551616 * val a2 b2 c2 d2 = g1 * val p q r s + val a' b' c' d') := by unfold Hid; rw [← es]; exact he
          clear he es
          have z0 := pr2.lt
          have z1 := lo2.lt
          have z2 := hi2.lt
          have z3 := re2.lt
          have z4 := tm2.lt
          obtain ⟨p0, p1, p2, p3, pf⟩ := id pr2
          obtain ⟨l0, l1, l2, l3, lf⟩ := id lo2
          obtain ⟨h0, h1, h2, h3, hf⟩ := id hi2
          obtain ⟨t0, t1, t2, t3, tf⟩ := id tm2
          go_wp2_with fail
          refine (row_any g2 _ _ _ _ hg2 (Four.mk hp hq hr hs rfl) (Four.mk ha2 hb2' hc2 hd2 rfl) _).mono ?_
          rintro e w3 ⟨v, rfl, hb3, l'', v6, t, rfl, hl'', ⟨a3, b3, c3, d3, rfl, ha3, hb3', hc3, hd3, es⟩, he⟩
          have lo3 := ((lo2.set1 l').other4 m1.symm _ _ _ _).call hb3
          have hi3 := ((hi2.other n12 _).other4 m2.symm _ _ _ _).call hb3
          have pr3 := ((pr2.other n01.symm _).other4 m0.symm _ _ _ _).call hb3
          have re3 := ((re2.other n13 _).other4 m3.symm _ _ _ _).call hb3
          have tm3 := ((tm2.other m1 _).self4 a2 b2 c2 d2).call hb3
          have HB3 : Hid (Below k0 w w3) := ((below_set4 (HB2.out.setCell (p := ⟨k1, 1, none⟩) Q01.out _) (Nat.le_of_lt M.out) _ _ _ _).trans (hb3.mono (by simp; omega)))
          clear hb3 p0 p1 p2 p3 pf l0 l1 l2 l3 lf h0 h1 h2 h3 hf t0 t1 t2 t3 tf lo2 hi2 pr2 re2 tm2 HB2 z0 z1 z2 z3 z4
          have HQ3 : Hid (l'' + 18446744073709551616 * val a3 b3 c3 d3 = g2 * val p q r s + val a2 b2 c2 d2) := by unfold Hid; rw [← es]; exact he
          clear he es
          have z0 := pr3.lt
          have z1 := lo3.lt
          have z2 := hi3.lt
          have z3 := re3.lt
          have z4 := tm3.lt
          obtain ⟨l0, l1, l2, l3, lf⟩ := id lo3
          obtain ⟨h0, h1, h2, h3, hf⟩ := id hi3
          obtain ⟨t0, t1, t2, t3, tf⟩ := id tm3
          go_wp2
          go_region
          go_wp2
          clear l0 l1 l2 l3 lf h0 h1 h2 h3 hf t0 t1 t2 t3 tf
          obtain ⟨q1, q2, q3⟩ := H.out
          have q0 := H0.out
          subst q1 q2 q3 q0
          go_roundg (val l l' l'' a3 + top * val b3 c3 d3 0)
          case measure => rw [fold_three HQ1.out HQ2.out HQ3.out]; exact HL.out.1
          case rel =>
            refine ⟨l, l', l'', a3, b3, c3, d3, 0, ⟨?_, ?_, ?_, ?_, ?_, hl, hl', hl'', ha3, hb3', hc3, hd3, by decide⟩, rfl, ?_⟩
            · have s1 := (HB3.out.setCell (p := ⟨w.heap.size + 1, 2, none⟩) (Nat.le_succ _) (.int .u64 (l'' : Int)))
              have s2 := (below_set4 s1 (Nat.le_of_lt M.out) (.int .u64 (a3 : Int)) (.int .u64 (b3 : Int)) (.int .u64 (c3 : Int)) (.int .u64 (d3 : Int)))
              exact (below_set4 (s2.setCell (p := ⟨w.heap.size + 1, 3, none⟩) (Nat.le_succ _) (.int .u64 (a3 : Int))) (by omega) _ _ _ _).drew
            · exact ((((pr3.other n01.symm _).other4 m0.symm _ _ _ _).other n01.symm _).other4 n02.symm _ _ _ _).drew
            · exact ((((lo3.set2 l'').other4 m1.symm _ _ _ _).set3 a3).other4 n12.symm _ _ _ _).drew
            · exact ((((hi3.other n12 _).other4 m2.symm _ _ _ _).other n12 _).self4 b3 c3 d3 0).drew
            · exact ((((re3.other n13 _).other4 m3.symm _ _ _ _).other n13 _).other4 n23 _ _ _ _).drew
            · unfold Hid
              rw [fold_three HQ1.out HQ2.out HQ3.out, ← HE.out]
              exact HL.out.2
end Go.Proofs.YtmepmoalhgehhaaGreatDoor
namespace Go.Proofs.YtmepmoalhgehhaaGreatDoor
open Go.RowKit Go.Sort
/-- Eight words lie in a block of their own. -/
structure At8 (w : World) (k a b c d e f g h : Nat) : Prop where
  c0 : w.cell? ⟨k, 0, none⟩ = some (.int .u64 (a : Int))
  c1 : w.cell? ⟨k, 1, none⟩ = some (.int .u64 (b : Int))
  c2 : w.cell? ⟨k, 2, none⟩ = some (.int .u64 (c : Int))
  c3 : w.cell? ⟨k, 3, none⟩ = some (.int .u64 (d : Int))
  c4 : w.cell? ⟨k, 4, none⟩ = some (.int .u64 (e : Int))
  c5 : w.cell? ⟨k, 5, none⟩ = some (.int .u64 (f : Int))
  c6 : w.cell? ⟨k, 6, none⟩ = some (.int .u64 (g : Int))
  c7 : w.cell? ⟨k, 7, none⟩ = some (.int .u64 (h : Int))
  fz : ∀ o, w.frozen? ⟨k, o, none⟩ = false
variable {w w1 : World} {k a b c d e f g h : Nat}
theorem At8.lt (H : At8 w k a b c d e f g h) : k < w.heap.size := World.block_lt_of_cell? _ _ H.c0
theorem At8.below {B : Nat} (H : At8 w k a b c d e f g h) (hb : Below B w w1) (hk : k < B) : At8 w1 k a b c d e f g h :=
  ⟨by rw [hb.cell (p := ⟨k, 0, none⟩) hk]; exact H.c0, by rw [hb.cell (p := ⟨k, 1, none⟩) hk]; exact H.c1, by rw [hb.cell (p := ⟨k, 2, none⟩) hk]; exact H.c2, by rw [hb.cell (p := ⟨k, 3, none⟩) hk]; exact H.c3, by rw [hb.cell (p := ⟨k, 4, none⟩) hk]; exact H.c4, by rw [hb.cell (p := ⟨k, 5, none⟩) hk]; exact H.c5, by rw [hb.cell (p := ⟨k, 6, none⟩) hk]; exact H.c6, by rw [hb.cell (p := ⟨k, 7, none⟩) hk]; exact H.c7,
    fun o => by rw [hb.frozen (p := ⟨k, o, none⟩) hk]; exact H.fz o⟩
theorem At8.call (H : At8 w k a b c d e f g h) (hb : Below w.heap.size w w1) : At8 w1 k a b c d e f g h := H.below hb H.lt
theorem At8.alloc (H : At8 w k a b c d e f g h) (o : Obj) : At8 (w.alloc o) k a b c d e f g h := H.call (below1 w o)
theorem At8.drewN (H : At8 w k a b c d e f g h) (q : Nat) : At8 (w.drewN q) k a b c d e f g h := ⟨H.c0, H.c1, H.c2, H.c3, H.c4, H.c5, H.c6, H.c7, H.fz⟩
theorem At8.drew (H : At8 w k a b c d e f g h) : At8 w.drew k a b c d e f g h := ⟨H.c0, H.c1, H.c2, H.c3, H.c4, H.c5, H.c6, H.c7, H.fz⟩
theorem At8.made (w : World) (t : TypeId) (a b c d e f g h : Nat) {k : Nat} (hk : w.heap.size = k) : At8 (w.alloc (.cells #[.int .u64 (a : Int), .int .u64 (b : Int), .int .u64 (c : Int), .int .u64 (d : Int), .int .u64 (e : Int), .int .u64 (f : Int), .int .u64 (g : Int), .int .u64 (h : Int)] t)) k a b c d e f g h := by
  subst hk
  exact ⟨by rw [World.cell?_alloc_new]; rfl, by rw [World.cell?_alloc_new]; rfl, by rw [World.cell?_alloc_new]; rfl, by rw [World.cell?_alloc_new]; rfl, by rw [World.cell?_alloc_new]; rfl, by rw [World.cell?_alloc_new]; rfl, by rw [World.cell?_alloc_new]; rfl, by rw [World.cell?_alloc_new]; rfl, fun o => World.frozen?_alloc_new _ _ _ _⟩
theorem At8.other {j o : Nat} (H : At8 w k a b c d e f g h) (hj : j ≠ k) (v : Value) : At8 (w.setCell ⟨j, o, none⟩ v) k a b c d e f g h :=
  ⟨by rw [World.cell?_setCell_other _ _ _ _ (ne_addr (Or.inl hj))]; exact H.c0, by rw [World.cell?_setCell_other _ _ _ _ (ne_addr (Or.inl hj))]; exact H.c1, by rw [World.cell?_setCell_other _ _ _ _ (ne_addr (Or.inl hj))]; exact H.c2, by rw [World.cell?_setCell_other _ _ _ _ (ne_addr (Or.inl hj))]; exact H.c3, by rw [World.cell?_setCell_other _ _ _ _ (ne_addr (Or.inl hj))]; exact H.c4, by rw [World.cell?_setCell_other _ _ _ _ (ne_addr (Or.inl hj))]; exact H.c5, by rw [World.cell?_setCell_other _ _ _ _ (ne_addr (Or.inl hj))]; exact H.c6, by rw [World.cell?_setCell_other _ _ _ _ (ne_addr (Or.inl hj))]; exact H.c7, fun o => by rw [World.frozen?_setCell]; exact H.fz o⟩
theorem At8.set0 (H : At8 w k a b c d e f g h) (x : Nat) : At8 (w.setCell ⟨k, 0, none⟩ (.int .u64 (x : Int))) k x b c d e f g h :=
  ⟨World.cell?_setCell_same _ _ _ H.c0, by rw [World.cell?_setCell_other _ _ _ _ (ne_addr (Or.inr (by decide)))]; exact H.c1, by rw [World.cell?_setCell_other _ _ _ _ (ne_addr (Or.inr (by decide)))]; exact H.c2, by rw [World.cell?_setCell_other _ _ _ _ (ne_addr (Or.inr (by decide)))]; exact H.c3, by rw [World.cell?_setCell_other _ _ _ _ (ne_addr (Or.inr (by decide)))]; exact H.c4, by rw [World.cell?_setCell_other _ _ _ _ (ne_addr (Or.inr (by decide)))]; exact H.c5, by rw [World.cell?_setCell_other _ _ _ _ (ne_addr (Or.inr (by decide)))]; exact H.c6, by rw [World.cell?_setCell_other _ _ _ _ (ne_addr (Or.inr (by decide)))]; exact H.c7, fun o => by rw [World.frozen?_setCell]; exact H.fz o⟩
theorem At8.set1 (H : At8 w k a b c d e f g h) (x : Nat) : At8 (w.setCell ⟨k, 1, none⟩ (.int .u64 (x : Int))) k a x c d e f g h :=
  ⟨by rw [World.cell?_setCell_other _ _ _ _ (ne_addr (Or.inr (by decide)))]; exact H.c0, World.cell?_setCell_same _ _ _ H.c1, by rw [World.cell?_setCell_other _ _ _ _ (ne_addr (Or.inr (by decide)))]; exact H.c2, by rw [World.cell?_setCell_other _ _ _ _ (ne_addr (Or.inr (by decide)))]; exact H.c3, by rw [World.cell?_setCell_other _ _ _ _ (ne_addr (Or.inr (by decide)))]; exact H.c4, by rw [World.cell?_setCell_other _ _ _ _ (ne_addr (Or.inr (by decide)))]; exact H.c5, by rw [World.cell?_setCell_other _ _ _ _ (ne_addr (Or.inr (by decide)))]; exact H.c6, by rw [World.cell?_setCell_other _ _ _ _ (ne_addr (Or.inr (by decide)))]; exact H.c7, fun o => by rw [World.frozen?_setCell]; exact H.fz o⟩
theorem At8.set2 (H : At8 w k a b c d e f g h) (x : Nat) : At8 (w.setCell ⟨k, 2, none⟩ (.int .u64 (x : Int))) k a b x d e f g h :=
  ⟨by rw [World.cell?_setCell_other _ _ _ _ (ne_addr (Or.inr (by decide)))]; exact H.c0, by rw [World.cell?_setCell_other _ _ _ _ (ne_addr (Or.inr (by decide)))]; exact H.c1, World.cell?_setCell_same _ _ _ H.c2, by rw [World.cell?_setCell_other _ _ _ _ (ne_addr (Or.inr (by decide)))]; exact H.c3, by rw [World.cell?_setCell_other _ _ _ _ (ne_addr (Or.inr (by decide)))]; exact H.c4, by rw [World.cell?_setCell_other _ _ _ _ (ne_addr (Or.inr (by decide)))]; exact H.c5, by rw [World.cell?_setCell_other _ _ _ _ (ne_addr (Or.inr (by decide)))]; exact H.c6, by rw [World.cell?_setCell_other _ _ _ _ (ne_addr (Or.inr (by decide)))]; exact H.c7, fun o => by rw [World.frozen?_setCell]; exact H.fz o⟩
theorem At8.set3 (H : At8 w k a b c d e f g h) (x : Nat) : At8 (w.setCell ⟨k, 3, none⟩ (.int .u64 (x : Int))) k a b c x e f g h :=
  ⟨by rw [World.cell?_setCell_other _ _ _ _ (ne_addr (Or.inr (by decide)))]; exact H.c0, by rw [World.cell?_setCell_other _ _ _ _ (ne_addr (Or.inr (by decide)))]; exact H.c1, by rw [World.cell?_setCell_other _ _ _ _ (ne_addr (Or.inr (by decide)))]; exact H.c2, World.cell?_setCell_same _ _ _ H.c3, by rw [World.cell?_setCell_other _ _ _ _ (ne_addr (Or.inr (by decide)))]; exact H.c4, by rw [World.cell?_setCell_other _ _ _ _ (ne_addr (Or.inr (by decide)))]; exact H.c5, by rw [World.cell?_setCell_other _ _ _ _ (ne_addr (Or.inr (by decide)))]; exact H.c6, by rw [World.cell?_setCell_other _ _ _ _ (ne_addr (Or.inr (by decide)))]; exact H.c7, fun o => by rw [World.frozen?_setCell]; exact H.fz o⟩
theorem At8.set4 (H : At8 w k a b c d e f g h) (x : Nat) : At8 (w.setCell ⟨k, 4, none⟩ (.int .u64 (x : Int))) k a b c d x f g h :=
  ⟨by rw [World.cell?_setCell_other _ _ _ _ (ne_addr (Or.inr (by decide)))]; exact H.c0, by rw [World.cell?_setCell_other _ _ _ _ (ne_addr (Or.inr (by decide)))]; exact H.c1, by rw [World.cell?_setCell_other _ _ _ _ (ne_addr (Or.inr (by decide)))]; exact H.c2, by rw [World.cell?_setCell_other _ _ _ _ (ne_addr (Or.inr (by decide)))]; exact H.c3, World.cell?_setCell_same _ _ _ H.c4, by rw [World.cell?_setCell_other _ _ _ _ (ne_addr (Or.inr (by decide)))]; exact H.c5, by rw [World.cell?_setCell_other _ _ _ _ (ne_addr (Or.inr (by decide)))]; exact H.c6, by rw [World.cell?_setCell_other _ _ _ _ (ne_addr (Or.inr (by decide)))]; exact H.c7, fun o => by rw [World.frozen?_setCell]; exact H.fz o⟩
theorem At8.set5 (H : At8 w k a b c d e f g h) (x : Nat) : At8 (w.setCell ⟨k, 5, none⟩ (.int .u64 (x : Int))) k a b c d e x g h :=
  ⟨by rw [World.cell?_setCell_other _ _ _ _ (ne_addr (Or.inr (by decide)))]; exact H.c0, by rw [World.cell?_setCell_other _ _ _ _ (ne_addr (Or.inr (by decide)))]; exact H.c1, by rw [World.cell?_setCell_other _ _ _ _ (ne_addr (Or.inr (by decide)))]; exact H.c2, by rw [World.cell?_setCell_other _ _ _ _ (ne_addr (Or.inr (by decide)))]; exact H.c3, by rw [World.cell?_setCell_other _ _ _ _ (ne_addr (Or.inr (by decide)))]; exact H.c4, World.cell?_setCell_same _ _ _ H.c5, by rw [World.cell?_setCell_other _ _ _ _ (ne_addr (Or.inr (by decide)))]; exact H.c6, by rw [World.cell?_setCell_other _ _ _ _ (ne_addr (Or.inr (by decide)))]; exact H.c7, fun o => by rw [World.frozen?_setCell]; exact H.fz o⟩
theorem At8.set6 (H : At8 w k a b c d e f g h) (x : Nat) : At8 (w.setCell ⟨k, 6, none⟩ (.int .u64 (x : Int))) k a b c d e f x h :=
  ⟨by rw [World.cell?_setCell_other _ _ _ _ (ne_addr (Or.inr (by decide)))]; exact H.c0, by rw [World.cell?_setCell_other _ _ _ _ (ne_addr (Or.inr (by decide)))]; exact H.c1, by rw [World.cell?_setCell_other _ _ _ _ (ne_addr (Or.inr (by decide)))]; exact H.c2, by rw [World.cell?_setCell_other _ _ _ _ (ne_addr (Or.inr (by decide)))]; exact H.c3, by rw [World.cell?_setCell_other _ _ _ _ (ne_addr (Or.inr (by decide)))]; exact H.c4, by rw [World.cell?_setCell_other _ _ _ _ (ne_addr (Or.inr (by decide)))]; exact H.c5, World.cell?_setCell_same _ _ _ H.c6, by rw [World.cell?_setCell_other _ _ _ _ (ne_addr (Or.inr (by decide)))]; exact H.c7, fun o => by rw [World.frozen?_setCell]; exact H.fz o⟩
theorem At8.set7 (H : At8 w k a b c d e f g h) (x : Nat) : At8 (w.setCell ⟨k, 7, none⟩ (.int .u64 (x : Int))) k a b c d e f g x :=
  ⟨by rw [World.cell?_setCell_other _ _ _ _ (ne_addr (Or.inr (by decide)))]; exact H.c0, by rw [World.cell?_setCell_other _ _ _ _ (ne_addr (Or.inr (by decide)))]; exact H.c1, by rw [World.cell?_setCell_other _ _ _ _ (ne_addr (Or.inr (by decide)))]; exact H.c2, by rw [World.cell?_setCell_other _ _ _ _ (ne_addr (Or.inr (by decide)))]; exact H.c3, by rw [World.cell?_setCell_other _ _ _ _ (ne_addr (Or.inr (by decide)))]; exact H.c4, by rw [World.cell?_setCell_other _ _ _ _ (ne_addr (Or.inr (by decide)))]; exact H.c5, by rw [World.cell?_setCell_other _ _ _ _ (ne_addr (Or.inr (by decide)))]; exact H.c6, World.cell?_setCell_same _ _ _ H.c7, fun o => by rw [World.frozen?_setCell]; exact H.fz o⟩
/-- Eight cells of a block, written one behind the other. -/
def set8c (w : World) (k : Nat) (x0 x1 x2 x3 x4 x5 x6 x7 : Value) : World :=
  (((((((w.setCell ⟨k, 0, none⟩ x0).setCell ⟨k, 1, none⟩ x1).setCell ⟨k, 2, none⟩ x2).setCell ⟨k, 3, none⟩ x3).setCell ⟨k, 4, none⟩ x4).setCell ⟨k, 5, none⟩ x5).setCell ⟨k, 6, none⟩ x6).setCell ⟨k, 7, none⟩ x7
theorem At8.self8 (H : At8 w k a b c d e f g h) (x0 x1 x2 x3 x4 x5 x6 x7 : Nat) : At8 (set8c w k (.int .u64 (x0 : Int)) (.int .u64 (x1 : Int)) (.int .u64 (x2 : Int)) (.int .u64 (x3 : Int)) (.int .u64 (x4 : Int)) (.int .u64 (x5 : Int)) (.int .u64 (x6 : Int)) (.int .u64 (x7 : Int))) k x0 x1 x2 x3 x4 x5 x6 x7 :=
  (((((((H.set0 x0).set1 x1).set2 x2).set3 x3).set4 x4).set5 x5).set6 x6).set7 x7
theorem At8.other8 {j : Nat} (H : At8 w k a b c d e f g h) (hj : j ≠ k) (x0 x1 x2 x3 x4 x5 x6 x7 : Value) : At8 (set8c w j x0 x1 x2 x3 x4 x5 x6 x7) k a b c d e f g h :=
  (((((((H.other hj x0).other hj x1).other hj x2).other hj x3).other hj x4).other hj x5).other hj x6).other hj x7
theorem At4.other8 {j : Nat} {w : World} {k a b c d : Nat} (H : At4 w k a b c d) (hj : j ≠ k) (x0 x1 x2 x3 x4 x5 x6 x7 : Value) : At4 (set8c w j x0 x1 x2 x3 x4 x5 x6 x7) k a b c d :=
  (((((((H.other hj x0).other hj x1).other hj x2).other hj x3).other hj x4).other hj x5).other hj x6).other hj x7
theorem At8.other4 {j : Nat} (H : At8 w k a b c d e f g h) (hj : j ≠ k) (x y z t : Value) : At8 (Go.Proofs.YtmepmoalhgehhaaGreatDoor.set4 w j x y z t) k a b c d e f g h := (((H.other hj x).other hj y).other hj z).other hj t
theorem below_set8c {B j : Nat} {w0 : World} (H : Below B w0 w) (hj : B ≤ j) (x0 x1 x2 x3 x4 x5 x6 x7 : Value) : Below B w0 (set8c w j x0 x1 x2 x3 x4 x5 x6 x7) :=
  (((((((H.setCell (p := ⟨j, 0, none⟩) hj x0).setCell (p := ⟨j, 1, none⟩) hj x1).setCell (p := ⟨j, 2, none⟩) hj x2).setCell (p := ⟨j, 3, none⟩) hj x3).setCell (p := ⟨j, 4, none⟩) hj x4).setCell (p := ⟨j, 5, none⟩) hj x5).setCell (p := ⟨j, 6, none⟩) hj x6).setCell (p := ⟨j, 7, none⟩) hj x7
theorem belowDrewN {B : Nat} {w0 : World} (H : Below B w0 w) (q : Nat) : Below B w0 (w.drewN q) := ⟨H.os, H.tape, H.output, H.size, H.block⟩
end Go.Proofs.YtmepmoalhgehhaaGreatDoor
namespace Go.Proofs.YtmepmoalhgehhaaGreatDoor
open Go.RowKit Go.Sort
/-- The three words of a prime's gap. -/
structure Gap (g0 g1 g2 P : Nat) : Prop where
  h0 : g0 < 18446744073709551616
  h1 : g1 < 18446744073709551616
  h2 : g2 < 18446744073709551616
  hor : (g1 = 0 ∧ g2 = 0) ∨ ∃ o : Nat, bits .or .u64 (g1 : Int) (g2 : Int) = (o : Int) ∧ o ≠ 0
  hP : P + val g0 g1 g2 0 = top
  hP2 : top < 2 * P
  hg : 0 < val g0 g1 g2 0
theorem blcall {k a b c d : Nat} {w W w1 : World} (h : Hid (Below k w W)) (pr : At4 W k a b c d) (hb : Below W.heap.size W w1) : Hid (Below k w w1) := h.out.trans (hb.mono (Nat.le_of_lt pr.lt))
end Go.Proofs.YtmepmoalhgehhaaGreatDoor
namespace Go.Proofs.YtmepmoalhgehhaaGreatDoor
open Go.RowKit Go.Sort
/-- Four words in a block, from a place on. -/
structure Blk where
  k : Nat
  o : Nat
  a : Nat
  b : Nat
  c : Nat
  d : Nat
structure Blk.at (x : Blk) (w : World) : Prop where
  c0 : w.cell? ⟨x.k, x.o, none⟩ = some (.int .u64 (x.a : Int))
  c1 : w.cell? ⟨x.k, x.o + 1, none⟩ = some (.int .u64 (x.b : Int))
  c2 : w.cell? ⟨x.k, x.o + 2, none⟩ = some (.int .u64 (x.c : Int))
  c3 : w.cell? ⟨x.k, x.o + 3, none⟩ = some (.int .u64 (x.d : Int))
  f : ∀ o, w.frozen? ⟨x.k, o, none⟩ = false
/-- What a walk keeps: nothing below k0 has turned; these words lie in these blocks. -/
structure Kept (w : World) (k0 : Nat) (l : List Blk) (W : World) : Prop where
  bl : Below k0 w W
  le : k0 ≤ W.heap.size
  at' : ∀ x ∈ l, x.at W
variable {w W w1 : World} {k0 : Nat} {l : List Blk} {x : Blk}
theorem Blk.at.lt (h : x.at W) : x.k < W.heap.size := World.block_lt_of_cell? _ _ h.c0
theorem Blk.at.call (h : x.at W) (hb : Below W.heap.size W w1) : x.at w1 :=
  ⟨by rw [hb.cell (p := ⟨x.k, x.o, none⟩) h.lt]; exact h.c0, by rw [hb.cell (p := ⟨x.k, x.o + 1, none⟩) h.lt]; exact h.c1, by rw [hb.cell (p := ⟨x.k, x.o + 2, none⟩) h.lt]; exact h.c2, by rw [hb.cell (p := ⟨x.k, x.o + 3, none⟩) h.lt]; exact h.c3,
    fun o => by rw [hb.frozen (p := ⟨x.k, o, none⟩) h.lt]; exact h.f o⟩
theorem Blk.at.other {j i : Nat} (h : x.at W) (hj : j ≠ x.k) (v : Value) : x.at (W.setCell ⟨j, i, none⟩ v) :=
  ⟨by rw [World.cell?_setCell_other _ _ _ _ (ne_addr (Or.inl hj))]; exact h.c0, by rw [World.cell?_setCell_other _ _ _ _ (ne_addr (Or.inl hj))]; exact h.c1,
   by rw [World.cell?_setCell_other _ _ _ _ (ne_addr (Or.inl hj))]; exact h.c2, by rw [World.cell?_setCell_other _ _ _ _ (ne_addr (Or.inl hj))]; exact h.c3, fun o => by rw [World.frozen?_setCell]; exact h.f o⟩
theorem Kept.call (h : Kept w k0 l W) (hb : Below W.heap.size W w1) : Kept w k0 l w1 :=
  ⟨h.bl.trans (hb.mono h.le), Nat.le_trans h.le hb.size, fun x hx => (h.at' x hx).call hb⟩
theorem Kept.drew (h : Kept w k0 l W) : Kept w k0 l W.drew := ⟨h.bl.drew, h.le, fun x hx => ⟨(h.at' x hx).c0, (h.at' x hx).c1, (h.at' x hx).c2, (h.at' x hx).c3, (h.at' x hx).f⟩⟩
theorem Kept.undrew (h : Kept w k0 l W.drew) : Kept w k0 l W :=
  ⟨⟨h.bl.os, h.bl.tape, h.bl.output, h.bl.size, h.bl.block⟩, h.le, fun x hx => ⟨(h.at' x hx).c0, (h.at' x hx).c1, (h.at' x hx).c2, (h.at' x hx).c3, (h.at' x hx).f⟩⟩
theorem Kept.alloc (h : Kept w k0 l W) (o : Obj) : Kept w k0 l (W.alloc o) := h.call (below1 W o)
theorem Kept.set {j i : Nat} (h : Kept w k0 l W) (hj : k0 ≤ j) (hl : ∀ x ∈ l, j ≠ x.k) (v : Value) : Kept w k0 l (W.setCell ⟨j, i, none⟩ v) :=
  ⟨h.bl.setCell (p := ⟨j, i, none⟩) hj v, by simpa using h.le, fun x hx => (h.at' x hx).other (hl x hx) v⟩
theorem Kept.set4 {j : Nat} (h : Kept w k0 l W) (hj : k0 ≤ j) (hl : ∀ x ∈ l, j ≠ x.k) (p q r s : Value) : Kept w k0 l (Go.Proofs.YtmepmoalhgehhaaGreatDoor.set4 W j p q r s) :=
  (((h.set hj hl p).set hj hl q).set hj hl r).set hj hl s
theorem Kept.set4' {j : Nat} (h : Kept w k0 l W) (hj : k0 ≤ j) (hl : ∀ x ∈ l, j ≠ x.k) (p q r s : Value) :
    Kept w k0 l ((((W.setCell ⟨j, 0, none⟩ p).setCell ⟨j, 1, none⟩ q).setCell ⟨j, 2, none⟩ r).setCell ⟨j, 3, none⟩ s) := h.set4 hj hl p q r s
theorem Kept.lts (h : Kept w k0 l W) : ∀ x ∈ l, x.k < W.heap.size := fun x hx => (h.at' x hx).lt
theorem Kept.head (h : Kept w k0 (x :: l) W) : x.at W := h.at' x (List.mem_cons_self)
theorem Kept.tail (h : Kept w k0 (x :: l) W) : Kept w k0 l W := ⟨h.bl, h.le, fun y hy => h.at' y (List.mem_cons_of_mem _ hy)⟩
theorem At4.blk {k a b c d : Nat} (h : At4 W k a b c d) : (Blk.mk k 0 a b c d).at W := ⟨h.c0, h.c1, h.c2, h.c3, h.f⟩
theorem Blk.at.at4 {k a b c d : Nat} (h : (Blk.mk k 0 a b c d).at W) : At4 W k a b c d := ⟨h.c0, h.c1, h.c2, h.c3, h.f⟩
theorem Kept.mk1 (hb : Below k0 w W) (hl : k0 ≤ W.heap.size) : Kept w k0 [] W := ⟨hb, hl, fun _ h => by cases h⟩
theorem Kept.cons (h : Kept w k0 l W) (hx : x.at W) : Kept w k0 (x :: l) W :=
  ⟨h.bl, h.le, fun y hy => by rcases List.mem_cons.1 hy with rfl | h2; exact hx; exact h.at' y h2⟩
theorem Kept.put {j a b c d : Nat} (h : Kept w k0 (⟨j, 0, a, b, c, d⟩ :: l) W) (hj : k0 ≤ j) (hl : ∀ x ∈ l, j ≠ x.k) (x y z t : Nat) :
    Kept w k0 (⟨j, 0, x, y, z, t⟩ :: l) ((((W.setCell ⟨j, 0, none⟩ (.int .u64 (x : Int))).setCell ⟨j, 1, none⟩ (.int .u64 (y : Int))).setCell ⟨j, 2, none⟩ (.int .u64 (z : Int))).setCell ⟨j, 3, none⟩ (.int .u64 (t : Int))) :=
  (h.tail.set4' hj hl _ _ _ _).cons (h.head.at4.self4 x y z t).blk
/-- A block of one's own, made last, may hold what it will. -/
theorem Kept.again {o o' : Obj} (h : Kept w k0 l (W.alloc o)) (hk : k0 ≤ W.heap.size) (hl : ∀ x ∈ l, x.k < W.heap.size) : Kept w k0 l (W.alloc o') := by
  have hcell : ∀ (x : Blk), x.k < W.heap.size → ∀ i, (W.alloc o').cell? ⟨x.k, i, none⟩ = (W.alloc o).cell? ⟨x.k, i, none⟩ := fun x hx i => by
    rw [World.cell?_alloc_lt (h := hx), World.cell?_alloc_lt (h := hx)]
  have hb : Below k0 (W.alloc o) (W.alloc o') := ⟨rfl, rfl, rfl, by simp, fun k hkk => by rw [Below.heap_alloc _ _ _ (by omega), Below.heap_alloc _ _ _ (by omega)]⟩
  refine ⟨h.bl.trans hb, by simp; omega, fun x hx => ?_⟩
  have := h.at' x hx
  have hlt := hl x hx
  refine ⟨by rw [hcell x hlt]; exact this.c0, by rw [hcell x hlt]; exact this.c1, by rw [hcell x hlt]; exact this.c2, by rw [hcell x hlt]; exact this.c3, fun i => ?_⟩
  rw [World.frozen?_alloc_old _ _ _ (by show x.k ≠ _; omega), ← World.frozen?_alloc_old W o ⟨x.k, i, none⟩ (by show x.k ≠ _; omega)]
  exact this.f i
end Go.Proofs.YtmepmoalhgehhaaGreatDoor
namespace Go.Proofs.YtmepmoalhgehhaaGreatDoor
open Go.RowKit Go.Sort
/-- Three arguments and a result, each in a block of its own. -/
theorem kept4 (w : World) (t0 t1 t2 t3 : TypeId) (a b c d e f g h i j k l m n o p : Nat) :
    Kept w w.heap.size [⟨w.heap.size, 0, a, b, c, d⟩, ⟨w.heap.size + 1, 0, e, f, g, h⟩, ⟨w.heap.size + 1 + 1, 0, i, j, k, l⟩, ⟨w.heap.size + 1 + 1 + 1, 0, m, n, o, p⟩]
      ((((w.alloc (.cells #[.int .u64 (a : Int), .int .u64 (b : Int), .int .u64 (c : Int), .int .u64 (d : Int)] t0)).alloc (.cells #[.int .u64 (e : Int), .int .u64 (f : Int), .int .u64 (g : Int), .int .u64 (h : Int)] t1)).alloc (.cells #[.int .u64 (i : Int), .int .u64 (j : Int), .int .u64 (k : Int), .int .u64 (l : Int)] t2)).alloc (.cells #[.int .u64 (m : Int), .int .u64 (n : Int), .int .u64 (o : Int), .int .u64 (p : Int)] t3)) := by
  refine ((((Kept.mk1 (below4 w _ _ _ _) (below4 w _ _ _ _).size).cons ?_).cons ?_).cons ?_).cons ?_
  · exact (At4.made _ t3 m n o p (by simp)).blk
  · exact ((At4.made _ t2 i j k l (by simp)).alloc _).blk
  · exact (((At4.made _ t1 e f g h (by simp)).alloc _).alloc _).blk
  · exact ((((At4.made _ t0 a b c d rfl).alloc _).alloc _).alloc _).blk
theorem plus_lo {g0 g1 g2 P m n s l : Nat} (hG : Gap g0 g1 g2 P) (h1 : s + top * 0 = m + n) (h2 : l + top * 0 = s + val g0 g1 g2 0) (hl : l < top) : (m + n) % P = s := by
  have := hG.hP
  rw [← h1, Nat.mul_zero, Nat.add_zero, Nat.mod_eq_of_lt (by omega)]
theorem plus_hi {g0 g1 g2 P m n s l k j : Nat} (hG : Gap g0 g1 g2 P) (hm : m < P) (hn : n < P) (h1 : s + top * k = m + n) (h2 : l + top * j = s + val g0 g1 g2 0) (hk : k ≤ 1) (hj : j ≤ 1) (hz : ¬ (k = 0 ∧ j = 0)) (hs : s < top) (_ : l < top) : (m + n) % P = l := by
  have h3 := hG.hP
  have h4 := hG.hP2
  have hk' : k = 0 ∨ k = 1 := by omega
  have hj' : j = 0 ∨ j = 1 := by omega
  have : m + n = l + P := by
    rcases hk' with h | h <;> rcases hj' with h' | h' <;> rw [h] at h1 <;> rw [h'] at h2 <;> first | omega | (exfalso; exact hz ⟨h, h'⟩)
  rw [this, Nat.add_mod_right, Nat.mod_eq_of_lt (by omega)]
theorem or2 (a b : Nat) (ha : a ≤ 1) (hb : b ≤ 1) : ∃ o : Nat, bits .or .u64 (a : Int) (b : Int) = (o : Int) ∧ (o = 0 ↔ (a = 0 ∧ b = 0)) := by
  have h1 : a = 0 ∨ a = 1 := by omega
  have h2 : b = 0 ∨ b = 1 := by omega
  rcases h1 with rfl | rfl <;> rcases h2 with rfl | rfl
  · exact ⟨0, by decide +kernel, by decide⟩
  · exact ⟨1, by decide +kernel, by decide⟩
  · exact ⟨1, by decide +kernel, by decide⟩
  · exact ⟨1, by decide +kernel, by decide⟩
theorem minus_lo {P m n s : Nat} (hm : m < P) (hn : n < P) (h1 : s + n = m + top * 0) : (m + P - n) % P = s := by
  rw [show m + P - n = s + P by omega, Nat.add_mod_right, Nat.mod_eq_of_lt (by omega)]
theorem minus_hi {g0 g1 g2 P m n s l j : Nat} (hG : Gap g0 g1 g2 P) (_ : m < P) (hn : n < P) (h1 : s + n = m + top * 1) (h2 : l + val g0 g1 g2 0 = s + top * j) (hj : j ≤ 1) (hl : l < top) (hs : s < top) : (m + P - n) % P = l := by
  have h3 := hG.hP
  have hj' : j = 0 ∨ j = 1 := by omega
  have : m + P - n = l := by
    rcases hj' with h' | h' <;> rw [h'] at h2 <;> omega
  rw [this, Nat.mod_eq_of_lt (by omega)]
set_option maxHeartbeats 4000000 in
set_option maxRecDepth 100000 in
theorem sum_any (g0 g1 g2 P : Nat) (x y : Value) (m n : Nat) (hG : Gap g0 g1 g2 P) (hx : Four x m) (hy : Four y n) (hm : m < P) (hn : n < P) (w : World) :
    Calls Tryz.prog 108 #[.agg #[.int .u64 (g0 : Int), .int .u64 (g1 : Int), .int .u64 (g2 : Int), .int .u64 0], x, y] w (Ret fun e w' => Below w.heap.size w w' ∧ Four e ((m + n) % P)) := by
  obtain ⟨a, b, c, d, rfl, ha, hb, hc, hd, em⟩ := id hx
  obtain ⟨p, q, r, s, rfl, hp, hq, hr, hs, en⟩ := id hy
  clear em en ha hb hc hd hp hq hr hs
  go_enter Tryz.func108, Tryz.ntmps108
  go_wp2_with fail
  have KP := kept4 w 138 136 136 136 g0 g1 g2 0 a b c d p q r s 0 0 0 0
  simp only [Int.natCast_zero] at KP
  generalize World.alloc _ _ = W0 at KP ⊢
  generalize h3 : w.heap.size + 1 + 1 + 1 = k3 at KP ⊢
  generalize h2 : w.heap.size + 1 + 1 = k2 at KP ⊢
  generalize h1 : w.heap.size + 1 = k1 at KP ⊢
  have Q3 : Hid (w.heap.size ≤ k3) := by unfold Hid; omega
  generalize h0 : w.heap.size = k0 at KP Q3 ⊢
  have H0 : Hid (w.heap.size = k0) := h0
  have n03 : k0 ≠ k3 := by omega
  clear h0 h1 h2 h3
  refine (plus_any _ _ _ _ hx hy _).mono ?_
  rintro e w1 ⟨v, rfl, hb1, v2, t, k, rfl, ⟨a1, b1, c1, d1, rfl, ha1, hb1', hc1, hd1, es⟩, hk, he⟩
  have HE : Hid (val a1 b1 c1 d1 + top * k = m + n) := by unfold Hid; rw [← es]; exact he
  clear es he
  replace KP := KP.call hb1
  clear hb1
  have KP4 := (KP.alloc (.cells #[.int .u64 (a1 : Int), .int .u64 (b1 : Int), .int .u64 (c1 : Int), .int .u64 (d1 : Int)] 136)).cons (At4.made w1 136 a1 b1 c1 d1 rfl).blk
  have m0 : k0 ≠ w1.heap.size := Nat.ne_of_lt KP.head.lt
  have m3 : k3 ≠ w1.heap.size := Nat.ne_of_lt KP.tail.tail.tail.head.lt
  clear KP
  obtain ⟨pc0, pc1, pc2, pc3, pf⟩ := KP4.tail.head.at4
  have z0 := KP4.tail.head.lt
  go_wp2_with fail
  generalize World.alloc _ _ = W1 at KP4 z0 pc0 pc1 pc2 pc3 pf ⊢
  refine (plus_any _ _ _ _ (Four.mk ha1 hb1' hc1 hd1 rfl) (Four.mk hG.h0 hG.h1 hG.h2 (by decide) rfl) _).mono ?_
  rintro e w2 ⟨v, rfl, hb2, v3, t2, j, rfl, ⟨a2, b2, c2, d2, rfl, ha2, hb2', hc2, hd2, es⟩, hj, he⟩
  have HE2 : Hid (val a2 b2 c2 d2 + top * j = val a1 b1 c1 d1 + val g0 g1 g2 0) := by unfold Hid; rw [← es]; exact he
  clear es he pc0 pc1 pc2 pc3 pf z0
  replace KP4 := KP4.call hb2
  clear hb2
  have HG : Hid (Gap g0 g1 g2 P) := hG
  have HM : Hid (m < P ∧ n < P) := ⟨hm, hn⟩
  clear hG hm hn hx hy m0 n03
  generalize w1.heap.size = k4 at KP4 m3 ⊢
  obtain ⟨sc0, sc1, sc2, sc3, sf⟩ := KP4.head.at4
  obtain ⟨rc0, rc1, rc2, rc3, rf⟩ := KP4.tail.tail.tail.tail.head.at4
  have z4 := KP4.head.lt
  have z3 := KP4.tail.tail.tail.tail.head.lt
  obtain ⟨o, ho, hoz⟩ := or2 k j hk hj
  by_cases hz : k = 0 ∧ j = 0
  · obtain ⟨rfl, rfl⟩ := hz
    obtain rfl : o = 0 := hoz.2 ⟨rfl, rfl⟩
    clear hoz
    replace ho : bits .or .u64 0 0 = 0 := ho
    go_wp2
    have RF := (KP4.tail.tail.tail.tail.head.at4.self4 a1 b1 c1 d1).alloc (.cells #[.int .u64 (a2 : Int), .int .u64 (b2 : Int), .int .u64 (c2 : Int), .int .u64 (d2 : Int)] 136)
    unfold set4 at RF
    refine bodyPost_ret (v := ?v0) ?hr0 rfl ?hR0
    case hr0 => simp [results, Tryz.results108, go_sem, RF.c0, RF.c1, RF.c2, RF.c3]; rfl
    refine ⟨_, rfl, ?_, Four.mk ha1 hb1' hc1 hd1 (plus_lo HG.out HE.out HE2.out (val_lt ha2 hb2' hc2 hd2))⟩
    rw [H0.out]
    exact (below_set4 KP4.bl Q3.out _ _ _ _).alloc (by simpa [set4] using KP4.le) _
  · have ho0 : ¬ o = 0 := fun h => hz (hoz.1 h)
    clear hoz
    go_wp2
    have RF := (KP4.tail.tail.tail.tail.head.at4.self4 a2 b2 c2 d2).alloc (.cells #[.int .u64 (a2 : Int), .int .u64 (b2 : Int), .int .u64 (c2 : Int), .int .u64 (d2 : Int)] 136)
    unfold set4 at RF
    refine bodyPost_ret (v := ?v1) ?hr1 rfl ?hR1
    case hr1 => simp [results, Tryz.results108, go_sem, RF.c0, RF.c1, RF.c2, RF.c3]; rfl
    refine ⟨_, rfl, ?_, Four.mk ha2 hb2' hc2 hd2 (plus_hi HG.out HM.out.1 HM.out.2 HE.out HE2.out hk hj hz (val_lt ha1 hb1' hc1 hd1) (val_lt ha2 hb2' hc2 hd2))⟩
    rw [H0.out]
    exact (below_set4 KP4.bl Q3.out _ _ _ _).alloc (by simpa [set4] using KP4.le) _
set_option maxHeartbeats 4000000 in
set_option maxRecDepth 100000 in
theorem difference_any (g0 g1 g2 P : Nat) (x y : Value) (m n : Nat) (hG : Gap g0 g1 g2 P) (hx : Four x m) (hy : Four y n) (hm : m < P) (hn : n < P) (w : World) :
    Calls Tryz.prog 143 #[.agg #[.int .u64 (g0 : Int), .int .u64 (g1 : Int), .int .u64 (g2 : Int), .int .u64 0], x, y] w (Ret fun e w' => Below w.heap.size w w' ∧ Four e ((m + P - n) % P)) := by
  obtain ⟨a, b, c, d, rfl, ha, hb, hc, hd, em⟩ := id hx
  obtain ⟨p, q, r, s, rfl, hp, hq, hr, hs, en⟩ := id hy
  clear em en ha hb hc hd hp hq hr hs
  go_enter Tryz.func143, Tryz.ntmps143
  go_wp2_with fail
  have KP := kept4 w 138 136 136 136 g0 g1 g2 0 a b c d p q r s 0 0 0 0
  simp only [Int.natCast_zero] at KP
  generalize World.alloc _ _ = W0 at KP ⊢
  generalize h3 : w.heap.size + 1 + 1 + 1 = k3 at KP ⊢
  generalize h2 : w.heap.size + 1 + 1 = k2 at KP ⊢
  generalize h1 : w.heap.size + 1 = k1 at KP ⊢
  have Q3 : Hid (w.heap.size ≤ k3) := by unfold Hid; omega
  generalize h0 : w.heap.size = k0 at KP Q3 ⊢
  have H0 : Hid (w.heap.size = k0) := h0
  have n03 : k0 ≠ k3 := by omega
  clear h0 h1 h2 h3
  refine (minus_any _ _ _ _ hx hy _).mono ?_
  rintro e w1 ⟨v, rfl, hb1, v2, t, k, rfl, ⟨a1, b1, c1, d1, rfl, ha1, hb1', hc1, hd1, es⟩, hk, he⟩
  have HE : Hid (val a1 b1 c1 d1 + n = m + top * k) := by unfold Hid; rw [← es]; exact he
  clear es he
  replace KP := KP.call hb1
  clear hb1
  have KP4 := (KP.alloc (.cells #[.int .u64 (a1 : Int), .int .u64 (b1 : Int), .int .u64 (c1 : Int), .int .u64 (d1 : Int)] 136)).cons (At4.made w1 136 a1 b1 c1 d1 rfl).blk
  have m0 : k0 ≠ w1.heap.size := Nat.ne_of_lt KP.head.lt
  have m3 : k3 ≠ w1.heap.size := Nat.ne_of_lt KP.tail.tail.tail.head.lt
  have HG : Hid (Gap g0 g1 g2 P) := hG
  have HM : Hid (m < P ∧ n < P) := ⟨hm, hn⟩
  have Q4 : Hid (k0 ≤ w1.heap.size) := KP.le
  clear hG hm hn hx hy
  have hk' : k = 0 ∨ k = 1 := by omega
  obtain ⟨rc0, rc1, rc2, rc3, rf⟩ := KP.tail.tail.tail.head.at4
  have z3 := KP.tail.tail.tail.head.lt
  rcases hk' with rfl | rfl
  · clear KP4
    go_wp2
    have RF := (KP.tail.tail.tail.head.at4.self4 a1 b1 c1 d1).alloc (.cells #[.int .u64 (a1 : Int), .int .u64 (b1 : Int), .int .u64 (c1 : Int), .int .u64 (d1 : Int)] 136)
    unfold set4 at RF
    refine bodyPost_ret (v := ?v0) ?hr0 rfl ?hR0
    case hr0 => simp [results, Tryz.results143, go_sem, RF.c0, RF.c1, RF.c2, RF.c3]; rfl
    refine ⟨_, rfl, ?_, Four.mk ha1 hb1' hc1 hd1 (minus_lo HM.out.1 HM.out.2 HE.out)⟩
    rw [H0.out]
    exact (below_set4 KP.bl Q3.out _ _ _ _).alloc (by simpa [set4] using KP.le) _
  · clear KP rc0 rc1 rc2 rc3 rf z3
    obtain ⟨pc0, pc1, pc2, pc3, pf⟩ := KP4.tail.head.at4
    have z0 := KP4.tail.head.lt
    go_wp2_with fail
    generalize World.alloc _ _ = W1 at KP4 z0 pc0 pc1 pc2 pc3 pf ⊢
    refine (minus_any _ _ _ _ (Four.mk ha1 hb1' hc1 hd1 rfl) (Four.mk HG.out.h0 HG.out.h1 HG.out.h2 (by decide) rfl) _).mono ?_
    rintro e w2 ⟨v, rfl, hb2, v3, t2, j, rfl, ⟨a2, b2, c2, d2, rfl, ha2, hb2', hc2, hd2, es⟩, hj, he⟩
    have HE2 : Hid (val a2 b2 c2 d2 + val g0 g1 g2 0 = val a1 b1 c1 d1 + top * j) := by unfold Hid; rw [← es]; exact he
    clear es he pc0 pc1 pc2 pc3 pf z0
    replace KP4 := KP4.call hb2
    clear hb2
    generalize w1.heap.size = k4 at KP4 m0 m3 Q4 ⊢
    obtain ⟨sc0, sc1, sc2, sc3, sf⟩ := KP4.head.at4
    obtain ⟨rc0, rc1, rc2, rc3, rf⟩ := KP4.tail.tail.tail.tail.head.at4
    have z4 := KP4.head.lt
    have z3 := KP4.tail.tail.tail.tail.head.lt
    go_wp2
    have RF := (KP4.tail.tail.tail.tail.head.at4.other4 m3.symm (.int .u64 (a2 : Int)) (.int .u64 (b2 : Int)) (.int .u64 (c2 : Int)) (.int .u64 (d2 : Int))).self4 a2 b2 c2 d2
    unfold set4 at RF
    refine bodyPost_ret (v := ?v1) ?hr1 rfl ?hR1
    case hr1 => simp [results, Tryz.results143, go_sem, RF.c0, RF.c1, RF.c2, RF.c3]; rfl
    refine ⟨_, rfl, ?_, Four.mk ha2 hb2' hc2 hd2 (minus_hi HG.out HM.out.1 HM.out.2 HE.out HE2.out hj (val_lt ha2 hb2' hc2 hd2) (val_lt ha1 hb1' hc1 hd1))⟩
    rw [H0.out]
    exact below_set4 (below_set4 KP4.bl Q4.out _ _ _ _) Q3.out _ _ _ _
end Go.Proofs.YtmepmoalhgehhaaGreatDoor
namespace Go.Proofs.YtmepmoalhgehhaaGreatDoor
open Go.RowKit Go.Sort
theorem rows_sum {a b c d n m r0 s0 t0 u0 y0 y1 y2 y3 : Nat} (em : m = val a b c d)
    (e0 : r0 + 18446744073709551616 * y0 = a * n + val 0 0 0 0)
    (e1 : s0 + 18446744073709551616 * y1 = b * n + y0)
    (e2 : t0 + 18446744073709551616 * y2 = c * n + y1)
    (e3 : u0 + 18446744073709551616 * y3 = d * n + y2) :
    val r0 s0 t0 u0 + top * y3 = m * n := by
  have hm : val a b c d * n = val (a * n) (b * n) (c * n) (d * n) := by
    rw [Nat.mul_comm, mul_val, Nat.mul_comm n a, Nat.mul_comm n b, Nat.mul_comm n c, Nat.mul_comm n d]
  rw [em, hm]
  generalize a * n = x0 at *
  generalize b * n = x1 at *
  generalize c * n = x2 at *
  generalize d * n = x3 at *
  unfold val at *
  unfold top
  omega
set_option maxHeartbeats 4000000 in
set_option maxRecDepth 100000 in
theorem product_any (g0 g1 g2 P : Nat) (x y : Value) (m n : Nat) (hG : Gap g0 g1 g2 P) (hx : Four x m) (hy : Four y n) (w : World) :
    Calls Tryz.prog 142 #[.agg #[.int .u64 (g0 : Int), .int .u64 (g1 : Int), .int .u64 (g2 : Int), .int .u64 0], x, y] w (Ret fun e w' => Below w.heap.size w w' ∧ Four e (m * n % P)) := by
  obtain ⟨a, b, c, d, rfl, ha, hb, hc, hd, em⟩ := hx
  obtain ⟨p, q, r, s, rfl, hp, hq, hr, hs, en⟩ := id hy
  have HM : Hid (m = val a b c d) := em
  clear em en
  go_enter Tryz.func142, Tryz.ntmps142
  go_wp2_with fail
  have KP := kept4 w 138 136 136 136 g0 g1 g2 0 a b c d p q r s 0 0 0 0
  simp only [Int.natCast_zero] at KP
  have PR := KP.head.at4
  have X := KP.tail.head.at4
  have Y := KP.tail.tail.head.at4
  have RE := KP.tail.tail.tail.head.at4
  have BL : Hid (Below w.heap.size w _) := KP.bl
  clear KP
  generalize World.alloc _ _ = w1 at X Y PR RE BL ⊢
  generalize h3 : w.heap.size + 1 + 1 + 1 = k3 at RE ⊢
  generalize h2 : w.heap.size + 1 + 1 = k4 at Y ⊢
  generalize h1 : w.heap.size + 1 = k1 at X ⊢
  have Q3 : Hid (w.heap.size ≤ k3) := by unfold Hid; omega
  generalize h0 : w.heap.size = k0 at PR BL Q3 ⊢
  have n03 : k0 ≠ k3 := by omega
  have n13 : k1 ≠ k3 := by omega
  have H0 : Hid (w.heap.size = k0) := h0
  clear h0 h1 h2 h3
  refine (row_any a _ _ _ _ ha hy (Four.mk (a := 0) (b := 0) (c := 0) (d := 0) (by decide) (by decide) (by decide) (by decide) rfl) _).mono ?_
  rintro e w2 ⟨v, rfl, hb2, l0, v2, t0, rfl, hl0, ⟨a0, b0, c0, d0, rfl, ha0, hb0, hc0, hd0, es⟩, he⟩
  have HQ0 : Hid (l0 + 18446744073709551616 * val a0 b0 c0 d0 = a * n + val 0 0 0 0) := by unfold Hid; rw [← es]; exact he
  clear he es
  replace BL : Hid (Below k0 w w2) := blcall BL PR hb2
  replace X := X.call hb2
  replace Y := Y.call hb2
  replace RE := RE.call hb2
  replace PR := PR.call hb2
  clear hb2
  obtain ⟨xc0, xc1, xc2, xc3, xf⟩ := id X
  have z1 := X.lt
  obtain ⟨yc0, yc1, yc2, yc3, yf⟩ := id Y
  have z4 := Y.lt
  obtain ⟨rc0, rc1, rc2, rc3, rf⟩ := id RE
  have z3 := RE.lt
  obtain ⟨pc0, pc1, pc2, pc3, pf⟩ := id PR
  have z0 := PR.lt
  go_wp2_with fail
  refine (row_any b _ _ _ _ hb hy (Four.mk ha0 hb0 hc0 hd0 rfl) _).mono ?_
  rintro e w3 ⟨v, rfl, hb3, l1, v3, t1, rfl, hl1, ⟨a1, b1, c1, d1, rfl, ha1, hb1, hc1, hd1, es⟩, he⟩
  clear xc0 xc1 xc2 xc3 xf z1 yc0 yc1 yc2 yc3 yf z4 rc0 rc1 rc2 rc3 rf z3 pc0 pc1 pc2 pc3 pf z0
  have HQ1 : Hid (l1 + 18446744073709551616 * val a1 b1 c1 d1 = b * n + val a0 b0 c0 d0) := by unfold Hid; rw [← es]; exact he
  clear he es
  have j0 : k0 ≠ w2.heap.size := Nat.ne_of_lt PR.lt
  have j1 : k1 ≠ w2.heap.size := Nat.ne_of_lt X.lt
  have j3 : k3 ≠ w2.heap.size := Nat.ne_of_lt RE.lt
  have j4 : k4 ≠ w2.heap.size := Nat.ne_of_lt Y.lt
  have J0 : Hid (k0 ≤ w2.heap.size) := Nat.le_of_lt PR.lt
  have T := (At4.made w2 136 a0 b0 c0 d0 rfl).call hb3
  replace BL : Hid (Below k0 w w3) := blcall (W := w2.alloc (.cells #[.int .u64 (a0 : Int), .int .u64 (b0 : Int), .int .u64 (c0 : Int), .int .u64 (d0 : Int)] 136)) (BL.out.alloc (Nat.le_of_lt PR.lt) _) (PR.alloc _) hb3
  replace X := (X.alloc _).call hb3
  replace Y := (Y.alloc _).call hb3
  replace RE := (RE.alloc _).call hb3
  replace PR := (PR.alloc _).call hb3
  clear hb3
  generalize w2.heap.size = k5 at T j0 j1 j3 j4 J0 ⊢
  obtain ⟨xc0, xc1, xc2, xc3, xf⟩ := id X
  have z1 := X.lt
  obtain ⟨yc0, yc1, yc2, yc3, yf⟩ := id Y
  have z4 := Y.lt
  obtain ⟨rc0, rc1, rc2, rc3, rf⟩ := id RE
  have z3 := RE.lt
  obtain ⟨pc0, pc1, pc2, pc3, pf⟩ := id PR
  have z0 := PR.lt
  obtain ⟨tc0, tc1, tc2, tc3, tf⟩ := id T
  have z5 := T.lt
  go_wp2_with fail
  refine (row_any c _ _ _ _ hc hy (Four.mk ha1 hb1 hc1 hd1 rfl) _).mono ?_
  rintro e w4 ⟨v, rfl, hbb, l2, v4, t4, rfl, hl2, ⟨a2, b2, c2, d2, rfl, ha2, hb2, hc2, hd2, es⟩, he⟩
  clear xc0 xc1 xc2 xc3 xf z1 yc0 yc1 yc2 yc3 yf z4 rc0 rc1 rc2 rc3 rf z3 pc0 pc1 pc2 pc3 pf z0 tc0 tc1 tc2 tc3 tf z5
  have HQ2 : Hid (l2 + 18446744073709551616 * val a2 b2 c2 d2 = c * n + val a1 b1 c1 d1) := by unfold Hid; rw [← es]; exact he
  clear he es
  replace BL : Hid (Below k0 w w4) := blcall (below_set4 BL.out J0.out _ _ _ _) (PR.other4 j0.symm _ _ _ _) hbb
  replace X := (X.other4 j1.symm _ _ _ _).call hbb
  replace Y := (Y.other4 j4.symm _ _ _ _).call hbb
  replace RE := (RE.other4 j3.symm _ _ _ _).call hbb
  replace PR := (PR.other4 j0.symm _ _ _ _).call hbb
  replace T := (T.self4 a1 b1 c1 d1).call hbb
  clear hbb
  obtain ⟨xc0, xc1, xc2, xc3, xf⟩ := id X
  have z1 := X.lt
  obtain ⟨yc0, yc1, yc2, yc3, yf⟩ := id Y
  have z4 := Y.lt
  obtain ⟨rc0, rc1, rc2, rc3, rf⟩ := id RE
  have z3 := RE.lt
  obtain ⟨pc0, pc1, pc2, pc3, pf⟩ := id PR
  have z0 := PR.lt
  obtain ⟨tc0, tc1, tc2, tc3, tf⟩ := id T
  have z5 := T.lt
  go_wp2_with fail
  refine (row_any d _ _ _ _ hd hy (Four.mk ha2 hb2 hc2 hd2 rfl) _).mono ?_
  rintro e w5 ⟨v, rfl, hbb, l3, v4, t4, rfl, hl3, ⟨a3, b3, c3, d3, rfl, ha3, hb3, hc3, hd3, es⟩, he⟩
  clear xc0 xc1 xc2 xc3 xf z1 yc0 yc1 yc2 yc3 yf z4 rc0 rc1 rc2 rc3 rf z3 pc0 pc1 pc2 pc3 pf z0 tc0 tc1 tc2 tc3 tf z5
  have HQ3 : Hid (l3 + 18446744073709551616 * val a3 b3 c3 d3 = d * n + val a2 b2 c2 d2) := by unfold Hid; rw [← es]; exact he
  clear he es
  replace BL : Hid (Below k0 w w5) := blcall (below_set4 BL.out J0.out _ _ _ _) (PR.other4 j0.symm _ _ _ _) hbb
  replace X := (X.other4 j1.symm _ _ _ _).call hbb
  replace Y := (Y.other4 j4.symm _ _ _ _).call hbb
  replace RE := (RE.other4 j3.symm _ _ _ _).call hbb
  replace PR := (PR.other4 j0.symm _ _ _ _).call hbb
  replace T := (T.self4 a2 b2 c2 d2).call hbb
  clear hbb
  obtain ⟨rc0, rc1, rc2, rc3, rf⟩ := id RE
  have z3 := RE.lt
  obtain ⟨pc0, pc1, pc2, pc3, pf⟩ := id PR
  have z0 := PR.lt
  obtain ⟨tc0, tc1, tc2, tc3, tf⟩ := id T
  have z5 := T.lt
  go_wp2_with fail
  refine (fold_any g0 g1 g2 _ _ _ _ P hG.h0 hG.h1 hG.h2 hG.hor hG.hP hG.hP2 (Four.mk hl0 hl1 hl2 hl3 rfl) (Four.mk ha3 hb3 hc3 hd3 rfl) _).mono ?_
  rintro e w6 ⟨v, rfl, hbb, hv⟩
  rw [rows_sum HM.out HQ0.out HQ1.out HQ2.out HQ3.out] at hv
  clear rc0 rc1 rc2 rc3 rf z3 pc0 pc1 pc2 pc3 pf z0 tc0 tc1 tc2 tc3 tf z5
  replace BL : Hid (Below k0 w w6) := blcall (below_set4 BL.out J0.out _ _ _ _) (PR.other4 j0.symm _ _ _ _) hbb
  replace RE := (RE.other4 j3.symm _ _ _ _).call hbb
  replace PR := (PR.other4 j0.symm _ _ _ _).call hbb
  clear hbb T X Y HQ0 HQ1 HQ2 HQ3 HM
  obtain ⟨a7, b7, c7, d7, rfl, ha7, hb7, hc7, hd7, hv7⟩ := id hv
  have HV : Hid (Four _ _) := hv
  clear hv hv7
  obtain ⟨rc0, rc1, rc2, rc3, rf⟩ := id RE
  have z3 := RE.lt
  go_wp2
  have RF := RE.self4 a7 b7 c7 d7
  unfold set4 at RF
  refine bodyPost_ret (v := ?v) ?hr rfl ?hR
  case hr => simp [results, Tryz.results142, go_sem, RF.c0, RF.c1, RF.c2, RF.c3]; rfl
  refine ⟨_, rfl, ?_, HV.out⟩
  rw [H0.out]
  exact below_set4 BL.out Q3.out _ _ _ _
end Go.Proofs.YtmepmoalhgehhaaGreatDoor
namespace Go.Proofs.YtmepmoalhgehhaaGreatDoor
open Go.RowKit Go.Sort
theorem wrS_of {w W : World} {k0 k1 k2 a b c d p q r s g0 g1 g2 : Nat} (h : Kept w k0 [⟨k0, 0, g0, g1, g2, 0⟩, ⟨k1, 0, a, b, c, d⟩, ⟨k2, 0, p, q, r, s⟩] W) : W.cell? ⟨k0, 0, none⟩ = some (.int .u64 (g0 : Int)) ∧ W.cell? ⟨k0, 1, none⟩ = some (.int .u64 (g1 : Int)) ∧ W.cell? ⟨k0, 2, none⟩ = some (.int .u64 (g2 : Int)) ∧ W.cell? ⟨k0, 3, none⟩ = some (.int .u64 0) ∧ W.cell? ⟨k1, 0, none⟩ = some (.int .u64 (a : Int)) ∧ W.cell? ⟨k1, 1, none⟩ = some (.int .u64 (b : Int)) ∧ W.cell? ⟨k1, 2, none⟩ = some (.int .u64 (c : Int)) ∧ W.cell? ⟨k1, 3, none⟩ = some (.int .u64 (d : Int)) ∧ W.cell? ⟨k2, 0, none⟩ = some (.int .u64 (p : Int)) ∧ W.cell? ⟨k2, 1, none⟩ = some (.int .u64 (q : Int)) ∧ W.cell? ⟨k2, 2, none⟩ = some (.int .u64 (r : Int)) ∧ W.cell? ⟨k2, 3, none⟩ = some (.int .u64 (s : Int)) ∧ Kept w k0 [⟨k0, 0, g0, g1, g2, 0⟩, ⟨k1, 0, a, b, c, d⟩, ⟨k2, 0, p, q, r, s⟩] W :=
  ⟨h.head.c0, h.head.c1, h.head.c2, h.head.c3, h.tail.head.c0, h.tail.head.c1, h.tail.head.c2, h.tail.head.c3, h.tail.tail.head.c0, h.tail.tail.head.c1, h.tail.tail.head.c2, h.tail.tail.head.c3, h⟩
set_option maxHeartbeats 4000000 in
set_option maxRecDepth 100000 in
theorem three_any (g0 g1 g2 : Nat) (x y : Value) (m n R : Nat) (hx : Four x m) (hy : Four y n) (w : World) : ((∀ w, Calls Tryz.prog 108 #[.agg #[.int .u64 (g0 : Int), .int .u64 (g1 : Int), .int .u64 (g2 : Int), .int .u64 0], x, y] w (Ret fun e w' => Below w.heap.size w w' ∧ Four e R)) → Calls Tryz.prog 87 #[.agg #[.int .u64 (g0 : Int), .int .u64 (g1 : Int), .int .u64 (g2 : Int), .int .u64 0], x, y] w (Ret fun e w' => Below w.heap.size w w' ∧ Four e R)) ∧ ((∀ w, Calls Tryz.prog 143 #[.agg #[.int .u64 (g0 : Int), .int .u64 (g1 : Int), .int .u64 (g2 : Int), .int .u64 0], x, y] w (Ret fun e w' => Below w.heap.size w w' ∧ Four e R)) → Calls Tryz.prog 140 #[.agg #[.int .u64 (g0 : Int), .int .u64 (g1 : Int), .int .u64 (g2 : Int), .int .u64 0], x, y] w (Ret fun e w' => Below w.heap.size w w' ∧ Four e R)) ∧ ((∀ w, Calls Tryz.prog 142 #[.agg #[.int .u64 (g0 : Int), .int .u64 (g1 : Int), .int .u64 (g2 : Int), .int .u64 0], x, y] w (Ret fun e w' => Below w.heap.size w w' ∧ Four e R)) → Calls Tryz.prog 138 #[.agg #[.int .u64 (g0 : Int), .int .u64 (g1 : Int), .int .u64 (g2 : Int), .int .u64 0], x, y] w (Ret fun e w' => Below w.heap.size w w' ∧ Four e R)) := by
  obtain ⟨a, b, c, d, rfl, ha, hb, hc, hd, em⟩ := id hx
  obtain ⟨p, q, r, s, rfl, hp, hq, hr, hs, en⟩ := id hy
  have HX : Hid (Four _ m) := hx
  have HY : Hid (Four _ n) := hy
  refine ⟨fun HO => ?_, fun HO => ?_, fun HO => ?_⟩
  all_goals replace HO : Hid _ := HO
  all_goals clear em en hx hy ha hb hc hd hp hq hr hs
  case' refine_1 => go_enter Tryz.func87, Tryz.ntmps87
  case' refine_2 => go_enter Tryz.func140, Tryz.ntmps140
  case' refine_3 => go_enter Tryz.func138, Tryz.ntmps138
  all_goals
    go_wp2_with fail
    have KP0 := kept4 w 138 45 45 45 g0 g1 g2 0 a b c d p q r s 0 0 0 0
    simp only [Int.natCast_zero] at KP0
    generalize World.alloc _ _ = W0 at KP0 ⊢
    generalize h3 : w.heap.size + 1 + 1 + 1 = k3 at KP0 ⊢
    generalize h2 : w.heap.size + 1 + 1 = k2 at KP0 ⊢
    generalize h1 : w.heap.size + 1 = k1 at KP0 ⊢
    have Q3 : Hid (w.heap.size ≤ k3) := by unfold Hid; omega
    generalize h0 : w.heap.size = k0 at KP0 Q3 ⊢
    have H0 : Hid (w.heap.size = k0) := h0
    have hl3 : ∀ x ∈ ([⟨k0, 0, g0, g1, g2, 0⟩, ⟨k1, 0, a, b, c, d⟩, ⟨k2, 0, p, q, r, s⟩] : List Blk), k3 ≠ x.k := by simp only [List.mem_cons, List.not_mem_nil, or_false]; rintro x (rfl | rfl | rfl) <;> simp only <;> omega
    clear h0 h1 h2 h3
    have KP : Kept w k0 [⟨k0, 0, g0, g1, g2, 0⟩, ⟨k1, 0, a, b, c, d⟩, ⟨k2, 0, p, q, r, s⟩] W0 := (((Kept.mk1 KP0.bl KP0.le).cons KP0.tail.tail.head).cons KP0.tail.head).cons KP0.head
    have T3 := KP0.tail.tail.tail.head.at4
    clear KP0
    obtain ⟨tc0, tc1, tc2, tc3, tf⟩ := id T3
    have zt := T3.lt
    go_region_held3 (fun w' => w'.cell? ⟨k0, 0, none⟩ = some (.int .u64 (g0 : Int)) ∧ w'.cell? ⟨k0, 1, none⟩ = some (.int .u64 (g1 : Int)) ∧ w'.cell? ⟨k0, 2, none⟩ = some (.int .u64 (g2 : Int)) ∧ w'.cell? ⟨k0, 3, none⟩ = some (.int .u64 0) ∧ w'.cell? ⟨k1, 0, none⟩ = some (.int .u64 (a : Int)) ∧ w'.cell? ⟨k1, 1, none⟩ = some (.int .u64 (b : Int)) ∧ w'.cell? ⟨k1, 2, none⟩ = some (.int .u64 (c : Int)) ∧ w'.cell? ⟨k1, 3, none⟩ = some (.int .u64 (d : Int)) ∧ w'.cell? ⟨k2, 0, none⟩ = some (.int .u64 (p : Int)) ∧ w'.cell? ⟨k2, 1, none⟩ = some (.int .u64 (q : Int)) ∧ w'.cell? ⟨k2, 2, none⟩ = some (.int .u64 (r : Int)) ∧ w'.cell? ⟨k2, 3, none⟩ = some (.int .u64 (s : Int)) ∧ Kept w k0 [⟨k0, 0, g0, g1, g2, 0⟩, ⟨k1, 0, a, b, c, d⟩, ⟨k2, 0, p, q, r, s⟩] w') (first | (with_reducible exact wrS_of KP) | (with_reducible exact wrS_of KP.drew) | (with_reducible exact wrS_of (KP.set4' Q3.out hl3 _ _ _ _)) | (with_reducible exact wrS_of (KP.set4' Q3.out hl3 _ _ _ _).drew) | fail) (first | (go_at_call_of 109 (Value.agg #[Value.int .u64 (a : Int), Value.int .u64 (b : Int), Value.int .u64 (c : Int), Value.int .u64 (d : Int)]); refine (four_any _ _ HX.out _).mono ?_; rintro e w1 ⟨v, rfl, hb1, rfl⟩; (first | (with_reducible (have KP1 := KP.drew.call hb1)) | (with_reducible (have KP1 := KP.call hb1)) | fail); (first | (with_reducible (have T1 := T3.drew.call hb1)) | (with_reducible (have T1 := T3.call hb1)) | fail); clear KP T3 hb1; have KP := KP1; have T3 := T1; clear KP1 T1; obtain ⟨tc0, tc1, tc2, tc3, tf⟩ := id T3; have zt := T3.lt) | (go_at_call_of 109 (Value.agg #[Value.int .u64 (p : Int), Value.int .u64 (q : Int), Value.int .u64 (r : Int), Value.int .u64 (s : Int)]); refine (four_any _ _ HY.out _).mono ?_; rintro e w1 ⟨v, rfl, hb1, rfl⟩; (first | (with_reducible (have KP1 := KP.drew.call hb1)) | (with_reducible (have KP1 := KP.call hb1)) | fail); (first | (with_reducible (have T1 := T3.drew.call hb1)) | (with_reducible (have T1 := T3.call hb1)) | fail); clear KP T3 hb1; have KP := KP1; have T3 := T1; clear KP1 T1; obtain ⟨tc0, tc1, tc2, tc3, tf⟩ := id T3; have zt := T3.lt) | ((first | go_at_call 108 | go_at_call 143 | go_at_call 142); refine (HO.out _).mono ?_; rintro e w1 ⟨v, rfl, hb1, hF3⟩; obtain ⟨a', b', c', d', rfl, ha', hb', hc', hd', es3⟩ := id hF3; clear es3; have HF3 : Hid (Four _ _) := hF3; clear hF3; (first | (with_reducible (have KP1 := KP.drew.call hb1)) | (with_reducible (have KP1 := KP.call hb1)) | fail); (first | (with_reducible (have T1 := T3.drew.call hb1)) | (with_reducible (have T1 := T3.call hb1)) | fail); clear KP T3 hb1; have KP := KP1; have T3 := T1; clear KP1 T1; obtain ⟨tc0, tc1, tc2, tc3, tf⟩ := id T3; have zt := T3.lt) | (go_at_call 110; refine (number_any _ _ HF3.out _).mono ?_; rintro e w1 ⟨v, rfl, hb1, rfl⟩; (first | (with_reducible (have KP1 := KP.drew.call hb1)) | (with_reducible (have KP1 := KP.call hb1)) | fail); (first | (with_reducible (have T1 := T3.drew.call hb1)) | (with_reducible (have T1 := T3.call hb1)) | fail); clear KP T3 hb1; have KP := KP1; have T3 := T1; clear KP1 T1; obtain ⟨tc0, tc1, tc2, tc3, tf⟩ := id T3; have zt := T3.lt))
    all_goals (try go_wp2)
    all_goals (have RF := T3.self4 a' b' c' d')
    all_goals unfold set4 at RF
    all_goals (refine bodyPost_ret (v := (.agg #[.int .u64 (a' : Int), .int .u64 (b' : Int), .int .u64 (c' : Int), .int .u64 (d' : Int)])) ?_ rfl ?_)
    all_goals first | (refine ⟨_, rfl, ?_, HF3.out⟩; rw [H0.out]; exact below_set4 KP.bl Q3.out _ _ _ _) | (simp [results, Tryz.results87, Tryz.results140, Tryz.results138, go_sem, RF.c0, RF.c1, RF.c2, RF.c3]; done) | fail
theorem Plus_any (g0 g1 g2 P : Nat) (x y : Value) (m n : Nat) (hG : Gap g0 g1 g2 P) (hx : Four x m) (hy : Four y n) (hm : m < P) (hn : n < P) (w : World) :
    Calls Tryz.prog 87 #[.agg #[.int .u64 (g0 : Int), .int .u64 (g1 : Int), .int .u64 (g2 : Int), .int .u64 0], x, y] w (Ret fun e w' => Below w.heap.size w w' ∧ Four e ((m + n) % P)) :=
  (three_any g0 g1 g2 x y m n _ hx hy w).1 (fun w => sum_any g0 g1 g2 P _ _ m n hG hx hy hm hn w)
theorem Minus_any (g0 g1 g2 P : Nat) (x y : Value) (m n : Nat) (hG : Gap g0 g1 g2 P) (hx : Four x m) (hy : Four y n) (hm : m < P) (hn : n < P) (w : World) :
    Calls Tryz.prog 140 #[.agg #[.int .u64 (g0 : Int), .int .u64 (g1 : Int), .int .u64 (g2 : Int), .int .u64 0], x, y] w (Ret fun e w' => Below w.heap.size w w' ∧ Four e ((m + P - n) % P)) :=
  (three_any g0 g1 g2 x y m n _ hx hy w).2.1 (fun w => difference_any g0 g1 g2 P _ _ m n hG hx hy hm hn w)
theorem Times_any (g0 g1 g2 P : Nat) (x y : Value) (m n : Nat) (hG : Gap g0 g1 g2 P) (hx : Four x m) (hy : Four y n) (w : World) :
    Calls Tryz.prog 138 #[.agg #[.int .u64 (g0 : Int), .int .u64 (g1 : Int), .int .u64 (g2 : Int), .int .u64 0], x, y] w (Ret fun e w' => Below w.heap.size w w' ∧ Four e (m * n % P)) :=
  (three_any g0 g1 g2 x y m n _ hx hy w).2.2 (fun w => product_any g0 g1 g2 P _ _ m n hG hx hy w)
end Go.Proofs.YtmepmoalhgehhaaGreatDoor
namespace Go.Proofs.YtmepmoalhgehhaaGreatDoor
theorem bit_step (m i s : Nat) : m / 2 ^ i % 2 ^ (s + 1) = 2 * (m / 2 ^ (i + 1) % 2 ^ s) + m / 2 ^ i % 2 := by
  have e : m / 2 ^ (i + 1) = m / 2 ^ i / 2 := by rw [Nat.pow_succ, Nat.div_div_eq_div_mul]
  rw [e, Nat.pow_succ, Nat.mul_comm (2 ^ s), Nat.mod_mul]
  omega
theorem low_bit (y z r : Nat) (hr : r < 64) (hz : z = y % 18446744073709551616) : z / 2 ^ r % 2 = y / 2 ^ r % 2 := by
  have e : (18446744073709551616 : Nat) = 2 ^ r * (2 * 2 ^ (63 - r)) := by
    rw [← Nat.mul_assoc, ← Nat.pow_succ, ← Nat.pow_add, show r + 1 + (63 - r) = 64 by omega]
  have h2 : 0 < 2 ^ r := Nat.pow_pos (by decide)
  have h3 : y / 2 ^ r = 2 * (2 ^ (63 - r) * (y / 18446744073709551616)) + z / 2 ^ r := by
    have h4 : y = 2 ^ r * (2 * (2 ^ (63 - r) * (y / 18446744073709551616))) + z := by
      have := Nat.div_add_mod y 18446744073709551616
      rw [hz]
      rw [e] at this ⊢
      rw [Nat.mul_assoc, Nat.mul_assoc] at this
      exact this.symm
    conv => lhs; rw [h4]
    rw [Nat.mul_add_div h2]
  omega
/-- The q-th word of four. -/
def wd (a b c d q : Nat) : Nat := if q = 0 then a else if q = 1 then b else if q = 2 then c else d
theorem wd_lt {a b c d : Nat} (q : Nat) (ha : a < 18446744073709551616) (hb : b < 18446744073709551616) (hc : c < 18446744073709551616) (hd : d < 18446744073709551616) : wd a b c d q < 18446744073709551616 := by
  unfold wd; split; exact ha; split; exact hb; split; exact hc; exact hd
theorem wd_eq {a b c d : Nat} (q : Nat) (hq : q < 4) (ha : a < 18446744073709551616) (hb : b < 18446744073709551616) (hc : c < 18446744073709551616) (hd : d < 18446744073709551616) :
    wd a b c d q = val a b c d / 2 ^ (64 * q) % 18446744073709551616 := by
  have h : q = 0 ∨ q = 1 ∨ q = 2 ∨ q = 3 := by omega
  rcases h with rfl | rfl | rfl | rfl
  · show a = val a b c d / 1 % _; unfold val; omega
  · show b = val a b c d / 18446744073709551616 % _; unfold val; omega
  · show c = val a b c d / 340282366920938463463374607431768211456 % _; unfold val; omega
  · show d = val a b c d / 6277101735386680763835789423207666416102355444464034512896 % _; unfold val; omega
theorem wd_bit {a b c d : Nat} (i : Nat) (hi : i < 256) (ha : a < 18446744073709551616) (hb : b < 18446744073709551616) (hc : c < 18446744073709551616) (hd : d < 18446744073709551616) :
    wd a b c d (i / 64) / 2 ^ (i % 64) % 2 = val a b c d / 2 ^ i % 2 := by
  rw [low_bit _ _ (i % 64) (by omega) (wd_eq (i / 64) (by omega) ha hb hc hd), Nat.div_div_eq_div_mul, ← Nat.pow_add, show 64 * (i / 64) + i % 64 = i by omega]
/-- One word of four, set. -/
theorem val_set (a b c d q x : Nat) (hq : q < 4) : val (if q = 0 then x else a) (if q = 1 then x else b) (if q = 2 then x else c) (if q = 3 then x else d) + 2 ^ (64 * q) * wd a b c d q = val a b c d + 2 ^ (64 * q) * x := by
  have h : q = 0 ∨ q = 1 ∨ q = 2 ∨ q = 3 := by omega
  rcases h with rfl | rfl | rfl | rfl <;> simp [wd, val] <;> omega
theorem pow_two_mod (a P k : Nat) : a ^ k % P * (a ^ k % P) % P = a ^ (2 * k) % P := by
  rw [← Nat.mul_mod, ← Nat.pow_add, Nat.two_mul]
theorem pow_add_mod (a P k l : Nat) : a ^ k % P * (a ^ l % P) % P = a ^ (k + l) % P := by
  rw [← Nat.mul_mod, ← Nat.pow_add]
theorem pow_step_mod (a P k : Nat) : a ^ k % P * a % P = a ^ (k + 1) % P := by
  rw [Nat.pow_succ, Nat.mul_mod, Nat.mod_mod, ← Nat.mul_mod]
theorem div_win (e i : Nat) : e / 2 ^ i = 16 * (e / 2 ^ (i + 4)) + e / 2 ^ i % 2 ^ 4 := by
  rw [Nat.pow_add, ← Nat.div_div_eq_div_mul]
  have := Nat.div_add_mod (e / 2 ^ i) (2 ^ 4)
  omega
theorem div_bit (e i : Nat) : e / 2 ^ i = 2 * (e / 2 ^ (i + 1)) + e / 2 ^ i % 2 := by
  rw [Nat.pow_succ, ← Nat.div_div_eq_div_mul]
  omega
/-- A byte into its place: what stands there is a multiple of what is above it. -/
theorem of_div {M k q r : Nat} (hq : q = k / 8) (hr : r = k % 8) : M * 256 ^ (k + 1) / 2 ^ (64 * q) % 18446744073709551616 = 256 ^ (r + 1) * (M % 256 ^ (7 - r)) := by
  have h8 : r < 8 := by omega
  have e1 : 256 ^ (k + 1) = 2 ^ (64 * q) * 256 ^ (r + 1) := by
    rw [show (2 : Nat) ^ (64 * q) = 256 ^ (8 * q) by rw [show 64 * q = 8 * (8 * q) by omega, Nat.pow_mul], ← Nat.pow_add, show 8 * q + (r + 1) = k + 1 by omega]
  have e2 : (18446744073709551616 : Nat) = 256 ^ (r + 1) * 256 ^ (7 - r) := by
    rw [← Nat.pow_add, show r + 1 + (7 - r) = 8 by omega]
  rw [e1, Nat.mul_left_comm, Nat.mul_div_cancel_left _ (Nat.pow_pos (by decide)), e2, Nat.mul_comm M, Nat.mul_mod_mul_left]
theorem of_or {y x r : Nat} (hr : r < 8) (hx : x < 256) (hy : y < 256 ^ (7 - r)) : (256 ^ (r + 1) * y) ||| (x * 2 ^ (8 * r)) = 256 ^ (r + 1) * y + x * 2 ^ (8 * r) ∧ 256 ^ (r + 1) * y + x * 2 ^ (8 * r) < 18446744073709551616 := by
  have e : (256 : Nat) ^ (r + 1) = 2 ^ (8 * (r + 1)) := by rw [Nat.pow_mul]
  have h1 : x * 2 ^ (8 * r) < 2 ^ (8 * (r + 1)) := by
    rw [show 8 * (r + 1) = 8 + 8 * r by omega, Nat.pow_add]
    exact Nat.mul_lt_mul_of_pos_right (by omega) (Nat.pow_pos (by decide))
  have e2 : (18446744073709551616 : Nat) = 256 ^ (r + 1) * 256 ^ (7 - r) := by
    rw [← Nat.pow_add, show r + 1 + (7 - r) = 8 by omega]
  refine ⟨?_, ?_⟩
  · rw [e]
    exact (Nat.two_pow_add_eq_or_of_lt h1 y).symm
  · have h3 : 256 ^ (r + 1) * (y + 1) ≤ 256 ^ (r + 1) * 256 ^ (7 - r) := Nat.mul_le_mul_left _ hy
    rw [← e2, Nat.mul_add, Nat.mul_one] at h3
    rw [← e] at h1
    omega
theorem quarter_eq (a b c d : Nat) :
    val (a / 4 + b * 4611686018427387904 % 18446744073709551616) (b / 4 + c * 4611686018427387904 % 18446744073709551616) (c / 4 + d * 4611686018427387904 % 18446744073709551616) (d / 4) = val a b c d / 4 := by
  unfold val
  omega
end Go.Proofs.YtmepmoalhgehhaaGreatDoor
namespace Go.Proofs.YtmepmoalhgehhaaGreatDoor
open Go.RowKit Go.Sort
theorem At4.wd {w : World} {k a b c d : Nat} (h : At4 w k a b c d) (q : Nat) (hq : q < 4) : w.cell? ⟨k, q, none⟩ = some (.int .u64 (wd a b c d q : Int)) := by
  have h' : q = 0 ∨ q = 1 ∨ q = 2 ∨ q = 3 := by omega
  rcases h' with rfl | rfl | rfl | rfl
  · exact h.c0
  · exact h.c1
  · exact h.c2
  · exact h.c3
theorem wrap_i (n : Nat) (h : n < 9223372036854775808) : IntKind.i64.wrap (n : Int) = (n : Int) := by rw [IntKind.wrap_i64]; omega
theorem or_bit (b t : Nat) (hb : b < 4294967296) (ht : t < 2) : bits .or .i64 ((2 * b : Nat) : Int) (t : Int) = ((2 * b + t : Nat) : Int) := by
  rw [(bits_nat .i64 40 (by decide) (fun n h0 h1 => by rw [IntKind.wrap_i64]; omega) (2 * b) t (by omega) (by omega)).2]
  have := Nat.two_pow_add_eq_or_of_lt (i := 1) (b := t) (by omega) b
  rw [show 2 ^ 1 * b = 2 * b from rfl] at this
  rw [← this]
theorem and_one (v : Nat) (hv : v < 18446744073709551616) : bits .and .u64 (v : Int) 1 = ((v % 2 : Nat) : Int) := by
  have := bits_and_u64_nat v 1 hv (by omega)
  rw [show v &&& 1 = v % 2 from Nat.and_one_is_mod v] at this
  exact this
theorem bits_start {m f c g : Nat} (hm : m < top) (h : g = c ∨ f + g = 256) : m / 2 ^ (f + g) % 2 ^ (c - g) = 0 := by
  rcases h with rfl | h
  · rw [Nat.sub_self, Nat.pow_zero, Nat.mod_one]
  · rw [h, Nat.div_eq_of_lt (by exact hm), Nat.zero_mod]
theorem bits_next {m f g c : Nat} (hg : 0 < g) (hc : g ≤ c) : m / 2 ^ (f + (g - 1)) % 2 ^ (c - (g - 1)) = 2 * (m / 2 ^ (f + g) % 2 ^ (c - g)) + m / 2 ^ (f + (g - 1)) % 2 := by
  rw [show c - (g - 1) = c - g + 1 by omega, bit_step, show f + (g - 1) + 1 = f + g by omega]
set_option maxHeartbeats 2000000 in
set_option maxRecDepth 100000 in
theorem Bits_any (x : Value) (m f c : Nat) (hx : Four x m) (hf : f ≤ 256) (hc : c ≤ 32) (w : World) :
    Calls Tryz.prog 141 #[x, .int .i64 (f : Int), .int .i64 (c : Int)] w (Ret fun e w' => Below w.heap.size w w' ∧ e = .int .i64 ((m / 2 ^ f % 2 ^ c : Nat) : Int)) := by
  obtain ⟨x0, x1, x2, x3, rfl, hx0, hx1, hx2, hx3, em⟩ := id hx
  have HX : Hid (Four _ m) := hx
  have HL : Hid (x0 < 18446744073709551616 ∧ x1 < 18446744073709551616 ∧ x2 < 18446744073709551616 ∧ x3 < 18446744073709551616 ∧ m = val x0 x1 x2 x3) := ⟨hx0, hx1, hx2, hx3, em⟩
  clear hx hx0 hx1 hx2 hx3 em
  have HM : Hid (m < top) := HX.out.lt
  clear HX
  obtain ⟨R, hR⟩ : ∃ R, m / 2 ^ f % 2 ^ c = R := ⟨_, rfl⟩
  have HR : Hid (m / 2 ^ f % 2 ^ c = R) := hR
  rw [hR]
  clear hR
  by_cases hle : (f : Int) + (c : Int) ≤ 256
  · have hle2 : ¬ (256 : Int) < (f : Int) + (c : Int) := by omega
    go_enter Tryz.func141, Tryz.ntmps141
    go_wp2
    have X := At4.made w 45 x0 x1 x2 x3 rfl
    have BL : Hid (Below w.heap.size w _) := below1 w (.cells #[.int .u64 (x0 : Int), .int .u64 (x1 : Int), .int .u64 (x2 : Int), .int .u64 (x3 : Int)] 45)
    generalize World.alloc _ _ = W0 at X BL ⊢
    go_loopg [7, 8] (c) (fun gk s7 s8 wr => gk ≤ c ∧ f + gk ≤ 256 ∧ s7 = .int .i64 ((m / 2 ^ (f + gk) % 2 ^ (c - gk) : Nat) : Int) ∧ s8 = .int .i64 ((f : Int) + (gk : Int) - 1) ∧ W0 = wr)
    case atStart => exact ⟨by omega, by omega, by rw [bits_start HM.out (Or.inl rfl)]; rfl, by congr 1 <;> omega, rfl⟩
    case round =>
      obtain ⟨hg1, hg2, rfl, rfl, rfl⟩ := hrel
      by_cases hz : gk = 0
      · subst hz
        have d1 : ¬ (f : Int) ≤ (f : Int) + ((0 : Nat) : Int) - 1 := by omega
        rw [Nat.add_zero, Nat.sub_zero, HR.out]
        go_wp2
        go_ret
        exact ⟨_, rfl, BL.out, rfl⟩
      · obtain ⟨i, hi⟩ : ∃ i, f + (gk - 1) = i := ⟨_, rfl⟩
        have e1 : (f : Int) + (gk : Int) - 1 = (i : Int) := by omega
        have d1 : (f : Int) ≤ (i : Int) := by omega
        have hi2 : i < 256 := by omega
        have xw := X.wd (i / 64) (by omega)
        have hwl : wd x0 x1 x2 x3 (i / 64) < 18446744073709551616 := wd_lt _ HL.out.1 HL.out.2.1 HL.out.2.2.1 HL.out.2.2.2.1
        have hbit : wd x0 x1 x2 x3 (i / 64) / 2 ^ (i % 64) % 2 = m / 2 ^ i % 2 := by rw [HL.out.2.2.2.2]; exact wd_bit i hi2 HL.out.1 HL.out.2.1 HL.out.2.2.1 HL.out.2.2.2.1
        have i2 : (i : Int).tdiv 64 = ((i / 64 : Nat) : Int) := by rw [Int.tdiv_eq_ediv_of_nonneg (by omega)]; omega
        have i3 : (i : Int).tmod 64 = ((i % 64 : Nat) : Int) := by rw [Int.tmod_eq_emod_of_nonneg (by omega)]; omega
        have i4 : (i / 64 : Nat) < 4 := by omega
        generalize wd x0 x1 x2 x3 (i / 64) = v at xw hwl hbit
        have hvl : v / 2 ^ (i % 64) < 18446744073709551616 := Nat.lt_of_le_of_lt (Nat.div_le_self _ _) hwl
        have hand : bits .and .u64 ((v : Int) / 2 ^ (i % 64)) 1 = ((m / 2 ^ i % 2 : Nat) : Int) := by
          have := and_one (v / 2 ^ (i % 64)) hvl
          rw [hbit] at this
          rw [← this, Int.natCast_ediv, Int.natCast_pow]
          rfl
        obtain ⟨t, ht⟩ : ∃ t, m / 2 ^ i % 2 = t := ⟨_, rfl⟩
        have ht2 : t < 2 := by omega
        have hN := bits_next (m := m) (f := f) (g := gk) (c := c) (by omega) hg1
        rw [hi, ht] at hN
        have hbl : m / 2 ^ (f + gk) % 2 ^ (c - gk) < 4294967296 := Nat.lt_of_lt_of_le (Nat.mod_lt _ (Nat.pow_pos (by decide))) (show 2 ^ (c - gk) ≤ 2 ^ 32 from Nat.pow_le_pow_right (by decide) (by omega))
        rw [ht] at hand
        generalize m / 2 ^ (f + gk) % 2 ^ (c - gk) = B at hN hbl ⊢
        have hor := or_bit B t hbl ht2
        have hsh : IntKind.i64.wrap ((B : Int) * 2) = ((2 * B : Nat) : Int) := by rw [show (B : Int) * 2 = ((2 * B : Nat) : Int) by omega]; exact wrap_i _ (by omega)
        have hct : IntKind.i64.wrap (t : Int) = (t : Int) := wrap_i _ (by omega)
        have HN : Hid (_ = _) := hN
        have HI : Hid (f + (gk - 1) = i) := hi
        have zx := X.lt
        clear hN hi hbit ht hvl
        rw [e1]
        clear e1
        go_wp2
        go_roundg (gk - 1)
        case measure => omega
        case rel =>
          refine ⟨by omega, by omega, ?_, ?_, rfl⟩
          · rw [HI.out, HN.out, ← hor, Int.natCast_mul]; rfl
          · congr 1; have := HI.out; omega
  · have hlt : (256 : Int) < (f : Int) + (c : Int) := by omega
    go_enter Tryz.func141, Tryz.ntmps141
    go_wp2
    have X := At4.made w 45 x0 x1 x2 x3 rfl
    have BL : Hid (Below w.heap.size w _) := below1 w (.cells #[.int .u64 (x0 : Int), .int .u64 (x1 : Int), .int .u64 (x2 : Int), .int .u64 (x3 : Int)] 45)
    generalize World.alloc _ _ = W0 at X BL ⊢
    go_loopg [7, 8] (256 - f) (fun gk s7 s8 wr => gk ≤ c ∧ f + gk ≤ 256 ∧ s7 = .int .i64 ((m / 2 ^ (f + gk) % 2 ^ (c - gk) : Nat) : Int) ∧ s8 = .int .i64 ((f : Int) + (gk : Int) - 1) ∧ W0 = wr)
    case atStart => exact ⟨by omega, by omega, by rw [bits_start HM.out (Or.inr (by omega))]; rfl, by congr 1 <;> omega, rfl⟩
    case round =>
      obtain ⟨hg1, hg2, rfl, rfl, rfl⟩ := hrel
      by_cases hz : gk = 0
      · subst hz
        have d1 : ¬ (f : Int) ≤ (f : Int) + ((0 : Nat) : Int) - 1 := by omega
        rw [Nat.add_zero, Nat.sub_zero, HR.out]
        go_wp2
        go_ret
        exact ⟨_, rfl, BL.out, rfl⟩
      · obtain ⟨i, hi⟩ : ∃ i, f + (gk - 1) = i := ⟨_, rfl⟩
        have e1 : (f : Int) + (gk : Int) - 1 = (i : Int) := by omega
        have d1 : (f : Int) ≤ (i : Int) := by omega
        have hi2 : i < 256 := by omega
        have xw := X.wd (i / 64) (by omega)
        have hwl : wd x0 x1 x2 x3 (i / 64) < 18446744073709551616 := wd_lt _ HL.out.1 HL.out.2.1 HL.out.2.2.1 HL.out.2.2.2.1
        have hbit : wd x0 x1 x2 x3 (i / 64) / 2 ^ (i % 64) % 2 = m / 2 ^ i % 2 := by rw [HL.out.2.2.2.2]; exact wd_bit i hi2 HL.out.1 HL.out.2.1 HL.out.2.2.1 HL.out.2.2.2.1
        have i2 : (i : Int).tdiv 64 = ((i / 64 : Nat) : Int) := by rw [Int.tdiv_eq_ediv_of_nonneg (by omega)]; omega
        have i3 : (i : Int).tmod 64 = ((i % 64 : Nat) : Int) := by rw [Int.tmod_eq_emod_of_nonneg (by omega)]; omega
        have i4 : (i / 64 : Nat) < 4 := by omega
        generalize wd x0 x1 x2 x3 (i / 64) = v at xw hwl hbit
        have hvl : v / 2 ^ (i % 64) < 18446744073709551616 := Nat.lt_of_le_of_lt (Nat.div_le_self _ _) hwl
        have hand : bits .and .u64 ((v : Int) / 2 ^ (i % 64)) 1 = ((m / 2 ^ i % 2 : Nat) : Int) := by
          have := and_one (v / 2 ^ (i % 64)) hvl
          rw [hbit] at this
          rw [← this, Int.natCast_ediv, Int.natCast_pow]
          rfl
        obtain ⟨t, ht⟩ : ∃ t, m / 2 ^ i % 2 = t := ⟨_, rfl⟩
        have ht2 : t < 2 := by omega
        have hN := bits_next (m := m) (f := f) (g := gk) (c := c) (by omega) hg1
        rw [hi, ht] at hN
        have hbl : m / 2 ^ (f + gk) % 2 ^ (c - gk) < 4294967296 := Nat.lt_of_lt_of_le (Nat.mod_lt _ (Nat.pow_pos (by decide))) (show 2 ^ (c - gk) ≤ 2 ^ 32 from Nat.pow_le_pow_right (by decide) (by omega))
        rw [ht] at hand
        generalize m / 2 ^ (f + gk) % 2 ^ (c - gk) = B at hN hbl ⊢
        have hor := or_bit B t hbl ht2
        have hsh : IntKind.i64.wrap ((B : Int) * 2) = ((2 * B : Nat) : Int) := by rw [show (B : Int) * 2 = ((2 * B : Nat) : Int) by omega]; exact wrap_i _ (by omega)
        have hct : IntKind.i64.wrap (t : Int) = (t : Int) := wrap_i _ (by omega)
        have HN : Hid (_ = _) := hN
        have HI : Hid (f + (gk - 1) = i) := hi
        have zx := X.lt
        clear hN hi hbit ht hvl
        rw [e1]
        clear e1
        go_wp2
        go_roundg (gk - 1)
        case measure => omega
        case rel =>
          refine ⟨by omega, by omega, ?_, ?_, rfl⟩
          · rw [HI.out, HN.out, ← hor, Int.natCast_mul]; rfl
          · congr 1; have := HI.out; omega
end Go.Proofs.YtmepmoalhgehhaaGreatDoor
namespace Go.Proofs.YtmepmoalhgehhaaGreatDoor
open Go
section
variable {P : Program} {ops : Array Oper} {Q : Exit → Act → World → Prop} {S : World → Prop} {p : Nat}
/-- Till the last operation, number p, has come up, S holds behind every operation; of the world behind p itself nothing is asked. -/
def anyTill (P : Program) (ops : Array Oper) (Q : Exit → Act → World → Prop) (S : World → Prop) (p : Nat) : Nat → Array Bool → Act → World → Prop
  | 0, listed, a, w => Region.ready .any ops listed = [] ∧ Q .normal a w
  | fuel + 1, listed, a, w => (Region.ready .any ops listed = [] → Q .normal a w) ∧
    ∀ i ∈ Region.ready .any ops listed, wpOp P ops Q i (fun a' w' => ((listed.setIfInBounds i true).getD p false = false → S w') ∧ anyTill P ops Q S p fuel (listed.setIfInBounds i true) a' w') a w
theorem anyTill.any : ∀ (fuel : Nat) (listed : Array Bool) (a : Act) (w : World), anyTill P ops Q S p fuel listed a w → wpAny P .any ops Q fuel listed a w
  | 0, _, _, _, h => h
  | fuel + 1, _, _, _, h => ⟨h.1, fun i hi => wpOp_mono (fun a' w' h' => anyTill.any fuel _ a' w' h'.2) (h.2 i hi)⟩
/-- An operation for which p waits, and which yields its value wherever S holds, may be taken first. -/
theorem anyTill.first {i : Nat} {oi op : Oper} {v : Value} (hi : ops[i]? = some oi) (hp : ops[p]? = some op) (hpi : ∃ e ∈ op.after, Region.binds .any e = true ∧ e.on = i) (hne : p ≠ i)
    (hsel : ∀ (j : Nat) (o : Oper) cs b, ops[j]? = some o → o.op ≠ .select cs b) (hQ : ∀ c a w, Q (.panic c) (a.put oi.dst v) w → Q (.panic c) a w) :
    ∀ (fuel : Nat) (listed : Array Bool) (a : Act) (w : World), listed.getD p false = false →
      (∀ j oj, ops[j]? = some oj → j ≠ i → listed.getD j true = false → (∀ e ∈ oj.after, Region.binds .any e = true → e.on ≠ i) → oi.apart ops oj = true) →
      i ∈ Region.ready .any ops listed → YieldsIf P ops S oi v a → S w →
      anyTill P ops Q S p fuel (listed.setIfInBounds i true) (a.put oi.dst v) w → anyTill P ops Q S p (fuel + 1) listed a w := by
  intro fuel
  induction fuel with
  | zero =>
    intro listed a w _ _ hr hy hS H
    refine ⟨fun h => absurd hr (by rw [h]; exact List.not_mem_nil), fun j hj => ?_⟩
    by_cases hji : j = i
    · subst hji; exact hy.wpOp hi hS ⟨fun _ => hS, H⟩
    · exact absurd (ready_mono hj hji) (by rw [H.1]; exact List.not_mem_nil)
  | succ fuel ih =>
    intro listed a w hl hfree hr hy hS H
    refine ⟨fun h => absurd hr (by rw [h]; exact List.not_mem_nil), fun j hj => ?_⟩
    by_cases hji : j = i
    · subst hji; exact hy.wpOp hi hS ⟨fun _ => hS, H⟩
    · obtain ⟨hjun, oj, hoj, hall⟩ := mem_ready.1 hj
      have hnot : ∀ e ∈ oj.after, Region.binds .any e = true → e.on ≠ i := fun e he hb heq => by
        have h1 := hall e he hb
        have h0 := (mem_ready.1 hr).1
        rw [heq] at h1
        rcases Nat.lt_or_ge i listed.size with h' | h'
        · simp [h'] at h0 h1; rw [h0] at h1; cases h1
        · simp [Array.getElem?_eq_none h'] at h1
      have hjp : j ≠ p := by
        intro h
        subst h
        rw [hp] at hoj
        obtain ⟨e, he, hb, hon⟩ := hpi
        injection hoj with hoj
        subst hoj
        exact hnot e he hb hon
      have h2 := wpOp_putIf hoj (hfree j oj hoj hji hjun hnot) (fun cs b => hsel i oi cs b hi) (fun cs b => hsel j oj cs b hoj) hQ hy (H.2 j (ready_mono hj hji))
      have hl' : (listed.setIfInBounds j true).getD p false = false := by rw [getD_set_ne false hjp]; exact hl
      refine wpOp_mono (fun a' w' h3 => ?_) h2
      have hS' : S w' := h3.2.1 (by rw [getD_set_ne false hjp, getD_set_ne false (Ne.symm hne)]; exact hl)
      refine ⟨fun _ => hS', ih (listed.setIfInBounds j true) a' w' hl' (fun k ok hk hki hun hno => ?_) (ready_mono hr (Ne.symm hji)) h3.1 hS' ?_⟩
      · refine hfree k ok hk hki ?_ hno
        by_cases hjk : j = k
        · subst hjk; exact hjun
        · rw [getD_set_ne true hjk] at hun; exact hun
      · rw [Array.setIfInBounds_comm _ _ hji]
        exact h3.2.2
/-- Operation p waits for operation i by a word of its own. -/
def waits (ops : Array Oper) (p i : Nat) : Bool := match ops[p]? with
  | some o => o.after.any (fun e => Region.binds .any e && e.on == i)
  | none => false
theorem anyTill.take {i : Nat} {oi : Oper} {v : Value} {fuel : Nat} {listed : Array Bool} {a : Act} {w : World} (hi : ops[i]? = some oi) (hp : waits ops p i = true) (hs : Region.noSelect ops = true)
    (hl : (listed.getD p false || p == i) = false) (hf : Region.free .any ops listed i = true) (hr : (Region.ready .any ops listed).contains i = true)
    (hQ : ∀ c a w, Q (.panic c) (a.put oi.dst v) w → Q (.panic c) a w) (hy : YieldsIf P ops S oi v a) (hS : S w)
    (h : anyTill P ops Q S p fuel (listed.setIfInBounds i true) (a.put oi.dst v) w) : anyTill P ops Q S p (fuel + 1) listed a w := by
  rw [Bool.or_eq_false_iff] at hl
  unfold waits at hp
  cases ho : ops[p]? with
  | none => rw [ho] at hp; cases hp
  | some op =>
    rw [ho] at hp
    obtain ⟨e, he, hb⟩ := Array.any_eq_true'.1 hp
    simp only [Bool.and_eq_true, beq_iff_eq] at hb
    exact anyTill.first hi ho ⟨e, he, hb.1, hb.2⟩ (by simpa using hl.2) (Region.noSelect_spec hs) hQ fuel listed a w hl.1 (Region.free_spec hi hf) (by simpa using hr) hy hS h
/-- The same, with what the kernel finds by itself behind. -/
theorem anyTill.tk {i : Nat} {oi : Oper} {v : Value} {fuel : Nat} {listed : Array Bool} {a : Act} {w : World} (hi : ops[i]? = some oi) (hy : YieldsIf P ops S oi v a) (hS : S w)
    (h : anyTill P ops Q S p fuel (listed.setIfInBounds i true) (a.put oi.dst v) w) (hp : waits ops p i = true := by kernel_rfl) (hs : Region.noSelect ops = true := by kernel_rfl)
    (hl : (listed.getD p false || p == i) = false := by kernel_rfl) (hf : Region.free .any ops listed i = true := by kernel_rfl) (hr : (Region.ready .any ops listed).contains i = true := by kernel_rfl)
    (hQ : ∀ c a w, Q (.panic c) (a.put oi.dst v) w → Q (.panic c) a w := by exact fun _ _ _ h => h) : anyTill P ops Q S p (fuel + 1) listed a w := anyTill.take hi hp hs hl hf hr hQ hy hS h
theorem anyTill.step {i : Nat} {o : Oper} {fuel : Nat} {listed : Array Bool} {a : Act} {w : World} (ho : ops[i]? = some o) (hr : Region.ready .any ops listed = [i])
    (h : ∀ K' : Act → World → Prop, Shut (∀ a w, ((listed.setIfInBounds i true).getD p false = false → S w) → anyTill P ops Q S p fuel (listed.setIfInBounds i true) a w → K' a w) →
      if Region.wanted o (yielded ops a.tmps) = true then Oper.wp P o a w K' Q else K' (a.put o.dst undef) w) : anyTill P ops Q S p (fuel + 1) listed a w := by
  refine ⟨fun h0 => (by rw [hr] at h0; cases h0), fun j hj => ?_⟩
  rw [hr, List.mem_singleton] at hj
  subst hj
  exact wpOp_step ho (fun K' hK => h K' (fun a w hS hW => hK a w ⟨hS, hW⟩))
theorem anyTill.done {listed : Array Bool} {a : Act} {w : World} (hr : Region.ready .any ops listed = []) (h : Q .normal a w) : ∀ fuel, anyTill P ops Q S p fuel listed a w
  | 0 => ⟨hr, h⟩
  | _ + 1 => ⟨fun _ => h, by rw [hr]; intro i hi; cases hi⟩
theorem anyTill.begin {id : Nat} {a : Act} {w : World} (S : World → Prop) (p : Nat) (hm : P.follows .mixedOrders = true) (hS : S w.drew)
    (h : S w.drew → anyTill P ops Q S p ops.size (Array.replicate ops.size false) a w.drew) : (Code.region id ops true).wp P Q a w :=
  wp_region_any hm ((h hS).any)
end
end Go.Proofs.YtmepmoalhgehhaaGreatDoor
namespace Go.Proofs.YtmepmoalhgehhaaGreatDoor
open Go.RowKit Go.Sort
def pw0 : Array Value := #[.int .u64 1] ++ Array.replicate 63 (.int .u64 0)
def pwz : Array Value := Array.replicate 64 (.int .u64 0)
theorem zeroT : ∀ w : World, (zeroValue 188).run Tryz.prog w = .ok (.agg pwz) w := fun _ => by kernel_rfl
theorem builtT : Tryz.prog.built 188 [(0, .agg #[.int .u64 1, .int .u64 0, .int .u64 0, .int .u64 0])] = some pw0 := by kernel_rfl
theorem sizeT : (Tryz.prog.info? 188).map (·.size) = some pw0.size := by kernel_rfl
theorem oneT : pw0.all (·.oneCell') = true := by kernel_rfl
theorem wpList_built {ops : Array Oper} {rest : List Oper} {o : Oper} {a : Act} {w : World} {Q : Exit → Act → World → Prop} (hg : o.guard = none) (t : TypeId) (parts : Array (Nat × Operand)) (cells : Array Value) (ho : o.op = .build t parts)
    (hf : Tryz.prog.built t (parts.map fun (i, x) => (i, a.eval x)).toList = some cells)
    (h : wpList Tryz.prog ops Q rest (a.put o.dst (.agg cells)) w) : wpList Tryz.prog ops Q (o :: rest) a w :=
  wpList_build hg t parts ho (by rw [hf]; rfl) (by rw [hf]; exact h)
/-- Sixteen numbers of four words in a block: the first i are powers. -/
def Tab (W : World) (k m P i : Nat) : Prop := ∀ j, j < 16 → ∃ a b c d : Nat, (Blk.mk k (j * 4) a b c d).at W ∧ (j < i → Four (.agg #[.int .u64 (a : Int), .int .u64 (b : Int), .int .u64 (c : Int), .int .u64 (d : Int)]) (m ^ j % P))
theorem Tab.call {W w1 : World} {k m P i : Nat} (h : Tab W k m P i) (hb : Below W.heap.size W w1) : Tab w1 k m P i := fun j hj => by
  obtain ⟨a, b, c, d, h1, h2⟩ := h j hj
  exact ⟨a, b, c, d, h1.call hb, h2⟩
theorem Tab.drew {W : World} {k m P i : Nat} (h : Tab W k m P i) : Tab W.drew k m P i := fun j hj => by
  obtain ⟨a, b, c, d, h1, h2⟩ := h j hj
  exact ⟨a, b, c, d, ⟨h1.c0, h1.c1, h1.c2, h1.c3, h1.f⟩, h2⟩
theorem Tab.other {W : World} {k m P i g o : Nat} (h : Tab W k m P i) (hg : g ≠ k) (v : Value) : Tab (W.setCell ⟨g, o, none⟩ v) k m P i := fun j hj => by
  obtain ⟨a, b, c, d, h1, h2⟩ := h j hj
  exact ⟨a, b, c, d, h1.other hg v, h2⟩
theorem Blk.at.off {W : World} {x : Blk} {i : Nat} (h : x.at W) (hi : i < x.o ∨ x.o + 3 < i) (v : Value) : x.at (W.setCell ⟨x.k, i, none⟩ v) :=
  ⟨by rw [World.cell?_setCell_other _ _ _ _ (ne_addr (Or.inr (by omega)))]; exact h.c0, by rw [World.cell?_setCell_other _ _ _ _ (ne_addr (Or.inr (by omega)))]; exact h.c1,
   by rw [World.cell?_setCell_other _ _ _ _ (ne_addr (Or.inr (by omega)))]; exact h.c2, by rw [World.cell?_setCell_other _ _ _ _ (ne_addr (Or.inr (by omega)))]; exact h.c3, fun o => by rw [World.frozen?_setCell]; exact h.f o⟩
theorem Blk.at.put {W : World} {k o a b c d : Nat} (h : (Blk.mk k o a b c d).at W) (x y z t : Nat) :
    (Blk.mk k o x y z t).at ((((W.setCell ⟨k, o, none⟩ (.int .u64 (x : Int))).setCell ⟨k, o + 1, none⟩ (.int .u64 (y : Int))).setCell ⟨k, o + 2, none⟩ (.int .u64 (z : Int))).setCell ⟨k, o + 3, none⟩ (.int .u64 (t : Int))) := by
  have s0 := World.cell?_setCell_same W ⟨k, o, none⟩ (.int .u64 (x : Int)) h.c0
  have o1 : ∀ (W : World) (i j : Nat) (v : Value), i ≠ j → (W.setCell ⟨k, i, none⟩ v).cell? ⟨k, j, none⟩ = W.cell? ⟨k, j, none⟩ := fun W i j v hij => World.cell?_setCell_other _ _ _ _ (ne_addr (Or.inr hij))
  refine ⟨?_, ?_, ?_, ?_, fun i => ?_⟩
  · show World.cell? _ ⟨k, o, none⟩ = _
    rw [o1 _ _ _ _ (by omega), o1 _ _ _ _ (by omega), o1 _ _ _ _ (by omega)]; exact s0
  · show World.cell? _ ⟨k, o + 1, none⟩ = _
    rw [o1 _ _ _ _ (by omega), o1 _ _ _ _ (by omega)]
    exact World.cell?_setCell_same _ _ _ (by rw [o1 _ _ _ _ (by omega)]; exact h.c1)
  · show World.cell? _ ⟨k, o + 2, none⟩ = _
    rw [o1 _ _ _ _ (by omega)]
    exact World.cell?_setCell_same _ _ _ (by rw [o1 _ _ _ _ (by omega), o1 _ _ _ _ (by omega)]; exact h.c2)
  · show World.cell? _ ⟨k, o + 3, none⟩ = _
    exact World.cell?_setCell_same _ _ _ (by rw [o1 _ _ _ _ (by omega), o1 _ _ _ _ (by omega), o1 _ _ _ _ (by omega)]; exact h.c3)
  · rw [World.frozen?_setCell, World.frozen?_setCell, World.frozen?_setCell, World.frozen?_setCell]; exact h.f i
theorem Tab.put {W : World} {k m P i x y z t : Nat} (h : Tab W k m P i) (hi : i < 16) (hF : Four (.agg #[.int .u64 (x : Int), .int .u64 (y : Int), .int .u64 (z : Int), .int .u64 (t : Int)]) (m ^ i % P)) :
    Tab ((((W.setCell ⟨k, i * 4, none⟩ (.int .u64 (x : Int))).setCell ⟨k, i * 4 + 1, none⟩ (.int .u64 (y : Int))).setCell ⟨k, i * 4 + 2, none⟩ (.int .u64 (z : Int))).setCell ⟨k, i * 4 + 3, none⟩ (.int .u64 (t : Int))) k m P (i + 1) := fun j hj => by
  obtain ⟨a, b, c, d, h1, h2⟩ := h j hj
  by_cases hji : j = i
  · subst hji
    exact ⟨x, y, z, t, h1.put x y z t, fun _ => hF⟩
  · refine ⟨a, b, c, d, ?_, fun h3 => h2 (by omega)⟩
    exact (((h1.off (by simp only; omega) _).off (by simp only; omega) _).off (by simp only; omega) _).off (by simp only; omega) _
theorem newest (w : World) (o : Obj) : (w.alloc o).heap[w.heap.size]? = some o := by
  show (w.heap.push o)[w.heap.size]? = some o
  simp
theorem pw0_at (j : Nat) : pw0[j]? = if j = 0 then some (.int .u64 1) else if j < 64 then some (.int .u64 0) else none := by
  match j with
  | 0 => rfl
  | j + 1 =>
    rw [if_neg (by omega)]
    unfold pw0
    rw [Array.getElem?_append_right (by simp)]
    by_cases h : j + 1 < 64
    · rw [if_pos h]; simp [Array.getElem?_replicate]; omega
    · rw [if_neg h]; simp [Array.getElem?_replicate]; omega
theorem Tab.new (w : World) (m P : Nat) (hP : 1 < P) : Tab ((w.alloc (.cells pwz 188)).setRow w.heap.size pw0) w.heap.size m P 1 := fun j hj => by
  have hg : (w.alloc (.cells pwz 188)).heap[w.heap.size]? = some (.cells pwz 188 (0, 0)) := newest w _
  have hc := fun i => cell_setRow_same (w.alloc (.cells pwz 188)) w.heap.size i pwz pw0 188 (0, 0) hg
  have hf : ∀ o, ((w.alloc (.cells pwz 188)).setRow w.heap.size pw0).frozen? ⟨w.heap.size, o, none⟩ = false := fun o => by
    have h1 := setRow_heap _ _ _ pw0 _ _ hg
    unfold World.frozen?
    dsimp only
    rw [h1]
    simp
  by_cases h0 : j = 0
  · subst h0
    refine ⟨1, 0, 0, 0, ⟨?_, ?_, ?_, ?_, hf⟩, fun _ => ?_⟩
    · rw [hc, pw0_at]; rfl
    · rw [hc, pw0_at]; rfl
    · rw [hc, pw0_at]; rfl
    · rw [hc, pw0_at]; rfl
    · rw [Nat.pow_zero, Nat.mod_eq_of_lt hP]
      exact Four.mk (by decide) (by decide) (by decide) (by decide) rfl
  · refine ⟨0, 0, 0, 0, ⟨?_, ?_, ?_, ?_, hf⟩, fun h => by omega⟩
    · rw [hc, pw0_at, if_neg (by simp only; omega), if_pos (by simp only; omega)]; rfl
    · rw [hc, pw0_at, if_neg (by simp only; omega), if_pos (by simp only; omega)]; rfl
    · rw [hc, pw0_at, if_neg (by simp only; omega), if_pos (by simp only; omega)]; rfl
    · rw [hc, pw0_at, if_neg (by simp only; omega), if_pos (by simp only; omega)]; rfl
theorem below_setRow {B : Nat} {w W : World} (h : Below B w W) {g : Nat} (hg : B ≤ g) (cs : Array Value) : Below B w (W.setRow g cs) :=
  ⟨h.os, h.tape, h.output, by rw [setRow_size]; exact h.size, fun k hk => by rw [setRow_other W g k cs (by omega)]; exact h.block k hk⟩
theorem pow_kept {w W W' : World} {k0 : Nat} {l : List Blk} (h : Kept w k0 l W) (hb : Below W.heap.size W W') : Kept w k0 l W' := h.call hb
theorem below_tab (W : World) : Below W.heap.size W ((W.alloc (.cells pwz 188)).setRow W.heap.size pw0) := below_setRow (below1 W _) (Nat.le_refl _) _
end Go.Proofs.YtmepmoalhgehhaaGreatDoor
