namespace Go.Proofs.Ytdeidgbknlmhjab.NT

def IsP (n : Nat) : Prop := 2 ≤ n ∧ ∀ m, m ∣ n → m = 1 ∨ m = n

theorem IsP.cop {p k : Nat} (h : IsP p) (h0 : 0 < k) (hk : k < p) : Nat.Coprime p k := by
  unfold Nat.Coprime
  rcases h.2 _ (Nat.gcd_dvd_left p k) with e | e
  · exact e
  · have := Nat.le_of_dvd h0 (Nat.gcd_dvd_right p k)
    omega

theorem IsP.cop_of {p k : Nat} (h : IsP p) (hk : ¬ p ∣ k) : Nat.Coprime p k := by
  unfold Nat.Coprime
  rcases h.2 _ (Nat.gcd_dvd_left p k) with e | e
  · exact e
  · exact absurd (e ▸ Nat.gcd_dvd_right p k) hk

theorem IsP.euclid {p a b : Nat} (h : IsP p) (hd : p ∣ a * b) : p ∣ a ∨ p ∣ b := by
  by_cases ha : p ∣ a
  · exact Or.inl ha
  · exact Or.inr ((h.cop_of ha).dvd_of_dvd_mul_left hd)

/-! the binomials -/
def ch : Nat → Nat → Nat
  | _, 0 => 1
  | 0, _ + 1 => 0
  | n + 1, k + 1 => ch n k + ch n (k + 1)

theorem ch_zero (n : Nat) : ch n 0 = 1 := by cases n <;> rfl

theorem ch_above : ∀ (n k : Nat), n < k → ch n k = 0
  | 0, k + 1, _ => rfl
  | n + 1, k + 1, h => by
    rw [ch, ch_above n k (by omega), ch_above n (k + 1) (by omega)]

theorem ch_self : ∀ (n : Nat), ch n n = 1
  | 0 => rfl
  | n + 1 => by rw [ch, ch_self n, ch_above n (n + 1) (by omega)]

theorem ch_step : ∀ (n k : Nat), (k + 1) * ch (n + 1) (k + 1) = (n + 1) * ch n k
  | 0, 0 => rfl
  | 0, k + 1 => by simp [ch]
  | n + 1, 0 => by
    have h := ch_step n 0
    have e : ch (n + 1 + 1) (0 + 1) = ch (n + 1) 0 + ch (n + 1) (0 + 1) := rfl
    rw [ch_zero] at h
    rw [e, ch_zero]
    omega
  | n + 1, k + 1 => by
    have h1 := ch_step n k
    have h2 := ch_step n (k + 1)
    have e : ch (n + 1 + 1) (k + 1 + 1) = ch (n + 1) (k + 1) + ch (n + 1) (k + 1 + 1) := rfl
    have e3 : ch (n + 1) (k + 1) = ch n k + ch n (k + 1) := rfl
    rw [e, Nat.mul_add, h2]
    have : (k + 1 + 1) * ch (n + 1) (k + 1) = (n + 1) * ch n k + ch (n + 1) (k + 1) := by
      rw [← h1, Nat.add_mul (k + 1) 1, Nat.one_mul]
    rw [this, e3, Nat.add_mul (n + 1) 1, Nat.one_mul, Nat.mul_add]
    omega

def sumTo : Nat → (Nat → Nat) → Nat
  | 0, _ => 0
  | n + 1, f => sumTo n f + f n

theorem sumTo_congr (f g : Nat → Nat) : ∀ n, (∀ k, k < n → f k = g k) → sumTo n f = sumTo n g
  | 0, _ => rfl
  | n + 1, h => by
    rw [sumTo, sumTo, sumTo_congr f g n (fun k hk => h k (by omega)), h n (by omega)]

theorem sumTo_add (f g : Nat → Nat) : ∀ n, sumTo n (fun k => f k + g k) = sumTo n f + sumTo n g
  | 0 => rfl
  | n + 1 => by simp only [sumTo]; rw [sumTo_add f g n]; omega

theorem sumTo_mul (a : Nat) (f : Nat → Nat) : ∀ n, sumTo n (fun k => a * f k) = a * sumTo n f
  | 0 => rfl
  | n + 1 => by simp only [sumTo]; rw [sumTo_mul a f n, Nat.mul_add]

theorem sumTo_front (f : Nat → Nat) : ∀ n, sumTo (n + 1) f = f 0 + sumTo n (fun k => f (k + 1))
  | 0 => by simp [sumTo]
  | n + 1 => by rw [sumTo, sumTo_front f n]; simp only [sumTo]; omega

theorem sumTo_dvd (p : Nat) (f : Nat → Nat) : ∀ n, (∀ k, k < n → p ∣ f k) → p ∣ sumTo n f
  | 0, _ => Nat.dvd_zero p
  | n + 1, h => Nat.dvd_add (sumTo_dvd p f n (fun k hk => h k (by omega))) (h n (by omega))

theorem binom (a : Nat) : ∀ n, (a + 1) ^ n = sumTo (n + 1) (fun k => ch n k * a ^ k)
  | 0 => by simp [sumTo, ch]
  | n + 1 => by
    rw [Nat.pow_succ, binom a n, Nat.mul_add, Nat.mul_one]
    rw [sumTo_front (fun k => ch (n + 1) k * a ^ k) (n + 1)]
    have e : sumTo (n + 1) (fun k => ch (n + 1) (k + 1) * a ^ (k + 1))
        = sumTo (n + 1) (fun k => a * (ch n k * a ^ k)) + sumTo (n + 1) (fun k => ch n (k + 1) * a ^ (k + 1)) := by
      rw [← sumTo_add]
      refine sumTo_congr _ _ _ ?_
      intro k _
      show (ch n k + ch n (k + 1)) * a ^ (k + 1) = _
      rw [Nat.add_mul, Nat.pow_succ]
      have : ch n k * (a ^ k * a) = a * (ch n k * a ^ k) := by
        rw [Nat.mul_comm a, Nat.mul_assoc]
      rw [this]
    rw [e, sumTo_mul]
    have e2 : sumTo (n + 1) (fun k => ch n k * a ^ k)
        = ch n 0 * a ^ 0 + sumTo n (fun k => ch n (k + 1) * a ^ (k + 1)) := sumTo_front (fun k => ch n k * a ^ k) n
    have e3 : sumTo (n + 1) (fun k => ch n (k + 1) * a ^ (k + 1)) = sumTo n (fun k => ch n (k + 1) * a ^ (k + 1)) := by
      rw [sumTo, ch_above n (n + 1) (by omega), Nat.zero_mul, Nat.add_zero]
    have e4 : ch (n + 1) 0 * a ^ 0 = ch n 0 * a ^ 0 := by rw [ch_zero, ch_zero]
    rw [e3, e4, Nat.mul_comm _ a]
    omega

theorem IsP.ch_dvd {p k : Nat} (h : IsP p) (hk : k + 1 < p) : p ∣ ch p (k + 1) := by
  obtain ⟨n, rfl⟩ : ∃ n, p = n + 1 := ⟨p - 1, by have := h.1; omega⟩
  have e := ch_step n k
  have hd : (n + 1) ∣ (k + 1) * ch (n + 1) (k + 1) := e ▸ Nat.dvd_mul_right _ _
  exact (h.cop (by omega) hk).dvd_of_dvd_mul_left hd

theorem IsP.frob {p : Nat} (h : IsP p) (a : Nat) : (a + 1) ^ p % p = (a ^ p + 1) % p := by
  obtain ⟨n, rfl⟩ : ∃ n, p = n + 1 := ⟨p - 1, by have := h.1; omega⟩
  rw [binom, sumTo, sumTo_front, ch_self, ch_zero]
  obtain ⟨c, hc⟩ : (n + 1) ∣ sumTo n (fun k => ch (n + 1) (k + 1) * a ^ (k + 1)) :=
    sumTo_dvd _ _ _ (fun k hk => Nat.dvd_mul_right_of_dvd (h.ch_dvd (by omega)) _)
  rw [hc]
  have : 1 * a ^ 0 + (n + 1) * c + 1 * a ^ (n + 1) = (a ^ (n + 1) + 1) + (n + 1) * c := by
    rw [Nat.pow_zero]; omega
  rw [this, Nat.add_mul_mod_self_left]

theorem IsP.fermat {p : Nat} (h : IsP p) : ∀ a, a ^ p % p = a % p
  | 0 => by
    rw [Nat.zero_pow (by have := h.1; omega)]
  | a + 1 => by
    rw [h.frob, Nat.add_mod, h.fermat a, ← Nat.add_mod]

theorem IsP.cancel {p a x y : Nat} (h : IsP p) (ha : ¬ p ∣ a) (e : a * x % p = a * y % p) : x % p = y % p := by
  have key : ∀ x y, y ≤ x → a * x % p = a * y % p → x % p = y % p := by
    intro x y hle e
    have h1 : p ∣ a * x - a * y := Nat.dvd_of_mod_eq_zero (Nat.sub_mod_eq_zero_of_mod_eq e)
    rw [← Nat.mul_sub] at h1
    obtain ⟨c, hc⟩ := (h.cop_of ha).dvd_of_dvd_mul_left h1
    have : x = y + p * c := by omega
    rw [this, Nat.add_mul_mod_self_left]
  rcases Nat.le_total y x with hle | hle
  · exact key x y hle e
  · exact (key y x hle e.symm).symm

theorem IsP.fermat1 {p : Nat} (h : IsP p) (a : Nat) (ha : ¬ p ∣ a) : a ^ (p - 1) % p = 1 := by
  obtain ⟨n, rfl⟩ : ∃ n, p = n + 1 := ⟨p - 1, by have := h.1; omega⟩
  have e := h.fermat a
  rw [Nat.pow_succ, Nat.mul_comm] at e
  have := h.cancel ha (x := a ^ n) (y := 1) (by rw [e, Nat.mul_one])
  rw [Nat.add_sub_cancel, this, Nat.mod_eq_of_lt h.1]

/-! powers that are 1 -/
theorem pow_gcd (b r : Nat) (hr : 1 < r) (x y : Nat) : b ^ x % r = 1 → b ^ y % r = 1 → b ^ (Nat.gcd x y) % r = 1 := by
  induction x, y using Nat.gcd.induction with
  | H0 n => intro _ h; rw [Nat.gcd_zero_left]; exact h
  | H1 m n hm ih =>
    intro h1 h2
    rw [Nat.gcd_rec]
    refine ih ?_ h1
    have e : b ^ n = (b ^ m) ^ (n / m) * b ^ (n % m) := by
      rw [← Nat.pow_mul, ← Nat.pow_add, Nat.div_add_mod]
    rw [e, Nat.mul_mod, Nat.pow_mod, h1, Nat.one_pow, Nat.mod_eq_of_lt hr, Nat.one_mul, Nat.mod_mod] at h2
    exact h2

theorem exists_prime : ∀ n, 2 ≤ n → ∃ r, IsP r ∧ r ∣ n ∧ (IsP n ∨ r * r ≤ n) := by
  intro n
  induction n using Nat.strongRecOn with
  | _ n ih =>
    intro hn
    by_cases hp : IsP n
    · exact ⟨n, hp, Nat.dvd_refl n, Or.inl hp⟩
    · have : ∃ m, m ∣ n ∧ m ≠ 1 ∧ m ≠ n := by
        refine Classical.byContradiction fun hc => hp ⟨hn, fun m hm => ?_⟩
        refine Classical.byContradiction fun hc2 => hc ⟨m, hm, fun e => hc2 (Or.inl e), fun e => hc2 (Or.inr e)⟩
      obtain ⟨m, ⟨k, hk⟩, h1, h2⟩ := this
      have hm0 : m ≠ 0 := by intro e; rw [e, Nat.zero_mul] at hk; omega
      have hk0 : k ≠ 0 := by intro e; rw [e, Nat.mul_zero] at hk; omega
      have hk1 : k ≠ 1 := by intro e; rw [e, Nat.mul_one] at hk; omega
      have hmn : m < n := by
        have := Nat.le_of_dvd (by omega) (⟨k, hk⟩ : m ∣ n); omega
      have hkn : k < n := by
        have := Nat.mul_le_mul_right k (show 2 ≤ m by omega); omega
      rcases Nat.le_total m k with hle | hle
      · obtain ⟨r, hr, hrd, _⟩ := ih m hmn (by omega)
        have hrm := Nat.le_of_dvd (by omega) hrd
        refine ⟨r, hr, Nat.dvd_trans hrd ⟨k, hk⟩, Or.inr ?_⟩
        rw [hk]; exact Nat.mul_le_mul hrm (Nat.le_trans hrm hle)
      · obtain ⟨r, hr, hrd, _⟩ := ih k hkn (by omega)
        have hrm := Nat.le_of_dvd (by omega) hrd
        refine ⟨r, hr, Nat.dvd_trans hrd ⟨m, by rw [hk, Nat.mul_comm]⟩, Or.inr ?_⟩
        rw [hk]; exact Nat.mul_le_mul (Nat.le_trans hrm hle) hrm

/-! what of a prime of n - 1 goes into the primes of n -/
theorem part {n q a r : Nat} (hq : IsP q) (hr : IsP r) (hrn : r ∣ n) (hn : 1 < n)
    (h1 : a ^ (n - 1) % n = 1) (hd : q ∣ n - 1) (h2 : Nat.gcd (a ^ ((n - 1) / q) % n + (n - 1)) n = 1) : q ∣ r - 1 := by
  have hr2 := hr.1
  have toR : ∀ x y, x % n = y % n → x % r = y % r := by
    intro x y e
    rw [← Nat.mod_mod_of_dvd x hrn, e, Nat.mod_mod_of_dvd y hrn]
  have hm : a ^ (n - 1) % r = 1 := by
    have := toR (a ^ (n - 1)) 1 (by rw [h1, Nat.mod_eq_of_lt hn])
    rw [this, Nat.mod_eq_of_lt hr2]
  have hra : ¬ r ∣ a := by
    intro hc
    have hz : a ^ (n - 1) % r = 0 := Nat.mod_eq_zero_of_dvd (Nat.dvd_trans hc (by
      have : a ^ 1 ∣ a ^ (n - 1) := Nat.pow_dvd_pow a (by omega)
      rwa [Nat.pow_one] at this))
    omega
  have hb : (a ^ ((n - 1) / q)) ^ q % r = 1 := by
    rw [← Nat.pow_mul, Nat.div_mul_cancel hd]; exact hm
  have hbr : ¬ r ∣ a ^ ((n - 1) / q) := by
    intro hc
    have : r ∣ (a ^ ((n - 1) / q)) ^ q := Nat.dvd_trans hc (by
      have : (a ^ ((n - 1) / q)) ^ 1 ∣ (a ^ ((n - 1) / q)) ^ q := Nat.pow_dvd_pow _ (by have := hq.1; omega)
      rwa [Nat.pow_one] at this)
    have := Nat.mod_eq_zero_of_dvd this
    omega
  have hg := pow_gcd _ r hr2 q (r - 1) hb (hr.fermat1 _ hbr)
  rcases hq.2 _ (Nat.gcd_dvd_left q (r - 1)) with e | e
  · rw [e, Nat.pow_one] at hg
    exfalso
    have hx : r ∣ a ^ ((n - 1) / q) % n + (n - 1) := by
      refine Nat.dvd_of_mod_eq_zero ?_
      have e1 : (a ^ ((n - 1) / q) % n) % r = 1 := by rw [Nat.mod_mod_of_dvd _ hrn]; exact hg
      have e2 : (n - 1 + 1) % r = 0 := by
        rw [Nat.sub_add_cancel (by omega)]; exact Nat.mod_eq_zero_of_dvd hrn
      have : (a ^ ((n - 1) / q) % n + (n - 1)) % r = (1 + (n - 1)) % r := by
        rw [Nat.add_mod, e1, Nat.add_mod 1 (n - 1), Nat.mod_eq_of_lt hr2]
      rw [this, Nat.add_comm, e2]
    have := Nat.dvd_gcd hx hrn
    rw [h2] at this
    have := Nat.le_of_dvd (by omega) this
    omega
  · rw [← e]; exact Nat.gcd_dvd_right _ _

theorem pock {n f : Nat} (hn : 1 < n) (hf : n < (f + 1) * (f + 1))
    (hall : ∀ r, IsP r → r ∣ n → f ∣ r - 1) : IsP n := by
  obtain ⟨r, hr, hrn, h | h⟩ := exists_prime n hn
  · exact h
  · have := Nat.le_of_dvd (by have := hr.1; omega) (hall r hr hrn)
    have h2 : f + 1 ≤ r := by have := hr.1; omega
    have := Nat.mul_le_mul h2 h2
    omega

/-! trial -/
def trial (n : Nat) : Nat → Nat → Bool
  | 0, _ => true
  | k + 1, d => (n % d != 0) && trial n k (d + 1)

theorem trial_no (n : Nat) : ∀ k d, trial n k d = true → ∀ m, d ≤ m → m < d + k → ¬ m ∣ n
  | 0, _, _, m, _, _ => by omega
  | k + 1, d, h, m, h1, h2 => by
    simp only [trial, Bool.and_eq_true, bne_iff_ne, ne_eq] at h
    rcases Nat.lt_or_ge d m with hlt | hge
    · exact trial_no n k (d + 1) h.2 m hlt (by omega)
    · have : m = d := by omega
      subst this
      intro hd
      exact h.1 (Nat.mod_eq_zero_of_dvd hd)

theorem small {n k : Nat} (hn : 2 ≤ n) (ht : trial n k 2 = true) (hk : n < (k + 2) * (k + 2)) : IsP n := by
  obtain ⟨r, hr, hrn, h | h⟩ := exists_prime n hn
  · exact h
  · have h2 := hr.1
    have hlt : r < 2 + k := by
      refine Classical.byContradiction fun hc => ?_
      have := Nat.mul_le_mul (show k + 2 ≤ r by omega) (show k + 2 ≤ r by omega)
      omega
    exact absurd hrn (trial_no n k 2 ht r h2 hlt)

/-! powers, reckoned -/
def pm (n : Nat) : Nat → Nat → Nat → Nat → Nat
  | 0, _, _, acc => acc
  | k + 1, a, e, acc => pm n k (a * a % n) (e / 2) (if e % 2 = 1 then acc * a % n else acc)

theorem pm_eq (n : Nat) : ∀ k a e acc, e < 2 ^ k → acc < n → pm n k a e acc = acc * a ^ e % n
  | 0, a, e, acc, h, ha => by
    have : e = 0 := by simpa using h
    subst this
    rw [pm, Nat.pow_zero, Nat.mul_one, Nat.mod_eq_of_lt ha]
  | k + 1, a, e, acc, h, ha => by
    have hn : 0 < n := by omega
    have hacc : (if e % 2 = 1 then acc * a % n else acc) < n := by
      split
      · exact Nat.mod_lt _ hn
      · exact ha
    rw [pm, pm_eq n k _ _ _ (by rw [Nat.pow_succ] at h; omega) hacc]
    have hsq : ∀ y, y * (a * a % n) ^ (e / 2) % n = y * (a * a) ^ (e / 2) % n := by
      intro y
      rw [Nat.mul_mod, ← Nat.pow_mod, ← Nat.mul_mod]
    rw [hsq]
    have he : a ^ e = a ^ (e % 2) * (a * a) ^ (e / 2) := by
      have : (a * a) = a ^ 2 := by rw [Nat.pow_succ, Nat.pow_one]
      rw [this, ← Nat.pow_mul, ← Nat.pow_add, Nat.mod_add_div]
    rw [he]
    split
    · rename_i h1
      rw [h1, Nat.pow_one, Nat.mul_mod, Nat.mod_mod, ← Nat.mul_mod, Nat.mul_assoc]
    · rename_i h1
      have : e % 2 = 0 := by omega
      rw [this, Nat.pow_zero, Nat.one_mul]

theorem part' {n q a r k : Nat} (hq : IsP q) (hr : IsP r) (hrn : r ∣ n) (hn : 1 < n) (hk : n < 2 ^ k)
    (h1 : pm n k a (n - 1) 1 = 1) (hd : (n - 1) % q = 0) (h2 : Nat.gcd (pm n k a ((n - 1) / q) 1 + (n - 1)) n = 1) : q ∣ r - 1 := by
  rw [pm_eq n k a (n - 1) 1 (by omega) hn, Nat.one_mul] at h1
  rw [pm_eq n k a _ 1 (Nat.lt_of_le_of_lt (Nat.div_le_self _ _) (by omega)) hn, Nat.one_mul] at h2
  exact part hq hr hrn hn h1 (Nat.dvd_of_mod_eq_zero hd) h2


/-! the two primes -/
theorem x21 : IsP 1627771 := small (k := 1275) (by decide) (by decide +kernel) (by decide)
theorem x30 : IsP 545358713 := small (k := 23352) (by decide) (by decide +kernel) (by decide)
theorem x26 : IsP 44706919 := small (k := 6686) (by decide) (by decide +kernel) (by decide)
theorem x17 : IsP 120233 := small (k := 346) (by decide) (by decide +kernel) (by decide)
theorem x27 : IsP 107590001 := small (k := 10372) (by decide) (by decide +kernel) (by decide)
theorem x23 : IsP 7240687 := small (k := 2690) (by decide) (by decide +kernel) (by decide)
theorem x16 : IsP 96557 := small (k := 310) (by decide) (by decide +kernel) (by decide)
theorem x39 : IsP 297159362677 :=
  pock (f := 1627771) (by decide) (by decide +kernel) (fun r hr hd => part' (k := 39) (a := 2) x21 hr hd (by decide) (by decide +kernel) (by decide +kernel) (by decide +kernel) (by decide +kernel))
theorem c95 : IsP 29047611873442575647497758179 :=
  pock (f := (545358713 * 297159362677)) (by decide) (by decide +kernel) (fun r hr hd => Nat.Coprime.mul_dvd_of_dvd_of_dvd (by decide +kernel) (part' (k := 95) (a := 2) x30 hr hd (by decide) (by decide +kernel) (by decide +kernel) (by decide +kernel) (by decide +kernel)) (part' (k := 95) (a := 2) x39 hr hd (by decide) (by decide +kernel) (by decide +kernel) (by decide +kernel) (by decide +kernel)))
theorem b68 : IsP 174723607534414371449 :=
  pock (f := (44706919 * 120233)) (by decide) (by decide +kernel) (fun r hr hd => Nat.Coprime.mul_dvd_of_dvd_of_dvd (by decide +kernel) (part' (k := 68) (a := 2) x26 hr hd (by decide) (by decide +kernel) (by decide +kernel) (by decide +kernel) (by decide +kernel)) (part' (k := 68) (a := 2) x17 hr hd (by decide) (by decide +kernel) (by decide +kernel) (by decide +kernel) (by decide +kernel)))
theorem c109 : IsP 341948486974166000522343609283189 :=
  pock (f := 29047611873442575647497758179) (by decide) (by decide +kernel) (fun r hr hd => part' (k := 109) (a := 2) c95 hr hd (by decide) (by decide +kernel) (by decide +kernel) (by decide +kernel) (by decide +kernel))
theorem pN : IsP 115792089237316195423570985008687907852837564279074904382605163141518161494337 :=
  pock (f := (174723607534414371449 * 341948486974166000522343609283189)) (by decide) (by decide +kernel) (fun r hr hd => Nat.Coprime.mul_dvd_of_dvd_of_dvd (by decide +kernel) (part' (k := 256) (a := 2) b68 hr hd (by decide) (by decide +kernel) (by decide +kernel) (by decide +kernel) (by decide +kernel)) (part' (k := 256) (a := 2) c109 hr hd (by decide) (by decide +kernel) (by decide +kernel) (by decide +kernel) (by decide +kernel)))
theorem e128 : IsP 255515944373312847190720520512484175977 :=
  pock (f := (107590001 * 7240687 * 96557)) (by decide) (by decide +kernel) (fun r hr hd => Nat.Coprime.mul_dvd_of_dvd_of_dvd (by decide +kernel) (Nat.Coprime.mul_dvd_of_dvd_of_dvd (by decide +kernel) (part' (k := 128) (a := 2) x27 hr hd (by decide) (by decide +kernel) (by decide +kernel) (by decide +kernel) (by decide +kernel)) (part' (k := 128) (a := 2) x23 hr hd (by decide) (by decide +kernel) (by decide +kernel) (by decide +kernel) (by decide +kernel))) (part' (k := 128) (a := 2) x16 hr hd (by decide) (by decide +kernel) (by decide +kernel) (by decide +kernel) (by decide +kernel)))
theorem q237 : IsP 205115282021455665897114700593932402728804164701536103180137503955397371 :=
  pock (f := 255515944373312847190720520512484175977) (by decide) (by decide +kernel) (fun r hr hd => part' (k := 237) (a := 2) e128 hr hd (by decide) (by decide +kernel) (by decide +kernel) (by decide +kernel) (by decide +kernel))
theorem pP : IsP 115792089237316195423570985008687907853269984665640564039457584007908834671663 :=
  pock (f := 205115282021455665897114700593932402728804164701536103180137503955397371) (by decide) (by decide +kernel) (fun r hr hd => part' (k := 256) (a := 2) q237 hr hd (by decide) (by decide +kernel) (by decide +kernel) (by decide +kernel) (by decide +kernel))
end Go.Proofs.Ytdeidgbknlmhjab.NT
