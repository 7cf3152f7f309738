namespace Go.Proofs.Ytdeidgbknlmhjab.DG

def dsum (d : Nat → Int) : Nat → Int
  | 0 => 0
  | k + 1 => dsum d k + d k * 2 ^ k
def upd (d : Nat → Int) (i : Nat) (v : Int) : Nat → Int := fun j => if j = i then v else d j
theorem dsum_congr {d e : Nat → Int} : ∀ k, (∀ j, j < k → d j = e j) → dsum d k = dsum e k
  | 0, _ => rfl
  | k + 1, h => by
    show dsum d k + d k * 2 ^ k = dsum e k + e k * 2 ^ k
    rw [dsum_congr k fun j hj => h j (by omega), h k (by omega)]
theorem dsum_pad {d : Nat → Int} (i : Nat) (h : ∀ j, i ≤ j → d j = 0) : ∀ k, dsum d (i + k) = dsum d i
  | 0 => rfl
  | k + 1 => by
    show dsum d (i + k) + d (i + k) * 2 ^ (i + k) = _
    rw [h (i + k) (by omega), Int.zero_mul, Int.add_zero, dsum_pad i h k]
theorem upd_same (d : Nat → Int) (i : Nat) (v : Int) : upd d i v i = v := if_pos rfl
theorem upd_other {d : Nat → Int} {i j : Nat} {v : Int} (h : j ≠ i) : upd d i v j = d j := if_neg h
theorem dsum_upd {d : Nat → Int} (i : Nat) (v : Int) (h : ∀ j, i ≤ j → d j = 0) (k : Nat) : dsum (upd d i v) (i + 1 + k) = dsum d i + v * 2 ^ i := by
  rw [dsum_pad (i + 1) (fun j hj => by rw [upd_other (by omega)]; exact h j (by omega)) k]
  show dsum (upd d i v) i + upd d i v i * 2 ^ i = _
  rw [upd_same, dsum_congr i fun j hj => upd_other (by omega)]

/-- The digits of n, as far as i. -/
structure DI (n : Nat) (d : Nat → Int) (i c : Nat) : Prop where
  hc : c ≤ 1
  hz : ∀ j, i ≤ j → d j = 0
  hw : ∀ j, 257 ≤ j → d j = 0
  ho : ∀ j, d j = 0 ∨ (d j % 2 = 1 ∧ -15 ≤ d j ∧ d j ≤ 15)
  hs : (n : Int) = dsum d i + ((n / 2 ^ i + c : Nat) : Int) * 2 ^ i
  he : 257 ≤ i → n / 2 ^ i + c = 0

theorem DI.start (n : Nat) : DI n (fun _ => 0) 0 0 := by
  refine ⟨by decide, fun _ _ => rfl, fun _ _ => rfl, fun _ => Or.inl rfl, ?_, fun h => by omega⟩
  rw [Nat.pow_zero, Nat.div_one]
  show (n : Int) = 0 + ((n + 0 : Nat) : Int) * 1
  omega
theorem high {n i : Nat} (hn : n < 2 ^ 256) (hi : 256 ≤ i) : n / 2 ^ i = 0 :=
  Nat.div_eq_of_lt (Nat.lt_of_lt_of_le hn (Nat.pow_le_pow_right (by decide) hi))
theorem DI.skip {n i c : Nat} {d : Nat → Int} (h : DI n d i c) (hn : n < 2 ^ 256) (hi : i < 257) (hb : n / 2 ^ i % 2 = c) : DI n d (i + 1) c := by
  have hdiv : n / 2 ^ (i + 1) = n / 2 ^ i / 2 := by rw [Nat.pow_succ, Nat.div_div_eq_div_mul]
  refine ⟨h.hc, fun j hj => h.hz j (by omega), h.hw, h.ho, ?_, fun h257 => ?_⟩
  · rw [h.hs]
    show _ = dsum d i + d i * 2 ^ i + _
    rw [h.hz i (Nat.le_refl _), Int.zero_mul, Int.add_zero, hdiv, show n / 2 ^ i + c = (n / 2 ^ i / 2 + c) * 2 by have := h.hc; omega]
    rw [show (2 : Int) ^ (i + 1) = 2 ^ i * 2 by rw [Int.pow_succ]]
    generalize (2 : Int) ^ i = t
    rw [Int.natCast_mul, Int.mul_assoc, Int.mul_comm (2 : Nat) t]
    rfl
  · have h1 : i = 256 := by omega
    have h2 : n / 2 ^ i = 0 := high hn (by omega)
    rw [hdiv, h2]
    rw [h2] at hb
    omega
theorem DI.take {n i c : Nat} {d : Nat → Int} (h : DI n d i c) (hn : n < 2 ^ 256) (hi : i < 257) (hb : n / 2 ^ i % 2 ≠ c) :
    DI n (upd d i (((n / 2 ^ i % 32 + c : Nat) : Int) - 32 * (((n / 2 ^ i % 32 + c) / 16 : Nat) : Int))) (i + 5) ((n / 2 ^ i % 32 + c) / 16) := by
  have hdiv : n / 2 ^ (i + 5) = n / 2 ^ i / 32 := by rw [Nat.pow_add, Nat.div_div_eq_div_mul]
  have hc := h.hc
  have hodd : (n / 2 ^ i % 32 + c) % 2 = 1 := by omega
  have hlt : n / 2 ^ i % 32 + c < 32 := by omega
  refine ⟨by omega, fun j hj => ?_, fun j hj => ?_, fun j => ?_, ?_, fun h257 => ?_⟩
  · rw [upd_other (by omega)]; exact h.hz j (by omega)
  · rw [upd_other (by omega)]; exact h.hw j hj
  · by_cases hj : j = i
    · subst hj
      rw [upd_same]
      right
      omega
    · rw [upd_other hj]; exact h.ho j
  · rw [show i + 5 = i + 1 + 4 by omega, dsum_upd i _ h.hz 4, show i + 1 + 4 = i + 5 by omega, h.hs, Int.add_assoc]
    congr 1
    rw [hdiv, Int.pow_add, show (2 : Int) ^ 5 = 32 by decide, ← Int.mul_comm (32 : Int), ← Int.mul_assoc, ← Int.add_mul]
    congr 1
    omega
  · have h2 : n / 2 ^ i < 16 := by
      rw [Nat.div_lt_iff_lt_mul (Nat.pow_pos (by decide))]
      refine Nat.lt_of_lt_of_le hn ?_
      calc 2 ^ 256 = 16 * 2 ^ 252 := by decide +kernel
        _ ≤ 16 * 2 ^ i := Nat.mul_le_mul (Nat.le_refl _) (Nat.pow_le_pow_right (by decide) (by omega))
    rw [hdiv]
    generalize n / 2 ^ i = m at h2 hb hodd hlt ⊢
    rw [Nat.mod_eq_of_lt (show m < 32 by omega)] at hodd ⊢
    have h3 : m + c < 16 := by omega
    rw [Nat.div_eq_of_lt h3, Nat.div_eq_of_lt (show m < 32 by omega)]
theorem DI.all {n i c : Nat} {d : Nat → Int} (h : DI n d i c) (hi : 257 ≤ i) : (n : Int) = dsum d 257 := by
  have h1 := h.hs
  rw [h.he hi, Int.natCast_zero, Int.zero_mul, Int.add_zero] at h1
  rw [h1, show i = 257 + (i - 257) by omega, dsum_pad 257 h.hw]

/-- The digits from the top, k of them. -/
def hor (d : Nat → Int) : Nat → Int
  | 0 => 0
  | k + 1 => 2 * hor d k + d (256 - k)
theorem hor_sum (d : Nat → Int) : ∀ k, k ≤ 257 → hor d k * 2 ^ (257 - k) + dsum d (257 - k) = dsum d 257
  | 0, _ => by show 0 * _ + _ = _; rw [Int.zero_mul, Int.zero_add]
  | k + 1, hk => by
    rw [← hor_sum d k (by omega)]
    show (2 * hor d k + d (256 - k)) * 2 ^ (257 - (k + 1)) + dsum d (257 - (k + 1)) = _
    rw [show 257 - (k + 1) = 256 - k by omega, show 257 - k = (256 - k) + 1 by omega]
    show _ = hor d k * 2 ^ (256 - k + 1) + (dsum d (256 - k) + d (256 - k) * 2 ^ (256 - k))
    rw [Int.pow_succ]
    generalize (2 : Int) ^ (256 - k) = t
    generalize hor d k = a
    generalize dsum d (256 - k) = b
    rw [Int.add_mul, Int.mul_comm t 2, ← Int.mul_assoc, Int.mul_comm a 2]
    omega
theorem hor_all {n i c : Nat} {d : Nat → Int} (h : DI n d i c) (hi : 257 ≤ i) : hor d 257 = (n : Int) := by
  have h1 := hor_sum d 257 (Nat.le_refl _)
  rw [Nat.sub_self] at h1
  rw [h.all hi, ← h1]
  show hor d 257 = hor d 257 * 1 + 0
  omega
end Go.Proofs.Ytdeidgbknlmhjab.DG
