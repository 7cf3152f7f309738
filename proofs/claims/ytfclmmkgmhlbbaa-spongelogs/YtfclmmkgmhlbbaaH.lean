import Derived.Test.YtfclmmkgmhlbbaaQ2
namespace Go.Proofs.Ytfclmmkgmhlbbaa
open Go.Sort

/-! ### Words and bytes -/

theorem wide_bit (x : UInt8) (i : Nat) : (wide x).getLsbD i = x.toNat.testBit i := by
  unfold wide
  rw [BitVec.getLsbD_ofNat]
  by_cases h : i < 64
  · simp [h]
  · have : x.toNat.testBit i = false := Nat.testBit_lt_two_pow (Nat.lt_of_lt_of_le x.toNat_lt (Nat.pow_le_pow_right (by decide) (by omega : 8 ≤ i)))
    simp [h, this]

theorem byte_bit_high (x : UInt8) (i : Nat) (h : 8 ≤ i) : x.toNat.testBit i = false :=
  Nat.testBit_lt_two_pow (Nat.lt_of_lt_of_le x.toNat_lt (Nat.pow_le_pow_right (by decide) h))

theorem wordTo_bit (bs : Bs) (o n k : Nat) (hn : n ≤ 8) (hk : k < 64) : (wordTo bs o n).getLsbD k = (decide (k < 8 * n) && (bs[o + k / 8]!).toNat.testBit (k % 8)) := by
  induction n with
  | zero => simp [wordTo]
  | succ n ih =>
    rw [wordTo, BitVec.getLsbD_or, ih (by omega), BitVec.getLsbD_shiftLeft, wide_bit]
    by_cases h1 : k < 8 * n
    · simp [h1, hk, show k < 8 * (n + 1) by omega]
    · by_cases h2 : k < 8 * (n + 1)
      · have e1 : k / 8 = n := by omega
        have e2 : k - 8 * n = k % 8 := by omega
        simp [h1, h2, hk, e1, e2]
      · have := byte_bit_high bs[o + n]! (k - 8 * n) (by omega)
        simp [h1, h2, hk, this]

theorem low_bit (v : BitVec 64) (i : Nat) (h : i < 8) : (low v).toNat.testBit i = v.getLsbD i := by
  unfold low
  rw [UInt8.toNat_ofNat', Nat.testBit_mod_two_pow, BitVec.getLsbD]
  simp [h]

theorem byte_ext (x y : UInt8) (h : ∀ i, i < 8 → x.toNat.testBit i = y.toNat.testBit i) : x = y := by
  apply UInt8.toNat_inj.1
  apply Nat.eq_of_testBit_eq
  intro i
  by_cases hi : i < 8
  · exact h i hi
  · rw [byte_bit_high x i (by omega), byte_bit_high y i (by omega)]

theorem frontTo_at (d : St) (n k j : Nat) (hk : k ≤ n) (hj : j < n) : (frontTo d n k)[j]! = if j < k then byteOf d j else 0 := by
  induction k with
  | zero =>
    have h' : j < (Array.replicate n (0 : UInt8)).size := by rw [Array.size_replicate]; exact hj
    rw [frontTo, getElem!_pos (Array.replicate n (0 : UInt8)) j h', Array.getElem_replicate, if_neg (by omega)]
  | succ k ih =>
    rw [frontTo]
    by_cases h : j = k
    · subst h
      rw [getElem!_set_same _ _ _ (by rw [frontTo_size]; exact hj), if_pos (by omega)]
    · rw [getElem!_set_other _ _ _ _ h, ih (by omega)]
      by_cases h1 : j < k
      · rw [if_pos h1, if_pos (by omega)]
      · rw [if_neg h1, if_neg (by omega)]

theorem front_at (d : St) (n j : Nat) (hj : j < n) : (front d n)[j]! = byteOf d j := by
  unfold front
  rw [frontTo_at d n n j (Nat.le_refl _) hj, if_pos hj]

/-- The word that was laid out in bytes is read back. -/
theorem word_front (d : St) (n j : Nat) (hj : 8 * j + 8 ≤ n) : wordOf (front d n) (8 * j) = d[j]! := by
  apply BitVec.eq_of_getLsbD_eq
  intro k hk
  unfold wordOf
  rw [wordTo_bit _ _ 8 k (Nat.le_refl _) hk, front_at d n _ (by omega)]
  unfold byteOf
  have e1 : (8 * j + k / 8) / 8 = j := by omega
  have e2 : (8 * j + k / 8) % 8 = k / 8 := by omega
  rw [low_bit _ _ (Nat.mod_lt _ (by decide)), BitVec.getLsbD_ushiftRight, e1, e2, show 8 * (k / 8) + k % 8 = k by omega]
  simp [hk]

theorem mix_front (d : St) (hd : d.size = 25) : mixTo (front d 200) zero25 25 = d := by
  have hz : zero25.size = 25 := by simp [zero25]
  refine st_ext _ _ (by rw [mixTo_size, hz]) hd (fun j hj => ?_)
  rw [mixTo_at _ zero25 hz 25 j (Nat.le_refl _) hj, if_pos hj, zero25_at j hj, zx, word_front d 200 j (by omega)]

theorem permB_front (d : St) (hd : d.size = 25) : permB (front d 200) = front (perm d) 200 := by
  unfold permB
  rw [mix_front d hd]

/-! ### The sponge, byte by byte -/

structure Sp where
  d : St
  p : Bs
  h : Nat
structure Ok (S : Sp) : Prop where
  d25 : S.d.size = 25
  p136 : S.p.size = 136
  hlt : S.h < 136

def soakL (S : Sp) : Sp := { d := perm (mixTo S.p S.d 17), p := S.p, h := 0 }
def putB (S : Sp) (x : UInt8) : Sp :=
  if S.h + 1 = 136 then soakL { d := S.d, p := S.p.setIfInBounds S.h x, h := S.h } else { d := S.d, p := S.p.setIfInBounds S.h x, h := S.h + 1 }
def takeL (S : Sp) (l : List UInt8) : Sp := l.foldl putB S
def splice (p : Bs) : Nat → List UInt8 → Bs
  | _, [] => p
  | i, x :: r => splice (p.setIfInBounds i x) (i + 1) r

theorem takeL_append (S : Sp) (a b : List UInt8) : takeL S (a ++ b) = takeL (takeL S a) b := List.foldl_append
theorem splice_size (p : Bs) (i : Nat) (l : List UInt8) : (splice p i l).size = p.size := by
  induction l generalizing p i with
  | nil => rfl
  | cons x r ih => rw [splice, ih, Array.size_setIfInBounds]
theorem splice_at (p : Bs) (i : Nat) (l : List UInt8) (j : Nat) (hl : i + l.length ≤ p.size) (hj : j < p.size) : (splice p i l)[j]! = if i ≤ j ∧ j < i + l.length then l[j - i]! else p[j]! := by
  induction l generalizing p i with
  | nil => simp [splice]; omega
  | cons x r ih =>
    simp only [List.length_cons] at hl
    rw [splice, ih _ _ (by rw [Array.size_setIfInBounds]; omega) (by rw [Array.size_setIfInBounds]; exact hj)]
    by_cases h : j = i
    · subst h
      rw [if_neg (by omega), getElem!_set_same _ _ _ hj, if_pos (by simp), Nat.sub_self]
      rfl
    · rw [getElem!_set_other _ _ _ _ h]
      by_cases h1 : i + 1 ≤ j ∧ j < i + 1 + r.length
      · rw [if_pos h1, if_pos (by simp; omega), show j - i = (j - (i + 1)) + 1 by omega]
        rfl
      · rw [if_neg h1, if_neg (by simp; omega)]

theorem soak_mk (d : St) (p : Bs) (h : Nat) : soakL ⟨d, p, h⟩ = ⟨perm (mixTo p d 17), p, 0⟩ := by unfold soakL; rfl
theorem soakL_d (S : Sp) : (soakL S).d = perm (mixTo S.p S.d 17) := by
  obtain ⟨d, p, h⟩ := S
  rw [soak_mk]
theorem soakL_p (S : Sp) : (soakL S).p = S.p := by
  obtain ⟨d, p, h⟩ := S
  rw [soak_mk]
theorem soakL_h (S : Sp) : (soakL S).h = 0 := by
  obtain ⟨d, p, h⟩ := S
  rw [soak_mk]
theorem soak_ok {S : Sp} (h1 : S.d.size = 25) (h2 : S.p.size = 136) : Ok (soakL S) := by
  have hd : (mixTo S.p S.d 17).size = 25 := by rw [mixTo_size, h1]
  refine ⟨?_, by rw [soakL_p, h2], ?_⟩
  · rw [soakL_d]
    exact perm_size _ hd
  · rw [soakL_h]
    decide
theorem putB_ok {S : Sp} (h : Ok S) (x : UInt8) : Ok (putB S x) := by
  have := h.hlt
  unfold putB
  by_cases e : S.h + 1 = 136
  · rw [if_pos e]
    exact soak_ok h.d25 (by show (S.p.setIfInBounds _ _).size = 136; rw [Array.size_setIfInBounds]; exact h.p136)
  · rw [if_neg e]
    exact ⟨h.d25, by show (S.p.setIfInBounds _ _).size = 136; rw [Array.size_setIfInBounds]; exact h.p136, by show S.h + 1 < 136; omega⟩
theorem takeL_ok {S : Sp} (h : Ok S) (l : List UInt8) : Ok (takeL S l) := by
  induction l generalizing S with
  | nil => exact h
  | cons x r ih => exact ih (putB_ok h x)
theorem putB_h {S : Sp} (h : Ok S) (x : UInt8) : (putB S x).h = (S.h + 1) % 136 := by
  have := h.hlt
  unfold putB
  by_cases e : S.h + 1 = 136
  · rw [if_pos e, e]; rfl
  · rw [if_neg e, Nat.mod_eq_of_lt (by omega)]
theorem takeL_h {S : Sp} (h : Ok S) (l : List UInt8) : (takeL S l).h = (S.h + l.length) % 136 := by
  induction l generalizing S with
  | nil => exact (Nat.mod_eq_of_lt h.hlt).symm
  | cons x r ih =>
    show (takeL (putB S x) r).h = _
    rw [ih (putB_ok h x), putB_h h x, List.length_cons]
    omega

theorem takeL_chunk (S : Sp) (l : List UInt8) (hl : l ≠ []) (hle : S.h + l.length ≤ 136) :
    takeL S l = if S.h + l.length = 136 then soakL { d := S.d, p := splice S.p S.h l, h := S.h } else { d := S.d, p := splice S.p S.h l, h := S.h + l.length } := by
  induction l generalizing S with
  | nil => exact absurd rfl hl
  | cons x r ih =>
    show takeL (putB S x) r = _
    simp only [List.length_cons] at hle ⊢
    cases r with
    | nil =>
      unfold putB takeL splice
      simp only [List.foldl_nil, List.length_nil]
      by_cases e : S.h + 1 = 136
      · rw [if_pos e, if_pos (by omega)]; rfl
      · rw [if_neg e, if_neg (by omega)]; rfl
    | cons y r' =>
      have e : ¬ S.h + 1 = 136 := by simp only [List.length_cons] at hle; omega
      have hp : putB S x = { d := S.d, p := S.p.setIfInBounds S.h x, h := S.h + 1 } := by unfold putB; rw [if_neg e]
      rw [hp, ih _ (by simp) (by simp only [List.length_cons] at hle ⊢; omega)]
      simp only [splice, List.length_cons]
      by_cases e2 : S.h + (r'.length + 1 + 1) = 136
      · rw [if_pos (by omega), if_pos e2]; rfl
      · rw [if_neg (by omega), if_neg e2, show S.h + 1 + (r'.length + 1) = S.h + (r'.length + 1 + 1) by omega]

/-! ### The end -/

/-- The piece with the ending, as 'end' leaves it. -/
def ended (p : Bs) (h : Nat) (e : UInt8) : Bs :=
  let q := (splice p h (List.replicate (136 - h) 0)).setIfInBounds h e
  q.setIfInBounds 135 (q[135]! ^^^ 128)
def finalL (S : Sp) (e : UInt8) : Sp := soakL { d := S.d, p := ended S.p S.h e, h := S.h }
/-- What stands behind the bytes up to a whole piece. -/
def tailpad (h : Nat) (e : UInt8) : List UInt8 :=
  (e :: List.replicate (135 - h) 0).set (135 - h) ((e :: List.replicate (135 - h) 0)[135 - h]! ^^^ 128)
theorem tailpad_length (h : Nat) (e : UInt8) (hh : h < 136) : (tailpad h e).length = 136 - h := by
  unfold tailpad
  rw [List.length_set, List.length_cons, List.length_replicate]
  omega

theorem bs_ext (a b : Bs) (n : Nat) (ha : a.size = n) (hb : b.size = n) (h : ∀ j, j < n → a[j]! = b[j]!) : a = b := by
  apply Array.ext (by omega)
  intro i h1 h2
  have := h i (by omega)
  rwa [getElem!_pos a i h1, getElem!_pos b i h2] at this

theorem pad_at (h : Nat) (e : UInt8) (j : Nat) (hj : j < 136 - h) (hh : h < 136) : (tailpad h e)[j]! = (if j = 0 then e else 0) ^^^ (if j = 135 - h then 128 else 0) := by
  have hc : ∀ j, j < 136 - h → (e :: List.replicate (135 - h) (0 : UInt8))[j]! = if j = 0 then e else 0 := by
    intro j hj
    cases j with
    | zero => rfl
    | succ j =>
      have hl : j + 1 < (e :: List.replicate (135 - h) (0 : UInt8)).length := by rw [List.length_cons, List.length_replicate]; omega
      rw [getElem!_pos (e :: List.replicate (135 - h) (0 : UInt8)) (j + 1) hl]
      simp
  have hlen : (tailpad h e).length = 136 - h := tailpad_length h e hh
  have hl : j < (e :: List.replicate (135 - h) (0 : UInt8)).length := by rw [List.length_cons, List.length_replicate]; omega
  rw [getElem!_pos (tailpad h e) j (by rw [hlen]; exact hj)]
  unfold tailpad
  rw [List.getElem_set]
  by_cases h1 : 135 - h = j
  · rw [if_pos h1, hc (135 - h) (by omega), h1, if_pos (rfl : j = j)]
  · rw [if_neg h1, if_neg (show ¬ j = 135 - h by omega)]
    have := hc j hj
    rw [getElem!_pos (e :: List.replicate (135 - h) (0 : UInt8)) j hl] at this
    rw [this]
    simp

theorem ended_size (p : Bs) (h : Nat) (e : UInt8) : (ended p h e).size = p.size := by
  unfold ended
  simp only [Array.size_setIfInBounds, splice_size]

theorem rep_list_at (n j : Nat) (h : j < n) : (List.replicate n (0 : UInt8))[j]! = 0 := by
  rw [getElem!_pos _ j (by simpa using h)]
  simp

theorem ended_eq (p : Bs) (h : Nat) (e : UInt8) (hp : p.size = 136) (hh : h < 136) : ended p h e = splice p h (tailpad h e) := by
  have hs : (splice p h (List.replicate (136 - h) 0)).size = 136 := by rw [splice_size, hp]
  refine bs_ext _ _ 136 (by rw [ended_size, hp]) (by rw [splice_size, hp]) (fun j hj => ?_)
  have hq : ∀ j, j < 136 → ((splice p h (List.replicate (136 - h) 0)).setIfInBounds h e)[j]! = if j < h then p[j]! else if j = h then e else 0 := by
    intro j hj
    by_cases h1 : j = h
    · rw [h1, getElem!_set_same _ _ _ (by omega), if_neg (by omega), if_pos rfl]
    · rw [getElem!_set_other _ _ _ _ h1, splice_at _ _ _ _ (by rw [List.length_replicate, hp]; omega) (by omega), List.length_replicate]
      by_cases h2 : j < h
      · rw [if_neg (by omega), if_pos h2]
      · rw [if_pos (by omega), if_neg h2, if_neg h1, rep_list_at _ _ (by omega)]
  have hR : (splice p h (tailpad h e))[j]! = if j < h then p[j]! else (if j = h then e else 0) ^^^ (if j = 135 then 128 else 0) := by
    rw [splice_at _ _ _ _ (by rw [tailpad_length h e hh, hp]; omega) (by omega), tailpad_length h e hh]
    by_cases h2 : j < h
    · rw [if_neg (show ¬ (h ≤ j ∧ j < h + (136 - h)) by omega), if_pos h2]
    · rw [if_pos (show h ≤ j ∧ j < h + (136 - h) by omega), if_neg h2, pad_at h e _ (by omega) hh]
      have e1 : (j - h = 0) = (j = h) := by apply propext; omega
      have e2 : (j - h = 135 - h) = (j = 135) := by apply propext; omega
      simp only [e1, e2]
  have hL : (ended p h e)[j]! = if j < h then p[j]! else (if j = h then e else 0) ^^^ (if j = 135 then 128 else 0) := by
    unfold ended
    by_cases h135 : j = 135
    · rw [h135, getElem!_set_same _ _ _ (by rw [Array.size_setIfInBounds, hs]; decide), hq 135 (by decide), if_neg (show ¬ 135 < h by omega), if_neg (show ¬ 135 < h by omega), if_pos (rfl : 135 = 135)]
    · rw [getElem!_set_other _ _ _ _ h135, hq j hj]
      by_cases h2 : j < h
      · rw [if_pos h2, if_pos h2]
      · rw [if_neg h2, if_neg h2, if_neg h135]
        simp
  rw [hL, hR]

theorem finalL_eq {S : Sp} (h : Ok S) (e : UInt8) : finalL S e = takeL S (tailpad S.h e) := by
  have := h.hlt
  have hl := tailpad_length S.h e h.hlt
  rw [takeL_chunk S _ (by intro c; rw [c] at hl; simp at hl; omega) (by omega), if_pos (by omega)]
  unfold finalL
  rw [ended_eq _ _ _ h.p136 h.hlt]

end Go.Proofs.Ytfclmmkgmhlbbaa
