import Derived.Lib.SliceRun
import Derived.Deep.AppendSrc
import Derived.Lib.AppendZeros
import Derived.Lib.ConvBytes
import Derived.Lib.LazyBuf
import Derived.Deep.RegionHeld3
import Derived.Deep.LoopGhost
import Derived.BigQuiet
import Derived.ChangeOld
import Derived.Below
import Derived.WalkKit
import Derived.ProofKit
import Derived.OpenShut
import Derived.ShutString
import Derived.Test.YticolhhalbbogacGH5
set_option linter.unusedVariables false
set_option linter.unusedSimpArgs false
namespace Go.Proofs.Yticolhhalbbogac.SP
open Go.Sort
/-! ### Words and bytes -/
theorem wide_bit (x : UInt8) (i : Nat) : (wide x).getLsbD i = x.toNat.testBit i := by
  unfold wide
  rw [BitVec.getLsbD_ofNat]
  by_cases h : i < 64
  · simp [h]
  · have : x.toNat.testBit i = false := Nat.testBit_lt_two_pow (Nat.lt_of_lt_of_le x.toNat_lt (Nat.pow_le_pow_right (by decide) (by omega : 8 ≤ i)))
    simp [h, this]
theorem byte_bit_high (x : UInt8) (i : Nat) (h : 8 ≤ i) : x.toNat.testBit i = false :=
  Nat.testBit_lt_two_pow (Nat.lt_of_lt_of_le x.toNat_lt (Nat.pow_le_pow_right (by decide) h))
theorem wordTo_bit (bs : Bs) (o n k : Nat) (hn : n ≤ 8) (hk : k < 64) : (wordTo bs o n).getLsbD k = (decide (k < 8 * n) && (bs[o + k / 8]!).toNat.testBit (k % 8)) := by
  induction n with
  | zero => simp [wordTo]
  | succ n ih =>
    rw [wordTo, BitVec.getLsbD_or, ih (by omega), BitVec.getLsbD_shiftLeft, wide_bit]
    by_cases h1 : k < 8 * n
    · simp [h1, hk, show k < 8 * (n + 1) by omega]
    · by_cases h2 : k < 8 * (n + 1)
      · have e1 : k / 8 = n := by omega
        have e2 : k - 8 * n = k % 8 := by omega
        simp [h1, h2, hk, e1, e2]
      · have := byte_bit_high bs[o + n]! (k - 8 * n) (by omega)
        simp [h1, h2, hk, this]
theorem low_bit (v : BitVec 64) (i : Nat) (h : i < 8) : (low v).toNat.testBit i = v.getLsbD i := by
  unfold low
  rw [UInt8.toNat_ofNat', Nat.testBit_mod_two_pow, BitVec.getLsbD]
  simp [h]
theorem byte_ext (x y : UInt8) (h : ∀ i, i < 8 → x.toNat.testBit i = y.toNat.testBit i) : x = y := by
  apply UInt8.toNat_inj.1
  apply Nat.eq_of_testBit_eq
  intro i
  by_cases hi : i < 8
  · exact h i hi
  · rw [byte_bit_high x i (by omega), byte_bit_high y i (by omega)]
theorem frontTo_at (d : St) (n k j : Nat) (hk : k ≤ n) (hj : j < n) : (frontTo d n k)[j]! = if j < k then byteOf d j else 0 := by
  induction k with
  | zero =>
    have h' : j < (Array.replicate n (0 : UInt8)).size := by rw [Array.size_replicate]; exact hj
    rw [frontTo, getElem!_pos (Array.replicate n (0 : UInt8)) j h', Array.getElem_replicate, if_neg (by omega)]
  | succ k ih =>
    rw [frontTo]
    by_cases h : j = k
    · subst h
      rw [getElem!_set_same _ _ _ (by rw [frontTo_size]; exact hj), if_pos (by omega)]
    · rw [getElem!_set_other _ _ _ _ h, ih (by omega)]
      by_cases h1 : j < k
      · rw [if_pos h1, if_pos (by omega)]
      · rw [if_neg h1, if_neg (by omega)]
theorem front_at (d : St) (n j : Nat) (hj : j < n) : (front d n)[j]! = byteOf d j := by
  unfold front
  rw [frontTo_at d n n j (Nat.le_refl _) hj, if_pos hj]
/-- The word that was laid out in bytes is read back. -/
theorem word_front (d : St) (n j : Nat) (hj : 8 * j + 8 ≤ n) : wordOf (front d n) (8 * j) = d[j]! := by
  apply BitVec.eq_of_getLsbD_eq
  intro k hk
  unfold wordOf
  rw [wordTo_bit _ _ 8 k (Nat.le_refl _) hk, front_at d n _ (by omega)]
  unfold byteOf
  have e1 : (8 * j + k / 8) / 8 = j := by omega
  have e2 : (8 * j + k / 8) % 8 = k / 8 := by omega
  rw [low_bit _ _ (Nat.mod_lt _ (by decide)), BitVec.getLsbD_ushiftRight, e1, e2, show 8 * (k / 8) + k % 8 = k by omega]
  simp [hk]
theorem mix_front (d : St) (hd : d.size = 25) : mixTo (front d 200) zero25 25 = d := by
  have hz : zero25.size = 25 := by simp [zero25]
  refine st_ext _ _ (by rw [mixTo_size, hz]) hd (fun j hj => ?_)
  rw [mixTo_at _ zero25 hz 25 j (Nat.le_refl _) hj, if_pos hj, zero25_at j hj, zx, word_front d 200 j (by omega)]
theorem permB_front (d : St) (hd : d.size = 25) : permB (front d 200) = front (perm d) 200 := by
  unfold permB
  rw [mix_front d hd]
/-! ### The sponge, byte by byte -/
structure Sp where
  d : St
  p : Bs
  h : Nat
structure Ok (S : Sp) : Prop where
  d25 : S.d.size = 25
  p136 : S.p.size = 136
  hlt : S.h < 136
def soakL (S : Sp) : Sp := { d := perm (mixTo S.p S.d 17), p := S.p, h := 0 }
def putB (S : Sp) (x : UInt8) : Sp :=
  if S.h + 1 = 136 then soakL { d := S.d, p := S.p.setIfInBounds S.h x, h := S.h } else { d := S.d, p := S.p.setIfInBounds S.h x, h := S.h + 1 }
def takeL (S : Sp) (l : List UInt8) : Sp := l.foldl putB S
def splice (p : Bs) : Nat → List UInt8 → Bs
  | _, [] => p
  | i, x :: r => splice (p.setIfInBounds i x) (i + 1) r
theorem takeL_append (S : Sp) (a b : List UInt8) : takeL S (a ++ b) = takeL (takeL S a) b := List.foldl_append
theorem splice_size (p : Bs) (i : Nat) (l : List UInt8) : (splice p i l).size = p.size := by
  induction l generalizing p i with
  | nil => rfl
  | cons x r ih => rw [splice, ih, Array.size_setIfInBounds]
theorem splice_at (p : Bs) (i : Nat) (l : List UInt8) (j : Nat) (hl : i + l.length ≤ p.size) (hj : j < p.size) : (splice p i l)[j]! = if i ≤ j ∧ j < i + l.length then l[j - i]! else p[j]! := by
  induction l generalizing p i with
  | nil => simp [splice]; omega
  | cons x r ih =>
    simp only [List.length_cons] at hl
    rw [splice, ih _ _ (by rw [Array.size_setIfInBounds]; omega) (by rw [Array.size_setIfInBounds]; exact hj)]
    by_cases h : j = i
    · subst h
      rw [if_neg (by omega), getElem!_set_same _ _ _ hj, if_pos (by simp), Nat.sub_self]
      rfl
    · rw [getElem!_set_other _ _ _ _ h]
      by_cases h1 : i + 1 ≤ j ∧ j < i + 1 + r.length
      · rw [if_pos h1, if_pos (by simp; omega), show j - i = (j - (i + 1)) + 1 by omega]
        rfl
      · rw [if_neg h1, if_neg (by simp; omega)]
theorem soak_mk (d : St) (p : Bs) (h : Nat) : soakL ⟨d, p, h⟩ = ⟨perm (mixTo p d 17), p, 0⟩ := by unfold soakL; rfl
theorem soakL_d (S : Sp) : (soakL S).d = perm (mixTo S.p S.d 17) := by
  obtain ⟨d, p, h⟩ := S
  rw [soak_mk]
theorem soakL_p (S : Sp) : (soakL S).p = S.p := by
  obtain ⟨d, p, h⟩ := S
  rw [soak_mk]
theorem soakL_h (S : Sp) : (soakL S).h = 0 := by
  obtain ⟨d, p, h⟩ := S
  rw [soak_mk]
theorem soak_ok {S : Sp} (h1 : S.d.size = 25) (h2 : S.p.size = 136) : Ok (soakL S) := by
  have hd : (mixTo S.p S.d 17).size = 25 := by rw [mixTo_size, h1]
  refine ⟨?_, by rw [soakL_p, h2], ?_⟩
  · rw [soakL_d]
    exact perm_size _ hd
  · rw [soakL_h]
    decide
theorem putB_ok {S : Sp} (h : Ok S) (x : UInt8) : Ok (putB S x) := by
  have := h.hlt
  unfold putB
  by_cases e : S.h + 1 = 136
  · rw [if_pos e]
    exact soak_ok h.d25 (by show (S.p.setIfInBounds _ _).size = 136; rw [Array.size_setIfInBounds]; exact h.p136)
  · rw [if_neg e]
    exact ⟨h.d25, by show (S.p.setIfInBounds _ _).size = 136; rw [Array.size_setIfInBounds]; exact h.p136, by show S.h + 1 < 136; omega⟩
theorem takeL_ok {S : Sp} (h : Ok S) (l : List UInt8) : Ok (takeL S l) := by
  induction l generalizing S with
  | nil => exact h
  | cons x r ih => exact ih (putB_ok h x)
theorem putB_h {S : Sp} (h : Ok S) (x : UInt8) : (putB S x).h = (S.h + 1) % 136 := by
  have := h.hlt
  unfold putB
  by_cases e : S.h + 1 = 136
  · rw [if_pos e, e]; rfl
  · rw [if_neg e, Nat.mod_eq_of_lt (by omega)]
theorem takeL_h {S : Sp} (h : Ok S) (l : List UInt8) : (takeL S l).h = (S.h + l.length) % 136 := by
  induction l generalizing S with
  | nil => exact (Nat.mod_eq_of_lt h.hlt).symm
  | cons x r ih =>
    show (takeL (putB S x) r).h = _
    rw [ih (putB_ok h x), putB_h h x, List.length_cons]
    omega
theorem takeL_chunk (S : Sp) (l : List UInt8) (hl : l ≠ []) (hle : S.h + l.length ≤ 136) :
    takeL S l = if S.h + l.length = 136 then soakL { d := S.d, p := splice S.p S.h l, h := S.h } else { d := S.d, p := splice S.p S.h l, h := S.h + l.length } := by
  induction l generalizing S with
  | nil => exact absurd rfl hl
  | cons x r ih =>
    show takeL (putB S x) r = _
    simp only [List.length_cons] at hle ⊢
    cases r with
    | nil =>
      unfold putB takeL splice
      simp only [List.foldl_nil, List.length_nil]
      by_cases e : S.h + 1 = 136
      · rw [if_pos e, if_pos (by omega)]; rfl
      · rw [if_neg e, if_neg (by omega)]; rfl
    | cons y r' =>
      have e : ¬ S.h + 1 = 136 := by simp only [List.length_cons] at hle; omega
      have hp : putB S x = { d := S.d, p := S.p.setIfInBounds S.h x, h := S.h + 1 } := by unfold putB; rw [if_neg e]
      rw [hp, ih _ (by simp) (by simp only [List.length_cons] at hle ⊢; omega)]
      simp only [splice, List.length_cons]
      by_cases e2 : S.h + (r'.length + 1 + 1) = 136
      · rw [if_pos (by omega), if_pos e2]; rfl
      · rw [if_neg (by omega), if_neg e2, show S.h + 1 + (r'.length + 1) = S.h + (r'.length + 1 + 1) by omega]
/-! ### The end -/
/-- The piece with the ending, as 'end' leaves it. -/
def ended (p : Bs) (h : Nat) (e : UInt8) : Bs :=
  let q := (splice p h (List.replicate (136 - h) 0)).setIfInBounds h e
  q.setIfInBounds 135 (q[135]! ^^^ 128)
def finalL (S : Sp) (e : UInt8) : Sp := soakL { d := S.d, p := ended S.p S.h e, h := S.h }
/-- What stands behind the bytes up to a whole piece. -/
def tailpad (h : Nat) (e : UInt8) : List UInt8 :=
  (e :: List.replicate (135 - h) 0).set (135 - h) ((e :: List.replicate (135 - h) 0)[135 - h]! ^^^ 128)
theorem tailpad_length (h : Nat) (e : UInt8) (hh : h < 136) : (tailpad h e).length = 136 - h := by
  unfold tailpad
  rw [List.length_set, List.length_cons, List.length_replicate]
  omega
theorem bs_ext (a b : Bs) (n : Nat) (ha : a.size = n) (hb : b.size = n) (h : ∀ j, j < n → a[j]! = b[j]!) : a = b := by
  apply Array.ext (by omega)
  intro i h1 h2
  have := h i (by omega)
  rwa [getElem!_pos a i h1, getElem!_pos b i h2] at this
theorem pad_at (h : Nat) (e : UInt8) (j : Nat) (hj : j < 136 - h) (hh : h < 136) : (tailpad h e)[j]! = (if j = 0 then e else 0) ^^^ (if j = 135 - h then 128 else 0) := by
  have hc : ∀ j, j < 136 - h → (e :: List.replicate (135 - h) (0 : UInt8))[j]! = if j = 0 then e else 0 := by
    intro j hj
    cases j with
    | zero => rfl
    | succ j =>
      have hl : j + 1 < (e :: List.replicate (135 - h) (0 : UInt8)).length := by rw [List.length_cons, List.length_replicate]; omega
      rw [getElem!_pos (e :: List.replicate (135 - h) (0 : UInt8)) (j + 1) hl]
      simp
  have hlen : (tailpad h e).length = 136 - h := tailpad_length h e hh
  have hl : j < (e :: List.replicate (135 - h) (0 : UInt8)).length := by rw [List.length_cons, List.length_replicate]; omega
  rw [getElem!_pos (tailpad h e) j (by rw [hlen]; exact hj)]
  unfold tailpad
  rw [List.getElem_set]
  by_cases h1 : 135 - h = j
  · rw [if_pos h1, hc (135 - h) (by omega), h1, if_pos (rfl : j = j)]
  · rw [if_neg h1, if_neg (show ¬ j = 135 - h by omega)]
    have := hc j hj
    rw [getElem!_pos (e :: List.replicate (135 - h) (0 : UInt8)) j hl] at this
    rw [this]
    simp
theorem ended_size (p : Bs) (h : Nat) (e : UInt8) : (ended p h e).size = p.size := by
  unfold ended
  simp only [Array.size_setIfInBounds, splice_size]
theorem rep_list_at (n j : Nat) (h : j < n) : (List.replicate n (0 : UInt8))[j]! = 0 := by
  rw [getElem!_pos _ j (by simpa using h)]
  simp
theorem ended_eq (p : Bs) (h : Nat) (e : UInt8) (hp : p.size = 136) (hh : h < 136) : ended p h e = splice p h (tailpad h e) := by
  have hs : (splice p h (List.replicate (136 - h) 0)).size = 136 := by rw [splice_size, hp]
  refine bs_ext _ _ 136 (by rw [ended_size, hp]) (by rw [splice_size, hp]) (fun j hj => ?_)
  have hq : ∀ j, j < 136 → ((splice p h (List.replicate (136 - h) 0)).setIfInBounds h e)[j]! = if j < h then p[j]! else if j = h then e else 0 := by
    intro j hj
    by_cases h1 : j = h
    · rw [h1, getElem!_set_same _ _ _ (by omega), if_neg (by omega), if_pos rfl]
    · rw [getElem!_set_other _ _ _ _ h1, splice_at _ _ _ _ (by rw [List.length_replicate, hp]; omega) (by omega), List.length_replicate]
      by_cases h2 : j < h
      · rw [if_neg (by omega), if_pos h2]
      · rw [if_pos (by omega), if_neg h2, if_neg h1, rep_list_at _ _ (by omega)]
  have hR : (splice p h (tailpad h e))[j]! = if j < h then p[j]! else (if j = h then e else 0) ^^^ (if j = 135 then 128 else 0) := by
    rw [splice_at _ _ _ _ (by rw [tailpad_length h e hh, hp]; omega) (by omega), tailpad_length h e hh]
    by_cases h2 : j < h
    · rw [if_neg (show ¬ (h ≤ j ∧ j < h + (136 - h)) by omega), if_pos h2]
    · rw [if_pos (show h ≤ j ∧ j < h + (136 - h) by omega), if_neg h2, pad_at h e _ (by omega) hh]
      have e1 : (j - h = 0) = (j = h) := by apply propext; omega
      have e2 : (j - h = 135 - h) = (j = 135) := by apply propext; omega
      simp only [e1, e2]
  have hL : (ended p h e)[j]! = if j < h then p[j]! else (if j = h then e else 0) ^^^ (if j = 135 then 128 else 0) := by
    unfold ended
    by_cases h135 : j = 135
    · rw [h135, getElem!_set_same _ _ _ (by rw [Array.size_setIfInBounds, hs]; decide), hq 135 (by decide), if_neg (show ¬ 135 < h by omega), if_neg (show ¬ 135 < h by omega), if_pos (rfl : 135 = 135)]
    · rw [getElem!_set_other _ _ _ _ h135, hq j hj]
      by_cases h2 : j < h
      · rw [if_pos h2, if_pos h2]
      · rw [if_neg h2, if_neg h2, if_neg h135]
        simp
  rw [hL, hR]
theorem finalL_eq {S : Sp} (h : Ok S) (e : UInt8) : finalL S e = takeL S (tailpad S.h e) := by
  have := h.hlt
  have hl := tailpad_length S.h e h.hlt
  rw [takeL_chunk S _ (by intro c; rw [c] at hl; simp at hl; omega) (by omega), if_pos (by omega)]
  unfold finalL
  rw [ended_eq _ _ _ h.p136 h.hlt]
end Go.Proofs.Yticolhhalbbogac.SP
namespace Go.Proofs.Yticolhhalbbogac.SP
open Go.RowKit Go.Sort Go.Deep
theorem Only.widen {b o n o' n' : Nat} {w w' : World} (h : Only b o n w w') (h1 : o' ≤ o) (h2 : o + n ≤ o' + n') : Only b o' n' w w' :=
  ⟨h.os, h.tape, h.output, h.size, h.block, fun q hq => h.cell q (by omega), h.froz⟩
/-- A sponge lies in block b. -/
structure HSp (w : World) (b : Nat) (S : Sp) : Prop where
  d : Holds enc w b 0 S.d
  p : Holds encB w b 25 S.p
  h : w.cell? ⟨b, 161, none⟩ = some (.int .i64 (S.h : Int))
  f : w.frozen? ⟨b, 161, none⟩ = false
theorem HSp.drew {w : World} {b : Nat} {S : Sp} (h : HSp w b S) : HSp w.drew b S := ⟨h.d, h.p, h.h, h.f⟩
theorem HSp.drewN {w : World} {b : Nat} {S : Sp} (h : HSp w b S) (q : Nat) : HSp (w.drewN q) b S := ⟨h.d, h.p, h.h, h.f⟩
theorem HSp.lt {w : World} {b : Nat} {S : Sp} (h : HSp w b S) : b < w.heap.size := World.block_lt_of_cell? _ _ h.h
theorem HSp.below {w w' : World} {b B : Nat} {S : Sp} (h : HSp w b S) (k : Below B w w') (hb : b < B) : HSp w' b S :=
  ⟨Holds.below h.d k hb, Holds.below h.p k hb, by rw [k.cell (p := ⟨b, 161, none⟩) hb]; exact h.h, by rw [k.frozen (p := ⟨b, 161, none⟩) hb]; exact h.f⟩
set_option maxHeartbeats 1000000 in
set_option maxRecDepth 100000 in
theorem soak_any (b : Nat) (S : Sp) (w : World) (h25 : S.d.size = 25) (h136 : S.p.size = 136) (hS : HSp w b S) :
    Calls Try.prog 73 #[.pointer (some ⟨b, 0, none⟩)] w fun e w' => e = .returned (.tuple #[]) ∧ Only b 0 162 w w' ∧ HSp w' b (soakL S) := by
  obtain ⟨d, p, h⟩ := S
  dsimp only at h25 h136
  have hD : Holds enc w b 0 d := hS.d
  have hP : Holds encB w b 25 p := hS.p
  have hc := hS.h
  have hf := hS.f
  dsimp only at hc
  rw [soak_mk]
  clear hS
  have hps : (perm (mixTo p d 17)).size = 25 := perm_size _ (by rw [mixTo_size, h25])
  generalize hpm : perm (mixTo p d 17) = pd at hps ⊢
  have HPM : Hid (perm (mixTo p d 17) = pd) := hpm
  clear hpm
  go_enter Try.func73, Try.ntmps73
  go_wp2
  go_still_tail 7, mixed
  go_wp2_with fail
  refine (mix_any b 0 b 25 136 136 p d _ h25 (Holds.drew hD) (Holds.drew hP) h136 (by decide) (Nat.le_refl _) (by omega)).mono ?_
  rintro e w1 ⟨rfl, hO1, hD1⟩
  have hO1' : Only b 0 25 w w1 := ((Only.refl b 0 25 w).drew).trans hO1
  have hD1' : Holds enc w1 b 0 (mixTo p d 17) := hD1
  have hP1 := Holds.same hP hO1' (by omega)
  have c1 : w1.cell? ⟨b, 161, none⟩ = some (.int .i64 (h : Int)) := by rw [hO1'.cell 161 (by omega)]; exact hc
  have f1 : w1.frozen? ⟨b, 161, none⟩ = false := by rw [hO1'.froz]; exact hf
  clear hO1 hD1
  go_wp2_with fail
  refine (permute_any b 0 _ _ (by rw [mixTo_size, h25]) hD1').mono ?_
  rintro e w2 ⟨rfl, hO2, hD2⟩
  rw [HPM.out] at hD2
  have hP2 := Holds.same hP1 hO2 (by omega)
  have c2 : w2.cell? ⟨b, 161, none⟩ = some (.int .i64 (h : Int)) := by rw [hO2.cell 161 (by omega)]; exact c1
  have f2 : w2.frozen? ⟨b, 161, none⟩ = false := by rw [hO2.froz]; exact f1
  go_wp2
  go_end0
  have hO3 : Only b 161 1 w2 (w2.setCell ⟨b, 161, none⟩ (.int .i64 0)) := (Only.refl b 161 1 w2).setCell (by omega) (by omega) _
  have hD3 : Holds enc _ b 0 pd := Holds.same hD2 hO3 (Or.inl (by omega))
  have hP3 : Holds encB _ b 25 p := Holds.same hP2 hO3 (Or.inl (by omega))
  exact ⟨rfl, ((hO1'.trans hO2).widen (Nat.le_refl _) (by omega)).trans (hO3.widen (by omega) (by omega)), ⟨hD3, hP3, World.cell?_setCell_same _ _ _ c2, by rw [World.frozen?_setCell]; exact f2⟩⟩
end Go.Proofs.Yticolhhalbbogac.SP
namespace Go.Proofs.Yticolhhalbbogac.SP
open Go.RowKit Go.Sort Go.Deep
theorem ints5 : (Try.prog.info? 5).map (·.size) = some 1 := by kernel_rfl
theorem holds_splice {w : World} {b o : Nat} {p : Bs} (h : Holds encB w b o p) (i : Nat) (l : List UInt8) (hi : i + l.length ≤ p.size) : Holds encB (w.setCells b (o + i) (l.map encB)) b o (splice p i l) := by
  refine Holds.setCells h _ i (splice_size p i l) (by rw [List.length_map]; exact hi) (fun j hj => ?_) (fun j hj hout => ?_)
  · rw [List.length_map] at hj
    rw [splice_at p i l (i + j) hi (by omega), if_pos (by omega), Nat.add_sub_cancel_left, getElem!_pos l j hj, List.getElem_map]
  · rw [List.length_map] at hout
    rw [splice_at p i l j hi hj, if_neg (by omega)]
/-- The bytes from place k on, n of them. -/
def piece (bs : Bs) (k n : Nat) : List UInt8 := (bs.toList.drop k).take n
theorem piece_length (bs : Bs) (k n : Nat) (h : k + n ≤ bs.size) : (piece bs k n).length = n := by
  unfold piece
  rw [List.length_take, List.length_drop, Array.length_toList]
  omega
theorem piece_at (bs : Bs) (k n j : Nat) (h : k + n ≤ bs.size) (hj : j < n) (hl : j < (piece bs k n).length) : (piece bs k n)[j] = bs[k + j]! := by
  have e : (piece bs k n)[j]? = some bs[k + j]! := by
    unfold piece
    rw [List.getElem?_take_of_lt hj, List.getElem?_drop, Array.getElem?_toList, Array.getElem?_eq_getElem (by omega), getElem!_pos bs (k + j) (by omega)]
  exact (List.getElem?_eq_some_iff.1 e).2
theorem take_piece (bs : Bs) (k n : Nat) : bs.toList.take (k + n) = bs.toList.take k ++ piece bs k n := List.take_add
theorem copy_piece {w : World} {b h sb o len cap n : Nat} {p bs : Bs} {k : Nat} (hP : Holds encB w b 25 p) (hp : p.size = 136) (hB : Holds encB w sb o bs) (hh : h < 136) (hk : k + len ≤ bs.size) (hn : Nat.min len (136 - h) = n) :
    (Builtin.copy_ #[22, 22] 3 #[.slice (some ⟨b, 25 + h, none⟩) (136 - h) (136 - h), .slice (some ⟨sb, o + k, none⟩) len cap]).run Try.prog w = .ok (goInt n) (w.setCells b (25 + h) ((piece bs k n).map encB)) := by
  have hnl : n ≤ len := by rw [← hn]; exact Nat.min_le_left _ _
  have hnh : n ≤ 136 - h := by rw [← hn]; exact Nat.min_le_right _ _
  have hlen : ((piece bs k n).map encB).length = n := by rw [List.length_map, piece_length bs k n (by omega)]
  have := run_copy_cells (P := Try.prog) w 22 22 3 5 b (25 + h) (136 - h) (136 - h) ⟨sb, o + k, none⟩ len cap ((piece bs k n).map encB) slice22 ints5 (by rw [hlen, hn])
    (fun j v hj => by
      obtain ⟨h1, h2⟩ := List.getElem?_eq_some_iff.1 hj
      rw [hlen] at h1
      have hc := (hB (k + j) (by omega)).1
      rw [List.getElem_map, piece_at bs k n j (by omega) h1] at h2
      have e1 : (⟨sb, o + k, none⟩ : Addr).add j = ⟨sb, o + (k + j), none⟩ := by
        unfold Addr.add
        by_cases h0 : j = 0
        · subst h0; rw [if_pos rfl]; rfl
        · rw [if_neg h0, Nat.add_assoc]
      rw [e1, hc, h2])
    (fun j hj => by
      rw [hlen] at hj
      have := (hP (h + j) (by omega)).1
      rw [← Nat.add_assoc] at this
      rw [this]; rfl)
    (fun j hj => by
      rw [hlen] at hj
      have := (hP (h + j) (by omega)).2
      rw [← Nat.add_assoc] at this
      exact this)
    (fun v hv => by
      obtain ⟨x, _, rfl⟩ := List.mem_map.1 hv
      rfl)
  rw [hlen] at this
  exact this
theorem held_set {w : World} {b : Nat} {d : St} {p : Bs} {v : Value} (hD : Holds enc w b 0 d) (h25 : d.size = 25) (hP : Holds encB w b 25 p) (h136 : p.size = 136) (hc : w.cell? ⟨b, 161, none⟩ = some v) (hf : w.frozen? ⟨b, 161, none⟩ = false) (m : Nat) :
    HSp (w.setCell ⟨b, 161, none⟩ (.int .i64 ((m : Nat) : Int))) b ⟨d, p, m⟩ := by
  have hO : Only b 161 1 w (w.setCell ⟨b, 161, none⟩ (.int .i64 ((m : Nat) : Int))) := (Only.refl b 161 1 w).setCell (by omega) (by omega) _
  have hD3 : Holds enc _ b 0 d := Holds.same hD hO (Or.inl (by omega))
  have hP3 : Holds encB _ b 25 p := Holds.same hP hO (Or.inl (by omega))
  exact ⟨hD3, hP3, World.cell?_setCell_same _ _ _ hc, by rw [World.frozen?_setCell]; exact hf⟩
set_option maxHeartbeats 2000000 in
set_option maxRecDepth 100000 in
theorem take_any (b : Nat) (S : Sp) (a : Option Addr) (sb so len cap : Nat) (bs : Bs) (w : World) (hok : Ok S) (hS : HSp w b S) (hl : bs.size = len) (hcap : len ≤ cap) (hbig : len ≤ 1099511627776)
    (hsrc : len = 0 ∨ (a = some ⟨sb, so, none⟩ ∧ sb ≠ b ∧ Holds encB w sb so bs)) :
    Calls Try.prog 72 #[.pointer (some ⟨b, 0, none⟩), .slice a len cap] w fun e w' => e = .returned (.tuple #[]) ∧ Only b 0 162 w w' ∧ HSp w' b (takeL S bs.toList) := by
  go_enter Try.func72, Try.ntmps72
  go_wp2
  go_loopg [1] len (fun g s1 wr => ∃ (k : Nat) (a' : Option Addr) (Sk : Sp), k + g = len ∧ s1 = .slice a' (len - k) (cap - k) ∧ (k < len → a' = some ⟨sb, so + k, none⟩) ∧ HSp wr b Sk ∧ Only b 0 162 w wr ∧ Hid (Sk = takeL S (bs.toList.take k)))
  case atStart =>
    refine ⟨0, a, S, by omega, rfl, fun h0 => ?_, hS, Only.refl _ _ _ _, rfl⟩
    rcases hsrc with h | ⟨h, _, _⟩
    · omega
    · exact h
  case round =>
    obtain ⟨k, a', Sk, hk, rfl, ha', hSk, hO, HE⟩ := hrel
    by_cases hlt : k < len
    · have e1 := ha' hlt
      subst e1
      obtain ⟨_, hne, hB⟩ : a = some ⟨sb, so, none⟩ ∧ sb ≠ b ∧ Holds encB w sb so bs := by
        rcases hsrc with h | h
        · omega
        · exact h
      have hBr := Holds.other hB hO hne (by omega)
      have hokk : Ok Sk := by rw [HE.out]; exact takeL_ok hok _
      obtain ⟨q, hh⟩ : ∃ q, Sk.h = q := ⟨_, rfl⟩
      have hlt136 := hokk.hlt
      have hsz := hokk.p136
      rw [hh] at hlt136
      have hc := hSk.h
      have hf := hSk.f
      rw [hh] at hc
      have hP := hSk.p
      obtain ⟨n, hn⟩ : ∃ n, Nat.min (len - k) (136 - q) = n := ⟨_, rfl⟩
      have l0 : (0 : Int) < ((len - k : Nat) : Int) := by omega
      have hh136 : (q : Int) ≤ 136 := by omega
      have Hh : Hid (Sk.h = q) := hh
      clear hh
      have hne136 : (136 = q) = False := eq_false (by omega)
      have hn1 : 1 ≤ n := by rw [← hn]; exact (Nat.le_min).2 ⟨by omega, by omega⟩
      have hnl : n ≤ len - k := by rw [← hn]; exact Nat.min_le_left _ _
      have hnh : n ≤ 136 - q := by rw [← hn]; exact Nat.min_le_right _ _
      have hcp := copy_piece (w := wr.drew) (cap := cap - k) (k := k) hP hsz hBr hlt136 (by omega) hn
      have hpl := piece_length bs k n (by omega)
      have hP1 := holds_splice (Holds.drew hP) q (piece bs k n) (by omega)
      have hO1 : Only b 0 162 w (wr.drew.setCells b (25 + q) ((piece bs k n).map encB)) := hO.drew.setCells _ _ (by omega) (by rw [List.length_map]; omega)
      have hOx : Only b 25 136 wr (wr.drew.setCells b (25 + q) ((piece bs k n).map encB)) := ((Only.refl b 25 136 wr).drew).setCells _ _ (by omega) (by rw [List.length_map]; omega)
      have hD1 := Holds.same hSk.d hOx (Or.inl (by rw [hokk.d25]; omega))
      have c1 : (wr.drew.setCells b (25 + q) ((piece bs k n).map encB)).cell? ⟨b, 161, none⟩ = some (.int .i64 (q : Int)) := by rw [hOx.cell 161 (by omega)]; exact hc
      have f1 : (wr.drew.setCells b (25 + q) ((piece bs k n).map encB)).frozen? ⟨b, 161, none⟩ = false := by rw [hOx.froz]; exact hf
      have HT : Hid (takeL S (bs.toList.take (k + n)) = takeL Sk (piece bs k n)) := by
        show _ = _
        rw [take_piece, takeL_append, ← HE.out]
      have HCH : Hid (takeL Sk (piece bs k n) = if q + n = 136 then soakL ⟨Sk.d, splice Sk.p q (piece bs k n), q⟩ else ⟨Sk.d, splice Sk.p q (piece bs k n), q + n⟩) := by
        show _ = _
        have := takeL_chunk Sk (piece bs k n) (by intro e; rw [e] at hpl; simp at hpl; omega) (by rw [hpl, Hh.out]; omega)
        rw [hpl, Hh.out] at this
        exact this
      have hss : (splice Sk.p q (piece bs k n)).size = 136 := by rw [splice_size, hsz]
      have hds := hokk.d25
      generalize hW1 : wr.drew.setCells b (25 + q) ((piece bs k n).map encB) = W1 at hcp hP1 hO1 hD1 c1 f1
      generalize splice Sk.p q (piece bs k n) = sp at hP1 hss HCH
      generalize Sk.d = sd at hD1 hds HCH
      clear hOx hW1 hP hBr hokk hpl hSk hsz hn
      have z1 : (n : Int) ≤ ((len - k : Nat) : Int) := by omega
      by_cases hcn : cap - k = n
      · have hcn' : (cap - k = n) = True := eq_true hcn
        have HCN : Hid (cap - k = n) := hcn
        clear hcn
        by_cases hfull : q + n = 136
        · have hb : ((q : Int) + (n : Int) == 136) = true := beq_iff_eq.2 (by omega)
          rw [if_pos hfull] at HCH
          go_wp2_with fail
          go_still_tail 9, mixed
          go_wp2_with fail
          refine (soak_any b ⟨sd, sp, q + n⟩ _ hds hss (held_set hD1 hds hP1 hss c1 f1 (q + n))).mono ?_
          rintro e w2 ⟨rfl, hO2, hS2⟩
          go_wp2
          go_roundg (gk - n)
          case measure => omega
          case rel =>
            refine ⟨k + n, some ⟨sb, so + k, none⟩, soakL ⟨sd, sp, q⟩, by omega, by rw [Nat.sub_sub, Nat.sub_sub], fun hx => by have := HCN.out; omega, ?_, ?_, ?_⟩
            · rw [soak_mk] at hS2 ⊢
              exact hS2
            · exact (hO1.setCell (o := 161) (by omega) (by omega) _).trans hO2
            · rw [HT.out, HCH.out]; rfl
        · have hb : ((q : Int) + (n : Int) == 136) = false := beq_eq_false_iff_ne.2 (by omega)
          rw [if_neg hfull] at HCH
          go_wp2_with fail
          go_still_tail 9, mixed
          go_wp2
          go_roundg (gk - n)
          case measure => omega
          case rel =>
            refine ⟨k + n, some ⟨sb, so + k, none⟩, ⟨sd, sp, q + n⟩, by omega, by rw [Nat.sub_sub, Nat.sub_sub], fun hx => by have := HCN.out; omega, ?_, ?_, ?_⟩
            · exact held_set hD1 hds hP1 hss c1 f1 (q + n)
            · exact hO1.setCell (o := 161) (by omega) (by omega) _
            · rw [HT.out, HCH.out]; rfl
      · have hcn' : (cap - k = n) = False := eq_false hcn
        by_cases hfull : q + n = 136
        · have hb : ((q : Int) + (n : Int) == 136) = true := beq_iff_eq.2 (by omega)
          rw [if_pos hfull] at HCH
          go_wp2_with fail
          go_still_tail 9, mixed
          go_wp2_with fail
          refine (soak_any b ⟨sd, sp, q + n⟩ _ hds hss (held_set hD1 hds hP1 hss c1 f1 (q + n))).mono ?_
          rintro e w2 ⟨rfl, hO2, hS2⟩
          go_wp2
          go_roundg (gk - n)
          case measure => omega
          case rel =>
            refine ⟨k + n, some ⟨sb, so + k + n, none⟩, soakL ⟨sd, sp, q⟩, by omega, by rw [Nat.sub_sub, Nat.sub_sub], fun _ => by rw [Nat.add_assoc], ?_, ?_, ?_⟩
            · rw [soak_mk] at hS2 ⊢
              exact hS2
            · exact (hO1.setCell (o := 161) (by omega) (by omega) _).trans hO2
            · rw [HT.out, HCH.out]; rfl
        · have hb : ((q : Int) + (n : Int) == 136) = false := beq_eq_false_iff_ne.2 (by omega)
          rw [if_neg hfull] at HCH
          go_wp2_with fail
          go_still_tail 9, mixed
          go_wp2
          go_roundg (gk - n)
          case measure => omega
          case rel =>
            refine ⟨k + n, some ⟨sb, so + k + n, none⟩, ⟨sd, sp, q + n⟩, by omega, by rw [Nat.sub_sub, Nat.sub_sub], fun _ => by rw [Nat.add_assoc], ?_, ?_, ?_⟩
            · exact held_set hD1 hds hP1 hss c1 f1 (q + n)
            · exact hO1.setCell (o := 161) (by omega) (by omega) _
            · rw [HT.out, HCH.out]; rfl
    · have hk0 : k = len := by omega
      have l0 : ¬ (0 : Int) < ((len - k : Nat) : Int) := by omega
      go_wp2
      go_end0
      refine ⟨rfl, hO, ?_⟩
      have e1 : bs.toList.take k = bs.toList := List.take_of_length_le (by rw [Array.length_toList]; omega)
      rw [HE.out, e1] at hSk
      exact hSk
end Go.Proofs.Yticolhhalbbogac.SP
namespace Go.Proofs.Yticolhhalbbogac.SP
open Go.RowKit Go.Sort Go.Deep
theorem ofInt_toNat8 (x : UInt8) : BitVec.ofInt 8 (x.toNat : Int) = x.toBitVec := by
  apply BitVec.eq_of_toNat_eq
  rw [BitVec.ofInt_natCast, BitVec.toNat_ofNat]
  exact Nat.mod_eq_of_lt x.toNat_lt
theorem bits_xor8 (x y : UInt8) : bits .xor .u8 (ub x) (ub y) = ub (x ^^^ y) := by
  show IntKind.u8.wrap ((BitVec.ofInt 8 (x.toNat : Int) ^^^ BitVec.ofInt 8 (y.toNat : Int)).toNat : Int) = _
  rw [ofInt_toNat8, ofInt_toNat8, ← UInt8.toBitVec_xor]
  have h : ((x ^^^ y).toNat : Int) < 256 := by have := (x ^^^ y).toNat_lt; omega
  have e : ∀ n : Int, IntKind.u8.wrap n = n % 256 := fun n => by simp [IntKind.wrap, IntKind.bits, IntKind.signed]
  rw [e]
  exact Int.emod_eq_of_lt (Int.natCast_nonneg _) h
theorem xor80 (x : UInt8) : bits .xor .u8 (ub x) 128 = ub (x ^^^ 128) := bits_xor8 x 128
theorem zero5 : ∀ w : World, (zeroValue 5).run Try.prog w = .ok (.int .u8 0) w := fun _ => by kernel_rfl
theorem clear_piece {w : World} {b q : Nat} {p : Bs} (hP : Holds encB w b 25 p) (hp : p.size = 136) (hq : q < 136) (ty : TypeId) :
    (Builtin.clear_ #[22] ty #[.slice (some ⟨b, 25 + q, none⟩) (136 - q) (136 - q)]).run Try.prog w = .ok (.tuple #[]) (w.setCells b (25 + q) ((List.replicate (136 - q) (0 : UInt8)).map encB)) := by
  have h := Lib.run_clear_slice (P := Try.prog) w 22 5 ty (.int .u8 0) slice22 zero5 rfl rfl b (25 + q) (136 - q) (136 - q) (by omega)
    (fun j hj => by
      have := (hP (q + j) (by omega)).1
      rw [← Nat.add_assoc] at this
      rw [this]; rfl)
    (fun j hj => by
      have := (hP (q + j) (by omega)).2
      rw [← Nat.add_assoc] at this
      exact this)
  rw [List.map_replicate]
  exact h
set_option maxHeartbeats 2000000 in
set_option maxRecDepth 100000 in
theorem end_any (b : Nat) (S : Sp) (e : UInt8) (w : World) (hok : Ok S) (hS : HSp w b S) :
    Calls Try.prog 62 #[.pointer (some ⟨b, 0, none⟩), .int .u8 (ub e)] w fun r w' => r = .returned (.tuple #[]) ∧ Only b 0 162 w w' ∧ HSp w' b (finalL S e) := by
  obtain ⟨d, p, q⟩ := S
  have h25 : d.size = 25 := hok.d25
  have h136 : p.size = 136 := hok.p136
  have hq : q < 136 := hok.hlt
  have hD : Holds enc w b 0 d := hS.d
  have hP : Holds encB w b 25 p := hS.p
  have hc : w.cell? ⟨b, 161, none⟩ = some (.int .i64 (q : Int)) := hS.h
  have hf := hS.f
  have hcl := clear_piece (Holds.drew hP) h136 hq 0
  have hOx : Only b 25 136 w (w.drew.setCells b (25 + q) ((List.replicate (136 - q) (0 : UInt8)).map encB)) := ((Only.refl b 25 136 w).drew).setCells _ _ (by omega) (by rw [List.length_map, List.length_replicate]; omega)
  have hP1 := holds_splice (Holds.drew hP) q (List.replicate (136 - q) (0 : UInt8)) (by rw [List.length_replicate]; omega)
  have hs1 : (splice p q (List.replicate (136 - q) 0)).size = 136 := by rw [splice_size, h136]
  have HF : Hid (finalL ⟨d, p, q⟩ e = soakL ⟨d, ((splice p q (List.replicate (136 - q) 0)).setIfInBounds q e).setIfInBounds 135 (((splice p q (List.replicate (136 - q) 0)).setIfInBounds q e)[135]! ^^^ 128), q⟩) := by
    show _ = _
    unfold finalL ended
    rfl
  generalize w.drew.setCells b (25 + q) ((List.replicate (136 - q) (0 : UInt8)).map encB) = W1 at hcl hOx hP1
  generalize splice p q (List.replicate (136 - q) 0) = sp at hP1 hs1 HF
  have hne136 : (136 = q) = False := eq_false (by omega)
  have hq136 : (q : Int) ≤ 136 := by omega
  have hq136' : (q : Int) < 136 := by omega
  have c1 : W1.cell? ⟨b, 161, none⟩ = some (.int .i64 (q : Int)) := by rw [hOx.cell 161 (by omega)]; exact hc
  obtain ⟨c2, f2⟩ := hP1 q (by omega)
  obtain ⟨sp2, hsp2⟩ : ∃ s, sp.setIfInBounds q e = s := ⟨_, rfl⟩
  rw [hsp2] at HF
  have hs2 : sp2.size = 136 := by rw [← hsp2, Array.size_setIfInBounds, hs1]
  obtain ⟨x, hx⟩ : ∃ x, sp2[135]! = x := ⟨_, rfl⟩
  rw [hx] at HF
  have hx80 := xor80 x
  have hP2 := Holds.set hP1 (i := q) (by omega) e
  rw [hsp2] at hP2
  have hO2 : Only b 25 136 w (W1.setCell ⟨b, 25 + q, none⟩ (.int .u8 (ub e))) := hOx.setCell (o := 25 + q) (by omega) (by omega) _
  have hP2' : Holds encB (W1.setCell ⟨b, 25 + q, none⟩ (.int .u8 (ub e))) b 25 sp2 := hP2
  have HX : Hid (sp2[135]! = x) := hx
  rw [HF.out]
  clear hS hok hP hsp2 hx hP2 HF
  have hs3 : (sp2.setIfInBounds 135 (x ^^^ 128)).size = 136 := by rw [Array.size_setIfInBounds, hs2]
  go_enter Try.func62, Try.ntmps62
  go_wp2
  go_still_tail 8, mixed
  go_wp2_with fail
  go_region
  go_wp2_with fail
  generalize W1.setCell ⟨b, 25 + q, none⟩ (.int .u8 (ub e)) = W2 at hP2' hO2 ⊢
  obtain ⟨c3, f3⟩ := at_byte hP2' 135 (by omega) HX.out
  clear c1 c2 f2 hcl hP1
  go_region
  go_wp2_with fail
  have hP3 := Holds.set hP2' (i := 135) (by omega) (x ^^^ 128)
  have hO3 : Only b 25 136 w (W2.setCell ⟨b, 160, none⟩ (.int .u8 (ub (x ^^^ 128)))) := hO2.setCell (o := 160) (by omega) (by omega) _
  have hP3' : Holds encB (W2.setCell ⟨b, 160, none⟩ (.int .u8 (ub (x ^^^ 128)))) b 25 (sp2.setIfInBounds 135 (x ^^^ 128)) := hP3
  generalize W2.setCell ⟨b, 160, none⟩ (.int .u8 (ub (x ^^^ 128))) = W3 at hP3' hO3 ⊢
  have hD3 : Holds enc W3 b 0 d := Holds.same hD hO3 (Or.inl (by omega))
  have hS3 : HSp W3 b ⟨d, sp2.setIfInBounds 135 (x ^^^ 128), q⟩ := ⟨hD3, hP3', by rw [hO3.cell 161 (by omega)]; exact hc, by rw [hO3.froz]; exact hf⟩
  refine (soak_any b ⟨d, sp2.setIfInBounds 135 (x ^^^ 128), q⟩ _ h25 hs3 hS3.drew.drew).mono ?_
  rintro r w4 ⟨rfl, hO4, hS4⟩
  go_wp2
  go_end0
  exact ⟨rfl, (hO3.drew.drew.widen (by omega) (by omega)).trans hO4, hS4⟩
end Go.Proofs.Yticolhhalbbogac.SP
namespace Go.Proofs.Yticolhhalbbogac.SP
open Go.Sort
def permN (d : St) : Nat → St
  | 0 => d
  | m + 1 => perm (permN d m)
theorem permN_size (d : St) (hd : d.size = 25) (m : Nat) : (permN d m).size = 25 := by
  induction m with
  | zero => exact hd
  | succ m ih => exact perm_size _ ih
/-- The byte that comes out at place j. -/
def streamAt (d : St) (j : Nat) : UInt8 := byteOf (permN d (j / 136)) (j % 136)
def streamL (d : St) (n : Nat) : Bs := Array.ofFn (fun i : Fin n => streamAt d i.val)
theorem streamL_size (d : St) (n : Nat) : (streamL d n).size = n := by simp [streamL]
theorem streamL_at (d : St) (n j : Nat) (hj : j < n) : (streamL d n)[j]! = streamAt d j := by
  rw [getElem!_pos (streamL d n) j (by rw [streamL_size]; exact hj)]
  simp [streamL]
/-- The state of noughts. -/
def S0 : Sp := ⟨zero25, Array.replicate 136 0, 0⟩
theorem S0_ok : Ok S0 := ⟨by simp [S0, zero25], by simp [S0], by decide⟩
/-- The state behind the bytes and the ending. -/
def absorb (l : List UInt8) (e : UInt8) : St := (finalL (takeL S0 l) e).d
theorem absorb_size (l : List UInt8) (e : UInt8) : (absorb l e).size = 25 := by
  unfold absorb
  have h := takeL_ok S0_ok l
  rw [finalL_eq h]
  exact (takeL_ok h _).d25
/-- S2: the hash, the stream. -/
def hashL (l : List UInt8) : Bs := front (absorb l 6) 32
def strmL (l : List UInt8) (n : Nat) : Bs := streamL (absorb l 31) n
theorem hash_stream (l : List UInt8) : hashL l = streamL (absorb l 6) 32 := by
  unfold hashL
  refine bs_ext _ _ 32 (front_size _ _) (streamL_size _ _) (fun j hj => ?_)
  rw [front_at _ _ _ hj, streamL_at _ _ _ hj]
  unfold streamAt
  rw [Nat.div_eq_of_lt (by omega), Nat.mod_eq_of_lt (by omega)]
  rfl
/-! ### The reference: all bytes with what stands behind them, piece by piece -/
def total (l : List UInt8) (e : UInt8) : List UInt8 := l ++ tailpad (l.length % 136) e
theorem total_length (l : List UInt8) (e : UInt8) : (total l e).length = 136 * (l.length / 136 + 1) := by
  unfold total
  rw [List.length_append, tailpad_length _ _ (Nat.mod_lt _ (by decide))]
  omega
theorem absorb_total (l : List UInt8) (e : UInt8) : absorb l e = (takeL S0 (total l e)).d := by
  unfold absorb total
  have h := takeL_ok S0_ok l
  have hh := takeL_h S0_ok l
  rw [takeL_append, finalL_eq h, hh]
  have : S0.h = 0 := rfl
  rw [this, Nat.zero_add]
/-- The reference's inner loop: k bytes of a piece are laid upon the state. -/
def xorB (st : Bs) (T : List UInt8) (o : Nat) : Nat → Bs
  | 0 => st
  | k + 1 => (xorB st T o k).setIfInBounds k ((xorB st T o k)[k]! ^^^ T[o + k]!)
theorem xorB_size (st : Bs) (T : List UInt8) (o k : Nat) : (xorB st T o k).size = st.size := by
  induction k with
  | zero => rfl
  | succ k ih => rw [xorB, Array.size_setIfInBounds, ih]
theorem xorB_at (st : Bs) (T : List UInt8) (o k j : Nat) (hk : k ≤ st.size) (hj : j < st.size) : (xorB st T o k)[j]! = if j < k then st[j]! ^^^ T[o + j]! else st[j]! := by
  induction k with
  | zero => rfl
  | succ k ih =>
    rw [xorB]
    by_cases h : j = k
    · subst h
      rw [getElem!_set_same _ _ _ (by rw [xorB_size]; exact hj), ih (by omega), if_neg (by omega), if_pos (by omega)]
    · rw [getElem!_set_other _ _ _ _ h, ih (by omega)]
      by_cases h1 : j < k
      · rw [if_pos h1, if_pos (by omega)]
      · rw [if_neg h1, if_neg (by omega)]
def refSt (T : List UInt8) : Nat → Bs
  | 0 => Array.replicate 200 0
  | i + 1 => permB (xorB (refSt T i) T (136 * i) 136)
theorem zero_front : front zero25 200 = Array.replicate 200 0 := by
  refine bs_ext _ _ 200 (front_size _ _) (by rw [Array.size_replicate]) (fun j hj => ?_)
  have h' : j < (Array.replicate 200 (0 : UInt8)).size := by rw [Array.size_replicate]; exact hj
  rw [front_at _ _ _ hj, getElem!_pos (Array.replicate 200 (0 : UInt8)) j h', Array.getElem_replicate]
  unfold byteOf
  rw [zero25_at _ (by omega)]
  unfold low
  simp
theorem xor_bit (x y : UInt8) (i : Nat) : (x ^^^ y).toNat.testBit i = (x.toNat.testBit i ^^ y.toNat.testBit i) := by
  rw [UInt8.toNat_xor, Nat.testBit_xor]
/-- A piece laid upon the state's bytes is the piece's words laid upon its words. -/
theorem mix_xor (d : St) (hd : d.size = 25) (p : Bs) (T : List UInt8) (o : Nat) (hp : ∀ j, j < 136 → p[j]! = T[o + j]!) :
    mixTo (xorB (front d 200) T o 136) zero25 25 = mixTo p d 17 := by
  have hz : zero25.size = 25 := by simp [zero25]
  refine st_ext _ _ (by rw [mixTo_size, hz]) (by rw [mixTo_size, hd]) (fun j hj => ?_)
  rw [mixTo_at _ zero25 hz 25 j (Nat.le_refl _) hj, if_pos hj, zero25_at j hj, zx, mixTo_at _ d hd 17 j (by decide) hj]
  apply BitVec.eq_of_getLsbD_eq
  intro k hk
  have hb : ∀ m, m < 200 → (xorB (front d 200) T o 136)[m]! = if m < 136 then (front d 200)[m]! ^^^ T[o + m]! else (front d 200)[m]! := fun m hm =>
    xorB_at _ _ _ _ _ (by rw [front_size]; decide) (by rw [front_size]; exact hm)
  have hw := congrArg (fun v => v.getLsbD k) (word_front d 200 j (by omega))
  simp only [wordOf] at hw ⊢
  rw [wordTo_bit _ _ 8 k (Nat.le_refl _) hk] at hw ⊢
  rw [hb _ (by omega)]
  by_cases h17 : j < 17
  · rw [if_pos (by omega), if_pos h17, BitVec.getLsbD_xor, ← hw, wordTo_bit _ _ 8 k (Nat.le_refl _) hk, xor_bit, hp _ (by omega)]
    simp [hk]
  · rw [if_neg (by omega), if_neg h17, ← hw]
theorem take_block (T : List UInt8) (i : Nat) : T.take (136 * (i + 1)) = T.take (136 * i) ++ (T.drop (136 * i)).take 136 := by
  rw [show 136 * (i + 1) = 136 * i + 136 by omega, List.take_add]
theorem refSt_eq (T : List UInt8) (i : Nat) (h : 136 * i ≤ T.length) : refSt T i = front (takeL S0 (T.take (136 * i))).d 200 := by
  induction i with
  | zero =>
    rw [Nat.mul_zero, List.take_zero]
    exact zero_front.symm
  | succ i ih =>
    rw [refSt, ih (by omega), take_block T i, takeL_append]
    have hok := takeL_ok S0_ok (T.take (136 * i))
    have hh : (takeL S0 (T.take (136 * i))).h = 0 := by
      rw [takeL_h S0_ok, List.length_take, Nat.min_eq_left (by omega)]
      have : S0.h = 0 := rfl
      omega
    generalize takeL S0 (T.take (136 * i)) = S at hok hh
    obtain ⟨d, p, q⟩ := S
    have hd : d.size = 25 := hok.d25
    have hp : p.size = 136 := hok.p136
    have hq : q = 0 := hh
    subst hq
    have hl : ((T.drop (136 * i)).take 136).length = 136 := by rw [List.length_take, List.length_drop]; omega
    rw [takeL_chunk _ _ (by intro e; rw [e] at hl; simp at hl) (by rw [hl]; exact Nat.le_refl _), hl, if_pos rfl, soak_mk]
    unfold permB
    rw [mix_xor d hd (splice p 0 ((T.drop (136 * i)).take 136)) T (136 * i)]
    intro j hj
    rw [splice_at _ _ _ _ (by rw [hl, hp]; decide) (by omega), if_pos (by omega), Nat.sub_zero, getElem!_pos _ j (by rw [hl]; exact hj), getElem!_pos T (136 * i + j) (by omega)]
    rw [List.getElem_take, List.getElem_drop]
theorem refSt_total (l : List UInt8) (e : UInt8) : refSt (total l e) (l.length / 136 + 1) = front (absorb l e) 200 := by
  have h := total_length l e
  rw [refSt_eq _ _ (by omega), absorb_total, List.take_of_length_le (by omega)]
end Go.Proofs.Yticolhhalbbogac.SP
namespace Go.Proofs.Yticolhhalbbogac.SP
open Go.RowKit Go.Sort Go.Deep
/-- 'append(out, x...)' of bytes, with room for them. -/
theorem append_room {w : World} {g l cap r k n c : Nat} {cur bs : Bs} (hC : Holds encB w g 0 cur) (hs : cur.size = cap) (hB : Holds encB w r 0 bs) (hk : bs.size = n) (hk2 : k = n) (hroom : l + n ≤ cap) (ty : TypeId) :
    (Builtin.append_ #[22, 22] ty #[.slice (some ⟨g, 0, none⟩) l cap, .slice (some ⟨r, 0, none⟩) k c]).run Try.prog w = .ok (.slice (some ⟨g, 0, none⟩) (l + n) cap) (w.setCells g l (bs.toList.map encB)) := by
  subst hk2
  obtain ⟨i, hi, _, hsz, _⟩ := info_parts info5
  have hlen : (bs.toList.map encB).length = k := by rw [List.length_map, Array.length_toList, hk]
  have hsrc : Src Try.prog i.size 22 (.slice (some ⟨r, 0, none⟩) k c) k (bs.toList.map encB) w := by
    rw [hsz]
    refine Src.ofSlice w slice22 ⟨r, 0, none⟩ k c _ (by rw [hlen, Nat.mul_one]) (fun j v hj => ?_) (fun v hv => ?_)
    · obtain ⟨h1, h2⟩ := List.getElem?_eq_some_iff.1 hj
      rw [hlen] at h1
      have hc := (hB j (by omega)).1
      rw [getElem!_pos bs j (by omega)] at hc
      rw [List.getElem_map, Array.getElem_toList] at h2
      have e1 : (⟨r, 0, none⟩ : Addr).add j = ⟨r, 0 + j, none⟩ := by
        unfold Addr.add
        by_cases h0 : j = 0
        · subst h0; rw [if_pos rfl]
        · rw [if_neg h0]
      rw [e1, hc, h2]
    · obtain ⟨x, _, rfl⟩ := List.mem_map.1 hv
      rfl
  have h := run_append_room_src (P := Try.prog) w 22 22 ty 5 i slice22 hi g 0 l cap (.slice (some ⟨r, 0, none⟩) k c) k _ hsrc hroom
    (fun j hj => by
      rw [hlen] at hj
      rw [hsz, Nat.mul_one, Nat.add_assoc, (hC (l + j) (by omega)).1]; rfl)
    (fun j hj => by
      rw [hlen] at hj
      rw [hsz, Nat.mul_one, Nat.add_assoc]
      exact (hC (l + j) (by omega)).2)
  rw [hsz, Nat.mul_one, Nat.zero_add] at h
  exact h
theorem Only.with_new {b o n g m p : Nat} {w w1 w2 : World} (h : Only b o n w w1) (k : Only g p m w1 w2) (hg : w.heap.size ≤ g) (hb : b < w.heap.size) : Only b o n w w2 := by
  have hs := h.size
  have e := k.block b (by omega) (by omega)
  exact ⟨k.os.trans h.os, k.tape.trans h.tape, k.output.trans h.output, Nat.le_trans h.size k.size,
    fun j hj hn => (k.block j (by omega) (by omega)).trans (h.block j hj hn),
    fun q hq => (World.cell?_of_block (w := w1) (a := ⟨b, q, none⟩) e).trans (h.cell q hq), fun q => (World.frozen?_of_block (w := w1) (a := ⟨b, q, none⟩) e).trans (h.froz q)⟩
theorem permN_pred (d : St) (m : Nat) (h : ¬ m = 0) : perm (permN d (m - 1)) = permN d m := by
  obtain ⟨k, rfl⟩ : ∃ k, m = k + 1 := ⟨m - 1, by omega⟩
  rw [Nat.add_sub_cancel, permN]
theorem stream_next (d : St) (m : Nat) (cur : Bs) (hc : 136 * m + 136 ≤ cur.size) (h : ∀ j, j < 136 * m → cur[j]! = streamAt d j) : ∀ j, j < 136 * (m + 1) → (splice cur (136 * m) (front (permN d m) 136).toList)[j]! = streamAt d j := by
  intro j hj
  have hl : (front (permN d m) 136).toList.length = 136 := by rw [Array.length_toList, front_size]
  rw [splice_at _ _ _ _ (by rw [hl]; exact hc) (by omega), hl]
  by_cases h1 : j < 136 * m
  · rw [if_neg (by omega), h j h1]
  · rw [if_pos (by omega), getElem!_pos _ (j - 136 * m) (by rw [hl]; omega), Array.getElem_toList, ← getElem!_pos (front (permN d m) 136) (j - 136 * m) (by rw [front_size]; omega), front_at _ _ _ (by omega)]
    unfold streamAt
    rw [show j / 136 = m by omega, show j % 136 = j - 136 * m by omega]
end Go.Proofs.Yticolhhalbbogac.SP
namespace Go.Proofs.Yticolhhalbbogac.SP
open Go.RowKit Go.Sort Go.Deep
/-- A sponge's cells at its birth. -/
def spZero : Array Value := Array.replicate 25 (.int .u64 0) ++ Array.replicate 136 (.int .u8 0) ++ #[.int .i64 0]
theorem zero68 : ∀ w : World, (zeroValue 99).run Try.prog w = .ok (.agg spZero) w := fun _ => by kernel_rfl
theorem spZero_d (j : Nat) (hj : j < 25) : spZero[j]? = some (.int .u64 0) := by
  have h1 : j < (Array.replicate 25 (Value.int .u64 0)).size := by rw [Array.size_replicate]; exact hj
  unfold spZero
  rw [Array.append_assoc, Array.getElem?_append_left h1, Array.getElem?_eq_getElem h1, Array.getElem_replicate]
theorem spZero_p (j : Nat) (hj : j < 136) : spZero[25 + j]? = some (.int .u8 0) := by
  have h1 : j < (Array.replicate 136 (Value.int .u8 0)).size := by rw [Array.size_replicate]; exact hj
  unfold spZero
  rw [Array.append_assoc, Array.getElem?_append_right (by rw [Array.size_replicate]; omega), Array.size_replicate, Nat.add_sub_cancel_left, Array.getElem?_append_left h1, Array.getElem?_eq_getElem h1, Array.getElem_replicate]
theorem spZero_h : spZero[161]? = some (.int .i64 0) := by
  unfold spZero
  rw [Array.getElem?_append_right (by rw [Array.size_append, Array.size_replicate, Array.size_replicate]; decide), Array.size_append, Array.size_replicate, Array.size_replicate]
  rfl
theorem hsp_new (w : World) (t : TypeId) : HSp (w.alloc (.cells spZero t)) w.heap.size S0 := by
  refine ⟨fun j hj => ?_, fun j hj => ?_, ?_, ?_⟩
  · have hj' : j < 25 := by simpa [S0, zero25] using hj
    rw [World.cell?_alloc_new, World.frozen?_alloc_new, Nat.zero_add, spZero_d j hj']
    refine ⟨?_, rfl⟩
    have e : S0.d[j]! = 0 := zero25_at j hj'
    rw [e]
    rfl
  · have hj' : j < 136 := by simpa [S0] using hj
    rw [World.cell?_alloc_new, World.frozen?_alloc_new, spZero_p j hj']
    refine ⟨?_, rfl⟩
    have e : S0.p[j]! = 0 := rep_at 136 j hj'
    rw [e]
    rfl
  · rw [World.cell?_alloc_new, spZero_h]; rfl
  · rw [World.frozen?_alloc_new]
end Go.Proofs.Yticolhhalbbogac.SP
namespace Go.Proofs.Yticolhhalbbogac.SP
open Go.RowKit Go.Sort Go.Deep
/-- v is a slice of bytes of one's own (from block B on), with the bytes T in it. -/
def Own (B : Nat) (w : World) (v : Value) (T : List UInt8) : Prop :=
  ∃ g cap cur, v = .slice (some ⟨g, 0, none⟩) T.length cap ∧ B ≤ g ∧ g < w.heap.size ∧ Array.size cur = cap ∧ T.length ≤ cap ∧ Holds encB w g 0 cur ∧ ∀ j, j < T.length → cur[j]! = T[j]!
theorem Holds.front {α : Type} [Inhabited α] {f : α → Value} {w : World} {b o : Nat} {d e : Array α} (h : Holds f w b o d) (hs : e.size ≤ d.size) (he : ∀ j, j < e.size → e[j]! = d[j]!) : Holds f w b o e := by
  intro j hj
  rw [he j hj]
  exact h j (by omega)
theorem list_arr_at (T : List UInt8) (j : Nat) : T.toArray[j]! = T[j]! := by
  by_cases h : j < T.length
  · rw [getElem!_pos T.toArray j (by simpa using h), getElem!_pos T j h]
    simp
  · rw [getElem!_neg T.toArray j (by simpa using h), getElem!_neg T j h]
theorem list_app_front (a b : List UInt8) (j : Nat) (h : j < a.length) : (a ++ b)[j]! = a[j]! := by
  rw [getElem!_pos (a ++ b) j (by rw [List.length_append]; omega), getElem!_pos a j h, List.getElem_append_left h]
theorem list_app_back (a b : List UInt8) (j : Nat) (h : a.length ≤ j) (h2 : j < a.length + b.length) : (a ++ b)[j]! = b[j - a.length]! := by
  rw [getElem!_pos (a ++ b) j (by rw [List.length_append]; omega), getElem!_pos b (j - a.length) (by omega), List.getElem_append_right h]
variable {B : Nat} {w w1 : World} {v : Value} {T : List UInt8}
theorem Own.holds {g cap n : Nat} (h : Own B w (.slice (some ⟨g, 0, none⟩) n cap) T) : B ≤ g ∧ n = T.length ∧ T.length ≤ cap ∧ Holds encB w g 0 T.toArray := by
  obtain ⟨g', cap', cur, hv, hg, _, hs, hl, hH, hT⟩ := h
  injection hv with e1 e2 e3
  injection e1 with e1
  injection e1 with e1 _ _
  subst e1 e3
  exact ⟨hg, e2, hl, Holds.front hH (by simp; omega) (fun j hj => by rw [list_arr_at]; exact (hT j (by simpa using hj)).symm)⟩
theorem Own.below (h : Own B w v T) (k : Below w.heap.size w w1) : Own B w1 v T := by
  obtain ⟨g, cap, cur, hv, hg, hgl, hs, hl, hH, hT⟩ := h
  exact ⟨g, cap, cur, hv, hg, Nat.lt_of_lt_of_le hgl k.size, hs, hl, Holds.below hH k hgl, hT⟩
theorem Own.drew (h : Own B w v T) : Own B w.drew v T := h
theorem Own.drewN (h : Own B w v T) (q : Nat) : Own B (w.drewN q) v T := h
/-- '[]byte(s)'. -/
theorem conv_bytes (s : ByteArray) (hB : B ≤ w.heap.size) :
    ∃ v' w', (convert 9 22 (.string s)).run Try.prog w = .ok v' w' ∧ Own B w' v' s.data.toList ∧ Below w.heap.size w w' ∧ v' = .slice (some ⟨w.heap.size, 0, none⟩) s.size (grownCap w s.size 0 5) := by
  have h := Lib.run_convert_string_bytes (P := Try.prog) w 9 22 5 s str9 slice22 int5
  have hcap : s.size ≤ grownCap w s.size 0 5 := by
    unfold grownCap Question.cut
    exact Nat.le_add_right _ _
  have hl : s.data.size = s.size := rfl
  refine ⟨_, _, h, ⟨w.heap.size, grownCap w s.size 0 5, s.data ++ Array.replicate (grownCap w s.size 0 5 - s.size) 0, ?_, hB, by rw [Lib.bytesWorld_size]; omega, ?_, ?_, ?_, ?_⟩, ?_, rfl⟩
  · rw [Array.length_toList]; rfl
  · rw [Array.size_append, Array.size_replicate]; omega
  · rw [Array.length_toList]; omega
  · intro j hj
    rw [Array.size_append, Array.size_replicate] at hj
    have hb := Lib.bytesWorld_at_new w 5 s
    have hsz : (Lib.bytesCells w 5 s).size = grownCap w s.size 0 5 := by
      unfold Lib.bytesCells
      rw [Array.size_append, Array.size_map, Array.size_replicate]
      omega
    have hc : (Lib.bytesCells w 5 s) = (s.data ++ Array.replicate (grownCap w s.size 0 5 - s.size) 0).map encB := by
      unfold Lib.bytesCells
      rw [Array.map_append, Array.map_replicate]
      rfl
    have hj2 : j < (s.data ++ Array.replicate (grownCap w s.size 0 5 - s.size) 0).size := by rw [Array.size_append, Array.size_replicate]; exact hj
    constructor
    · unfold World.cell?
      rw [hb]
      simp only [Nat.zero_add]
      rw [if_neg (by decide), hc, Array.getElem?_map, Array.getElem?_eq_getElem hj2, Option.map_some, getElem!_pos _ j hj2]
    · unfold World.frozen?
      rw [hb]
      simp only [Nat.zero_add, hsz]
      simp
      omega
  · intro j hj
    rw [Array.length_toList] at hj
    rw [app_front _ _ j hj, getElem!_pos s.data.toList j (by rw [Array.length_toList]; exact hj), Array.getElem_toList]
  · refine ⟨?_, ?_, ?_, ?_, fun k hk => Lib.bytesWorld_at_old w 5 s k hk⟩
    · unfold Lib.bytesWorld World.freeze
      rw [if_neg (by decide)]
      rfl
    · unfold Lib.bytesWorld World.freeze
      rw [if_neg (by decide)]
      rfl
    · unfold Lib.bytesWorld World.freeze
      rw [if_neg (by decide)]
      rfl
    · rw [Lib.bytesWorld_size]; omega
/-- What only makes memory turns no row that is there; of a row without a cell nothing is said. -/
theorem Holds.below' {α : Type} [Inhabited α] {f : α → Value} {w w1 : World} {b o : Nat} {d : Array α} (h : Holds f w b o d) (k : Below w.heap.size w w1) : Holds f w1 b o d := by
  intro j hj
  have hlt := Holds.lt h (by omega)
  exact Holds.below h k hlt j hj
theorem hashL_size (l : List UInt8) : (hashL l).size = 32 := by rw [hashL, front_size]
end Go.Proofs.Yticolhhalbbogac.SP
namespace Go.Proofs.Yticolhhalbbogac.SP
open Go.RowKit Go.Sort Go.Deep
def lenB (n d : Nat) : UInt8 := UInt8.ofNat (n / d)
theorem lenB_int (n d : Nat) : (n : Int) / (d : Int) % 256 = ub (lenB n d) := by
  have e2 : ((n : Int) / (d : Int)) = ((n / d : Nat) : Int) := by rw [Int.natCast_ediv]
  rw [e2]
  unfold ub lenB
  rw [UInt8.toNat_ofNat']
  omega
theorem lenB_one (n : Nat) : (n : Int) % 256 = ub (lenB n 1) := by
  have := lenB_int n 1
  rw [show ((1 : Nat) : Int) = 1 from rfl, Int.ediv_one] at this
  exact this
/-- FRAME. -/
def frameL (l : List UInt8) : List UInt8 := [lenB l.length 16777216, lenB l.length 65536, lenB l.length 256, lenB l.length 1] ++ l
theorem frameL_length (l : List UInt8) : (frameL l).length = l.length + 4 := by
  unfold frameL
  rw [List.length_append]
  simp only [List.length_cons, List.length_nil]
  omega
theorem holds_four (w : World) (x y z t : UInt8) : Holds encB (w.alloc (.cells #[.int .u8 (ub x), .int .u8 (ub y), .int .u8 (ub z), .int .u8 (ub t)] 5)) w.heap.size 0 #[x, y, z, t] := by
  have h := Holds.new (enc := encB) w 5 #[x, y, z, t]
  have e : Array.map encB #[x, y, z, t] = #[.int .u8 (ub x), .int .u8 (ub y), .int .u8 (ub z), .int .u8 (ub t)] := by simp [encB]
  rw [e] at h
  exact h
theorem HSp.only {w w' : World} {b c o n : Nat} {S : Sp} (h : HSp w b S) (k : Only c o n w w') (hne : b ≠ c) : HSp w' b S := by
  have e := k.block b h.lt hne
  refine ⟨fun j hj => ?_, fun j hj => ?_, ?_, ?_⟩
  · rw [World.cell?_of_block (w := w) (a := ⟨b, 0 + j, none⟩) e, World.frozen?_of_block (w := w) (a := ⟨b, 0 + j, none⟩) e]; exact h.d j hj
  · rw [World.cell?_of_block (w := w) (a := ⟨b, 25 + j, none⟩) e, World.frozen?_of_block (w := w) (a := ⟨b, 25 + j, none⟩) e]; exact h.p j hj
  · rw [World.cell?_of_block (w := w) (a := ⟨b, 161, none⟩) e]; exact h.h
  · rw [World.frozen?_of_block (w := w) (a := ⟨b, 161, none⟩) e]; exact h.f
set_option maxHeartbeats 1000000 in
set_option maxRecDepth 100000 in
theorem takeFrame_any (b : Nat) (S : Sp) (a : Option Addr) (sb so len cap : Nat) (bs : Bs) (w : World) (hok : Ok S) (hS : HSp w b S) (hl : bs.size = len) (hcap : len ≤ cap) (hbig : len ≤ 1099511627776)
    (hsrc : len = 0 ∨ (a = some ⟨sb, so, none⟩ ∧ sb ≠ b ∧ Holds encB w sb so bs)) :
    Calls Try.prog 61 #[.pointer (some ⟨b, 0, none⟩), .slice a len cap] w fun e w' => e = .returned (.tuple #[]) ∧ Only b 0 162 w w' ∧ HSp w' b (takeL S (frameL bs.toList)) := by
  have hb := hS.lt
  have b0 : (len : Int) / 16777216 % 256 = ub (lenB len 16777216) := lenB_int len 16777216
  have b1 : (len : Int) / 65536 % 256 = ub (lenB len 65536) := lenB_int len 65536
  have b2 : (len : Int) / 256 % 256 = ub (lenB len 256) := lenB_int len 256
  have b3 : (len : Int) % 256 = ub (lenB len 1) := lenB_one len
  have hF : Hid (frameL bs.toList = (#[lenB len 16777216, lenB len 65536, lenB len 256, lenB len 1] : Bs).toList ++ bs.toList) := by
    unfold frameL
    rw [Array.length_toList, hl]
    rfl
  have h4 := holds_four w (lenB len 16777216) (lenB len 65536) (lenB len 256) (lenB len 1)
  generalize lenB len 16777216 = x0 at *
  generalize lenB len 65536 = x1 at *
  generalize lenB len 256 = x2 at *
  generalize lenB len 1 = x3 at *
  have hb0 : Below w.heap.size w (w.alloc (.cells #[.int .u8 (ub x0), .int .u8 (ub x1), .int .u8 (ub x2), .int .u8 (ub x3)] 5)) := (Below.refl _ _).alloc (Nat.le_refl _) _
  have hS1 := hS.below hb0 hb
  have hO0 : Only b 0 162 w (w.alloc (.cells #[.int .u8 (ub x0), .int .u8 (ub x1), .int .u8 (ub x2), .int .u8 (ub x3)] 5)) := Only.of_below hb0 rfl hb
  have hsrc1 : len = 0 ∨ (a = some ⟨sb, so, none⟩ ∧ sb ≠ b ∧ Holds encB (w.alloc (.cells #[.int .u8 (ub x0), .int .u8 (ub x1), .int .u8 (ub x2), .int .u8 (ub x3)] 5)) sb so bs) := by
    by_cases h0 : len = 0
    · exact Or.inl h0
    · rcases hsrc with h | ⟨h1, h2, h3⟩
      · exact Or.inl h
      · exact Or.inr ⟨h1, h2, Holds.below h3 hb0 (Holds.lt h3 (by omega))⟩
  clear hsrc
  go_enter Try.func61, Try.ntmps61
  go_wp2_with fail
  generalize w.alloc (.cells #[.int .u8 (ub x0), .int .u8 (ub x1), .int .u8 (ub x2), .int .u8 (ub x3)] 5) = W1 at h4 hb0 hS1 hO0 hsrc1 ⊢
  refine (take_any b S (some ⟨w.heap.size, 0, none⟩) w.heap.size 0 4 4 #[x0, x1, x2, x3] W1 hok hS1 rfl (Nat.le_refl _) (by decide) (Or.inr ⟨rfl, by omega, h4⟩)).mono ?_
  rintro e w2 ⟨rfl, hO2, hS2⟩
  have hsrc2 : len = 0 ∨ (a = some ⟨sb, so, none⟩ ∧ sb ≠ b ∧ Holds encB w2 sb so bs) := by
    by_cases h0 : len = 0
    · exact Or.inl h0
    · rcases hsrc1 with h | ⟨h1, h2, h3⟩
      · exact Or.inl h
      · exact Or.inr ⟨h1, h2, Holds.other h3 hO2 h2 (by omega)⟩
  go_wp2_with fail
  refine (take_any b _ a sb so len cap bs w2 (takeL_ok hok _) hS2 hl hcap hbig hsrc2).mono ?_
  rintro e w3 ⟨rfl, hO3, hS3⟩
  go_wp2
  go_end0
  refine ⟨rfl, (hO0.trans hO2).trans hO3, ?_⟩
  rw [hF.out, takeL_append]
  exact hS3
end Go.Proofs.Yticolhhalbbogac.SP
namespace Go.Proofs.Yticolhhalbbogac.SP
open Go.RowKit Go.Sort Go.Deep
/-- What a tag hashes. -/
def framesL (label : List UInt8) (ps : List (List UInt8)) : List UInt8 := frameL label ++ ps.flatMap frameL
/-- S3. -/
def tagL (label : List UInt8) (ps : List (List UInt8)) : Bs := hashL (framesL label ps)
theorem tagL_size (label : List UInt8) (ps : List (List UInt8)) : (tagL label ps).size = 32 := hashL_size _
theorem framesL_snoc (label : List UInt8) (ps : List (List UInt8)) (x : List UInt8) : framesL label (ps ++ [x]) = framesL label ps ++ frameL x := by
  unfold framesL
  rw [List.flatMap_append, ← List.append_assoc]
  simp
/-- A slice of bytes that is there. -/
def PartOk (w : World) (v : Value) (x : List UInt8) : Prop :=
  ∃ a sb so cap bs, v = .slice a (Array.size bs) cap ∧ bs.toList = x ∧ bs.size ≤ cap ∧ bs.size ≤ 1099511627776 ∧ (bs.size = 0 ∨ (a = some ⟨sb, so, none⟩ ∧ Holds encB w sb so bs))
theorem PartOk.below {w w1 : World} {v : Value} {x : List UInt8} (h : PartOk w v x) (k : Below w.heap.size w w1) : PartOk w1 v x := by
  obtain ⟨a, sb, so, cap, bs, h1, h2, h3, h4, h5⟩ := h
  refine ⟨a, sb, so, cap, bs, h1, h2, h3, h4, ?_⟩
  rcases h5 with h5 | ⟨h5, h6⟩
  · exact Or.inl h5
  · exact Or.inr ⟨h5, Holds.below' h6 k⟩
/-- A list of such. -/
def PartsOk (w : World) (pa : Option Addr) (ps : List (List UInt8)) : Prop :=
  ps.length = 0 ∨ ∃ pb po, pa = some ⟨pb, po, none⟩ ∧ ∀ j, j < ps.length → ∃ v, w.cell? ⟨pb, po + j, none⟩ = some v ∧ PartOk w v ps[j]!
theorem PartsOk.below {w w1 : World} {pa : Option Addr} {ps : List (List UInt8)} (h : PartsOk w pa ps) (k : Below w.heap.size w w1) : PartsOk w1 pa ps := by
  rcases h with h | ⟨pb, po, h1, h2⟩
  · exact Or.inl h
  · refine Or.inr ⟨pb, po, h1, fun j hj => ?_⟩
    obtain ⟨v, h3, h4⟩ := h2 j hj
    exact ⟨v, by rw [k.cell (p := ⟨pb, po + j, none⟩) (World.block_lt_of_cell? _ _ h3)]; exact h3, h4.below k⟩
theorem framesL_take (label : List UInt8) (ps : List (List UInt8)) (k : Nat) : (framesL label (ps.take k)).length ≤ (framesL label ps).length := by
  have e : framesL label ps = framesL label (ps.take k) ++ (ps.drop k).flatMap frameL := by
    unfold framesL
    rw [List.append_assoc, ← List.flatMap_append, List.take_append_drop]
  rw [e, List.length_append]
  omega
theorem take_snoc_getD {α : Type} [Inhabited α] (l : List α) (k : Nat) (h : k < l.length) : l.take (k + 1) = l.take k ++ [l[k]!] := by
  rw [List.take_succ_eq_append_getElem h, getElem!_pos l k h]
set_option maxHeartbeats 2000000 in
set_option maxRecDepth 100000 in
theorem Tag_any (label : ByteArray) (pa : Option Addr) (pcap : Nat) (ps : List (List UInt8)) (w : World) (hlab : label.size ≤ 1048576) (hpl : ps.length ≤ 1048576) (hP : PartsOk w pa ps) :
    Calls Try.prog 45 #[.string label, .slice pa ps.length pcap] w fun e w' => ∃ r, e = .returned (.slice (some ⟨r, 0, none⟩) 32 32) ∧ w.heap.size ≤ r ∧ Below w.heap.size w w' ∧ Holds encB w' r 0 (tagL label.data.toList ps) := by
  have hS0 := hsp_new w 99
  have hb0 : Below w.heap.size w (w.alloc (.cells spZero 99)) := (Below.refl _ _).alloc (Nat.le_refl _) _
  have hs0 : (w.alloc (.cells spZero 99)).heap.size = w.heap.size + 1 := by simp
  have zv := zero68
  generalize hW1 : w.alloc (.cells spZero 99) = W1 at hS0 hb0 hs0
  obtain ⟨v2, W2, hcv, own2, hb2, hv2⟩ := conv_bytes (w := W1) (B := 0) label (Nat.zero_le _)
  rw [hv2] at hcv own2
  obtain ⟨hq0, hq1, hle2, hH2⟩ := own2.holds
  rw [← hq1] at hle2
  clear hq0 hq1
  have hH2' : Holds encB W2 W1.heap.size 0 label.data := by simpa using hH2
  have hS2 := hS0.below hb2 hS0.lt
  have hsz2 := hb2.size
  obtain ⟨n, hn⟩ : ∃ n, ps.length = n := ⟨_, rfl⟩
  rw [hn]
  have Hn : Hid (ps.length = n) := hn
  have hn20 : n ≤ 1048576 := by omega
  rw [hs0] at hcv hH2'
  generalize hc2 : grownCap W1 label.size 0 5 = c2 at *
  clear own2 hv2 hH2 hn hc2
  have hcv' : (convert 9 22 (.string label)).run Try.prog (w.alloc (.cells spZero 99)) = .ok (.slice (some ⟨w.heap.size + 1, 0, none⟩) label.size c2) W2 := by rw [hW1]; exact hcv
  clear hW1 hcv
  go_enter Try.func45, Try.ntmps45
  go_wp2_with fail
  refine (takeFrame_any w.heap.size S0 (some ⟨w.heap.size + 1, 0, none⟩) (w.heap.size + 1) 0 label.size c2 label.data W2 S0_ok hS2 rfl (by omega) (by omega) (Or.inr ⟨rfl, by omega, hH2'⟩)).mono ?_
  rintro e w3 ⟨rfl, hO3, hS3⟩
  have hb3 : Below w.heap.size w w3 := (hb0.trans (hb2.mono (by omega))).trans (hO3.below (by omega) (Nat.le_refl _))
  have hz3 : w.heap.size < w3.heap.size := hS3.lt
  clear hcv' hH2' hO3 zv hS2
  go_wp2
  go_loopg [13] n (fun g s13 wr => ∃ (k : Nat) (Sk : Sp), k + g = n ∧ s13 = .int .i64 k ∧ HSp wr w.heap.size Sk ∧ Below w.heap.size w wr ∧ Ok Sk ∧ Hid (Sk = takeL S0 (framesL label.data.toList (ps.take k))))
  case atStart =>
    refine ⟨0, _, by omega, rfl, hS3, hb3, takeL_ok S0_ok _, ?_⟩
    rw [List.take_zero]
    unfold framesL
    rw [List.flatMap_nil, List.append_nil]
    rfl
  case round =>
    clear hS3 hb3 hz3
    obtain ⟨k, Sk, hk, rfl, hSk, hb, hok, HE⟩ := hrel
    by_cases hlt : k < n
    · obtain ⟨pb, po, rfl, hPj⟩ : ∃ pb po, pa = some ⟨pb, po, none⟩ ∧ ∀ j, j < ps.length → ∃ v, w.cell? ⟨pb, po + j, none⟩ = some v ∧ PartOk w v ps[j]! := by
        rcases hP with h | h
        · have := Hn.out; omega
        · exact h
      obtain ⟨v, hvc, hvp⟩ := hPj k (by have := Hn.out; omega)
      have hpb := World.block_lt_of_cell? _ _ hvc
      have hvc' : wr.cell? ⟨pb, po + k, none⟩ = some v := by rw [hb.cell (p := ⟨pb, po + k, none⟩) hpb]; exact hvc
      obtain ⟨a, sb, so, cap, bs, rfl, hbl, hbc, hbb, hsrc⟩ := hvp
      have hsrc' : bs.size = 0 ∨ (a = some ⟨sb, so, none⟩ ∧ sb ≠ w.heap.size ∧ Holds encB wr sb so bs) := by
        by_cases h0 : bs.size = 0
        · exact Or.inl h0
        · rcases hsrc with h | ⟨h1, h2⟩
          · exact Or.inl h
          · have := Holds.lt h2 (by omega)
            exact Or.inr ⟨h1, by omega, Holds.below h2 hb this⟩
      have HB : Hid (bs.toList = ps[k]!) := hbl
      have l1 : (k : Int) < (n : Int) := by omega
      generalize hbz : bs.size = bz at *
      clear hvc hsrc hPj hbl
      go_wp2_with fail
      refine (takeFrame_any w.heap.size Sk a sb so bz cap bs wr hok hSk hbz hbc hbb hsrc').mono ?_
      rintro e w4 ⟨rfl, hO4, hS4⟩
      go_wp2
      go_roundg (gk - 1)
      case measure => omega
      case rel =>
        refine ⟨k + 1, _, by omega, by go_num, hS4, hb.trans (hO4.below hb.size (Nat.le_refl _)), takeL_ok hok _, ?_⟩
        rw [take_snoc_getD ps k (by have := Hn.out; omega), framesL_snoc, takeL_append, ← HE.out, HB.out]
        rfl
    · have hkn : k = n := by omega
      have l1 : (n : Int) ≤ (k : Int) := by omega
      have HE2 : Hid (Sk = takeL S0 (framesL label.data.toList ps)) := by
        have e1 : ps.take k = ps := List.take_of_length_le (by have := Hn.out; omega)
        rw [e1] at HE
        exact HE
      clear HE
      go_wp2_with fail
      refine (end_any w.heap.size Sk 6 wr hok hSk).mono ?_
      rintro e w5 ⟨rfl, hO5, hS5⟩
      have hD5 : Holds enc w5 w.heap.size 0 (absorb (framesL label.data.toList ps) 6) := by
        have := hS5.d
        rw [HE2.out] at this
        exact this
      clear hS5
      go_wp2_with fail
      refine (front_any w.heap.size 0 32 _ _ (absorb_size _ _) hD5 (by decide)).mono ?_
      rintro e w6 ⟨rfl, hb6, hF6⟩
      have hs5 := hO5.size
      have hs4 := hb.size
      go_wp2
      go_ret
      exact ⟨w5.heap.size, rfl, by omega, (hb.trans (hO5.below hb.size (Nat.le_refl _))).trans (hb6.mono (by omega)), hF6⟩
end Go.Proofs.Yticolhhalbbogac.SP
namespace Go.Proofs.Yticolhhalbbogac
open Go.RowKit Go.Sort Go.Deep Go.Shelf
attribute [local go_sem] Oper.semAt_some
variable {P : Nat} [NeZero P]
theorem grown_b {w w' : World} (h : Below w.heap.size w w') (row : Option Nat) : w.grownBy w' row := ⟨h.os, h.tape, h.output, h.size, fun k hk _ => h.block k hk⟩
theorem holds_lt {w : World} {g o : Nat} {bs : Bs} (h : Holds encB w g o bs) (hs : 0 < bs.size) : g < w.heap.size := by
  obtain ⟨ob, ho, -⟩ := cells_of_cell (h 0 hs).1
  exact (Array.getElem?_eq_some_iff.1 ho).1
/-- The point that the i-th tag gives. -/
noncomputable def cand (P : Nat) [NeZero P] (lab : ByteArray) (b : List UInt8) (i : Nat) : Option (Fin P × Fin P) :=
  if beV (SP.tagL ((⟨#[112, 111, 105, 110, 116, 32]⟩ : ByteArray) ++ lab).data.toList [b, [UInt8.ofNat i]]).toList < P then
    (rt (Fin.ofNat P (beV (SP.tagL ((⟨#[112, 111, 105, 110, 116, 32]⟩ : ByteArray) ++ lab).data.toList [b, [UInt8.ofNat i]]).toList) * Fin.ofNat P (beV (SP.tagL ((⟨#[112, 111, 105, 110, 116, 32]⟩ : ByteArray) ++ lab).data.toList [b, [UInt8.ofNat i]]).toList) * Fin.ofNat P (beV (SP.tagL ((⟨#[112, 111, 105, 110, 116, 32]⟩ : ByteArray) ++ lab).data.toList [b, [UInt8.ofNat i]]).toList) + 7)).map fun y => (Fin.ofNat P (beV (SP.tagL ((⟨#[112, 111, 105, 110, 116, 32]⟩ : ByteArray) ++ lab).data.toList [b, [UInt8.ofNat i]]).toList), y)
  else none
noncomputable def cands (P : Nat) [NeZero P] (lab : ByteArray) (b : List UInt8) (i : Nat) : List (Fin P × Fin P) := (List.range i).filterMap (cand P lab b)
theorem cands_succ (lab : ByteArray) (b : List UInt8) (i : Nat) : cands P lab b (i + 1) = cands P lab b i ++ (cand P lab b i).toList := by
  unfold cands
  rw [List.range_succ, List.filterMap_append]
  cases h : cand P lab b i <;> simp [h]
theorem cands_pre (lab : ByteArray) (b : List UInt8) {i j : Nat} (h : i ≤ j) : cands P lab b i <+: cands P lab b j := by
  induction j with
  | zero => rw [Nat.le_zero.1 h]; exact List.prefix_rfl
  | succ j ih =>
    rcases Nat.lt_or_ge i (j + 1) with h1 | h1
    · rw [cands_succ]
      exact (ih (by omega)).trans (List.prefix_append _ _)
    · rw [show i = j + 1 by omega]; exact List.prefix_rfl
theorem cands_len (lab : ByteArray) (b : List UInt8) (i : Nat) : (cands P lab b i).length ≤ i := by
  unfold cands
  exact Nat.le_trans (List.length_filterMap_le _ _) (by rw [List.length_range]; exact Nat.le_refl _)
end Go.Proofs.Yticolhhalbbogac
namespace Go.Proofs.Yticolhhalbbogac
open Go.RowKit Go.Sort Go.Deep Go.Shelf
attribute [local go_sem] Oper.semAt_some
section
variable {F : Fence} {n : Nat} {P : Program} {ops : Array Oper} {rest : List Oper} {op : Oper} {a : Act} {w : World} {Q : Exit → Act → World → Prop}
theorem wpListIn_load_mid_g (hgd : Region.wanted op (yielded ops a.tmps) = true) (ty : TypeId) (x : Operand) (ho : op.op = .load ty x) (b o : Nat) (hx : a.eval x = .pointer (some ⟨b, o, none⟩)) (cs : List Value) (d : TypeDesc) (hc : w.rangeAt b o cs)
    (hu : P.underlying ty = some d) (hd : d.isRow = true) (hi : (P.info? ty).map (·.size) = some cs.length) (h : wpListIn F n P ops Q rest (a.put op.dst (.agg cs.toArray)) w) : wpListIn F n P ops Q (op :: rest) a w :=
  wpListIn_step fun K hK => by
    rw [hgd, if_pos rfl]
    refine ⟨fun f hf => (by unfold Oper.about at hf; rw [ho] at hf; cases hf), ?_⟩
    rw [Oper.semAt_eq _ _ _ (fun c => by rw [ho]; intro e; cases e)]
    unfold execOp
    simp only [ho, hx, Instr.loadAt, Instr.sureAddr, Sem.run_bind, Sem.run_pure, Result.andThen_ok, run_loadVar_mid w b o ty cs d hc hu hd hi]
    exact hK _ _ h
end
variable {P : Nat} [NeZero P]
theorem Hid.mk {p : Prop} (h : p) : Hid p := h
set_option maxHeartbeats 2000000 in
set_option maxRecDepth 100000 in
theorem iter_c (C : Fld P) (lab : ByteArray) (vb : Value) (b : List UInt8) (k1 k2 : Nat) (w : World) (hlab : lab.size ≤ 1000000) (h1 : w.cell? ⟨k1, 0, none⟩ = some (.string lab)) (h2 : w.cell? ⟨k2, 0, none⟩ = some vb) (l1 : k1 < w.heap.size) (l2 : k2 < w.heap.size) (hb : SP.PartOk w vb b) (n : Nat) :
    SeqStopsK Fence.wide n Try.prog 44 #[.pointer (some ⟨k1, 0, none⟩), .pointer (some ⟨k2, 0, none⟩)] (fun x : Fin P × Fin P => #[pv x.1 x.2]) (Below w.heap.size) (fun xs => xs = cands P lab b 256) (fun pre => pre <+: cands P lab b 256) 256 w := by
  have HP := hb
  obtain ⟨a0, sb, so, cap, bs, rfl, -, -, -, -⟩ := hb
  intro l J Jx W hW hJ hJx hY h0
  refine callsIn_of_wp Try.func44 rfl trivial ?_ rfl
  simp only [Try.ntmps44, List.size_toArray, List.length_cons, List.length_nil, Nat.reduceAdd, Nat.reduceSub, Array.replicate_succ, Array.replicate_zero, List.push_toArray, List.append_toArray, List.nil_append, List.cons_append]
  gi_wp2
  gi_loopw [10] (fun p wr => ∃ i : Nat, i ≤ 256 ∧ p = .int .i64 (i : Int) ∧ J (cands P lab b i) wr ∧ Below w.heap.size w wr ∧ W.heap.size ≤ wr.heap.size) (fun p wr => 256 - (intOf p).toNat)
  case atStart =>
    exact ⟨0, by decide, rfl, h0, hW, Nat.le_refl _⟩
  case round =>
    obtain ⟨i, hi, rfl, hJi, hB, hsz⟩ := hrel
    have hB' := hB
    by_cases he : i = 256
    · subst he
      gi_wp2
      go_end0
      exact ⟨⟨_, rfl⟩, .inl ⟨_, rfl, hJi⟩⟩
    · have hlt : (i : Int) < 256 := by omega
      have c1 : wr.cell? ⟨k1, 0, none⟩ = some (.string lab) := (World.cell?_of_block (hB.block k1 l1)).trans h1
      have c2 : wr.cell? ⟨k2, 0, none⟩ = some (.slice a0 bs.size cap) := (World.cell?_of_block (hB.block k2 l2)).trans h2
      have hM1 := RG.Made.alloc wr [.int .u8 (i : Int)] 5
      have hM2 := RG.Made.alloc (wr.alloc (.cells #[.int .u8 (i : Int)] 5)) [.slice a0 bs.size cap, .slice (some ⟨wr.heap.size, 0, none⟩) 1 1] 22
      rw [World.size_alloc] at hM2
      have hub : ub (UInt8.ofNat i) = (i : Int) := by
        show (((UInt8.ofNat i).toNat : Nat) : Int) = _
        rw [UInt8.toNat_ofNat', Nat.mod_eq_of_lt (by omega)]
      obtain ⟨W1, hW1⟩ : ∃ W1, W1 = (wr.alloc (.cells #[.int .u8 (i : Int)] 5)).alloc (.cells #[.slice a0 bs.size cap, .slice (some ⟨wr.heap.size, 0, none⟩) 1 1] 22) := ⟨_, rfl⟩
      have hb1 : Below wr.heap.size wr W1 := by rw [hW1]; exact ((Below.refl _ wr).alloc (Nat.le_refl _) _).alloc (by rw [World.size_alloc]; omega) _
      have hP : SP.PartsOk W1 (some ⟨wr.heap.size + 1, 0, none⟩) [b, [UInt8.ofNat i]] := by
        have hm2 : W1.rangeAt (wr.heap.size + 1) 0 [.slice a0 bs.size cap, .slice (some ⟨wr.heap.size, 0, none⟩) 1 1] := by rw [hW1]; exact hM2.range
        refine Or.inr ⟨_, _, rfl, fun j hj => ?_⟩
        have hj2 : j = 0 ∨ j = 1 := by simp at hj; omega
        rcases hj2 with rfl | rfl
        · exact ⟨_, hm2 0 _ rfl, (HP.below hB').below hb1⟩
        · refine ⟨_, hm2 1 _ rfl, some ⟨wr.heap.size, 0, none⟩, wr.heap.size, 0, 1, #[UInt8.ofNat i], rfl, rfl, Nat.le_refl _, Nat.le_of_ble_eq_true rfl, Or.inr ⟨rfl, ?_⟩⟩
          have hm1 := hM1.range
          have hc : wr.heap.size < (wr.alloc (.cells #[.int .u8 (i : Int)] 5)).heap.size := by rw [World.size_alloc]; omega
          intro j hj
          have hj0 : j = 0 := by simp at hj; omega
          subst hj0
          have hq : W1.heap[wr.heap.size]? = (wr.alloc (.cells #[.int .u8 (i : Int)] 5)).heap[wr.heap.size]? := by rw [hW1]; exact Below.heap_alloc _ _ _ hc
          refine ⟨?_, ?_⟩
          · rw [World.cell?_of_block (a := ⟨wr.heap.size, 0 + 0, none⟩) hq]
            show _ = some (Value.int .u8 (ub (UInt8.ofNat i)))
            rw [hub]
            exact hm1 0 _ rfl
          · rw [World.frozen?_of_block (a := ⟨wr.heap.size, 0 + 0, none⟩) hq]
            exact (hM1.there 0 (Nat.le_refl _)).2
      have hTag := SP.Tag_any ((⟨#[112, 111, 105, 110, 116, 32]⟩ : ByteArray) ++ lab) (some ⟨wr.heap.size + 1, 0, none⟩) 2 [b, [UInt8.ofNat i]] W1 (by rw [ByteArray.size_append]; show 6 + lab.size ≤ _; omega) (Nat.le_of_ble_eq_true rfl) hP
      gi_wp2_with fail
      rw [← hW1]
      refine ⟨trivial, fun h => (by cases h), (callsIn_wide.2 hTag).mono ?_⟩
      rintro e w2 ⟨r, rfl, hr1, hb2, hH2⟩
      clear hTag hP c1 c2 hM1 hM2 hlt
      obtain ⟨T, hT⟩ : ∃ T, Hid (SP.tagL ((⟨#[112, 111, 105, 110, 116, 32]⟩ : ByteArray) ++ lab).data.toList [b, [UInt8.ofNat i]] = T) := ⟨_, rfl⟩
      rw [hT.out] at hH2
      gi_wp2_with fail
      refine ⟨trivial, fun h => (by cases h), (callsIn_wide.2 (Coordinates_c _)).mono ?_⟩
      rintro e w3 ⟨v, rfl, hb3, rfl⟩
      have hrl : r < w2.heap.size := holds_lt hH2 (by rw [← hT.out, SP.tagL_size]; decide)
      have hTs : T.size = 32 := by rw [← hT.out]; exact SP.tagL_size _ _
      have hH3 : Holds encB w3 r 0 T := Holds.below hH2 hb3 hrl
      have hrl3 : r < w3.heap.size := Nat.lt_of_lt_of_le hrl hb3.size
      have hb03 : Below wr.heap.size wr w3 := (hb1.trans (hb2.mono hb1.size)).trans (hb3.mono (Nat.le_trans hb1.size hb2.size))
      by_cases hx : beV T.toList < P
      · obtain ⟨x, hxv⟩ : ∃ x : Fin P, Hid (beV T.toList = x.val) := ⟨Fin.ofNat P (beV T.toList), (Nat.mod_eq_of_lt hx).symm⟩
        have hfx : Hid (Fin.ofNat P (beV T.toList) = x) := Fin.ext (by show beV T.toList % P = _; rw [Nat.mod_eq_of_lt hx]; exact hxv.out)
        have hx : Hid (beV T.toList < P) := hx
        gi_wp2_with fail
        refine ⟨trivial, fun h => (by cases h), (callsIn_wide.2 (Read_y C hTs (Nat.le_refl _) hxv.out hrl3 hH3)).mono ?_⟩
        rintro e w4 ⟨v, rfl, hb4, rfl⟩
        have hth4 := (RG.Made.alloc w4 [.int .u64 0, .int .u64 0, .int .u64 0, .int .u64 0] 38).there
        have hb04 := hb03.trans (hb4.mono hb03.size)
        have hra4 := World.rangeAt_setCells_same _ _ 0 (ws x) hth4
        obtain ⟨d, hd1, hd2⟩ := Option.map_eq_some_iff.1 u85
        clear hth4 hra4 hTs hH3 hrl hrl3 hb3 hb4 hH2 hr1 hb2 hb1
        obtain ⟨w5, hw5⟩ : ∃ w5, Hid ((w4.alloc (.cells #[.int .u64 0, .int .u64 0, .int .u64 0, .int .u64 0] 38)).setCells w4.heap.size 0 (ws x) = w5) := ⟨_, rfl⟩
        have hb05 : Hid (Below wr.heap.size wr w5) := by rw [← hw5.out]; exact RG.below_setCells hb04.size _ _ _ (hb04.alloc hb04.size _)
        have hra5 : w5.rangeAt w4.heap.size 0 (ws x) := by rw [← hw5.out]; exact World.rangeAt_setCells_same _ _ 0 (ws x) (RG.Made.alloc w4 [.int .u64 0, .int .u64 0, .int .u64 0, .int .u64 0] 38).there
        gi_wp2_with (first | (refine wpListIn_store_mid rfl 38 _ _ rfl w4.heap.size 0 (ws x).toArray rfl rfl (RG.Made.alloc w4 [.int .u64 0, .int .u64 0, .int .u64 0, .int .u64 0] 38).there i85 (by kernel_rfl) ?_; rw [show (ws x).toArray.toList = ws x from rfl, hw5.out]) | refine wpListIn_load_mid rfl 38 _ rfl w4.heap.size 0 rfl (ws x) d hra5 hd1 hd2 i85 ?_)
        refine ⟨trivial, fun h => (by cases h), ?_⟩
        clear hra5 hd1 hd2
        have hdum : True := trivial
        obtain ⟨d8, hd81, hd82⟩ := Option.map_eq_some_iff.1 u109
        cases hrt : rt (x * x * x + 7) with
        | none =>
          obtain ⟨z, hz⟩ : ∃ z : Fin P, Hid (z = 0) := ⟨_, rfl⟩
          have habove := above_n_c C x hrt w5
          rw [← hz.out] at habove
          obtain ⟨vz, hvz⟩ : ∃ vz, Hid (pv z z = vz) := ⟨_, rfl⟩
          rw [hvz.out] at habove
          refine (callsIn_wide.2 habove).mono ?_
          clear habove
          rintro e w6 ⟨v, rfl, hb6, rfl⟩
          have hcand : Hid (cand P lab b i = none) := by
            show cand P lab b i = none
            unfold cand
            rw [hT.out, if_pos hx.out, hfx.out, hrt]
            rfl
          clear hrt
          have hbA : Hid (Below wr.heap.size wr ((w6.alloc (.cells #[.int .u64 0, .int .u64 0, .int .u64 0, .int .u64 0, .int .u64 0, .int .u64 0, .int .u64 0, .int .u64 0] 40)).setCells w6.heap.size 0 (ws z ++ ws z))) :=
            have h6 := hb05.out.trans (hb6.mono hb05.out.size)
            RG.below_setCells h6.size _ _ _ (h6.alloc h6.size _)
          clear hb6
          have hs8 : (ws z ++ ws z).toArray.size = 8 := by kernel_rfl
          have hth6 : Hid <| (w6.alloc (.cells #[.int .u64 0, .int .u64 0, .int .u64 0, .int .u64 0, .int .u64 0, .int .u64 0, .int .u64 0, .int .u64 0] 40)).there w6.heap.size 0 (ws z ++ ws z).toArray.size := by show World.there _ _ _ _; rw [hs8]; exact (RG.Made.alloc w6 [.int .u64 0, .int .u64 0, .int .u64 0, .int .u64 0, .int .u64 0, .int .u64 0, .int .u64 0, .int .u64 0] 40).there
          have hi8 : Hid ((Try.prog.info? 40).map (·.size) = some (ws z ++ ws z).toArray.size) := by show _ = _; rw [hs8]; exact i109
          clear hs8
          obtain ⟨w7, hw7⟩ : ∃ w7, Hid ((w6.alloc (.cells #[.int .u64 0, .int .u64 0, .int .u64 0, .int .u64 0, .int .u64 0, .int .u64 0, .int .u64 0, .int .u64 0] 40)).setCells w6.heap.size 0 (ws z ++ ws z) = w7) := ⟨_, rfl⟩
          rw [hw7.out] at hbA
          gi_wp2_with (refine wpListIn_store_mid rfl 40 _ _ rfl w6.heap.size 0 (ws z ++ ws z).toArray ?_ ?_ ?_ ?_ ?_ ?_; rfl; exact hvz.out.symm; exact hth6.out; exact hi8.out; kernel_rfl; rw [show (ws z ++ ws z).toArray.toList = ws z ++ ws z from rfl, hw7.out]; refine Hid.out ?_)
          clear hth6 hi8 hvz hz hw7 hb05 hfx hxv hx hT
          show wpListIn _ _ _ _ _ _ _ _
          gi_wp2_with fail
          refine ⟨fun _ h => (by cases h), ?_⟩
          gi_wp2_with fail
          refine ⟨⟨i + 1, by omega, rfl, ?_, hB.trans (hbA.out.mono hB.size), Nat.le_trans hsz hbA.out.size⟩, ?_⟩
          · rw [cands_succ, hcand.out]
            exact hJ _ wr _ none (by simpa using hJi) (grown_b hbA.out none) (fun _ e => by cases e)
          · simp [intOf]
            omega
        | some y =>
          have habove := above_y_c C x y hrt w5
          obtain ⟨vz, hvz⟩ : ∃ vz, Hid (pv x y = vz) := ⟨_, rfl⟩
          rw [hvz.out] at habove
          refine (callsIn_wide.2 habove).mono ?_
          clear habove
          rintro e w6 ⟨v, rfl, hb6, rfl⟩
          have hcand : Hid (cand P lab b i = some (x, y)) := by
            show cand P lab b i = some (x, y)
            unfold cand
            rw [hT.out, if_pos hx.out, hfx.out, hrt]
            rfl
          clear hrt
          obtain ⟨w7, hw7⟩ : ∃ w7, Hid ((w6.alloc (.cells #[.int .u64 0, .int .u64 0, .int .u64 0, .int .u64 0, .int .u64 0, .int .u64 0, .int .u64 0, .int .u64 0] 40)).setCells w6.heap.size 0 (ws x ++ ws y) = w7) := ⟨_, rfl⟩
          have hb07 : Hid (Below wr.heap.size wr w7) := by
            rw [← hw7.out]
            have h6 := hb05.out.trans (hb6.mono hb05.out.size)
            exact RG.below_setCells h6.size _ _ _ (h6.alloc h6.size _)
          clear hb6
          have hra7 : w7.rangeAt w6.heap.size 0 (ws x ++ ws y) := by rw [← hw7.out]; exact World.rangeAt_setCells_same _ _ 0 (ws x ++ ws y) (RG.Made.alloc w6 [.int .u64 0, .int .u64 0, .int .u64 0, .int .u64 0, .int .u64 0, .int .u64 0, .int .u64 0, .int .u64 0] 40).there
          have hJ7 : Hid (J (cands P lab b i) w7) := hJ _ wr _ none (by simpa using hJi) (grown_b hb07.out none) (fun _ e => by cases e)
          have hs8 : (ws x ++ ws y).toArray.size = 8 := by kernel_rfl
          have hth6 : Hid <| (w6.alloc (.cells #[.int .u64 0, .int .u64 0, .int .u64 0, .int .u64 0, .int .u64 0, .int .u64 0, .int .u64 0, .int .u64 0] 40)).there w6.heap.size 0 (ws x ++ ws y).toArray.size := by show World.there _ _ _ _; rw [hs8]; exact (RG.Made.alloc w6 [.int .u64 0, .int .u64 0, .int .u64 0, .int .u64 0, .int .u64 0, .int .u64 0, .int .u64 0, .int .u64 0] 40).there
          have hi8 : Hid ((Try.prog.info? 40).map (·.size) = some (ws x ++ ws y).toArray.size) := by show _ = _; rw [hs8]; exact i109
          clear hs8
          obtain ⟨fn, tmps, assign, body, hy, hR⟩ := hY (cands P lab b i) (x, y) w7 hJ7.out (Nat.lt_of_le_of_lt (cands_len lab b i) (by omega))
          dsimp only at hy
          obtain ⟨va, hva⟩ : ∃ va, Hid (Value.agg (ws x ++ ws y).toArray = va) := ⟨_, rfl⟩
          rw [show pv x y = va from hva.out] at hy
          gi_wp2_with (refine wpListIn_store_mid rfl 40 _ _ rfl w6.heap.size 0 (ws x ++ ws y).toArray ?_ ?_ ?_ ?_ ?_ ?_; rfl; exact hvz.out.symm; exact hth6.out; exact hi8.out; kernel_rfl; rw [show (ws x ++ ws y).toArray.toList = ws x ++ ws y from rfl, hw7.out]; refine Hid.out ?_)
          clear hth6 hi8 hw7 hb05 hfx hxv hx hT
          have hR2 := Hid.mk hR
          have hra8 := Hid.mk hra7
          have hd8 := Hid.mk hd81
          have hd9 := Hid.mk hd82
          clear hR hra7 hd81 hd82
          show wpListIn _ _ _ _ _ _ _ _
          gi_wp2_with (refine wpListIn_load_mid_g rfl 40 _ rfl w6.heap.size 0 ?_ (ws x ++ ws y) d8 ?_ ?_ ?_ ?_ ?_; rfl; exact hra8.out; exact hd8.out; exact hd9.out; exact i109; rw [hva.out]; refine Hid.out ?_)
          clear hra8 hd8 hd9 hva hvz
          show wpListIn _ _ _ _ _ _ _ _
          gi_wp2_with fail
          refine ⟨fun h => (by cases h), hR2.out.mono ?_⟩
          clear hR2 hy
          rintro e W8 (⟨rfl, hJ8, hk8⟩ | ⟨rfl, hJx8⟩)
          · gi_wp2_with fail
            refine ⟨⟨i + 1, by omega, rfl, ?_, (hB.trans (hb07.out.mono hB.size)).trans hk8, Nat.le_trans hsz (Nat.le_trans hb07.out.size hk8.size)⟩, ?_⟩
            · rw [cands_succ, hcand.out]
              exact hJ8
            · simp [intOf]
              omega
          · gi_wp2_with fail
            refine bodyPost_ret (results_none rfl _ _ _) rfl ?_
            refine ⟨⟨_, rfl⟩, .inr ⟨_, ?_, hJx8⟩⟩
            have hp := cands_pre (P := P) lab b (i := i + 1) (j := 256) (by omega)
            rw [cands_succ, hcand.out] at hp
            exact hp
      · have hcand : cand P lab b i = none := by
          unfold cand
          rw [hT.out, if_neg hx]
        gi_wp2_with fail
        refine ⟨trivial, fun h => (by cases h), (callsIn_wide.2 (Read_n C hTs (Nat.le_refl _) hx hrl3 hH3)).mono ?_⟩
        rintro e w4 ⟨v, rfl, hb4, rfl⟩
        have hth4 : Hid ((w4.alloc (.cells #[.int .u64 0, .int .u64 0, .int .u64 0, .int .u64 0] 38)).there w4.heap.size 0 4) := (RG.Made.alloc w4 [.int .u64 0, .int .u64 0, .int .u64 0, .int .u64 0] 38).there
        have hb04 := hb03.trans (hb4.mono hb03.size)
        have hbA : Hid (Below wr.heap.size wr ((w4.alloc (.cells #[.int .u64 0, .int .u64 0, .int .u64 0, .int .u64 0] 38)).setCells w4.heap.size 0 (ws (0 : Fin P)))) := RG.below_setCells hb04.size _ _ _ (hb04.alloc hb04.size _)
        have hcand : Hid (cand P lab b i = none) := hcand
        obtain ⟨w7, hw7⟩ : ∃ w7, Hid ((w4.alloc (.cells #[.int .u64 0, .int .u64 0, .int .u64 0, .int .u64 0] 38)).setCells w4.heap.size 0 (ws (0 : Fin P)) = w7) := ⟨_, rfl⟩
        rw [hw7.out] at hbA
        gi_wp2_with (refine wpListIn_store_mid rfl 38 _ _ rfl w4.heap.size 0 (ws (0 : Fin P)).toArray ?_ ?_ ?_ ?_ ?_ ?_; rfl; rfl; exact hth4.out; exact i85; kernel_rfl; rw [show (ws (0 : Fin P)).toArray.toList = ws (0 : Fin P) from rfl, hw7.out]; refine Hid.out ?_)
        clear hth4 hb04 hb03 hb4 hT hw7
        show wpListIn _ _ _ _ _ _ _ _
        gi_wp2_with fail
        refine ⟨⟨i + 1, by omega, rfl, ?_, hB.trans (hbA.out.mono hB.size), Nat.le_trans hsz hbA.out.size⟩, ?_⟩
        · rw [cands_succ, hcand.out]
          exact hJ _ wr _ none (by simpa using hJi) (grown_b hbA.out none) (fun _ e => by cases e)
        · simp [intOf]
          omega
end Go.Proofs.Yticolhhalbbogac
namespace Go.Proofs.Yticolhhalbbogac
open Go.RowKit Go.Sort Go.Deep
theorem run_copy_text {P : Program} (w : World) (dT sT ty elem : TypeId) (b o dLen dCap : Nat) (t : ByteArray)
    (hu : P.underlying dT = some (.slice elem)) (hz : ∀ w, (Go.sizeOf elem).run P w = .ok 1 w)
    (hc : ∀ j, j < dLen → (w.cell? ⟨b, o + j, none⟩).isSome = true) (hf : ∀ j, j < dLen → w.frozen? ⟨b, o + j, none⟩ = false) :
    (Builtin.copy_ #[dT, sT] ty #[.slice (some ⟨b, o, none⟩) dLen dCap, .string t]).run P w = .ok (goInt (Nat.min t.size dLen)) (w.setCells b o ((t.data.toList.map fun x => Value.int .u8 (x.toNat : Int)).take (Nat.min t.size dLen))) := by
  have hl : (t.data.toList.map fun x => Value.int .u8 (x.toNat : Int)).length = t.size := by rw [List.length_map, ← Lib.size_eq]
  have hm : Nat.min t.size dLen ≤ dLen := Nat.min_le_right _ _
  have hst := run_storeCells_cells (P := P) b o ((t.data.toList.map fun x => Value.int .u8 (x.toNat : Int)).take (Nat.min t.size dLen)) 0 w (by
      rw [List.length_take, hl]; intro j hj; simpa using hc j (by omega)) (by
      rw [List.length_take, hl]; intro j hj; simpa using hf j (by omega)) (by
    intro v hv
    obtain ⟨x, _, rfl⟩ := List.mem_map.1 (List.mem_of_mem_take hv)
    rfl)
  simp [Builtin.copy_, run_underlying hu, Builtin.lenOf, Builtin.firstCells, hz]
  rw [hst]
  rfl
/-- A number out of a text, far below the order. -/
def scB (s : ByteArray) : Bs := #[0] ++ s.data.extract 0 31 ++ Array.replicate (31 - s.size) 0
theorem scB_size (s : ByteArray) : (scB s).size = 32 := by
  unfold scB
  have hl : s.data.size = s.size := rfl
  simp only [Array.size_append, Array.size_extract, Array.size_replicate, hl, List.size_toArray, List.length_cons, List.length_nil]
  omega
theorem scB_0 (s : ByteArray) : (scB s)[0]! = 0 := by
  unfold scB
  rw [getElem!_pos _ 0 (by simp; omega), Array.getElem_append_left (by simp; omega), Array.getElem_append_left (by simp)]
  rfl
theorem scB_at (s : ByteArray) (j : Nat) (h1 : j < s.size) (h2 : j < 31) : (scB s)[1 + j]! = s.data[j]'h1 := by
  have hl : s.data.size = s.size := rfl
  unfold scB
  rw [getElem!_pos _ (1 + j) (by simp; omega), Array.getElem_append_left (by simp; omega), Array.getElem_append_right (by simp)]
  simp
theorem scB_end (s : ByteArray) (j : Nat) (h1 : s.size ≤ j) (h2 : j < 31) : (scB s)[1 + j]! = 0 := by
  have hl : s.data.size = s.size := rfl
  unfold scB
  rw [getElem!_pos _ (1 + j) (by simp; omega), Array.getElem_append_right (by simp; omega)]
  simp
theorem beV_lt (l : List UInt8) : beV l < 256 ^ l.length := by
  induction l with
  | nil => decide
  | cons x r ih =>
    have h := beV_append [x] r
    rw [show [x] ++ r = x :: r from rfl] at h
    have hx : beV [x] = x.toNat := by simp [beV]
    have hx2 := x.toNat_lt
    rw [h, hx, List.length_cons, Nat.pow_succ, Nat.mul_comm (256 ^ r.length)]
    have := Nat.mul_le_mul_right (256 ^ r.length) (show x.toNat + 1 ≤ 256 by omega)
    rw [Nat.add_mul, Nat.one_mul] at this
    omega
theorem scB_lt (s : ByteArray) : beV (scB s).toList < 2 ^ 248 := by
  have e : (scB s).toList = [0] ++ (s.data.extract 0 31 ++ Array.replicate (31 - s.size) 0).toList := by
    unfold scB
    simp
  have hl : (s.data.extract 0 31 ++ Array.replicate (31 - s.size) 0).toList.length = 31 := by
    have := scB_size s
    unfold scB at this
    simp only [Array.size_append, List.size_toArray, List.length_cons, List.length_nil] at this
    rw [Array.length_toList, Array.size_append]
    omega
  have h := beV_lt (s.data.extract 0 31 ++ Array.replicate (31 - s.size) 0).toList
  rw [e, beV_append, show beV [0] = 0 from rfl, Nat.zero_mul, Nat.zero_add]
  rw [hl] at h
  exact h
theorem mk32 (w : World) : (Instr.makeSlice 22 (.int .i64 32) (.int .i64 32)).run Try.prog w = .ok (.slice (some ⟨w.heap.size, 0, none⟩) 32 32) (w.alloc (.cells (madeCells #[.int .u8 0] 32) 5)) :=
  run_make_row' (P := Try.prog) 22 5 (.int .u8 0) 1 und23 info5b rfl .i64 .i64 32 (by decide) (by decide) w
set_option maxHeartbeats 1000000 in
theorem scal_c (s : ByteArray) (w : World) : Calls Try.prog 8 #[.string s] w (Ret fun e w' => Below w.heap.size w w' ∧ ∃ g, e = .slice (some ⟨g, 0, none⟩) 32 32 ∧ w.heap.size ≤ g ∧ g < w'.heap.size ∧ Holds encB w' g 0 (scB s)) := by
  have hmk := mk32 w
  have hH0 : Holds encB (w.alloc (.cells (madeCells #[.int .u8 0] 32) 5)) w.heap.size 0 (Array.replicate 32 0) := Holds.made (enc := encB) w 5 32 0
  have hcp := run_copy_text (P := Try.prog) (w.alloc (.cells (madeCells #[.int .u8 0] 32) 5)) 22 9 3 5 w.heap.size 1 31 31 s slice22 size5
    (fun j hj => by have := (hH0 (1 + j) (by rw [Array.size_replicate]; omega)).1; rw [Nat.zero_add] at this; rw [this]; rfl) (fun j hj => by have := (hH0 (1 + j) (by rw [Array.size_replicate]; omega)).2; rwa [Nat.zero_add] at this)
  obtain ⟨vs, hvs⟩ : ∃ vs, vs = (s.data.toList.map fun x => Value.int .u8 (x.toNat : Int)).take (Nat.min s.size 31) := ⟨_, rfl⟩
  have hl : s.data.size = s.size := rfl
  have hlen : vs.length = Nat.min s.size 31 := by rw [hvs, List.length_take, List.length_map, Array.length_toList, hl]; exact Nat.min_eq_left (Nat.min_le_left _ _)
  have hm1 : Nat.min s.size 31 ≤ 31 := Nat.min_le_right _ _
  have hH1 : Holds encB ((w.alloc (.cells (madeCells #[.int .u8 0] 32) 5)).setCells w.heap.size (0 + 1) vs) w.heap.size 0 (scB s) := by
    refine Holds.setCells (o := 0) hH0 vs 1 (by rw [scB_size, Array.size_replicate]) (by rw [Array.size_replicate, hlen]; omega) (fun j hj => ?_) (fun j hj hout => ?_)
    · have hj2 := hj
      rw [hlen] at hj2
      have ha : j < s.size := Nat.lt_of_lt_of_le hj2 (Nat.min_le_left _ _)
      have hb : j < 31 := Nat.lt_of_lt_of_le hj2 hm1
      rw [scB_at s j ha hb]
      subst hvs
      rw [List.getElem_take, List.getElem_map, Array.getElem_toList]
      rfl
    · rw [Array.size_replicate] at hj
      rw [hlen] at hout
      have hr : (Array.replicate 32 (0 : UInt8))[j]! = 0 := by rw [getElem!_pos _ j (by rw [Array.size_replicate]; exact hj), Array.getElem_replicate]
      rw [hr]
      rcases hout with h | h
      · rw [show j = 0 by omega]; exact scB_0 s
      · have e := scB_end s (j - 1) (by
          have : s.size ≤ j - 1 := by
            rcases Nat.le_total s.size 31 with h3 | h3
            · rw [show Nat.min s.size 31 = s.size from Nat.min_eq_left h3] at h; omega
            · rw [show Nat.min s.size 31 = 31 from Nat.min_eq_right h3] at h; omega
          exact this) (by omega)
        rwa [show 1 + (j - 1) = j by omega] at e
  rw [← hvs] at hcp
  rw [Nat.zero_add] at hH1
  have hb1 : Below w.heap.size w ((w.alloc (.cells (madeCells #[.int .u8 0] 32) 5)).setCells w.heap.size 1 vs) := below_setCells (Nat.le_refl _) _ _ _ ((Below.refl _ _).alloc (Nat.le_refl _) _)
  have hsz : w.heap.size < ((w.alloc (.cells (madeCells #[.int .u8 0] 32) 5)).setCells w.heap.size 1 vs).heap.size := by
    have := (below_setCells (B := 0) (b := w.heap.size) (Nat.zero_le _) vs 1 (w.alloc (.cells (madeCells #[.int .u8 0] 32) 5)) (Below.refl 0 _)).size
    rw [World.size_alloc] at this
    omega
  clear hvs hlen hm1
  have HH : Hid (Below w.heap.size w ((w.alloc (.cells (madeCells #[.int .u8 0] 32) 5)).setCells w.heap.size 1 vs) ∧ w.heap.size < ((w.alloc (.cells (madeCells #[.int .u8 0] 32) 5)).setCells w.heap.size 1 vs).heap.size ∧ Holds encB ((w.alloc (.cells (madeCells #[.int .u8 0] 32) 5)).setCells w.heap.size 1 vs) w.heap.size 0 (scB s)) := ⟨hb1, hsz, hH1⟩
  clear hb1 hsz hH1 hH0
  go_enter Try.func8, Try.ntmps8
  go_wp2
  go_ret
  exact ⟨_, rfl, HH.out.1, _, rfl, Nat.le_refl _, HH.out.2.1, HH.out.2.2⟩
end Go.Proofs.Yticolhhalbbogac
namespace Go.Proofs.Yticolhhalbbogac
open Go.RowKit Go.Sort Go.Deep
variable {P : Nat} [NeZero P]
/-- Points that lie in memory: their blocks, their caps. -/
def Pk (W : World) (l : List (Nat × Nat × EC.Pt P)) : Prop := ∀ x ∈ l, 33 ≤ x.2.1 ∧ x.1 < W.heap.size ∧ EC.On x.2.2 ∧ Holds encB W x.1 0 (wr x.2.2)
theorem Pk.call {W W' : World} {l : List (Nat × Nat × EC.Pt P)} (h : Pk W l) (hb : Below W.heap.size W W') : Pk W' l := fun x hx =>
  ⟨(h x hx).1, Nat.lt_of_lt_of_le (h x hx).2.1 hb.size, (h x hx).2.2.1, Holds.below (h x hx).2.2.2 hb (h x hx).2.1⟩
theorem Pk.only {W W' : World} {l : List (Nat × Nat × EC.Pt P)} {b o n : Nat} (h : Pk W l) (hO : Only b o n W W') (hne : ∀ x ∈ l, x.1 ≠ b) : Pk W' l := fun x hx =>
  ⟨(h x hx).1, Nat.lt_of_lt_of_le (h x hx).2.1 hO.size, (h x hx).2.2.1, Holds.other (h x hx).2.2.2 hO (hne x hx) (by rw [wr_size]; decide)⟩
theorem Pk.cons {W : World} {l : List (Nat × Nat × EC.Pt P)} {g c : Nat} {X : EC.Pt P} (h : Pk W l) (h1 : 33 ≤ c) (h2 : g < W.heap.size) (h3 : EC.On X) (h4 : Holds encB W g 0 (wr X)) : Pk W ((g, c, X) :: l) := fun x hx => by
  rcases List.mem_cons.1 hx with e | e
  · subst e; exact ⟨h1, h2, h3, h4⟩
  · exact h x e
theorem Pk.at {W : World} {l : List (Nat × Nat × EC.Pt P)} (h : Pk W l) (j : Nat) {g c : Nat} {X : EC.Pt P} (hj : l[j]? = some (g, c, X)) : 33 ≤ c ∧ g < W.heap.size ∧ EC.On X ∧ Holds encB W g 0 (wr X) := h _ (List.mem_of_getElem? hj)
theorem arg33_k {W : World} {g c : Nat} {X : EC.Pt P} (h : 33 ≤ c ∧ g < W.heap.size ∧ EC.On X ∧ Holds encB W g 0 (wr X)) : Arg33 W (.slice (some ⟨g, 0, none⟩) 33 c) (wr X) :=
  ⟨_, _, _, rfl, wr_size _, fun _ => ⟨g, 0, rfl, h.1, h.2.1, h.2.2.2⟩⟩
theorem point_k (C : Fld P) {W : World} {g c : Nat} {X : EC.Pt P} (h : 33 ≤ c ∧ g < W.heap.size ∧ EC.On X ∧ Holds encB W g 0 (wr X)) :
    Calls Try.prog 6 #[.slice (some ⟨g, 0, none⟩) 33 c] W (Ret fun e w' => Below W.heap.size W w' ∧ e = .bool true) := by
  obtain ⟨p, hp, -⟩ := rd_wr C h.2.2.1
  have := gPoint_c C _ _ W (arg33_k h)
  rw [hp] at this
  exact this
theorem plus_k (C : Fld P) {W : World} {g c g' c' : Nat} {X Y : EC.Pt P} (h : 33 ≤ c ∧ g < W.heap.size ∧ EC.On X ∧ Holds encB W g 0 (wr X)) (h' : 33 ≤ c' ∧ g' < W.heap.size ∧ EC.On Y ∧ Holds encB W g' 0 (wr Y)) :
    Calls Try.prog 9 #[.slice (some ⟨g, 0, none⟩) 33 c, .slice (some ⟨g', 0, none⟩) 33 c'] W (Ret fun e w' => Below W.heap.size W w' ∧ OutP W (wr (EC.add X Y)) e w') := by
  obtain ⟨p, hp, rfl⟩ := rd_wr C h.2.2.1
  obtain ⟨q, hq, rfl⟩ := rd_wr C h'.2.2.1
  refine (gPlus_c C _ _ _ _ W (arg33_k h) (arg33_k h')).mono ?_
  rintro e w' ⟨v, rfl, hb, hR⟩
  have := hR.q C
  unfold PlusQ at this
  rw [hp, hq] at this
  exact ⟨_, rfl, hb, this⟩
theorem minus_k (C : Fld P) {W : World} {g c : Nat} {X : EC.Pt P} (h : 33 ≤ c ∧ g < W.heap.size ∧ EC.On X ∧ Holds encB W g 0 (wr X)) :
    Calls Try.prog 10 #[.slice (some ⟨g, 0, none⟩) 33 c] W (Ret fun e w' => Below W.heap.size W w' ∧ OutP W (wr (EC.neg X)) e w') := by
  obtain ⟨p, hp, rfl⟩ := rd_wr C h.2.2.1
  refine (gMinus_c C _ _ W (arg33_k h) 0).mono ?_
  rintro e w' ⟨v, rfl, hb, hR⟩
  have := hR.q C
  unfold MinusQ at this
  rw [hp] at this
  exact ⟨_, rfl, hb, this⟩
theorem times_k {N : Nat} (C : Fld P) (hG : Gap 4624529908474429119 4994812053365940164 1 N) (hN : N ≤ top) {W : World} {g c gs : Nat} {X : EC.Pt P} {K : Bs} (hs : K.size = 32) (hk : beV K.toList < N) (hgs : gs < W.heap.size) (hK : Holds encB W gs 0 K) (h : 33 ≤ c ∧ g < W.heap.size ∧ EC.On X ∧ Holds encB W g 0 (wr X)) :
    Calls Try.prog 7 #[.slice (some ⟨gs, 0, none⟩) 32 32, .slice (some ⟨g, 0, none⟩) 33 c] W (Ret fun e w' => Below W.heap.size W w' ∧ OutP W (wr (EC.mul (beV K.toList) X)) e w') := by
  obtain ⟨p, hp, rfl⟩ := rd_wr C h.2.2.1
  refine (gTimes_c C hG hN _ _ K _ W ⟨_, _, _, rfl, hs, fun _ => ⟨gs, 0, rfl, by omega, hgs, hK⟩⟩ (arg33_k h)).mono ?_
  rintro e w' ⟨v, rfl, hb, hR⟩
  have := hR.q C hN
  unfold TimesQ rq at this
  rw [if_pos ⟨hs, hk⟩, hp] at this
  exact ⟨_, rfl, hb, this⟩
theorem order_big {N : Nat} (hG : Gap 4624529908474429119 4994812053365940164 1 N) : 2 ^ 248 < N := by
  have := hG.hP2
  unfold top at this
  omega
theorem beV_cons (x : UInt8) (r : List UInt8) : beV (x :: r) = x.toNat * 256 ^ r.length + beV r := by
  have h := beV_append [x] r
  rw [show [x] ++ r = x :: r from rfl] at h
  rw [h]
  simp [beV]
theorem beV_set : ∀ (l : List UInt8) (i : Nat) (h : i < l.length) (v : UInt8), beV (l.set i v) + (l[i]'h).toNat * 256 ^ (l.length - 1 - i) = beV l + v.toNat * 256 ^ (l.length - 1 - i)
  | x :: r, 0, h, v => by
    rw [List.set_cons_zero, beV_cons, beV_cons, List.getElem_cons_zero, List.length_cons, Nat.add_sub_cancel, Nat.sub_zero]
    omega
  | x :: r, i + 1, h, v => by
    have ih := beV_set r i (by simpa using h) v
    rw [List.set_cons_succ, beV_cons, beV_cons, List.getElem_cons_succ, List.length_set, List.length_cons, show r.length + 1 - 1 - (i + 1) = r.length - 1 - i by omega]
    omega
theorem str_eqL (a : Bs) : ((⟨a⟩ : ByteArray).toList == (⟨a⟩ : ByteArray).toList) = true := by simp
end Go.Proofs.Yticolhhalbbogac
namespace Go.Proofs.Yticolhhalbbogac
open Go.RowKit Go.Sort Go.Deep
variable {P : Nat} [NeZero P]
theorem g_bytes (C : Fld P) : ub (wr (gG P))[0]! = 2 ∧ ub (wr (gG P))[1]! = 121 := by
  constructor
  · rw [show (wr (gG P))[0]! = mark (gY P).val from mark_0 _ _, ub_mark, gY_val C]
    rfl
  · have e : (wr (gG P))[1]! = (bx (gX P).val)[0]! := by
      show (#[mark (gY P).val] ++ bx (gX P).val)[1]! = _
      have hs := bx_size (gX P).val
      generalize bx (gX P).val = b at hs
      rw [getElem!_pos _ 1 (by rw [Array.size_append, hs]; simp), Array.getElem_append_right (by simp), getElem!_pos b 0 (by rw [hs]; decide)]
      rfl
    rw [e, gX_val C]
    exact (by kernel_rfl : ub (bx 55066263022277343669578718895168534326250603453777594175500187360389116729240)[0]! = 121)
theorem u8_add1 (x : UInt8) : IntKind.u8.wrap (ub x + 1) = ub (x + 1) := by
  have h : ∀ x : Fin 256, IntKind.u8.wrap (((x.val : Nat) : Int) + 1) = (((x.val + 1) % 256 : Nat) : Int) := by decide +kernel
  have h1 := h ⟨x.toNat, x.toNat_lt⟩
  have h2 : (x + 1).toNat = (x.toNat + 1) % 256 := by rw [UInt8.toNat_add]; rfl
  show IntKind.u8.wrap (((x.toNat : Nat) : Int) + 1) = (((x + 1).toNat : Nat) : Int)
  rw [h2]
  exact h1
theorem u8_nat0 {x : UInt8} (h : x.toNat = 255) : (x + 1).toNat = 0 := by rw [UInt8.toNat_add, h]; rfl
theorem u8_zero {x : UInt8} (h : x.toNat = 255) : ub (x + 1) = 0 := by
  show (((x + 1).toNat : Nat) : Int) = 0
  rw [u8_nat0 h]; rfl
theorem u8_succ {x : UInt8} (h : ¬ x.toNat = 255) : (x + 1).toNat = x.toNat + 1 := by
  have := x.toNat_lt
  rw [UInt8.toNat_add, show (1 : UInt8).toNat = 1 from rfl, Nat.mod_eq_of_lt (by omega)]
theorem u8_nonzero {x : UInt8} (h : ¬ x.toNat = 255) : ¬ ub (x + 1) = 0 := by
  show ¬ (((x + 1).toNat : Nat) : Int) = 0
  rw [u8_succ h]; omega
theorem beV_put {bs : Bs} {i : Nat} {x y : UInt8} (hs : bs.size = 32) (hi : i < 32) (hx : x = bs[i]!) : beV (bs.setIfInBounds i y).toList + x.toNat * 256 ^ (31 - i) = beV bs.toList + y.toNat * 256 ^ (31 - i) := by
  have hl : bs.toList.length = 32 := by rw [Array.length_toList]; exact hs
  have h := beV_set bs.toList i (by omega) y
  rw [show bs.toList.length - 1 - i = 31 - i by omega, Array.getElem_toList, ← getElem!_pos bs i (by omega), ← hx] at h
  rw [Array.toList_setIfInBounds]
  exact h
theorem Pk.conv {W : World} {l : List (Nat × Nat × EC.Pt P)} (h : Pk W l) (j : Nat) {g c : Nat} {X : EC.Pt P} (hj : l[j]? = some (g, c, X)) : (convert 22 9 (.slice (some ⟨g, 0, none⟩) 33 c)).run Try.prog W = .ok (.string ⟨wr X⟩) W :=
  conv_str Try.prog 22 9 5 slice22 int5 str9 W g 0 33 c (wr X) (h.at j hj).2.2.2 (wr_size _)
set_option maxHeartbeats 8000000 in
set_option maxRecDepth 100000 in
theorem law_all {N : Nat} (C : Fld P) (hG : Gap 4624529908474429119 4994812053365940164 1 N) (hN : N ≤ top) (a b c : ByteArray) (w0 : World) : Calls Try.prog 3 #[.string a, .string b, .string c] w0 fun e w' => e = .returned (.bool true) ∧ Below w0.heap.size w0 w' := by
  have HC : Hid (Fld P ∧ Gap 4624529908474429119 4994812053365940164 1 N ∧ N ≤ top) := ⟨C, hG, hN⟩
  clear C hG hN
  go_enter Try.func3, Try.ntmps3
  go_wp2_with fail
  refine (Base_c HC.out.1 _).mono ?_
  rintro e w1 ⟨v, rfl, hb, g1, c1, rfl, h1, h2, h3, h4⟩
  have HP : Hid (Pk w1 [(g1, c1, gG P)]) := Pk.cons (fun x hx => absurd hx List.not_mem_nil) h1 h3 (gG_on HC.out.1) h4
  have HB : Hid (Below w0.heap.size w0 w1) := hb
  clear hb h1 h2 h3 h4
  go_wp2_with fail
  refine (point_k HC.out.1 (HP.out.at 0 rfl)).mono ?_
  rintro e w2 ⟨v, rfl, hb, rfl⟩
  replace HP : Hid (Pk w2 [(g1, c1, gG P)]) := HP.out.call hb
  replace HB : Hid (Below w0.heap.size w0 w2) := HB.out.trans (hb.mono HB.out.size)
  clear hb
  have hc0 : w2.cell? ⟨g1, 0, none⟩ = some (.int .u8 2) := by
    rw [← (g_bytes HC.out.1).1]; exact ((HP.out.at 0 rfl).2.2.2 0 (by rw [wr_size]; decide)).1
  have hc1 : w2.cell? ⟨g1, 1, none⟩ = some (.int .u8 121) := by
    rw [← (g_bytes HC.out.1).2]; exact ((HP.out.at 0 rfl).2.2.2 1 (by rw [wr_size]; decide)).1
  have hmk := mk33 w2
  go_wp2_with fail
  clear hc0 hc1 hmk
  obtain ⟨gn, hgn⟩ : ∃ g, g = w2.heap.size := ⟨_, rfl⟩
  obtain ⟨W3, hW3⟩ : ∃ W, W = w2.alloc (.cells (madeCells #[.int .u8 0] 33) 5) := ⟨_, rfl⟩
  have hbw : Below w2.heap.size w2 W3 := by rw [hW3]; exact below1 _ _
  have hlt3 : gn < W3.heap.size := by rw [hW3, World.size_alloc, hgn]; omega
  have hH3 : Holds encB W3 gn 0 (wr (none : EC.Pt P)) := by rw [hW3, hgn]; exact Holds.made (enc := encB) w2 5 33 (0 : UInt8)
  replace HP : Hid (Pk W3 [(gn, 33, none), (g1, c1, gG P)]) := Pk.cons (HP.out.call hbw) (Nat.le_refl _) hlt3 EC.none_on hH3
  replace HB : Hid (Below w0.heap.size w0 W3) := HB.out.trans (hbw.mono HB.out.size)
  rw [← hW3, ← hgn]
  clear hbw hlt3 hH3 hW3 hgn
  go_wp2_with fail
  refine (scal_c a _).mono ?_
  rintro e w3 ⟨v, rfl, hb, gs, rfl, h1, h2, h3⟩
  replace HP : Hid (Pk w3 [(gn, 33, none), (g1, c1, gG P)]) := HP.out.call hb
  replace HB : Hid (Below w0.heap.size w0 w3) := HB.out.trans (hb.mono HB.out.size)
  have HS : Hid (gs < w3.heap.size ∧ Holds encB w3 gs 0 (scB a)) := ⟨h2, h3⟩
  clear hb h1 h2 h3
  go_wp2_with fail
  refine (times_k HC.out.1 HC.out.2.1 HC.out.2.2 (scB_size a) (Nat.lt_trans (scB_lt a) (order_big HC.out.2.1)) HS.out.1 HS.out.2 (HP.out.at 1 rfl)).mono ?_
  rintro e w4 ⟨v, rfl, hb, g4, c4, rfl, h1, h2, h3, h4⟩
  replace HP : Hid (Pk w4 [(g4, c4, EC.mul (beV (scB a).toList) (gG P)), (gn, 33, none), (g1, c1, gG P)]) := Pk.cons (HP.out.call hb) h1 h3 (EC.mul_on HC.out.1.cur (gG_on HC.out.1) _) h4
  replace HB : Hid (Below w0.heap.size w0 w4) := HB.out.trans (hb.mono HB.out.size)
  clear hb h1 h2 h3 h4
  clear HS
  obtain ⟨X, hX⟩ : ∃ p, p = EC.mul (beV (scB a).toList) (gG P) := ⟨_, rfl⟩
  rw [← hX] at HP
  have HX : Hid (X = EC.mul (beV (scB a).toList) (gG P)) := hX
  clear hX
  go_wp2_with fail
  refine (scal_c b _).mono ?_
  rintro e w5 ⟨v, rfl, hb, gs, rfl, h1, h2, h3⟩
  replace HP : Hid (Pk w5 [(g4, c4, X), (gn, 33, none), (g1, c1, gG P)]) := HP.out.call hb
  replace HB : Hid (Below w0.heap.size w0 w5) := HB.out.trans (hb.mono HB.out.size)
  have HS : Hid (gs < w5.heap.size ∧ Holds encB w5 gs 0 (scB b)) := ⟨h2, h3⟩
  clear hb h1 h2 h3
  go_wp2_with fail
  refine (times_k HC.out.1 HC.out.2.1 HC.out.2.2 (scB_size b) (Nat.lt_trans (scB_lt b) (order_big HC.out.2.1)) HS.out.1 HS.out.2 (HP.out.at 2 rfl)).mono ?_
  rintro e w6 ⟨v, rfl, hb, g6, c6, rfl, h1, h2, h3, h4⟩
  replace HP : Hid (Pk w6 [(g6, c6, EC.mul (beV (scB b).toList) (gG P)), (g4, c4, X), (gn, 33, none), (g1, c1, gG P)]) := Pk.cons (HP.out.call hb) h1 h3 (EC.mul_on HC.out.1.cur (gG_on HC.out.1) _) h4
  replace HB : Hid (Below w0.heap.size w0 w6) := HB.out.trans (hb.mono HB.out.size)
  clear hb h1 h2 h3 h4
  clear HS
  obtain ⟨Y, hY⟩ : ∃ p, p = EC.mul (beV (scB b).toList) (gG P) := ⟨_, rfl⟩
  rw [← hY] at HP
  clear hY
  go_wp2_with fail
  refine (scal_c c _).mono ?_
  rintro e w7 ⟨v, rfl, hb, gs, rfl, h1, h2, h3⟩
  replace HP : Hid (Pk w7 [(g6, c6, Y), (g4, c4, X), (gn, 33, none), (g1, c1, gG P)]) := HP.out.call hb
  replace HB : Hid (Below w0.heap.size w0 w7) := HB.out.trans (hb.mono HB.out.size)
  have HS : Hid (gs < w7.heap.size ∧ Holds encB w7 gs 0 (scB c)) := ⟨h2, h3⟩
  clear hb h1 h2 h3
  go_wp2_with fail
  refine (times_k HC.out.1 HC.out.2.1 HC.out.2.2 (scB_size c) (Nat.lt_trans (scB_lt c) (order_big HC.out.2.1)) HS.out.1 HS.out.2 (HP.out.at 3 rfl)).mono ?_
  rintro e w8 ⟨v, rfl, hb, g8, c8, rfl, h1, h2, h3, h4⟩
  replace HP : Hid (Pk w8 [(g8, c8, EC.mul (beV (scB c).toList) (gG P)), (g6, c6, Y), (g4, c4, X), (gn, 33, none), (g1, c1, gG P)]) := Pk.cons (HP.out.call hb) h1 h3 (EC.mul_on HC.out.1.cur (gG_on HC.out.1) _) h4
  replace HB : Hid (Below w0.heap.size w0 w8) := HB.out.trans (hb.mono HB.out.size)
  clear hb h1 h2 h3 h4
  clear HS
  obtain ⟨Z, hZ⟩ : ∃ p, p = EC.mul (beV (scB c).toList) (gG P) := ⟨_, rfl⟩
  rw [← hZ] at HP
  clear hZ
  go_wp2_with fail
  refine (plus_k HC.out.1 (HP.out.at 2 rfl) (HP.out.at 1 rfl)).mono ?_
  rintro e w9 ⟨v, rfl, hb, g9, c9, rfl, h1, h2, h3, h4⟩
  replace HP : Hid (Pk w9 [(g9, c9, EC.add X Y), (g8, c8, Z), (g6, c6, Y), (g4, c4, X), (gn, 33, none), (g1, c1, gG P)]) := Pk.cons (HP.out.call hb) h1 h3 (HC.out.1.cur.on (HP.out.at 2 rfl).2.2.1 (HP.out.at 1 rfl).2.2.1) h4
  replace HB : Hid (Below w0.heap.size w0 w9) := HB.out.trans (hb.mono HB.out.size)
  clear hb h1 h2 h3 h4
  go_wp2_with fail
  refine (plus_k HC.out.1 (HP.out.at 2 rfl) (HP.out.at 3 rfl)).mono ?_
  rintro e w10 ⟨v, rfl, hb, g10, c10, rfl, h1, h2, h3, h4⟩
  rw [HC.out.1.cur.comm (HP.out.at 2 rfl).2.2.1 (HP.out.at 3 rfl).2.2.1] at h4
  replace HP : Hid (Pk w10 [(g10, c10, EC.add X Y), (g9, c9, EC.add X Y), (g8, c8, Z), (g6, c6, Y), (g4, c4, X), (gn, 33, none), (g1, c1, gG P)]) := Pk.cons (HP.out.call hb) h1 h3 (HC.out.1.cur.on (HP.out.at 3 rfl).2.2.1 (HP.out.at 2 rfl).2.2.1) h4
  replace HB : Hid (Below w0.heap.size w0 w10) := HB.out.trans (hb.mono HB.out.size)
  clear hb h1 h2 h3 h4
  go_wp2_with fail
  refine (plus_k HC.out.1 (HP.out.at 3 rfl) (HP.out.at 2 rfl)).mono ?_
  rintro e w11 ⟨v, rfl, hb, g11, c11, rfl, h1, h2, h3, h4⟩
  replace HP : Hid (Pk w11 [(g11, c11, EC.add Y Z), (g10, c10, EC.add X Y), (g9, c9, EC.add X Y), (g8, c8, Z), (g6, c6, Y), (g4, c4, X), (gn, 33, none), (g1, c1, gG P)]) := Pk.cons (HP.out.call hb) h1 h3 (HC.out.1.cur.on (HP.out.at 3 rfl).2.2.1 (HP.out.at 2 rfl).2.2.1) h4
  replace HB : Hid (Below w0.heap.size w0 w11) := HB.out.trans (hb.mono HB.out.size)
  clear hb h1 h2 h3 h4
  go_wp2_with fail
  refine (plus_k HC.out.1 (HP.out.at 2 rfl) (HP.out.at 3 rfl)).mono ?_
  rintro e w12 ⟨v, rfl, hb, g12, c12, rfl, h1, h2, h3, h4⟩
  replace HP : Hid (Pk w12 [(g12, c12, EC.add (EC.add X Y) Z), (g11, c11, EC.add Y Z), (g10, c10, EC.add X Y), (g9, c9, EC.add X Y), (g8, c8, Z), (g6, c6, Y), (g4, c4, X), (gn, 33, none), (g1, c1, gG P)]) := Pk.cons (HP.out.call hb) h1 h3 (HC.out.1.cur.on (HP.out.at 2 rfl).2.2.1 (HP.out.at 3 rfl).2.2.1) h4
  replace HB : Hid (Below w0.heap.size w0 w12) := HB.out.trans (hb.mono HB.out.size)
  clear hb h1 h2 h3 h4
  go_wp2_with fail
  refine (plus_k HC.out.1 (HP.out.at 6 rfl) (HP.out.at 1 rfl)).mono ?_
  rintro e w13 ⟨v, rfl, hb, g13, c13, rfl, h1, h2, h3, h4⟩
  rw [← HC.out.1.cur.assoc (HP.out.at 6 rfl).2.2.1 (HP.out.at 5 rfl).2.2.1 (HP.out.at 4 rfl).2.2.1] at h4
  replace HP : Hid (Pk w13 [(g13, c13, EC.add (EC.add X Y) Z), (g12, c12, EC.add (EC.add X Y) Z), (g11, c11, EC.add Y Z), (g10, c10, EC.add X Y), (g9, c9, EC.add X Y), (g8, c8, Z), (g6, c6, Y), (g4, c4, X), (gn, 33, none), (g1, c1, gG P)]) := Pk.cons (HP.out.call hb) h1 h3 (HC.out.1.cur.on (HC.out.1.cur.on (HP.out.at 6 rfl).2.2.1 (HP.out.at 5 rfl).2.2.1) (HP.out.at 4 rfl).2.2.1) h4
  replace HB : Hid (Below w0.heap.size w0 w13) := HB.out.trans (hb.mono HB.out.size)
  clear hb h1 h2 h3 h4
  go_wp2_with fail
  refine (plus_k HC.out.1 (HP.out.at 7 rfl) (HP.out.at 8 rfl)).mono ?_
  rintro e w14 ⟨v, rfl, hb, g14, c14, rfl, h1, h2, h3, h4⟩
  rw [EC.add_none] at h4
  replace HP : Hid (Pk w14 [(g14, c14, X), (g13, c13, EC.add (EC.add X Y) Z), (g12, c12, EC.add (EC.add X Y) Z), (g11, c11, EC.add Y Z), (g10, c10, EC.add X Y), (g9, c9, EC.add X Y), (g8, c8, Z), (g6, c6, Y), (g4, c4, X), (gn, 33, none), (g1, c1, gG P)]) := Pk.cons (HP.out.call hb) h1 h3 ((HP.out.at 7 rfl).2.2.1) h4
  replace HB : Hid (Below w0.heap.size w0 w14) := HB.out.trans (hb.mono HB.out.size)
  clear hb h1 h2 h3 h4
  go_wp2_with fail
  refine (minus_k HC.out.1 (HP.out.at 8 rfl)).mono ?_
  rintro e w15 ⟨v, rfl, hb, g15, c15, rfl, h1, h2, h3, h4⟩
  replace HP : Hid (Pk w15 [(g15, c15, EC.neg X), (g14, c14, X), (g13, c13, EC.add (EC.add X Y) Z), (g12, c12, EC.add (EC.add X Y) Z), (g11, c11, EC.add Y Z), (g10, c10, EC.add X Y), (g9, c9, EC.add X Y), (g8, c8, Z), (g6, c6, Y), (g4, c4, X), (gn, 33, none), (g1, c1, gG P)]) := Pk.cons (HP.out.call hb) h1 h3 (EC.neg_on (HP.out.at 8 rfl).2.2.1) h4
  replace HB : Hid (Below w0.heap.size w0 w15) := HB.out.trans (hb.mono HB.out.size)
  clear hb h1 h2 h3 h4
  go_wp2_with fail
  refine (plus_k HC.out.1 (HP.out.at 9 rfl) (HP.out.at 0 rfl)).mono ?_
  rintro e w16 ⟨v, rfl, hb, g16, c16, rfl, h1, h2, h3, h4⟩
  rw [EC.add_neg] at h4
  replace HP : Hid (Pk w16 [(g16, c16, none), (g15, c15, EC.neg X), (g14, c14, X), (g13, c13, EC.add (EC.add X Y) Z), (g12, c12, EC.add (EC.add X Y) Z), (g11, c11, EC.add Y Z), (g10, c10, EC.add X Y), (g9, c9, EC.add X Y), (g8, c8, Z), (g6, c6, Y), (g4, c4, X), (gn, 33, none), (g1, c1, gG P)]) := Pk.cons (HP.out.call hb) h1 h3 (EC.none_on) h4
  replace HB : Hid (Below w0.heap.size w0 w16) := HB.out.trans (hb.mono HB.out.size)
  clear hb h1 h2 h3 h4
  have kxy := HP.out.conv 7 rfl
  have kyx := HP.out.conv 6 rfl
  have kl := HP.out.conv 4 rfl
  have kr := HP.out.conv 3 rfl
  have ko := HP.out.conv 2 rfl
  have kx := HP.out.conv 10 rfl
  have kn := HP.out.conv 0 rfl
  have kz := HP.out.conv 11 rfl
  obtain ⟨T1, hT1⟩ : ∃ t, t = wr (EC.add X Y) := ⟨_, rfl⟩
  obtain ⟨T2, hT2⟩ : ∃ t, t = wr (EC.add (EC.add X Y) Z) := ⟨_, rfl⟩
  obtain ⟨T3, hT3⟩ : ∃ t, t = wr X := ⟨_, rfl⟩
  obtain ⟨T4, hT4⟩ : ∃ t, t = wr (none : EC.Pt P) := ⟨_, rfl⟩
  rw [← hT1] at kxy kyx
  clear hT1
  rw [← hT2] at kl kr
  clear hT2
  rw [← hT3] at ko kx
  clear hT3
  rw [← hT4] at kn kz
  clear hT4
  have eT1 := str_eqL T1
  have eT2 := str_eqL T2
  have eT3 := str_eqL T3
  have eT4 := str_eqL T4
  go_wp2_with fail
  refine (scal_c a _).mono ?_
  rintro e w17 ⟨v, rfl, hb, gK, rfl, h1, h2, h3⟩
  have HLE : Hid (w0.heap.size ≤ gK) := Nat.le_trans HB.out.size h1
  have HNE : Hid (∀ x ∈ [(g16, c16, none), (g15, c15, EC.neg X), (g14, c14, X), (g13, c13, EC.add (EC.add X Y) Z), (g12, c12, EC.add (EC.add X Y) Z), (g11, c11, EC.add Y Z), (g10, c10, EC.add X Y), (g9, c9, EC.add X Y), (g8, c8, Z), (g6, c6, Y), (g4, c4, X), (gn, 33, none), (g1, c1, gG P)], x.1 ≠ gK) := fun x hx e => by have h5 := (HP.out x hx).2.1; rw [e] at h5; exact absurd h1 (by omega)
  replace HP : Hid (Pk w17 [(g16, c16, none), (g15, c15, EC.neg X), (g14, c14, X), (g13, c13, EC.add (EC.add X Y) Z), (g12, c12, EC.add (EC.add X Y) Z), (g11, c11, EC.add Y Z), (g10, c10, EC.add X Y), (g9, c9, EC.add X Y), (g8, c8, Z), (g6, c6, Y), (g4, c4, X), (gn, 33, none), (g1, c1, gG P)]) := HP.out.call hb
  replace HB : Hid (Below w0.heap.size w0 w17) := HB.out.trans (hb.mono HB.out.size)
  have HS : Hid (gK < w17.heap.size ∧ Holds encB w17 gK 0 (scB a)) := ⟨h2, h3⟩
  clear hb h1 h2 h3
  clear kxy kyx kl kr ko kx kn kz eT1 eT2 eT3 eT4
  obtain ⟨n, hn⟩ : ∃ n, n = beV (scB a).toList := ⟨_, rfl⟩
  have HN : Hid (n = beV (scB a).toList ∧ n < 2 ^ 248 ∧ gK < w17.heap.size) := ⟨hn, by rw [hn]; exact scB_lt a, HS.out.1⟩
  have hK0 : Holds encB w17 gK 0 (scB a) := HS.out.2
  clear HS hn
  go_wp2_with fail
  go_loopg [33] 32 (fun gk s33 wr => ∃ (i : Nat) (bs : Bs), i + 1 = gk ∧ s33 = .int .i64 (i : Int) ∧ Holds encB wr gK 0 bs ∧ Only gK 0 32 w17 wr ∧ Hid (i ≤ 31 ∧ bs.size = 32 ∧ bs[0]! = 0 ∧ beV bs.toList + 256 ^ (31 - i) = n + 1))
  case atStart => exact ⟨31, scB a, rfl, rfl, hK0, Only.refl _ _ _ _, Nat.le_refl _, scB_size a, scB_0 a, by rw [← HN.out.1]⟩
  case round =>
    obtain ⟨i, bs, hi, rfl, hB, hO, HI⟩ := hrel
    obtain ⟨hc, hf⟩ := hB i (by rw [HI.out.2.1]; have := HI.out.1; omega)
    rw [Nat.zero_add] at hc hf
    obtain ⟨x, hx⟩ : ∃ x, x = bs[i]! := ⟨_, rfl⟩
    have HX2 : Hid (x = bs[i]!) := hx
    have hc2 : wr.cell? ⟨gK, i, none⟩ = some (.int .u8 (ub x)) := by rw [hx]; exact hc
    have hi0 : ¬ (i : Int) < 0 := by omega
    have hi1 : (i : Int) < 32 := by have := HI.out.1; omega
    have hset := Holds.set hB (i := i) (by rw [HI.out.2.1]; have := HI.out.1; omega) (x + 1)
    rw [Nat.zero_add] at hset
    have hO2 := hO.setCell (o := i) (Nat.zero_le _) (by have := HI.out.1; omega) (.int .u8 (ub (x + 1)))
    have HH : Hid (Holds encB (wr.setCell ⟨gK, i, none⟩ (.int .u8 (ub (x + 1)))) gK 0 (bs.setIfInBounds i (x + 1)) ∧ Only gK 0 32 w17 (wr.setCell ⟨gK, i, none⟩ (.int .u8 (ub (x + 1))))) := ⟨hset, hO2⟩
    have hw : IntKind.u8.wrap (ub x + 1) = ub (x + 1) := u8_add1 x
    have HV : Hid (beV (bs.setIfInBounds i (x + 1)).toList + x.toNat * 256 ^ (31 - i) = beV bs.toList + (x + 1).toNat * 256 ^ (31 - i)) := beV_put HI.out.2.1 (by have := HI.out.1; omega) HX2.out
    clear hc hx hset hO2 hB hO
    by_cases h255 : x.toNat = 255
    · have hy : ub (x + 1) = 0 := u8_zero h255
      have hi2 : ¬ i = 0 := fun e => by
        have h5 := HX2.out
        rw [e, HI.out.2.2.1] at h5
        rw [h5] at h255
        exact absurd h255 (by decide)
      obtain ⟨i', rfl⟩ : ∃ i', i = i' + 1 := ⟨i - 1, by omega⟩
      have hsub : IntKind.i64.wrap (((i' + 1 : Nat) : Int) - 1) = (i' : Int) := by rw [show ((i' + 1 : Nat) : Int) - 1 = (i' : Int) by omega]; exact IntWalk.i64_in _ (by omega)
      rw [hy] at hw HH
      have hy2 := hy
      clear hy
      go_wp2
      go_roundg (gk - 1)
      case measure => omega
      case rel =>
        refine ⟨i', bs.setIfInBounds (i' + 1) (x + 1), by omega, rfl, HH.out.1, HH.out.2, by have := HI.out.1; omega, by rw [Array.size_setIfInBounds]; exact HI.out.2.1, ?_, ?_⟩
        · rw [getElem!_pos _ 0 (by rw [Array.size_setIfInBounds, HI.out.2.1]; decide), Array.getElem_setIfInBounds_ne (by rw [HI.out.2.1]; decide) (by omega), ← getElem!_pos bs 0 (by rw [HI.out.2.1]; decide)]
          exact HI.out.2.2.1
        · have h1 := HV.out
          have h2 := HI.out.2.2.2
          have h0 : (x + 1).toNat = 0 := u8_nat0 h255
          rw [h255, h0, Nat.zero_mul, Nat.add_zero] at h1
          rw [show 31 - i' = 31 - (i' + 1) + 1 by have := HI.out.1; omega, Nat.pow_succ]
          omega
    · have hy : ¬ ub (x + 1) = 0 := u8_nonzero h255
      have hK : beV (bs.setIfInBounds i (x + 1)).toList = n + 1 := by
        have h1 := HV.out
        have h2 := HI.out.2.2.2
        have h0 : (x + 1).toNat = x.toNat + 1 := u8_succ h255
        rw [h0, Nat.add_mul, Nat.one_mul] at h1
        omega
      have HK : Hid (beV (bs.setIfInBounds i (x + 1)).toList = n + 1 ∧ (bs.setIfInBounds i (x + 1)).size = 32) := ⟨hK, by rw [Array.size_setIfInBounds]; exact HI.out.2.1⟩
      clear hK
      obtain ⟨W5, hW5⟩ : ∃ W, W = wr.setCell ⟨gK, i, none⟩ (.int .u8 (ub (x + 1))) := ⟨_, rfl⟩
      go_wp2_with fail
      rw [← hW5]
      rw [← hW5] at HH
      obtain ⟨K, hKe⟩ : ∃ K, K = bs.setIfInBounds i (x + 1) := ⟨_, rfl⟩
      rw [← hKe] at HH HK
      have HP5 : Hid (Pk W5 [(g16, c16, none), (g15, c15, EC.neg X), (g14, c14, X), (g13, c13, EC.add (EC.add X Y) Z), (g12, c12, EC.add (EC.add X Y) Z), (g11, c11, EC.add Y Z), (g10, c10, EC.add X Y), (g9, c9, EC.add X Y), (g8, c8, Z), (g6, c6, Y), (g4, c4, X), (gn, 33, none), (g1, c1, gG P)]) := HP.out.only HH.out.2 HNE.out
      have HB5 : Hid (Below w0.heap.size w0 W5) := HB.out.trans (HH.out.2.below HB.out.size HLE.out)
      have HS5 : Hid (gK < W5.heap.size ∧ Holds encB W5 gK 0 K) := ⟨Nat.lt_of_lt_of_le HN.out.2.2 HH.out.2.size, HH.out.1⟩
      clear hW5 hKe HH HI HX2 HV hy hw h255 hc2 hi0 hi1 hf hi
      have HKN : Hid (beV K.toList < N) := by have h5 := order_big HC.out.2.1; have h6 := HK.out.1; have h7 := HN.out.2.1; show beV K.toList < N; omega
      refine (times_k HC.out.1 HC.out.2.1 HC.out.2.2 HK.out.2 HKN.out HS5.out.1 HS5.out.2 (HP5.out.at 12 rfl)).mono ?_
      rintro e w30 ⟨v, rfl, hb, g30, c30, rfl, h1, h2, h3, h4⟩
      have HP6 : Hid (Pk w30 [(g30, c30, EC.mul (beV K.toList) (gG P)), (g16, c16, none), (g15, c15, EC.neg X), (g14, c14, X), (g13, c13, EC.add (EC.add X Y) Z), (g12, c12, EC.add (EC.add X Y) Z), (g11, c11, EC.add Y Z), (g10, c10, EC.add X Y), (g9, c9, EC.add X Y), (g8, c8, Z), (g6, c6, Y), (g4, c4, X), (gn, 33, none), (g1, c1, gG P)]) := Pk.cons (HP5.out.call hb) h1 h3 (EC.mul_on HC.out.1.cur (gG_on HC.out.1) _) h4
      have HB6 : Hid (Below w0.heap.size w0 w30) := HB5.out.trans (hb.mono HB5.out.size)
      clear hb h1 h2 h3 h4
      go_wp2_with fail
      refine (plus_k HC.out.1 (HP6.out.at 11 rfl) (HP6.out.at 13 rfl)).mono ?_
      rintro e w31 ⟨v, rfl, hb, g31, c31, rfl, h1, h2, h3, h4⟩
      have HP7 : Hid (Pk w31 [(g31, c31, EC.add X (gG P)), (g30, c30, EC.mul (beV K.toList) (gG P)), (g16, c16, none), (g15, c15, EC.neg X), (g14, c14, X), (g13, c13, EC.add (EC.add X Y) Z), (g12, c12, EC.add (EC.add X Y) Z), (g11, c11, EC.add Y Z), (g10, c10, EC.add X Y), (g9, c9, EC.add X Y), (g8, c8, Z), (g6, c6, Y), (g4, c4, X), (gn, 33, none), (g1, c1, gG P)]) := Pk.cons (HP6.out.call hb) h1 h3 (HC.out.1.cur.on (HP6.out.at 11 rfl).2.2.1 (gG_on HC.out.1)) h4
      have HB7 : Hid (Below w0.heap.size w0 w31) := HB6.out.trans (hb.mono HB6.out.size)
      clear hb h1 h2 h3 h4
      have hEQ : EC.add X (gG P) = EC.mul (beV K.toList) (gG P) := by rw [HX.out, HK.out.1, HN.out.1]; rfl
      have kp := HP7.out.conv 1 rfl
      have kq := HP7.out.conv 0 rfl
      rw [hEQ] at kq
      obtain ⟨T5, hT5⟩ : ∃ t, t = Go.Proofs.Yticolhhalbbogac.wr (EC.mul (beV K.toList) (gG P)) := ⟨_, rfl⟩
      rw [← hT5] at kp kq
      clear hT5 hEQ
      have eT5 := str_eqL T5
      go_wp2
      go_ret
      exact ⟨by simp, HB7.out⟩
end Go.Proofs.Yticolhhalbbogac
namespace Go.Proofs.Yticolhhalbbogac
open Go.RowKit Go.Sort Go.Deep
theorem beV_at : ∀ (l : List UInt8) (i : Nat) (h : i < l.length), (l[i]'h).toNat = beV l / 256 ^ (l.length - 1 - i) % 256
  | x :: r, 0, h => by
    have b := beV_lt r
    have hp : 0 < 256 ^ r.length := Nat.pow_pos (by decide)
    rw [beV_cons, List.length_cons, Nat.add_sub_cancel, Nat.sub_zero, Nat.mul_comm, Nat.mul_add_div hp, Nat.div_eq_of_lt b, Nat.add_zero]
    have := x.toNat_lt
    exact (Nat.mod_eq_of_lt this).symm
  | x :: r, i + 1, h => by
    have hi : i < r.length := by rw [List.length_cons] at h; omega
    have ih := beV_at r i hi
    have e : r.length = (r.length - 1 - i) + (1 + i) := by omega
    rw [List.getElem_cons_succ, ih, beV_cons, List.length_cons, show r.length + 1 - 1 - (i + 1) = r.length - 1 - i by omega]
    have hp : 0 < 256 ^ (r.length - 1 - i) := Nat.pow_pos (by decide)
    have e2 : x.toNat * 256 ^ r.length = 256 ^ (r.length - 1 - i) * (x.toNat * 256 ^ i * 256) := by
      rw [show 256 ^ r.length = 256 ^ (r.length - 1 - i) * 256 ^ (1 + i) by rw [← Nat.pow_add, ← e], Nat.pow_add, Nat.pow_one]
      simp only [Nat.mul_assoc, Nat.mul_left_comm, Nat.mul_comm]
    rw [e2, Nat.mul_add_div hp, Nat.add_comm, Nat.add_mul_mod_self_right]
theorem byV_at {b : Bs} (hs : b.size = 32) {i m : Nat} (hm : i + m = 31) : b[i]!.toNat = beV b.toList / 256 ^ m % 256 := by
  have hl : b.toList.length = 32 := by rw [Array.length_toList]; exact hs
  have h := beV_at b.toList i (by omega)
  rw [Array.getElem_toList, ← getElem!_pos b i (by omega), hl, show 32 - 1 - i = m by omega] at h
  exact h
/-- One step of the sum. -/
theorem both_step {B B' Y X c x y m : Nat} (h : B + (c + Y / 256 ^ m) * 256 ^ m = X) (hy : y = Y / 256 ^ m % 256) (hB : B' + x * 256 ^ m = B + ((c + x + y) % 256) * 256 ^ m) :
    B' + ((c + x + y) / 256 + Y / 256 ^ (m + 1)) * 256 ^ (m + 1) = X := by
  have e1 : Y / 256 ^ (m + 1) = Y / 256 ^ m / 256 := by rw [Nat.pow_succ, Nat.div_div_eq_div_mul]
  have e2 := Nat.div_add_mod (Y / 256 ^ m) 256
  have e3 := Nat.div_add_mod (c + x + y) 256
  rw [e1, Nat.pow_succ]
  rw [← hy] at e2
  generalize Y / 256 ^ m / 256 = q at *
  generalize Y / 256 ^ m = z at *
  generalize (c + x + y) / 256 = t at *
  generalize (c + x + y) % 256 = s at *
  generalize 256 ^ m = p at *
  have e4 : (t + q) * (p * 256) = (256 * t) * p + (256 * q) * p := by
    rw [Nat.add_mul, Nat.mul_comm p 256, ← Nat.mul_assoc, ← Nat.mul_assoc, Nat.mul_comm t 256, Nat.mul_comm q 256]
  have e5 : (256 * t) * p + s * p = c * p + x * p + y * p := by rw [← Nat.add_mul, e3, Nat.add_mul, Nat.add_mul]
  have e6 : (256 * q) * p + y * p = z * p := by rw [← Nat.add_mul, e2]
  rw [Nat.add_mul] at h
  omega
theorem wrap_byte {n : Nat} : IntKind.u8.wrap ((n : Nat) : Int) = ub (UInt8.ofNat n) := by
  show _ = (((UInt8.ofNat n).toNat : Nat) : Int)
  rw [UInt8.toNat_ofNat']
  simp [IntKind.wrap, IntKind.bits, IntKind.signed]
theorem i64_in {n : Int} (h0 : 0 ≤ n) (h1 : n < 1000000) : IntKind.i64.wrap n = n := IntWalk.i64_in _ (by omega)
set_option maxHeartbeats 4000000 in
set_option maxRecDepth 100000 in
theorem both_c (a b : ByteArray) (w : World) : Calls Try.prog 12 #[.string a, .string b] w (Ret fun e w' => Below w.heap.size w w' ∧ ∃ g K, e = .slice (some ⟨g, 0, none⟩) 32 32 ∧ w.heap.size ≤ g ∧ g < w'.heap.size ∧ Holds encB w' g 0 K ∧ K.size = 32 ∧ beV K.toList = beV (scB a).toList + beV (scB b).toList) := by
  go_enter Try.func12, Try.ntmps12
  go_wp2_with fail
  refine (scal_c a _).mono ?_
  rintro e w1 ⟨v, rfl, hb1, g, rfl, l1, k1, H1⟩
  have HS1 : Hid (Below w.heap.size w w1 ∧ w.heap.size ≤ g ∧ g < w1.heap.size ∧ Holds encB w1 g 0 (scB a)) := ⟨hb1, l1, k1, H1⟩
  clear hb1 l1 k1 H1
  go_wp2_with fail
  refine (scal_c b _).mono ?_
  rintro e w2 ⟨v, rfl, hb2, g2, rfl, l2, k2, H2⟩
  have HS2 : Hid (Below w1.heap.size w1 w2 ∧ w1.heap.size ≤ g2 ∧ g2 < w2.heap.size ∧ Holds encB w2 g2 0 (scB b)) := ⟨hb2, l2, k2, H2⟩
  clear hb2 l2 k2 H2
  have hne : g2 ≠ g := by have := HS1.out.2.2.1; have := HS2.out.2.1; omega
  have hA : Holds encB w2 g 0 (scB a) := Holds.below HS1.out.2.2.2 HS2.out.1 HS1.out.2.2.1
  obtain ⟨S, hS⟩ : ∃ S, S = beV (scB a).toList + beV (scB b).toList := ⟨_, rfl⟩
  have HT : Hid (S = beV (scB a).toList + beV (scB b).toList ∧ S < 256 ^ 32) := ⟨hS, by
    have h1 := scB_lt a
    have h2 := scB_lt b
    have h3 : (2 : Nat) ^ 248 + 2 ^ 248 < 256 ^ 32 := by decide +kernel
    omega⟩
  clear hS
  go_wp2_with fail
  go_loopg [7, 8] 32 (fun gk s7 s8 wr => ∃ (c : Nat) (bs : Bs), s7 = .int .i64 (c : Int) ∧ s8 = .int .i64 ((gk : Int) - 1) ∧ Holds encB wr g 0 bs ∧ Only g 0 32 w2 wr ∧ Hid (c ≤ 1 ∧ gk ≤ 32 ∧ bs.size = 32 ∧ beV bs.toList + (c + beV (scB b).toList / 256 ^ (32 - gk)) * 256 ^ (32 - gk) = S))
  case atStart =>
    refine ⟨0, scB a, rfl, rfl, hA, Only.refl _ _ _ _, by decide, by decide, scB_size a, ?_⟩
    rw [HT.out.1]
    simp
  case round =>
    obtain ⟨c, bs, rfl, rfl, hB, hO, HI⟩ := hrel
    cases gk with
    | zero =>
      have e8 : ((0 : Nat) : Int) - 1 = -1 := by omega
      rw [e8]
      have hK : beV bs.toList = S := by
        have h1 := HI.out.2.2.2
        have h2 := HT.out.2
        have h3 : beV (scB b).toList / 256 ^ (32 - 0) = 0 := Nat.div_eq_of_lt (Nat.lt_trans (scB_lt b) (by decide +kernel))
        rw [h3, Nat.add_zero] at h1
        have h4 : c = 0 := by
          have h5 := HI.out.1
          rcases (show c = 0 ∨ c = 1 by omega) with h | h
          · exact h
          · rw [h, Nat.one_mul] at h1
            have h6 : 256 ^ (32 - 0) = 256 ^ 32 := rfl
            rw [h6] at h1
            omega
        rw [h4, Nat.zero_mul] at h1
        exact h1
      have HH : Hid (Below w.heap.size w wr ∧ w.heap.size ≤ g ∧ g < wr.heap.size ∧ Holds encB wr g 0 bs ∧ bs.size = 32 ∧ beV bs.toList = beV (scB a).toList + beV (scB b).toList) :=
        ⟨(HS1.out.1.trans (HS2.out.1.mono HS1.out.1.size)).trans (hO.below (Nat.le_trans HS1.out.1.size HS2.out.1.size) HS1.out.2.1), HS1.out.2.1, Nat.lt_of_lt_of_le (Nat.lt_of_lt_of_le HS1.out.2.2.1 HS2.out.1.size) hO.size, hB, HI.out.2.2.1, by rw [← HT.out.1]; exact hK⟩
      clear hK hB hO HI HT HS1 HS2 hA hne e8
      go_wp2
      go_ret
      exact ⟨_, rfl, HH.out.1, _, bs, rfl, HH.out.2.1, HH.out.2.2.1, HH.out.2.2.2.1, HH.out.2.2.2.2.1, HH.out.2.2.2.2.2⟩
    | succ i =>
      have e8 : ((i + 1 : Nat) : Int) - 1 = (i : Int) := by omega
      rw [e8]
      have hi31 : i ≤ 31 := by have := HI.out.2.1; omega
      obtain ⟨x, hx⟩ : ∃ x, x = bs[i]! := ⟨_, rfl⟩
      obtain ⟨y, hy⟩ : ∃ y, y = (scB b)[i]! := ⟨_, rfl⟩
      have hcx := hB i (by rw [HI.out.2.2.1]; omega)
      have hHb : Holds encB wr g2 0 (scB b) := Holds.other HS2.out.2.2.2 hO hne (by rw [scB_size]; decide)
      have hcy := (hHb i (by rw [scB_size]; omega)).1
      rw [Nat.zero_add, ← hx] at hcx
      rw [Nat.zero_add, ← hy] at hcy
      have hc1 : wr.cell? ⟨g, i, none⟩ = some (.int .u8 (ub x)) := hcx.1
      have hf1 := hcx.2
      have hc2 : wr.cell? ⟨g2, i, none⟩ = some (.int .u8 (ub y)) := hcy
      have hi0 : ¬ (i : Int) < 0 := by omega
      have hi1 : (i : Int) < 32 := by omega
      have hxl := x.toNat_lt
      have hyl := y.toNat_lt
      have hcl := HI.out.1
      have hw1 : IntKind.i64.wrap ((c : Int) + ub x) = ((c + x.toNat : Nat) : Int) := by
        show IntKind.i64.wrap ((c : Int) + ((x.toNat : Nat) : Int)) = _
        rw [show (c : Int) + ((x.toNat : Nat) : Int) = ((c + x.toNat : Nat) : Int) by omega]
        exact i64_in (by omega) (by omega)
      have hw2 : IntKind.i64.wrap (((c + x.toNat : Nat) : Int) + ub y) = ((c + x.toNat + y.toNat : Nat) : Int) := by
        show IntKind.i64.wrap (((c + x.toNat : Nat) : Int) + ((y.toNat : Nat) : Int)) = _
        rw [show ((c + x.toNat : Nat) : Int) + ((y.toNat : Nat) : Int) = ((c + x.toNat + y.toNat : Nat) : Int) by omega]
        exact i64_in (by omega) (by omega)
      obtain ⟨s, hs⟩ : ∃ s, s = c + x.toNat + y.toNat := ⟨_, rfl⟩
      rw [← hs, show ((c + x.toNat : Nat) : Int) = (c : Int) + (x.toNat : Int) from Int.natCast_add _ _] at hw2
      have hw3 : wrap64 ((c : Int) + (x.toNat : Int) + ub y) = (s : Int) := (IntWalk.i64_left _).symm.trans hw2
      have hwx : IntKind.i64.wrap (ub x) = ub x := i64_in (by show 0 ≤ ((x.toNat : Nat) : Int); omega) (by show ((x.toNat : Nat) : Int) < _; omega)
      have hwy : IntKind.i64.wrap (ub y) = ub y := i64_in (by show 0 ≤ ((y.toNat : Nat) : Int); omega) (by show ((y.toNat : Nat) : Int) < _; omega)
      have hwb : IntKind.u8.wrap (s : Int) = ub (UInt8.ofNat s) := wrap_byte
      have hset := Holds.set hB (i := i) (by rw [HI.out.2.2.1]; omega) (UInt8.ofNat s)
      rw [Nat.zero_add] at hset
      have hO2 := fun q => (hO.drewN q).setCell (o := i) (Nat.zero_le _) (by omega) (.int .u8 (ub (UInt8.ofNat s)))
      have HH : Hid (Holds encB (wr.setCell ⟨g, i, none⟩ (.int .u8 (ub (UInt8.ofNat s)))) g 0 (bs.setIfInBounds i (UInt8.ofNat s)) ∧ ∀ q, Only g 0 32 w2 ((wr.drewN q).setCell ⟨g, i, none⟩ (.int .u8 (ub (UInt8.ofNat s))))) := ⟨hset, hO2⟩
      have HV : Hid (s / 256 ≤ 1 ∧ i ≤ 32 ∧ (bs.setIfInBounds i (UInt8.ofNat s)).size = 32 ∧ beV (bs.setIfInBounds i (UInt8.ofNat s)).toList + (s / 256 + beV (scB b).toList / 256 ^ (32 - i)) * 256 ^ (32 - i) = S) := by
        refine ⟨by omega, by omega, by rw [Array.size_setIfInBounds]; exact HI.out.2.2.1, ?_⟩
        have h1 := HI.out.2.2.2
        rw [show 32 - (i + 1) = 31 - i by omega] at h1
        have hp := beV_put (y := UInt8.ofNat s) HI.out.2.2.1 (show i < 32 by omega) hx
        rw [UInt8.toNat_ofNat', hs] at hp
        have hyv : y.toNat = beV (scB b).toList / 256 ^ (31 - i) % 256 := by rw [hy]; exact byV_at (scB_size b) (by omega)
        have := both_step h1 hyv hp
        rw [show 31 - i + 1 = 32 - i by omega, ← hs] at this
        exact this
      clear hcx hcy hHb hB hO hset hO2 hx hy HI hs hcl hxl hyl e8 hA
      have hsub : IntKind.i64.wrap ((i : Int) - 1) = (i : Int) - 1 := IntWalk.i64_in _ (by omega)
      go_wp2
      go_quiet (fail)
      go_wp2
      go_roundg i
      case measure => omega
      case rel => exact ⟨s / 256, bs.setIfInBounds i (UInt8.ofNat s), rfl, rfl, HH.out.1, HH.out.2 _, HV.out⟩
end Go.Proofs.Yticolhhalbbogac
namespace Go.Proofs.Yticolhhalbbogac
open Go.RowKit Go.Sort Go.Deep Go.Shelf
variable {P : Nat} [NeZero P]
theorem pointsOf_c (lab : ByteArray) (a : Option Addr) (m c : Nat) (w : World) :
    Calls Try.prog 26 #[.string lab, .slice a m c] w (Ret fun e w' => e = .func (.func 44) #[] #[.pointer (some ⟨w.heap.size, 0, none⟩), .pointer (some ⟨w.heap.size + 1, 0, none⟩)] ∧ w' = (w.alloc (.cells #[.string lab] 9)).alloc (.cells #[.slice a m c] 22)) := by
  go_enter Try.func26, Try.ntmps26
  go_wp2
  go_ret
  exact ⟨_, rfl, rfl, rfl⟩
/-- The point that a label and bytes give. -/
noncomputable def hpt (P : Nat) [NeZero P] (lab : ByteArray) (b : List UInt8) : Fin P × Fin P := (cands P lab b 256).headD (gX P, gY P)
theorem cand_on {lab : ByteArray} {b : List UInt8} {i : Nat} {x : Fin P × Fin P} (h : cand P lab b i = some x) : x.2 * x.2 = x.1 * x.1 * x.1 + 7 := by
  unfold cand at h
  split at h
  · obtain ⟨y, hy, rfl⟩ := Option.map_eq_some_iff.1 h
    exact rt_sq hy
  · cases h
theorem cands_on {lab : ByteArray} {b : List UInt8} {n : Nat} {x : Fin P × Fin P} (h : x ∈ cands P lab b n) : x.2 * x.2 = x.1 * x.1 * x.1 + 7 := by
  unfold cands at h
  obtain ⟨i, -, hi⟩ := List.mem_filterMap.1 h
  exact cand_on hi
theorem hpt_on (C : Fld P) (lab : ByteArray) (b : List UInt8) : EC.On (.some (hpt P lab b) : EC.Pt P) := by
  unfold hpt
  cases h : cands P lab b 256 with
  | nil => exact gG_on C
  | cons x r => exact on_of (x := x.1) (y := x.2) (cands_on (by rw [h]; exact List.mem_cons_self))
theorem some_wr (C : Fld P) (q : Fin P × Fin P) (h : EC.On (.some q : EC.Pt P)) : by33 q.1 q.2 = wr (.some q : EC.Pt P) := by33_wr C ⟨rfl, rfl⟩ h
theorem hpt_wr (C : Fld P) (lab : ByteArray) (b : List UInt8) : by33 (hpt P lab b).1 (hpt P lab b).2 = wr (.some (hpt P lab b) : EC.Pt P) := some_wr C _ (hpt_on C lab b)
/-- first of pointsOf, behind pointsOf. -/
theorem firstOf_c (C : Fld P) (lab : ByteArray) (a : Option Addr) (m c : Nat) (b : List UInt8) (w : World) (hlab : lab.size ≤ 1000000) (hb : SP.PartOk w (.slice a m c) b) :
    Calls Try.prog 25 #[.func (.func 44) #[] #[.pointer (some ⟨w.heap.size, 0, none⟩), .pointer (some ⟨w.heap.size + 1, 0, none⟩)]] ((w.alloc (.cells #[.string lab] 9)).alloc (.cells #[.slice a m c] 22)) (Ret fun e w' => Below w.heap.size w w' ∧ e = pv (hpt P lab b).1 (hpt P lab b).2) := by
  have hM1 := RG.Made.alloc w [.string lab] 9
  have hM2 := RG.Made.alloc (w.alloc (.cells #[.string lab] 9)) [.slice a m c] 22
  have hB1 : Below w.heap.size w ((w.alloc (.cells #[.string lab] 9)).alloc (.cells #[.slice a m c] 22)) := ((Below.refl _ w).alloc (Nat.le_refl _) _).alloc (by rw [World.size_alloc]; omega) _
  have hs : ((w.alloc (.cells #[.string lab] 9)).alloc (.cells #[.slice a m c] 22)).heap.size = w.heap.size + 2 := by rw [World.size_alloc, World.size_alloc]
  have h1 : ((w.alloc (.cells #[.string lab] 9)).alloc (.cells #[.slice a m c] 22)).cell? ⟨w.heap.size, 0, none⟩ = some (.string lab) := by
    rw [World.cell?_of_block (a := ⟨w.heap.size, 0, none⟩) (Below.heap_alloc _ _ _ (by rw [World.size_alloc]; exact Nat.lt_succ_self _))]
    exact hM1.range 0 _ rfl
  have h2 : ((w.alloc (.cells #[.string lab] 9)).alloc (.cells #[.slice a m c] 22)).cell? ⟨w.heap.size + 1, 0, none⟩ = some (.slice a m c) := by
    have := hM2.range 0 _ rfl
    rwa [World.size_alloc] at this
  refine (first_c C _ (cands P lab b 256) 256 _ (fun n => iter_c C lab (.slice a m c) b w.heap.size (w.heap.size + 1) _ hlab h1 h2 (by omega) (by omega) (hb.below hB1) n)).mono ?_
  rintro e w' ⟨v, rfl, hb2, rfl⟩
  exact ⟨_, rfl, hB1.trans (hb2.mono hB1.size), rfl⟩
set_option maxHeartbeats 1000000 in
set_option maxRecDepth 100000 in
theorem HashTo_c (C : Fld P) (lab : ByteArray) (a : Option Addr) (m c : Nat) (b : List UInt8) (w : World) (hlab : lab.size ≤ 1000000) (hb : SP.PartOk w (.slice a m c) b) :
    Calls Try.prog 13 #[.string lab, .slice a m c] w (Ret fun e w' => Below w.heap.size w w' ∧ OutP w (wr (.some (hpt P lab b) : EC.Pt P)) e w') := by
  have hF := firstOf_c C lab a m c b w hlab hb
  have hBt : ∀ w, Calls Try.prog 16 #[pv (hpt P lab b).1 (hpt P lab b).2] w (Ret fun e w' => Below w.heap.size w w' ∧ BytesR w (by33 (hpt P lab b).1 (hpt P lab b).2) e w') := bytes_c C _ _
  rw [hpt_wr C] at hBt
  generalize pv (hpt P lab b).1 (hpt P lab b).2 = v4 at hF hBt
  clear hb
  go_enter Try.func13, Try.ntmps13
  go_wp2_with fail
  refine (pointsOf_c lab a m c w).mono ?_
  rintro e w1 ⟨v, rfl, rfl, rfl⟩
  go_wp2_with fail
  refine hF.mono ?_
  rintro e w2 ⟨v, rfl, hb2, rfl⟩
  have HB2 : Hid (Below w.heap.size w w2) := hb2
  clear hb2 hF
  go_wp2_with fail
  refine (hBt _).mono ?_
  rintro e w3 ⟨v, rfl, hb3, g, cap3, rfl, hc3, hg3, hlt3, hH3⟩
  have HB3 : Hid (Below w.heap.size w w3) := HB2.out.trans (hb3.mono HB2.out.size)
  have HO : Hid (OutP w (wr (.some (hpt P lab b) : EC.Pt P)) (.tuple #[.slice (some ⟨g, 0, none⟩) 33 cap3, .int .i64 0]) w3) := ⟨g, cap3, rfl, hc3, Nat.le_trans HB2.out.size hg3, hlt3, hH3⟩
  clear hb3 hH3 hBt
  go_wp2
  go_ret2
  exact ⟨_, rfl, HB3.out, HO.out⟩
end Go.Proofs.Yticolhhalbbogac
namespace Go.Proofs.Yticolhhalbbogac
open Go.RowKit Go.Sort Go.Deep Go.Shelf
section
variable {P : Program} {ops : Array Oper} {rest : List Oper} {op : Oper} {a : Act} {w w' : World} {v : Value} {Q : Exit → Act → World → Prop}
theorem wpList_build (hgd : op.guard = none) (ty : TypeId) (n : Nat) (parts : Array (Nat × Operand)) (_ : op.op = .buildSlice ty n parts) (hr : (execOp a.eval op).run P w = .ok (.value v) w') (h : wpList P ops Q rest (a.put op.dst v) w') : wpList P ops Q (op :: rest) a w :=
  wpList_plain hgd fun K hK => by
    unfold Oper.wp
    rw [hr]
    exact hK _ _ h
end
variable {P : Nat} [NeZero P]
def valueL : ByteArray := ⟨#[118, 97, 108, 117, 101]⟩
/-- What a commitment is. -/
noncomputable def cmt (P : Nat) [NeZero P] (n m : Nat) : EC.Pt P := EC.tot (fun j => if j = 0 then .some (hpt P valueL []) else gG P) 2 (fun j => if j = 0 then (n : Int) else (m : Int))
def ComR (P : Nat) [NeZero P] (N : Nat) (w : World) (az bs : Bs) (e : Value) (w' : World) : Prop := match rq N az, rq N bs with
  | some n, some m => OutP w (wr (cmt P n m)) e w'
  | _, _ => OutE 3 e
theorem two_scs {w : World} {v v' : Value} {bs bs' : Bs} (T : TypeId) (h : Arg w v bs) (h' : Arg w v' bs') : ArgsScs (w.alloc (.cells #[v, v'] T)) (some ⟨w.heap.size, 0, none⟩) 2 (fun j => if j = 0 then bs else bs') := fun _ =>
  ⟨w.heap.size, rfl, by rw [World.size_alloc]; omega, fun j hj => by
    have hM := (RG.Made.alloc w [v, v'] T).range
    have hj2 : j = 0 ∨ j = 1 := by omega
    rcases hj2 with rfl | rfl
    · exact ⟨v, hM 0 _ rfl, h.below (below1 w _)⟩
    · exact ⟨v', hM 1 _ rfl, h'.below (below1 w _)⟩⟩
theorem nil_part (w : World) : SP.PartOk w (.slice none 0 0) [] := ⟨none, 0, 0, 0, #[], rfl, rfl, Nat.le_refl _, by decide, Or.inl rfl⟩
theorem pair_some (q : Fin P × Fin P) : EC.Pair q.1 q.2 (.some q : EC.Pt P) := ⟨rfl, rfl⟩
theorem cmt_wr (C : Fld P) {n m : Nat} (hn : n < top) (hm : m < top) {ns : Nat → Nat} {xs ys : Nat → Fin P} (h0 : ns 0 = n) (h1 : ns 1 = m) (hx0 : xs 0 = (hpt P valueL []).1) (hy0 : ys 0 = (hpt P valueL []).2) (hx1 : xs 1 = gX P) (hy1 : ys 1 = gY P) :
    by33 (ptP (sumJ ns xs ys 2 257)).1 (ptP (sumJ ns xs ys 2 257)).2 = wr (cmt P n m) := by
  have hJ := sumJ_all C (N := 2) (ns := ns) (xs := xs) (ys := ys) (p := fun j => if j = 0 then (.some (hpt P valueL []) : EC.Pt P) else gG P)
    (fun j hj => by have : j = 0 ∨ j = 1 := by omega
                    rcases this with rfl | rfl
                    · rw [h0]; exact hn
                    · rw [h1]; exact hm)
    (fun j hj => by have : j = 0 ∨ j = 1 := by omega
                    rcases this with rfl | rfl
                    · rw [hx0, hy0]; exact pair_some _
                    · rw [hx1, hy1]; exact pair_some (gX P, gY P))
    (fun j hj => by have : j = 0 ∨ j = 1 := by omega
                    rcases this with rfl | rfl
                    · exact hpt_on C _ _
                    · exact gG_on C)
  have e1 := by33_wr C (hJ.pair C) hJ.2
  have e2 : EC.tot (fun j => if j = 0 then (.some (hpt P valueL []) : EC.Pt P) else gG P) 2 (fun j => (ns j : Int)) = cmt P n m := EC.tot_congr 2 fun j hj => by
    have : j = 0 ∨ j = 1 := by omega
    rcases this with rfl | rfl
    · rw [h0]; rfl
    · rw [h1]; rfl
  rw [e2] at e1
  exact e1
set_option maxHeartbeats 1000000 in
set_option maxRecDepth 100000 in
theorem Commit_c {N : Nat} (C : Fld P) (hG : Gap 4624529908474429119 4994812053365940164 1 N) (hN : N ≤ top) (v0 v1 : Value) (az bs : Bs) (w : World) (h0 : Arg w v0 az) (h1 : Arg w v1 bs) :
    Calls Try.prog 11 #[v0, v1] w (Ret fun e w' => Below w.heap.size w w' ∧ ComR P N w az bs e w') := by
  have hA := two_scs 22 h0 h1
  obtain ⟨p0, n0, c0, rfl, -, -⟩ := h0
  obtain ⟨p1, n1, c1, rfl, -, -⟩ := h1
  have hS := Scs_c hG 2 2 (by decide) _ _ _ hA
  clear hA
  go_enter Try.func11, Try.ntmps11
  go_wp2_with fail
  refine hS.mono ?_
  rintro e w1 ⟨v, rfl, hb1, ⟨k, hk1, hk2, rfl, hrow⟩ | ⟨⟨j, hj, hno⟩, rfl⟩⟩
  · obtain ⟨n, hn, hrn⟩ := hrow 0 (by decide)
    obtain ⟨m, hm, hrm⟩ := hrow 1 (by decide)
    clear hrow hS
    have HB : Hid (Below w.heap.size w w1) := (below1 w _).trans (hb1.mono (by rw [World.size_alloc]; omega))
    have HK : Hid (k < w1.heap.size ∧ w1.rangeAt k (4 * 0) (wn n) ∧ w1.rangeAt k (4 * 1) (wn m)) := ⟨hk2, hrn, hrm⟩
    have HN : Hid (rq N az = some n ∧ rq N bs = some m) := ⟨hn, hm⟩
    clear hb1 hk1 hk2 hrn hrm hn hm
    go_wp2_with fail
    refine (pointsOf_c valueL none 0 0 w1).mono ?_
    rintro e w2 ⟨v, rfl, rfl, rfl⟩
    have hF := firstOf_c C valueL none 0 0 [] w1 (by decide) (nil_part w1)
    obtain ⟨q, hq⟩ : ∃ q, Hid (hpt P valueL [] = q) := ⟨_, rfl⟩
    rw [hq.out] at hF
    obtain ⟨x, y⟩ := q
    obtain ⟨gx, hgx⟩ : ∃ gx, Hid (gX P = gx) := ⟨_, rfl⟩
    obtain ⟨gy, hgy⟩ : ∃ gy, Hid (gY P = gy) := ⟨_, rfl⟩
    have hbs := base_c C
    rw [hgx.out, hgy.out] at hbs
    obtain ⟨v4, hv4⟩ : ∃ v4, Hid (pv x y = v4) := ⟨_, rfl⟩
    obtain ⟨v5, hv5⟩ : ∃ v5, Hid (pv gx gy = v5) := ⟨_, rfl⟩
    replace hF : Calls Try.prog 25 #[.func (.func 44) #[] #[.pointer (some ⟨w1.heap.size, 0, none⟩), .pointer (some ⟨w1.heap.size + 1, 0, none⟩)]] ((w1.alloc (.cells #[.string valueL] 9)).alloc (.cells #[.slice none 0 0] 22)) (Ret fun e w' => Below w1.heap.size w1 w' ∧ e = v4) := by rw [← hv4.out]; exact hF
    rw [hv5.out] at hbs
    go_wp2_with fail
    refine hF.mono ?_
    rintro e w3 ⟨v, rfl, hb3, rfl⟩
    have HB3 : Hid (Below w.heap.size w w3) := HB.out.trans (hb3.mono HB.out.size)
    have HK3 : Hid (k < w3.heap.size ∧ w3.rangeAt k (4 * 0) (wn n) ∧ w3.rangeAt k (4 * 1) (wn m)) := ⟨Nat.lt_of_lt_of_le HK.out.1 hb3.size, RG.range_below HK.out.2.1 hb3 HK.out.1, RG.range_below HK.out.2.2 hb3 HK.out.1⟩
    clear hF hb3 HB HK
    go_wp2_with fail
    refine (hbs _).mono ?_
    rintro e w4 ⟨v, rfl, hb4, rfl⟩
    have HB4 : Hid (Below w.heap.size w w4) := HB3.out.trans (hb4.mono HB3.out.size)
    have HK4 : Hid (k < w4.heap.size ∧ w4.rangeAt k (4 * 0) (wn n) ∧ w4.rangeAt k (4 * 1) (wn m)) := ⟨Nat.lt_of_lt_of_le HK3.out.1 hb4.size, RG.range_below HK3.out.2.1 hb4 HK3.out.1, RG.range_below HK3.out.2.2 hb4 HK3.out.1⟩
    clear hbs hb4 HB3 HK3
    obtain ⟨w5, hw5⟩ : ∃ w5, Hid (w4.alloc (.cells ((ws x ++ ws y) ++ (ws gx ++ ws gy)).toArray 40) = w5) := ⟨_, rfl⟩
    go_wp2_with (refine wpList_build (v := .slice (some ⟨w4.heap.size, 0, none⟩) 2 2) (w' := w5) rfl 44 2 _ rfl ?_ ?_; rw [← hw5.out, ← hv4.out, ← hv5.out]; kernel_rfl; refine Hid.out ?_)
    have H5 : Hid (Below w.heap.size w w5 ∧ k < w5.heap.size ∧ w4.heap.size < w5.heap.size ∧ (∀ i, i < 2 → w5.rangeAt k (4 * i) (wn (if i = 0 then n else m))) ∧ ∀ i, i < 2 → w5.rangeAt w4.heap.size (8 * i) (ws (if i = 0 then x else gx) ++ ws (if i = 0 then y else gy))) := by
      have hM := RG.Made.alloc w4 ((ws x ++ ws y) ++ (ws gx ++ ws gy)) 40
      have hw : w4.alloc (.cells ((ws x ++ ws y) ++ (ws gx ++ ws gy)).toArray 40) = w5 := hw5.out
      rw [hw] at hM
      refine ⟨HB4.out.trans (hM.bel.mono HB4.out.size), Nat.lt_of_lt_of_le HK4.out.1 hM.bel.size, hM.lt, fun i hi => ?_, fun i hi => ?_⟩
      · have : i = 0 ∨ i = 1 := by omega
        rcases this with rfl | rfl
        · exact RG.range_below HK4.out.2.1 hM.bel HK4.out.1
        · exact RG.range_below HK4.out.2.2 hM.bel HK4.out.1
      · have : i = 0 ∨ i = 1 := by omega
        rcases this with rfl | rfl
        · intro j v hj
          have hj8 : j < 8 := (List.getElem?_eq_some_iff.1 hj).1
          have := hM.range j v (by rw [List.getElem?_append_left (show j < (ws x ++ ws y).length from hj8)]; exact hj)
          exact this
        · intro j v hj
          have := hM.range (8 + j) v (by rw [List.getElem?_append_right (show (ws x ++ ws y).length ≤ 8 + j from Nat.le_add_right 8 j), show 8 + j - (ws x ++ ws y).length = j from Nat.add_sub_cancel_left 8 j]; exact hj)
          rw [Nat.zero_add] at this
          exact this
    clear hw5 HB4 HK4 hv4 hv5
    show wpList _ _ _ _ _ _
    have hS : Calls Try.prog 24 #[.slice (some ⟨k, 0, none⟩) 2 2, .slice (some ⟨w4.heap.size, 0, none⟩) 2 2] w5 (Ret fun e w' => Below w5.heap.size w5 w' ∧ e = pv (ptP (sumJ (fun i => if i = 0 then n else m) (fun i => if i = 0 then x else gx) (fun i => if i = 0 then y else gy) 2 257)).1 (ptP (sumJ (fun i => if i = 0 then n else m) (fun i => if i = 0 then x else gx) (fun i => if i = 0 then y else gy) 2 257)).2) := by
      refine (sums_c C 2 (by decide) (fun i => if i = 0 then n else m) (fun i => if i = 0 then x else gx) (fun i => if i = 0 then y else gy) (fun i hi => ?_) k w4.heap.size w5 H5.out.2.1 H5.out.2.2.1 H5.out.2.2.2.1 H5.out.2.2.2.2).mono ?_
      · have : i = 0 ∨ i = 1 := by omega
        rcases this with rfl | rfl
        · exact rq_top hN HN.out.1
        · exact rq_top hN HN.out.2
      · rintro e w' ⟨v, rfl, hb, s, rfl, rfl⟩
        exact ⟨_, rfl, hb, rfl⟩
    have hW := cmt_wr C (n := n) (m := m) (rq_top hN HN.out.1) (rq_top hN HN.out.2) (ns := fun i => if i = 0 then n else m) (xs := fun i => if i = 0 then x else gx) (ys := fun i => if i = 0 then y else gy) rfl rfl (by rw [hq.out]; rfl) (by rw [hq.out]; rfl) (by rw [hgx.out]; rfl) (by rw [hgy.out]; rfl)
    generalize ptP (sumJ (fun i => if i = 0 then n else m) (fun i => if i = 0 then x else gx) (fun i => if i = 0 then y else gy) 2 257) = z at hS hW
    have hBt : ∀ w, Calls Try.prog 16 #[pv z.1 z.2] w (Ret fun e w' => Below w.heap.size w w' ∧ BytesR w (by33 z.1 z.2) e w') := bytes_c C _ _
    rw [hW] at hBt
    clear hW
    generalize pv z.1 z.2 = v6 at hS hBt
    go_wp2_with fail
    refine hS.mono ?_
    rintro e w6 ⟨v, rfl, hb6, rfl⟩
    have HB6 : Hid (Below w.heap.size w w6) := H5.out.1.trans (hb6.mono H5.out.1.size)
    clear hb6 H5 hS
    go_wp2_with fail
    refine (hBt _).mono ?_
    rintro e w7 ⟨v, rfl, hb7, g, cap3, rfl, hc3, hg3, hlt3, hH3⟩
    have HB7 : Hid (Below w.heap.size w w7) := HB6.out.trans (hb7.mono HB6.out.size)
    have HO : Hid (ComR P N w az bs (.tuple #[.slice (some ⟨g, 0, none⟩) 33 cap3, .int .i64 0]) w7) := by
      show ComR P N w az bs (.tuple #[.slice (some ⟨g, 0, none⟩) 33 cap3, .int .i64 0]) w7
      unfold ComR
      rw [HN.out.1, HN.out.2]
      exact ⟨g, cap3, rfl, hc3, Nat.le_trans HB6.out.size hg3, hlt3, hH3⟩
    clear hb7 hH3 hBt
    go_wp2
    go_ret2
    exact ⟨_, rfl, HB7.out, HO.out⟩
  · have HB : Hid (Below w.heap.size w w1) := (below1 w _).trans (hb1.mono (by rw [World.size_alloc]; omega))
    have HO : Hid (ComR P N w az bs (.tuple #[.slice none 0 0, .int .i64 3]) w1) := by
      show ComR P N w az bs (.tuple #[.slice none 0 0, .int .i64 3]) w1
      unfold ComR
      have : j = 0 ∨ j = 1 := by omega
      rcases this with rfl | rfl
      · have hno : rq N az = none := hno
        rw [hno]; rfl
      · have hno : rq N bs = none := hno
        rw [hno]
        cases rq N az <;> rfl
    clear hb1 hno hS
    go_wp2
    go_ret2
    exact ⟨_, rfl, HB.out, HO.out⟩
end Go.Proofs.Yticolhhalbbogac
namespace Go.Proofs.Yticolhhalbbogac
open Go.RowKit Go.Sort Go.Deep
variable {P : Nat} [NeZero P]
theorem rd_some (C : Fld P) (q : Fin P × Fin P) (h : EC.On (.some q : EC.Pt P)) : rd P (wr (.some q : EC.Pt P)) = some q := by
  obtain ⟨p, hp, hq⟩ := rd_wr C h
  unfold pt at hq
  split at hq
  · cases hq
  · rw [hp]; exact hq
theorem SumR.two (C : Fld P) {N : Nat} (hN : N ≤ top) {w w' : World} {L M : Nat → Bs} {e : Value} {n m : Nat} (h : SumR P N w 2 2 L M e w') (h0 : rq N (L 0) = some n) (h1 : rq N (L 1) = some m)
    (h2 : rd P (M 0) = some (hpt P valueL [])) (h3 : rd P (M 1) = some (gX P, gY P)) : OutP w (wr (cmt P n m)) e w' := by
  rcases h with ⟨h, -⟩ | ⟨-, h, -⟩ | ⟨-, -, ⟨⟨j, hj, hn⟩, -⟩ | ⟨ns, hns, ⟨⟨j, hj, hn⟩, -⟩ | ⟨xs, ys, hxy, h⟩⟩⟩
  · exact absurd rfl h
  · omega
  · have : j = 0 ∨ j = 1 := by omega
    rcases this with rfl | rfl
    · rw [h0] at hn; cases hn
    · rw [h1] at hn; cases hn
  · have : j = 0 ∨ j = 1 := by omega
    rcases this with rfl | rfl
    · rw [h2] at hn; cases hn
    · rw [h3] at hn; cases hn
  · have a0 := hns 0 (by decide)
    have a1 := hns 1 (by decide)
    have b0 := hxy 0 (by decide)
    have b1 := hxy 1 (by decide)
    rw [h0] at a0
    rw [h1] at a1
    rw [h2] at b0
    rw [h3] at b1
    have b0' := Option.some.inj b0
    have b1' := Option.some.inj b1
    have e := cmt_wr C (rq_top hN h0) (rq_top hN h1) (ns := ns) (xs := xs) (ys := ys) (Option.some.inj a0).symm (Option.some.inj a1).symm (by rw [b0']) (by rw [b0']) (congrArg Prod.fst b1').symm (congrArg Prod.snd b1').symm
    rw [← e]
    exact h
theorem ite_on {q g : EC.Pt P} (hq : EC.On q) (hg : EC.On g) (i : Nat) : EC.On (if i = 0 then q else g) := by
  split
  · exact hq
  · exact hg
set_option maxRecDepth 100000 in
theorem cmt_on (C : Fld P) (n m : Nat) : EC.On (cmt P n m) := by
  have h := hpt_on C valueL []
  unfold cmt
  generalize hpt P valueL [] = q at h
  exact EC.tot_on C.cur _ 2 fun i _ => ite_on h (gG_on C) i
set_option maxRecDepth 100000 in
theorem cmt_add (C : Fld P) (n m n' m' : Nat) : EC.add (cmt P n m) (cmt P n' m') = cmt P (n + n') (m + m') := by
  have h0 := hpt_on C valueL []
  unfold cmt
  generalize hpt P valueL [] = q at h0
  rw [← EC.tot_add C.cur _ _ 2 fun i _ => ite_on h0 (gG_on C) i]
  refine EC.tot_congr 2 fun i hi => ?_
  show (if i = 0 then (n : Int) else (m : Int)) + (if i = 0 then (n' : Int) else (m' : Int)) = if i = 0 then ((n + n' : Nat) : Int) else ((m + m' : Nat) : Int)
  split <;> omega
/-- Numbers that lie in memory. -/
def Sk (W : World) (l : List (Nat × Bs)) : Prop := ∀ x ∈ l, x.1 < W.heap.size ∧ x.2.size = 32 ∧ Holds encB W x.1 0 x.2
theorem Sk.call {W W' : World} {l : List (Nat × Bs)} (h : Sk W l) (hb : Below W.heap.size W W') : Sk W' l := fun x hx =>
  ⟨Nat.lt_of_lt_of_le (h x hx).1 hb.size, (h x hx).2.1, Holds.below (h x hx).2.2 hb (h x hx).1⟩
theorem Sk.cons {W : World} {l : List (Nat × Bs)} {g : Nat} {K : Bs} (h : Sk W l) (h2 : g < W.heap.size) (h3 : K.size = 32) (h4 : Holds encB W g 0 K) : Sk W ((g, K) :: l) := fun x hx => by
  rcases List.mem_cons.1 hx with e | e
  · subst e; exact ⟨h2, h3, h4⟩
  · exact h x e
theorem Sk.arg {W : World} {l : List (Nat × Bs)} (h : Sk W l) (j : Nat) {g : Nat} {K : Bs} (hj : l[j]? = some (g, K)) : Arg W (.slice (some ⟨g, 0, none⟩) 32 32) K :=
  have h := h _ (List.mem_of_getElem? hj)
  ⟨_, _, _, rfl, h.2.1, fun _ => ⟨g, 0, rfl, by decide, h.1, h.2.2⟩⟩
theorem Sk.nil (W : World) : Sk W [] := fun _ hx => absurd hx List.not_mem_nil
theorem rq_some {N : Nat} {K : Bs} (hs : K.size = 32) (hk : beV K.toList < N) : rq N K = some (beV K.toList) := by
  unfold rq
  rw [if_pos ⟨hs, hk⟩]
theorem commit_k {N : Nat} (C : Fld P) (hG : Gap 4624529908474429119 4994812053365940164 1 N) (hN : N ≤ top) {W : World} {l : List (Nat × Bs)} (h : Sk W l) (i j : Nat) {g g' : Nat} {K K' : Bs} (hi : l[i]? = some (g, K)) (hj : l[j]? = some (g', K')) (hk : beV K.toList < N) (hk' : beV K'.toList < N) :
    Calls Try.prog 11 #[.slice (some ⟨g, 0, none⟩) 32 32, .slice (some ⟨g', 0, none⟩) 32 32] W (Ret fun e w' => Below W.heap.size W w' ∧ OutP W (wr (cmt P (beV K.toList) (beV K'.toList))) e w') := by
  refine (Commit_c C hG hN _ _ K K' W (h.arg i hi) (h.arg j hj)).mono ?_
  rintro e w' ⟨v, rfl, hb, hR⟩
  unfold ComR at hR
  rw [rq_some (h _ (List.mem_of_getElem? hi)).2.1 hk, rq_some (h _ (List.mem_of_getElem? hj)).2.1 hk'] at hR
  exact ⟨_, rfl, hb, hR⟩
theorem two_pts {w : World} {v v' : Value} {bs bs' : Bs} (T : TypeId) (h : Arg33 w v bs) (h' : Arg33 w v' bs') : ArgsPts (w.alloc (.cells #[v, v'] T)) (some ⟨w.heap.size, 0, none⟩) 2 (fun j => if j = 0 then bs else bs') := fun _ =>
  ⟨w.heap.size, rfl, by rw [World.size_alloc]; omega, fun j hj => by
    have hM := (RG.Made.alloc w [v, v'] T).range
    have hj2 : j = 0 ∨ j = 1 := by omega
    rcases hj2 with rfl | rfl
    · exact ⟨v, hM 0 _ rfl, h.below (below1 w _)⟩
    · exact ⟨v', hM 1 _ rfl, h'.below (below1 w _)⟩⟩
set_option maxHeartbeats 8000000 in
set_option maxRecDepth 100000 in
theorem homes_all {N : Nat} (C : Fld P) (hG : Gap 4624529908474429119 4994812053365940164 1 N) (hN : N ≤ top) (a r b s : ByteArray) (w0 : World) : Calls Try.prog 4 #[.string a, .string r, .string b, .string s] w0 fun e w' => e = .returned (.bool true) ∧ Below w0.heap.size w0 w' := by
  have HC : Hid (Fld P ∧ Gap 4624529908474429119 4994812053365940164 1 N ∧ N ≤ top) := ⟨C, hG, hN⟩
  have hlt : ∀ s : ByteArray, Hid (beV (scB s).toList < N) := fun s => Nat.lt_trans (scB_lt s) (order_big hG)
  have hlt2 : ∀ (s t : ByteArray) (K : Bs), beV K.toList = beV (scB s).toList + beV (scB t).toList → Hid (beV K.toList < N) := fun s t K h => by
    show beV K.toList < N
    have h1 := scB_lt s
    have h2 := scB_lt t
    have h3 := hG.hP2
    unfold top at h3
    omega
  have HLT := Hid.mk hlt
  have HLT2 := Hid.mk hlt2
  clear C hG hN hlt hlt2
  go_enter Try.func4, Try.ntmps4
  have HS : Hid (Sk w0 []) := Sk.nil w0
  have HP : Hid (Pk (P := P) w0 []) := fun x hx => absurd hx List.not_mem_nil
  have HB : Hid (Below w0.heap.size w0 w0) := Below.refl _ _
  go_wp2_with fail
  refine (scal_c a _).mono ?_
  rintro e w1 ⟨v, rfl, hb, g1, rfl, h1, h2, h3⟩
  replace HP : Hid (Pk (P := P) w1 []) := HP.out.call hb
  replace HS : Hid (Sk w1 [(g1, scB a)]) := Sk.cons (HS.out.call hb) h2 (scB_size _) h3
  replace HB : Hid (Below w0.heap.size w0 w1) := HB.out.trans (hb.mono HB.out.size)
  clear hb h1 h2 h3
  go_wp2_with fail
  refine (scal_c r _).mono ?_
  rintro e w2 ⟨v, rfl, hb, g2, rfl, h1, h2, h3⟩
  replace HP : Hid (Pk (P := P) w2 []) := HP.out.call hb
  replace HS : Hid (Sk w2 [(g2, scB r), (g1, scB a)]) := Sk.cons (HS.out.call hb) h2 (scB_size _) h3
  replace HB : Hid (Below w0.heap.size w0 w2) := HB.out.trans (hb.mono HB.out.size)
  clear hb h1 h2 h3
  go_wp2_with fail
  refine (commit_k HC.out.1 HC.out.2.1 HC.out.2.2 HS.out 1 0 rfl rfl (HLT.out a).out (HLT.out r).out).mono ?_
  rintro e w3 ⟨v, rfl, hb, g3, c3, rfl, h1, h2, h3, h4⟩
  replace HP : Hid (Pk (P := P) w3 [(g3, c3, cmt P (beV (scB a).toList) (beV (scB r).toList))]) := Pk.cons (HP.out.call hb) h1 h3 (cmt_on HC.out.1 _ _) h4
  replace HS : Hid (Sk w3 [(g2, scB r), (g1, scB a)]) := HS.out.call hb
  replace HB : Hid (Below w0.heap.size w0 w3) := HB.out.trans (hb.mono HB.out.size)
  clear hb h1 h2 h3 h4
  go_wp2_with fail
  refine (scal_c b _).mono ?_
  rintro e w4 ⟨v, rfl, hb, g4, rfl, h1, h2, h3⟩
  replace HP : Hid (Pk (P := P) w4 [(g3, c3, cmt P (beV (scB a).toList) (beV (scB r).toList))]) := HP.out.call hb
  replace HS : Hid (Sk w4 [(g4, scB b), (g2, scB r), (g1, scB a)]) := Sk.cons (HS.out.call hb) h2 (scB_size _) h3
  replace HB : Hid (Below w0.heap.size w0 w4) := HB.out.trans (hb.mono HB.out.size)
  clear hb h1 h2 h3
  go_wp2_with fail
  refine (scal_c s _).mono ?_
  rintro e w5 ⟨v, rfl, hb, g5, rfl, h1, h2, h3⟩
  replace HP : Hid (Pk (P := P) w5 [(g3, c3, cmt P (beV (scB a).toList) (beV (scB r).toList))]) := HP.out.call hb
  replace HS : Hid (Sk w5 [(g5, scB s), (g4, scB b), (g2, scB r), (g1, scB a)]) := Sk.cons (HS.out.call hb) h2 (scB_size _) h3
  replace HB : Hid (Below w0.heap.size w0 w5) := HB.out.trans (hb.mono HB.out.size)
  clear hb h1 h2 h3
  go_wp2_with fail
  refine (commit_k HC.out.1 HC.out.2.1 HC.out.2.2 HS.out 1 0 rfl rfl (HLT.out b).out (HLT.out s).out).mono ?_
  rintro e w6 ⟨v, rfl, hb, g6, c6, rfl, h1, h2, h3, h4⟩
  replace HP : Hid (Pk (P := P) w6 [(g6, c6, cmt P (beV (scB b).toList) (beV (scB s).toList)), (g3, c3, cmt P (beV (scB a).toList) (beV (scB r).toList))]) := Pk.cons (HP.out.call hb) h1 h3 (cmt_on HC.out.1 _ _) h4
  replace HS : Hid (Sk w6 [(g5, scB s), (g4, scB b), (g2, scB r), (g1, scB a)]) := HS.out.call hb
  replace HB : Hid (Below w0.heap.size w0 w6) := HB.out.trans (hb.mono HB.out.size)
  clear hb h1 h2 h3 h4
  go_wp2_with fail
  refine (both_c a b _).mono ?_
  rintro e w7 ⟨v, rfl, hb, g7, K1, rfl, h1, h2, h3, h4, h5⟩
  replace HP : Hid (Pk (P := P) w7 [(g6, c6, cmt P (beV (scB b).toList) (beV (scB s).toList)), (g3, c3, cmt P (beV (scB a).toList) (beV (scB r).toList))]) := HP.out.call hb
  replace HS : Hid (Sk w7 [(g7, K1), (g5, scB s), (g4, scB b), (g2, scB r), (g1, scB a)]) := Sk.cons (HS.out.call hb) h2 h4 h3
  have HK1 : Hid (beV K1.toList = beV (scB a).toList + beV (scB b).toList) := h5
  replace HB : Hid (Below w0.heap.size w0 w7) := HB.out.trans (hb.mono HB.out.size)
  clear hb h1 h2 h3 h4 h5
  go_wp2_with fail
  refine (both_c r s _).mono ?_
  rintro e w8 ⟨v, rfl, hb, g8, K2, rfl, h1, h2, h3, h4, h5⟩
  replace HP : Hid (Pk (P := P) w8 [(g6, c6, cmt P (beV (scB b).toList) (beV (scB s).toList)), (g3, c3, cmt P (beV (scB a).toList) (beV (scB r).toList))]) := HP.out.call hb
  replace HS : Hid (Sk w8 [(g8, K2), (g7, K1), (g5, scB s), (g4, scB b), (g2, scB r), (g1, scB a)]) := Sk.cons (HS.out.call hb) h2 h4 h3
  have HK2 : Hid (beV K2.toList = beV (scB r).toList + beV (scB s).toList) := h5
  replace HB : Hid (Below w0.heap.size w0 w8) := HB.out.trans (hb.mono HB.out.size)
  clear hb h1 h2 h3 h4 h5
  go_wp2_with fail
  refine (commit_k HC.out.1 HC.out.2.1 HC.out.2.2 HS.out 1 0 rfl rfl (HLT2.out a b K1 HK1.out).out (HLT2.out r s K2 HK2.out).out).mono ?_
  rintro e w9 ⟨v, rfl, hb, g9, c9, rfl, h1, h2, h3, h4⟩
  replace HP : Hid (Pk (P := P) w9 [(g9, c9, cmt P (beV (K1).toList) (beV (K2).toList)), (g6, c6, cmt P (beV (scB b).toList) (beV (scB s).toList)), (g3, c3, cmt P (beV (scB a).toList) (beV (scB r).toList))]) := Pk.cons (HP.out.call hb) h1 h3 (cmt_on HC.out.1 _ _) h4
  replace HS : Hid (Sk w9 [(g8, K2), (g7, K1), (g5, scB s), (g4, scB b), (g2, scB r), (g1, scB a)]) := HS.out.call hb
  replace HB : Hid (Below w0.heap.size w0 w9) := HB.out.trans (hb.mono HB.out.size)
  clear hb h1 h2 h3 h4
  go_wp2_with fail
  refine (plus_k HC.out.1 (HP.out.at 2 rfl) (HP.out.at 1 rfl)).mono ?_
  rintro e w10 ⟨v, rfl, hb, g10, c10, rfl, h1, h2, h3, h4⟩
  replace HP : Hid (Pk (P := P) w10 [(g10, c10, EC.add (cmt P (beV (scB a).toList) (beV (scB r).toList)) (cmt P (beV (scB b).toList) (beV (scB s).toList))), (g9, c9, cmt P (beV (K1).toList) (beV (K2).toList)), (g6, c6, cmt P (beV (scB b).toList) (beV (scB s).toList)), (g3, c3, cmt P (beV (scB a).toList) (beV (scB r).toList))]) := Pk.cons (HP.out.call hb) h1 h3 (HC.out.1.cur.on (cmt_on HC.out.1 _ _) (cmt_on HC.out.1 _ _)) h4
  replace HS : Hid (Sk w10 [(g8, K2), (g7, K1), (g5, scB s), (g4, scB b), (g2, scB r), (g1, scB a)]) := HS.out.call hb
  replace HB : Hid (Below w0.heap.size w0 w10) := HB.out.trans (hb.mono HB.out.size)
  clear hb h1 h2 h3 h4
  go_wp2_with fail
  refine (HashTo_c HC.out.1 valueL none 0 0 [] _ (by decide) (nil_part _)).mono ?_
  rintro e w11 ⟨v, rfl, hb, g11, c11, rfl, h1, h2, h3, h4⟩
  replace HP : Hid (Pk (P := P) w11 [(g11, c11, .some (hpt P valueL [])), (g10, c10, EC.add (cmt P (beV (scB a).toList) (beV (scB r).toList)) (cmt P (beV (scB b).toList) (beV (scB s).toList))), (g9, c9, cmt P (beV (K1).toList) (beV (K2).toList)), (g6, c6, cmt P (beV (scB b).toList) (beV (scB s).toList)), (g3, c3, cmt P (beV (scB a).toList) (beV (scB r).toList))]) := Pk.cons (HP.out.call hb) h1 h3 (hpt_on HC.out.1 _ _) h4
  replace HS : Hid (Sk w11 [(g8, K2), (g7, K1), (g5, scB s), (g4, scB b), (g2, scB r), (g1, scB a)]) := HS.out.call hb
  replace HB : Hid (Below w0.heap.size w0 w11) := HB.out.trans (hb.mono HB.out.size)
  clear hb h1 h2 h3 h4
  go_wp2_with fail
  refine (scal_c a _).mono ?_
  rintro e w12 ⟨v, rfl, hb, g12, rfl, h1, h2, h3⟩
  replace HP : Hid (Pk (P := P) w12 [(g11, c11, .some (hpt P valueL [])), (g10, c10, EC.add (cmt P (beV (scB a).toList) (beV (scB r).toList)) (cmt P (beV (scB b).toList) (beV (scB s).toList))), (g9, c9, cmt P (beV (K1).toList) (beV (K2).toList)), (g6, c6, cmt P (beV (scB b).toList) (beV (scB s).toList)), (g3, c3, cmt P (beV (scB a).toList) (beV (scB r).toList))]) := HP.out.call hb
  replace HS : Hid (Sk w12 [(g12, scB a), (g8, K2), (g7, K1), (g5, scB s), (g4, scB b), (g2, scB r), (g1, scB a)]) := Sk.cons (HS.out.call hb) h2 (scB_size _) h3
  replace HB : Hid (Below w0.heap.size w0 w12) := HB.out.trans (hb.mono HB.out.size)
  clear hb h1 h2 h3
  go_wp2_with fail
  refine (scal_c r _).mono ?_
  rintro e w13 ⟨v, rfl, hb, g13, rfl, h1, h2, h3⟩
  replace HP : Hid (Pk (P := P) w13 [(g11, c11, .some (hpt P valueL [])), (g10, c10, EC.add (cmt P (beV (scB a).toList) (beV (scB r).toList)) (cmt P (beV (scB b).toList) (beV (scB s).toList))), (g9, c9, cmt P (beV (K1).toList) (beV (K2).toList)), (g6, c6, cmt P (beV (scB b).toList) (beV (scB s).toList)), (g3, c3, cmt P (beV (scB a).toList) (beV (scB r).toList))]) := HP.out.call hb
  replace HS : Hid (Sk w13 [(g13, scB r), (g12, scB a), (g8, K2), (g7, K1), (g5, scB s), (g4, scB b), (g2, scB r), (g1, scB a)]) := Sk.cons (HS.out.call hb) h2 (scB_size _) h3
  replace HB : Hid (Below w0.heap.size w0 w13) := HB.out.trans (hb.mono HB.out.size)
  clear hb h1 h2 h3
  have hL := two_scs 22 (HS.out.arg 1 rfl) (HS.out.arg 0 rfl)
  obtain ⟨W1, hW1⟩ : ∃ W, Hid (w13.alloc (.cells #[.slice (some ⟨g12, 0, none⟩) 32 32, .slice (some ⟨g13, 0, none⟩) 32 32] 22) = W) := ⟨_, rfl⟩
  rw [hW1.out] at hL
  have hb : Below w13.heap.size w13 W1 := by rw [← hW1.out]; exact below1 _ _
  have HLS : Hid (ArgsScs W1 (some ⟨w13.heap.size, 0, none⟩) 2 (fun j => if j = 0 then scB a else scB r)) := hL
  clear hL
  replace HP : Hid (Pk (P := P) W1 [(g11, c11, .some (hpt P valueL [])), (g10, c10, EC.add (cmt P (beV (scB a).toList) (beV (scB r).toList)) (cmt P (beV (scB b).toList) (beV (scB s).toList))), (g9, c9, cmt P (beV (K1).toList) (beV (K2).toList)), (g6, c6, cmt P (beV (scB b).toList) (beV (scB s).toList)), (g3, c3, cmt P (beV (scB a).toList) (beV (scB r).toList))]) := HP.out.call hb
  replace HB : Hid (Below w0.heap.size w0 W1) := HB.out.trans (hb.mono HB.out.size)
  clear hb HS
  go_wp2_with fail
  rw [hW1.out]
  refine (Base_c HC.out.1 _).mono ?_
  rintro e w14 ⟨v, rfl, hb, g14, c14, rfl, h1, h2, h3, h4⟩
  replace HP : Hid (Pk (P := P) w14 [(g14, c14, gG P), (g11, c11, .some (hpt P valueL [])), (g10, c10, EC.add (cmt P (beV (scB a).toList) (beV (scB r).toList)) (cmt P (beV (scB b).toList) (beV (scB s).toList))), (g9, c9, cmt P (beV (K1).toList) (beV (K2).toList)), (g6, c6, cmt P (beV (scB b).toList) (beV (scB s).toList)), (g3, c3, cmt P (beV (scB a).toList) (beV (scB r).toList))]) := Pk.cons (HP.out.call hb) h1 h3 (gG_on HC.out.1) h4
  replace HB : Hid (Below w0.heap.size w0 w14) := HB.out.trans (hb.mono HB.out.size)
  replace HLS : Hid (ArgsScs w14 (some ⟨w13.heap.size, 0, none⟩) 2 (fun j => if j = 0 then scB a else scB r)) := HLS.out.below hb
  clear hb h1 h2 h3 h4 hW1
  have hL := two_pts 22 (arg33_k (HP.out.at 1 rfl)) (arg33_k (HP.out.at 0 rfl))
  obtain ⟨W2, hW2⟩ : ∃ W, Hid (w14.alloc (.cells #[.slice (some ⟨g11, 0, none⟩) 33 c11, .slice (some ⟨g14, 0, none⟩) 33 c14] 22) = W) := ⟨_, rfl⟩
  rw [hW2.out] at hL
  have hb : Below w14.heap.size w14 W2 := by rw [← hW2.out]; exact below1 _ _
  have HLP : Hid (ArgsPts W2 (some ⟨w14.heap.size, 0, none⟩) 2 (fun j => if j = 0 then wr (.some (hpt P valueL []) : EC.Pt P) else wr (gG P))) := hL
  clear hL
  replace HP : Hid (Pk (P := P) W2 [(g14, c14, gG P), (g11, c11, .some (hpt P valueL [])), (g10, c10, EC.add (cmt P (beV (scB a).toList) (beV (scB r).toList)) (cmt P (beV (scB b).toList) (beV (scB s).toList))), (g9, c9, cmt P (beV (K1).toList) (beV (K2).toList)), (g6, c6, cmt P (beV (scB b).toList) (beV (scB s).toList)), (g3, c3, cmt P (beV (scB a).toList) (beV (scB r).toList))]) := HP.out.call hb
  replace HB : Hid (Below w0.heap.size w0 W2) := HB.out.trans (hb.mono HB.out.size)
  replace HLS : Hid (ArgsScs W2 (some ⟨w13.heap.size, 0, none⟩) 2 (fun j => if j = 0 then scB a else scB r)) := HLS.out.below hb
  clear hb
  go_wp2_with fail
  rw [hW2.out]
  clear hW2
  refine (gSum_c HC.out.1 HC.out.2.1 HC.out.2.2 _ _ 2 2 2 2 _ _ W2 HLS.out HLP.out).mono ?_
  rintro e w15 ⟨v, rfl, hb, hR⟩
  obtain ⟨g15, c15, rfl, h1, h2, h3, h4⟩ := SumR.two HC.out.1 HC.out.2.2 hR (rq_some (scB_size a) (HLT.out a).out) (rq_some (scB_size r) (HLT.out r).out) (rd_some HC.out.1 _ (hpt_on HC.out.1 _ _)) (rd_some HC.out.1 (gX P, gY P) (gG_on HC.out.1))
  replace HP : Hid (Pk (P := P) w15 [(g15, c15, cmt P (beV (scB a).toList) (beV (scB r).toList)), (g14, c14, gG P), (g11, c11, .some (hpt P valueL [])), (g10, c10, EC.add (cmt P (beV (scB a).toList) (beV (scB r).toList)) (cmt P (beV (scB b).toList) (beV (scB s).toList))), (g9, c9, cmt P (beV (K1).toList) (beV (K2).toList)), (g6, c6, cmt P (beV (scB b).toList) (beV (scB s).toList)), (g3, c3, cmt P (beV (scB a).toList) (beV (scB r).toList))]) := Pk.cons (HP.out.call hb) h1 h3 (cmt_on HC.out.1 _ _) h4
  replace HB : Hid (Below w0.heap.size w0 w15) := HB.out.trans (hb.mono HB.out.size)
  clear hb h1 h2 h3 h4 hR HLS HLP
  have hEQ : EC.add (cmt P (beV (scB a).toList) (beV (scB r).toList)) (cmt P (beV (scB b).toList) (beV (scB s).toList)) = cmt P (beV (K1).toList) (beV (K2).toList) := by
    rw [cmt_add HC.out.1, HK1.out, HK2.out]
  have k1 := HP.out.conv 4 rfl
  have k2 := HP.out.conv 3 rfl
  have k3 := HP.out.conv 0 rfl
  have k4 := HP.out.conv 6 rfl
  rw [hEQ] at k2
  obtain ⟨T5, hT5⟩ : ∃ t, t = Go.Proofs.Yticolhhalbbogac.wr (cmt P (beV (K1).toList) (beV (K2).toList)) := ⟨_, rfl⟩
  obtain ⟨T6, hT6⟩ : ∃ t, t = Go.Proofs.Yticolhhalbbogac.wr (cmt P (beV (scB a).toList) (beV (scB r).toList)) := ⟨_, rfl⟩
  rw [← hT5] at k1 k2
  rw [← hT6] at k3 k4
  clear hT5 hT6 hEQ HK1 HK2
  have eT5 := str_eqL T5
  have eT6 := str_eqL T6
  go_wp2
  go_ret
  exact ⟨by simp, HB.out⟩
end Go.Proofs.Yticolhhalbbogac
namespace Go.Proofs.Yticolhhalbbogac
open Go.RowKit Go.Sort Go.Deep
theorem fld : ∃ (P : Nat) (_ : NeZero P), Fld P := by
  obtain ⟨P, hz, hP, hc⟩ := EC.cur
  have h0 : P = Go.Proofs.Yticolhhalbbogac.p0 := by rw [hP]; decide +kernel
  have hg := gap0
  have h2 : 2 ≤ Go.Proofs.Yticolhhalbbogac.p0 % 18446744073709551616 := by decide +kernel
  have h4 : Go.Proofs.Yticolhhalbbogac.p0 / 4 % 18446744073709551616 < 18446744073709551615 := by decide +kernel
  have h3 : Go.Proofs.Yticolhhalbbogac.p0 % 4 = 3 := by decide +kernel
  have h7 : 7 < Go.Proofs.Yticolhhalbbogac.p0 := by decide +kernel
  rw [← h0] at hg h2 h4 h3 h7
  exact ⟨P, hz, ⟨hg, hc, h2, h4, h3, h7⟩⟩
theorem p1_top : Go.Proofs.Yticolhhalbbogac.p1 ≤ top := by decide +kernel
end Go.Proofs.Yticolhhalbbogac
/-
  THE ROW OF 'GroupHomes' round its walk; the frame by the guide's program (howto/shells), the world behind the call told by 'Below'.
-/
namespace Go.Proofs.Yticolhhalbbogac.groupHomes
open Go.ChangeShapes Go.WideShapes Go.ChangeAt Go.RowKit
open Go.ChangeMaps (open_string shut_string)
theorem own : ownKnob Try.prog.godebug = none := by kernel_rfl
set_option maxRecDepth 100000 in
theorem lifted (os : Os) (started : os.Started) (H : Type) (enc : TypeId × Value → H) :
    ReturnsInHanded {} Try.checked os 4 .any (Rows.groupHomesSpec.pre6 enc Try.prog Try.f4 Rows.groupHomesRow.domain false) (Rows.groupHomesSpec.post enc Try.prog Try.f4 false true false false) := by
  refine returnsInHanded_of_change (C := Try.checked) own started (by kernel_rfl) Try.func4
    (ChangeSpec.witness6 (enc := enc) (C := Try.checked) false ⟨#[], #[.string ByteArray.empty, .string ByteArray.empty, .string ByteArray.empty, .string ByteArray.empty], []⟩ 8 (by kernel_rfl) (by kernel_rfl) (by kernel_rfl) (by kernel_rfl)) ?_
  intro W base args ds gs before hval0 hW hcnd _
  have hval : ∀ (j : Nat) t v, Try.f4.params[j]? = some t → args[j]? = some v → Value.okWide Try.prog W .any base t v := hval0
  have hW' := hW
  obtain ⟨p, q, hA0, hV, rfl, hfz, hnd⟩ := hW
  have hA : DataW.TrodAll enc Try.prog W 0 (fun _ => true) true Try.f4.params.toList args.toList ds p := hA0
  rw [Try.params4] at hA hval
  obtain ⟨v0, vs0, d0, ds0, p0, q0, hargs, rfl, rfl, h0, r0⟩ := trodAll_cons hA
  obtain ⟨v1, vs1, d1, ds1, p1, q1, rfl, rfl, rfl, h1, r1⟩ := trodAll_cons r0
  obtain ⟨v2, vs2, d2, ds2, p2, q2, rfl, rfl, rfl, h2, r2⟩ := trodAll_cons r1
  obtain ⟨v3, vs3, d3, ds3, p3, q3, rfl, rfl, rfl, h3, r3⟩ := trodAll_cons r2
  obtain ⟨rfl, rfl, rfl⟩ := trodAll_nil r3
  obtain rfl : args = #[v0, v1, v2, v3] := by cases args; simp_all
  obtain ⟨rfl, rfl⟩ := trodVars_none hV
  obtain ⟨a0, rfl, rfl, rfl, w0⟩ := open_string Try.underlying9 (hval 0 9 v0 rfl rfl) h0
  obtain ⟨a1, rfl, rfl, rfl, w1⟩ := open_string Try.underlying9 (hval 1 9 v1 rfl rfl) h1
  obtain ⟨a2, rfl, rfl, rfl, w2⟩ := open_string Try.underlying9 (hval 2 9 v2 rfl rfl) h2
  obtain ⟨a3, rfl, rfl, rfl, w3⟩ := open_string Try.underlying9 (hval 3 9 v3 rfl rfl) h3
  clear hA0 hval0
  obtain ⟨P, hz, C⟩ := fld
  refine (homes_all C gap1 p1_top a0 a1 a2 a3 W).mono fun e W' ⟨he, bel⟩ => ?_
  subst he
  exact ⟨_, rfl, _, _, _, [], _, [], hW', (trodAll_cons_mk (shut_bool Try.underlying4 _) trodAll_mk0), (trodAll_cons_mk (shut_string Try.underlying9 w0) (trodAll_cons_mk (shut_string Try.underlying9 w1) (trodAll_cons_mk (shut_string Try.underlying9 w2) (trodAll_cons_mk (shut_string Try.underlying9 w3) trodAll_mk0)))), rfl, bel.frame _, fun h => by cases h⟩
theorem over : Rows.groupHomesRow.holds Try.pinned (OpenSpec.ofChange Rows.groupHomesSpec) :=
  OpenClaim.holds_of_wide 4 Try.f4 rfl rfl rfl rfl rfl rfl rfl ⟨rfl, rfl, rfl, rfl, rfl⟩ rfl rfl rfl rfl rfl (by kernel_rfl) Try.func4 (by kernel_rfl)
    (of_decide_eq_true (by kernel_rfl)) (by unfold Func.isWrapper; first | (rw [if_pos (by decide +kernel)]; kernel_rfl) | (rw [if_neg (by decide +kernel)]; exact ⟨rfl, rfl⟩))
    (fun os started H enc _ => lifted os started H enc)
theorem proved : Rows.GroupHomesSaid :=
  over
end Go.Proofs.Yticolhhalbbogac.groupHomes
namespace Go.Proofs.Yticolhhalbbogac
/-- THE STATEMENT. -/
theorem groupHomes_holds : Rows.GroupHomesSaid := groupHomes.proved
#print axioms groupHomes_holds
end Go.Proofs.Yticolhhalbbogac
