import Derived.Test.YtfclmmkgmhlbbaaH
namespace Go.Proofs.Ytfclmmkgmhlbbaa
open Go.Sort

def permN (d : St) : Nat → St
  | 0 => d
  | m + 1 => perm (permN d m)
theorem permN_size (d : St) (hd : d.size = 25) (m : Nat) : (permN d m).size = 25 := by
  induction m with
  | zero => exact hd
  | succ m ih => exact perm_size _ ih
/-- The byte that comes out at place j. -/
def streamAt (d : St) (j : Nat) : UInt8 := byteOf (permN d (j / 136)) (j % 136)
def streamL (d : St) (n : Nat) : Bs := Array.ofFn (fun i : Fin n => streamAt d i.val)
theorem streamL_size (d : St) (n : Nat) : (streamL d n).size = n := by simp [streamL]
theorem streamL_at (d : St) (n j : Nat) (hj : j < n) : (streamL d n)[j]! = streamAt d j := by
  rw [getElem!_pos (streamL d n) j (by rw [streamL_size]; exact hj)]
  simp [streamL]

/-- The state of noughts. -/
def S0 : Sp := ⟨zero25, Array.replicate 136 0, 0⟩
theorem S0_ok : Ok S0 := ⟨by simp [S0, zero25], by simp [S0], by decide⟩
/-- The state behind the bytes and the ending. -/
def absorb (l : List UInt8) (e : UInt8) : St := (finalL (takeL S0 l) e).d
theorem absorb_size (l : List UInt8) (e : UInt8) : (absorb l e).size = 25 := by
  unfold absorb
  have h := takeL_ok S0_ok l
  rw [finalL_eq h]
  exact (takeL_ok h _).d25
/-- S2: the hash, the stream. -/
def hashL (l : List UInt8) : Bs := front (absorb l 6) 32
def strmL (l : List UInt8) (n : Nat) : Bs := streamL (absorb l 31) n
theorem hash_stream (l : List UInt8) : hashL l = streamL (absorb l 6) 32 := by
  unfold hashL
  refine bs_ext _ _ 32 (front_size _ _) (streamL_size _ _) (fun j hj => ?_)
  rw [front_at _ _ _ hj, streamL_at _ _ _ hj]
  unfold streamAt
  rw [Nat.div_eq_of_lt (by omega), Nat.mod_eq_of_lt (by omega)]
  rfl

/-! ### The reference: all bytes with what stands behind them, piece by piece -/

def total (l : List UInt8) (e : UInt8) : List UInt8 := l ++ tailpad (l.length % 136) e
theorem total_length (l : List UInt8) (e : UInt8) : (total l e).length = 136 * (l.length / 136 + 1) := by
  unfold total
  rw [List.length_append, tailpad_length _ _ (Nat.mod_lt _ (by decide))]
  omega
theorem absorb_total (l : List UInt8) (e : UInt8) : absorb l e = (takeL S0 (total l e)).d := by
  unfold absorb total
  have h := takeL_ok S0_ok l
  have hh := takeL_h S0_ok l
  rw [takeL_append, finalL_eq h, hh]
  have : S0.h = 0 := rfl
  rw [this, Nat.zero_add]

/-- The reference's inner loop: k bytes of a piece are laid upon the state. -/
def xorB (st : Bs) (T : List UInt8) (o : Nat) : Nat → Bs
  | 0 => st
  | k + 1 => (xorB st T o k).setIfInBounds k ((xorB st T o k)[k]! ^^^ T[o + k]!)
theorem xorB_size (st : Bs) (T : List UInt8) (o k : Nat) : (xorB st T o k).size = st.size := by
  induction k with
  | zero => rfl
  | succ k ih => rw [xorB, Array.size_setIfInBounds, ih]
theorem xorB_at (st : Bs) (T : List UInt8) (o k j : Nat) (hk : k ≤ st.size) (hj : j < st.size) : (xorB st T o k)[j]! = if j < k then st[j]! ^^^ T[o + j]! else st[j]! := by
  induction k with
  | zero => rfl
  | succ k ih =>
    rw [xorB]
    by_cases h : j = k
    · subst h
      rw [getElem!_set_same _ _ _ (by rw [xorB_size]; exact hj), ih (by omega), if_neg (by omega), if_pos (by omega)]
    · rw [getElem!_set_other _ _ _ _ h, ih (by omega)]
      by_cases h1 : j < k
      · rw [if_pos h1, if_pos (by omega)]
      · rw [if_neg h1, if_neg (by omega)]
def refSt (T : List UInt8) : Nat → Bs
  | 0 => Array.replicate 200 0
  | i + 1 => permB (xorB (refSt T i) T (136 * i) 136)

theorem zero_front : front zero25 200 = Array.replicate 200 0 := by
  refine bs_ext _ _ 200 (front_size _ _) (by rw [Array.size_replicate]) (fun j hj => ?_)
  have h' : j < (Array.replicate 200 (0 : UInt8)).size := by rw [Array.size_replicate]; exact hj
  rw [front_at _ _ _ hj, getElem!_pos (Array.replicate 200 (0 : UInt8)) j h', Array.getElem_replicate]
  unfold byteOf
  rw [zero25_at _ (by omega)]
  unfold low
  simp

theorem xor_bit (x y : UInt8) (i : Nat) : (x ^^^ y).toNat.testBit i = (x.toNat.testBit i ^^ y.toNat.testBit i) := by
  rw [UInt8.toNat_xor, Nat.testBit_xor]

/-- A piece laid upon the state's bytes is the piece's words laid upon its words. -/
theorem mix_xor (d : St) (hd : d.size = 25) (p : Bs) (T : List UInt8) (o : Nat) (hp : ∀ j, j < 136 → p[j]! = T[o + j]!) :
    mixTo (xorB (front d 200) T o 136) zero25 25 = mixTo p d 17 := by
  have hz : zero25.size = 25 := by simp [zero25]
  refine st_ext _ _ (by rw [mixTo_size, hz]) (by rw [mixTo_size, hd]) (fun j hj => ?_)
  rw [mixTo_at _ zero25 hz 25 j (Nat.le_refl _) hj, if_pos hj, zero25_at j hj, zx, mixTo_at _ d hd 17 j (by decide) hj]
  apply BitVec.eq_of_getLsbD_eq
  intro k hk
  have hb : ∀ m, m < 200 → (xorB (front d 200) T o 136)[m]! = if m < 136 then (front d 200)[m]! ^^^ T[o + m]! else (front d 200)[m]! := fun m hm =>
    xorB_at _ _ _ _ _ (by rw [front_size]; decide) (by rw [front_size]; exact hm)
  have hw := congrArg (fun v => v.getLsbD k) (word_front d 200 j (by omega))
  simp only [wordOf] at hw ⊢
  rw [wordTo_bit _ _ 8 k (Nat.le_refl _) hk] at hw ⊢
  rw [hb _ (by omega)]
  by_cases h17 : j < 17
  · rw [if_pos (by omega), if_pos h17, BitVec.getLsbD_xor, ← hw, wordTo_bit _ _ 8 k (Nat.le_refl _) hk, xor_bit, hp _ (by omega)]
    simp [hk]
  · rw [if_neg (by omega), if_neg h17, ← hw]

theorem take_block (T : List UInt8) (i : Nat) : T.take (136 * (i + 1)) = T.take (136 * i) ++ (T.drop (136 * i)).take 136 := by
  rw [show 136 * (i + 1) = 136 * i + 136 by omega, List.take_add]

theorem refSt_eq (T : List UInt8) (i : Nat) (h : 136 * i ≤ T.length) : refSt T i = front (takeL S0 (T.take (136 * i))).d 200 := by
  induction i with
  | zero =>
    rw [Nat.mul_zero, List.take_zero]
    exact zero_front.symm
  | succ i ih =>
    rw [refSt, ih (by omega), take_block T i, takeL_append]
    have hok := takeL_ok S0_ok (T.take (136 * i))
    have hh : (takeL S0 (T.take (136 * i))).h = 0 := by
      rw [takeL_h S0_ok, List.length_take, Nat.min_eq_left (by omega)]
      have : S0.h = 0 := rfl
      omega
    generalize takeL S0 (T.take (136 * i)) = S at hok hh
    obtain ⟨d, p, q⟩ := S
    have hd : d.size = 25 := hok.d25
    have hp : p.size = 136 := hok.p136
    have hq : q = 0 := hh
    subst hq
    have hl : ((T.drop (136 * i)).take 136).length = 136 := by rw [List.length_take, List.length_drop]; omega
    rw [takeL_chunk _ _ (by intro e; rw [e] at hl; simp at hl) (by rw [hl]; exact Nat.le_refl _), hl, if_pos rfl, soak_mk]
    unfold permB
    rw [mix_xor d hd (splice p 0 ((T.drop (136 * i)).take 136)) T (136 * i)]
    intro j hj
    rw [splice_at _ _ _ _ (by rw [hl, hp]; decide) (by omega), if_pos (by omega), Nat.sub_zero, getElem!_pos _ j (by rw [hl]; exact hj), getElem!_pos T (136 * i + j) (by omega)]
    rw [List.getElem_take, List.getElem_drop]

theorem refSt_total (l : List UInt8) (e : UInt8) : refSt (total l e) (l.length / 136 + 1) = front (absorb l e) 200 := by
  have h := total_length l e
  rw [refSt_eq _ _ (by omega), absorb_total, List.take_of_length_le (by omega)]

end Go.Proofs.Ytfclmmkgmhlbbaa
