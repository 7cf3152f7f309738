import Derived.Test.YtfclmmkgmhlbbaaE
import Derived.Test.YtfclmmkgmhlbbaaN
namespace Go.Proofs.Ytfclmmkgmhlbbaa
open Go.Sort

def zero25 : St := Array.replicate 25 0
/-- S1: the state of 200 bytes, permuted. -/
def permB (bs : Bs) : Bs := front (perm (mixTo bs zero25 25)) 200

/-- The reference's words out of bytes, behind i rounds. -/
def orTo (bs : Bs) : Nat → St
  | 0 => zero25
  | i + 1 => (orTo bs i).setIfInBounds (i / 8) ((orTo bs i)[i / 8]! ||| wide bs[i]! <<< (8 * (i % 8)))
theorem orTo_size (bs : Bs) (i : Nat) : (orTo bs i).size = 25 := by
  induction i with
  | zero => simp [orTo, zero25]
  | succ i ih => simp [orTo, ih]
theorem zero25_at (j : Nat) (h : j < 25) : zero25[j]! = 0 := by
  have h' : j < (Array.replicate 25 (0 : BitVec 64)).size := by rw [Array.size_replicate]; exact h
  unfold zero25
  rw [getElem!_pos (Array.replicate 25 (0 : BitVec 64)) j h', Array.getElem_replicate]

theorem orTo_at (bs : Bs) (n j : Nat) (hn : n ≤ 200) (hj : j < 25) :
    (orTo bs n)[j]! = if j < n / 8 then wordOf bs (8 * j) else if j = n / 8 then wordTo bs (8 * j) (n % 8) else 0 := by
  induction n with
  | zero =>
    rw [orTo, zero25_at j hj]
    by_cases h : j = 0
    · subst h; rfl
    · simp [h]
  | succ n ih =>
    have ih := ih (by omega)
    rw [orTo]
    by_cases hjn : j = n / 8
    · rw [← hjn, getElem!_set_same _ _ _ (by rw [orTo_size]; omega), ih, if_neg (by omega), if_pos hjn]
      have hb : bs[n]! = bs[8 * j + n % 8]! := by
        have : n = 8 * j + n % 8 := by omega
        rw [← this]
      rw [hb]
      show wordTo bs (8 * j) (n % 8 + 1) = _
      by_cases h8 : n % 8 = 7
      · rw [if_pos (by omega), h8]
        rfl
      · rw [if_neg (by omega), if_pos (by omega), show (n + 1) % 8 = n % 8 + 1 by omega]
    · rw [getElem!_set_other _ _ _ _ hjn, ih]
      by_cases h1 : j < n / 8
      · rw [if_pos h1, if_pos (by omega)]
      · rw [if_neg h1, if_neg hjn, if_neg (by omega)]
        by_cases h2 : j = (n + 1) / 8
        · rw [if_pos h2, show (n + 1) % 8 = 0 by omega]
          rfl
        · rw [if_neg h2]

theorem mixTo_at (bs : Bs) (d : St) (hd : d.size = 25) (n j : Nat) (hn : n ≤ 25) (hj : j < 25) : (mixTo bs d n)[j]! = if j < n then d[j]! ^^^ wordOf bs (8 * j) else d[j]! := by
  induction n with
  | zero => rfl
  | succ n ih =>
    have ih := ih (by omega)
    rw [mixTo]
    unfold xorAt
    by_cases hjn : j = n
    · rw [← hjn, getElem!_set_same _ _ _ (by rw [mixTo_size, hd]; exact hj), if_pos (by omega)]
      rw [← hjn] at ih
      rw [ih, if_neg (by omega)]
    · rw [getElem!_set_other _ _ _ _ hjn, ih]
      by_cases h1 : j < n
      · rw [if_pos h1, if_pos (by omega)]
      · rw [if_neg h1, if_neg (by omega)]

theorem st_ext (a b : St) (ha : a.size = 25) (hb : b.size = 25) (h : ∀ j, j < 25 → a[j]! = b[j]!) : a = b := by
  apply Array.ext (by omega)
  intro i h1 h2
  have := h i (by omega)
  rwa [getElem!_pos a i h1, getElem!_pos b i h2] at this

theorem or_mix (bs : Bs) : orTo bs 200 = mixTo bs zero25 25 := by
  have hz : zero25.size = 25 := by simp [zero25]
  refine st_ext _ _ (orTo_size _ _) (by rw [mixTo_size, hz]) (fun j hj => ?_)
  rw [orTo_at bs 200 j (Nat.le_refl _) hj, mixTo_at bs zero25 hz 25 j (Nat.le_refl _) hj, if_pos (by omega), if_pos hj, zero25_at j hj, zx]

theorem ref_permB (bs : Bs) : front (refTo (orTo bs 200) 24) 200 = permB bs := by
  have hz : zero25.size = 25 := by simp [zero25]
  rw [refTo_eq _ (orTo_size _ _) 24 (Nat.le_refl _), or_mix]
  rfl
end Go.Proofs.Ytfclmmkgmhlbbaa
