import Derived.Test.YtdeidgbknlmhjabCD
import Derived.Test.YtdeidgbknlmhjabRG7
namespace Go.Proofs.Ytdeidgbknlmhjab
open Go.RowKit Go.Sort
variable {P : Nat} [NeZero P]

omit [NeZero P] in
theorem tw_length (t : T3 P) : (tw t).length = 12 := rfl
omit [NeZero P] in
theorem tw_one (t : T3 P) : (tw t).all (·.oneCell') = true := rfl
/-- The odd multiples as they are made. -/
def od (x y : Fin P) : Nat → T3 P
  | 0 => raJ x y
  | q + 1 => plJ (od x y q) (twJ (raJ x y))
theorem od_J (C : Fld P) {x y : Fin P} {p : EC.Pt P} (h : EC.Pair x y p) (hp : EC.On p) : ∀ q, JacT (od x y q) (EC.zmul ((2 * q + 1 : Nat) : Int) p)
  | 0 => by
    show JacT (raJ x y) (EC.zmul 1 p)
    rw [EC.zmul_one]
    exact raJ_J C h hp
  | q + 1 => by
    have h1 := od_J C h hp q
    have h2 := (raJ_J C h hp).twice C
    have h3 := h1.plus C h2
    have e : EC.zmul ((2 * (q + 1) + 1 : Nat) : Int) p = EC.add (EC.zmul ((2 * q + 1 : Nat) : Int) p) (EC.add p p) := by
      have : EC.add p p = EC.zmul 2 p := by
        rw [show (2 : Int) = 1 + 1 by rfl, EC.zmul_add C.cur hp, EC.zmul_one]
      rw [this, ← EC.zmul_add C.cur hp]
      congr 1
    rw [e]
    exact h3

/-- A block as fill leaves it, behind m odd multiples. -/
structure Fi (x y : Fin P) (D : Nat → Int) (C0 : List Value) (off m : Nat) (C : List Value) : Prop where
  len : C.length = C0.length
  out : ∀ j, j < off ∨ off + 353 ≤ j → C[j]? = C0[j]?
  dig : ∀ j, j < 257 → C[off + 96 + j]? = some (.int .i8 (D j))
  odd : ∀ q j, q < m → j < 12 → C[off + 12 * q + j]? = (tw (od x y q))[j]?
theorem Fi.first {x y : Fin P} {D : Nat → Int} {C0 : List Value} {off : Nat} (h : off + 353 ≤ C0.length) : Fi x y D C0 off 0 (RG.rep C0 (off + 96) (dg D)) := by
  have hl : off + 96 + (dg D).length ≤ C0.length := by rw [dg_length]; omega
  refine ⟨RG.rep_length hl, fun j hj => ?_, fun j hj => ?_, fun q j hq _ => by omega⟩
  · rw [RG.rep_at hl, if_neg (by rw [dg_length]; omega)]
  · rw [RG.rep_at hl, if_pos (by rw [dg_length]; omega), show off + 96 + j - (off + 96) = j by omega, dg_at D j hj]
theorem Fi.next {x y : Fin P} {D : Nat → Int} {C0 C : List Value} {off m : Nat} (h : off + 353 ≤ C0.length) (hF : Fi x y D C0 off m C) (hm : m < 8) : Fi x y D C0 off (m + 1) (RG.rep C (off + 12 * m) (tw (od x y m))) := by
  have hlen := hF.len
  have hl : off + 12 * m + (tw (od x y m)).length ≤ C.length := by rw [tw_length]; omega
  refine ⟨by rw [RG.rep_length hl]; exact hlen, fun j hj => ?_, fun j hj => ?_, fun q j hq hj => ?_⟩
  · rw [RG.rep_at hl, if_neg (by rw [tw_length]; omega)]
    exact hF.out j hj
  · rw [RG.rep_at hl, if_neg (by rw [tw_length]; omega)]
    exact hF.dig j hj
  · rw [RG.rep_at hl]
    by_cases hqm : q = m
    · subst hqm
      rw [if_pos (by rw [tw_length]; omega), show off + 12 * q + j - (off + 12 * q) = j by omega]
    · rw [if_neg (by rw [tw_length]; omega)]
      exact hF.odd q j (by omega) hj
theorem Fi.sub {x y : Fin P} {D : Nat → Int} {C0 C : List Value} {off m q : Nat} (h : off + 353 ≤ C0.length) (hF : Fi x y D C0 off m C) (hq : q < m) (hm : m ≤ 8) : (C.drop (off + 12 * q)).take (tw (od x y q)).length = tw (od x y q) :=
  RG.sub_of (fun j hj => hF.odd q j hq (by rw [tw_length] at hj; exact hj)) (by rw [tw_length]; have := hF.len; omega)
/-- The block behind fill. -/
def fc (x y : Fin P) (D : Nat → Int) (C0 : List Value) (off : Nat) : Nat → List Value
  | 0 => RG.rep C0 (off + 96) (dg D)
  | m + 1 => RG.rep (fc x y D C0 off m) (off + 12 * m) (tw (od x y m))
theorem fc_Fi {x y : Fin P} {D : Nat → Int} {C0 : List Value} {off : Nat} (h : off + 353 ≤ C0.length) : ∀ m, m ≤ 8 → Fi x y D C0 off m (fc x y D C0 off m)
  | 0, _ => Fi.first h
  | m + 1, hm => (fc_Fi h m (by omega)).next h (by omega)
theorem Fi.uniq {x y : Fin P} {D : Nat → Int} {C0 C C' : List Value} {off : Nat} (h : Fi x y D C0 off 8 C) (h' : Fi x y D C0 off 8 C') : C = C' := by
  apply List.ext_getElem?
  intro j
  by_cases h1 : j < off ∨ off + 353 ≤ j
  · rw [h.out j h1, h'.out j h1]
  · by_cases h2 : j < off + 96
    · have e : j = off + 12 * ((j - off) / 12) + (j - off) % 12 := by omega
      rw [e, h.odd _ _ (by omega) (by omega), h'.odd _ _ (by omega) (by omega)]
    · have e : j = off + 96 + (j - off - 96) := by omega
      rw [e, h.dig _ (by omega), h'.dig _ (by omega)]
end Go.Proofs.Ytdeidgbknlmhjab
