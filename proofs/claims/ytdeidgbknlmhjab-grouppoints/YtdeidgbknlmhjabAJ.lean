import Derived.Test.YtdeidgbknlmhjabCR
import Derived.Test.YtdeidgbknlmhjabCS
import Derived.Test.YtdeidgbknlmhjabRG7
namespace Go.Proofs.Ytdeidgbknlmhjab
open Go.RowKit Go.Sort
variable {P : Nat} [NeZero P]

/-- Three coordinates. -/
abbrev T3 (P : Nat) := Fin P × Fin P × Fin P
abbrev tv (t : T3 P) : Value := rv t.1 t.2.1 t.2.2
abbrev tw (t : T3 P) : List Value := ws t.1 ++ (ws t.2.1 ++ ws t.2.2)
def JacT (t : T3 P) (p : EC.Pt P) : Prop := EC.Jac t.1 t.2.1 t.2.2 p ∧ EC.On p
def FracT (t : T3 P) (p : EC.Pt P) : Prop := EC.Frac t.1 t.2.1 t.2.2 p ∧ EC.On p

def twJ (t : T3 P) : T3 P := (EC.twX t.1 t.2.1, EC.twY t.1 t.2.1, EC.twZ t.2.1 t.2.2)
def plJ (a b : T3 P) : T3 P :=
  if a.2.2 = 0 then b else if b.2.2 = 0 then a else
  if EC.plAx a.1 b.2.2 = EC.plAx b.1 a.2.2 ∧ EC.plAy a.2.1 b.2.2 = EC.plAy b.2.1 a.2.2 then twJ a else
  (EC.plX (EC.plAx a.1 b.2.2) (EC.plAy a.2.1 b.2.2) (EC.plAx b.1 a.2.2) (EC.plAy b.2.1 a.2.2), EC.plY (EC.plAx a.1 b.2.2) (EC.plAy a.2.1 b.2.2) (EC.plAx b.1 a.2.2) (EC.plAy b.2.1 a.2.2), EC.plZ a.2.2 b.2.2 (EC.plAx a.1 b.2.2) (EC.plAx b.1 a.2.2))
def opJ (t : T3 P) : T3 P := (t.1, 0 - t.2.1, t.2.2)
def raJ (x y : Fin P) : T3 P := if x = 0 ∧ y = 0 then (0, 0, 0) else (x, y, 1)

theorem twJ_c (C : Fld P) (t : T3 P) : Gives 103 #[tv t] (tv (twJ t)) := twice_c C t.1 t.2.1 t.2.2
theorem plJ_c (C : Fld P) (a b : T3 P) : Gives 74 #[tv a, tv b] (tv (plJ a b)) := by
  obtain ⟨x1, y1, z1⟩ := a
  obtain ⟨x2, y2, z2⟩ := b
  unfold plJ
  by_cases n1 : z1 = 0
  · rw [if_pos n1]
    exact plus_a_c C x1 y1 z1 x2 y2 z2 n1
  · rw [if_neg n1]
    by_cases n2 : z2 = 0
    · rw [if_pos n2]
      exact plus_b_c C x1 y1 z1 x2 y2 z2 n1 n2
    · rw [if_neg n2]
      by_cases hx : EC.plAx x1 z2 = EC.plAx x2 z1
      · by_cases hy : EC.plAy y1 z2 = EC.plAy y2 z1
        · rw [if_pos ⟨hx, hy⟩]
          exact plus_c_c C x1 y1 z1 x2 y2 z2 n1 n2 hx hy
        · rw [if_neg (fun h => hy h.2)]
          exact plus_e_c C x1 y1 z1 x2 y2 z2 n1 n2 hx hy
      · rw [if_neg (fun h => hx h.1)]
        exact plus_d_c C x1 y1 z1 x2 y2 z2 n1 n2 hx
theorem opJ_c (C : Fld P) (t : T3 P) : Gives 116 #[tv t] (tv (opJ t)) := opposite_c C t.1 t.2.1 t.2.2
theorem raJ_c (C : Fld P) (x y : Fin P) : Gives 73 #[pv x y] (tv (raJ x y)) := by
  unfold raJ
  by_cases hz : x = 0 ∧ y = 0
  · rw [if_pos hz]
    exact ratio_t_c C x y hz
  · rw [if_neg hz]
    exact ratio_f_c C x y hz
theorem ptJ_c (C : Fld P) (t : T3 P) : Gives 75 #[tv t] (pv (t.1 * (EC.inv t.2.2 * EC.inv t.2.2)) (t.2.1 * (EC.inv t.2.2 * EC.inv t.2.2) * EC.inv t.2.2)) := point_c C t.1 t.2.1 t.2.2

theorem JacT.twice (C : Fld P) {t : T3 P} {p : EC.Pt P} (h : JacT t p) : JacT (twJ t) (EC.add p p) := ⟨h.1.twice C.cur h.2, C.cur.on h.2 h.2⟩
theorem JacT.plus (C : Fld P) {a b : T3 P} {p q : EC.Pt P} (h : JacT a p) (h' : JacT b q) : JacT (plJ a b) (EC.add p q) := by
  refine ⟨?_, C.cur.on h.2 h'.2⟩
  obtain ⟨x1, y1, z1⟩ := a
  obtain ⟨x2, y2, z2⟩ := b
  unfold plJ
  by_cases n1 : z1 = 0
  · rw [if_pos n1]
    obtain rfl := h.1.zero C.cur n1
    exact h'.1
  · rw [if_neg n1]
    by_cases n2 : z2 = 0
    · rw [if_pos n2]
      obtain rfl := h'.1.zero C.cur n2
      rw [EC.add_none]
      exact h.1
    · rw [if_neg n2]
      rcases h.1.plus C.cur h.2 h'.1 h'.2 n1 n2 with ⟨e1, e2, e3⟩ | ⟨e1, e2⟩
      · rw [if_pos ⟨e1, e2⟩, e3]
        exact h.1.twice C.cur h.2
      · rw [if_neg e1]
        exact e2
theorem JacT.neg {t : T3 P} {p : EC.Pt P} (h : JacT t p) : JacT (opJ t) (EC.neg p) := ⟨h.1.neg, EC.neg_on h.2⟩
theorem raJ_J (C : Fld P) {x y : Fin P} {p : EC.Pt P} (h : EC.Pair x y p) (hp : EC.On p) : JacT (raJ x y) p := by
  refine ⟨?_, hp⟩
  unfold raJ
  by_cases hz : x = 0 ∧ y = 0
  · obtain rfl := h.nothing C.cur hp hz
    rw [if_pos hz]
    rfl
  · rw [if_neg hz]
    exact h.jac C.cur hz
theorem JacT.pair (C : Fld P) {t : T3 P} {p : EC.Pt P} (h : JacT t p) : EC.Pair (t.1 * (EC.inv t.2.2 * EC.inv t.2.2)) (t.2.1 * (EC.inv t.2.2 * EC.inv t.2.2) * EC.inv t.2.2) p := h.1.pair C.cur
theorem JacT.none : JacT ((0, 0, 0) : T3 P) .none := ⟨rfl, EC.none_on⟩

def dbF (t : T3 P) : T3 P := (EC.fdE t.2.1 t.2.2 * EC.fdT t.1 t.2.1 t.2.2, EC.fdD t.1 * (t.1 * (EC.fdE t.2.1 t.2.2 * EC.fdE t.2.1 t.2.2) - EC.fdT t.1 t.2.1 t.2.2) - t.2.1 * (EC.fdE t.2.1 t.2.2 * EC.fdE t.2.1 t.2.2 * EC.fdE t.2.1 t.2.2), EC.fdE t.2.1 t.2.2 * EC.fdE t.2.1 t.2.2 * EC.fdE t.2.1 t.2.2 * t.2.2)
def plF (a b : T3 P) : T3 P :=
  if a.2.2 = 0 then b else if b.2.2 = 0 then a else
  if b.1 * a.2.2 = a.1 * b.2.2 then (if b.2.1 * a.2.2 = a.2.1 * b.2.2 then dbF a else (0, 1, 0)) else
  ((b.1 * a.2.2 - a.1 * b.2.2) * EC.frT (b.2.1 * a.2.2 - a.2.1 * b.2.2) (b.1 * a.2.2 - a.1 * b.2.2) (a.2.2 * b.2.2) (a.1 * b.2.2),
   (b.2.1 * a.2.2 - a.2.1 * b.2.2) * (a.1 * b.2.2 * ((b.1 * a.2.2 - a.1 * b.2.2) * (b.1 * a.2.2 - a.1 * b.2.2)) - EC.frT (b.2.1 * a.2.2 - a.2.1 * b.2.2) (b.1 * a.2.2 - a.1 * b.2.2) (a.2.2 * b.2.2) (a.1 * b.2.2)) - a.2.1 * b.2.2 * ((b.1 * a.2.2 - a.1 * b.2.2) * (b.1 * a.2.2 - a.1 * b.2.2) * (b.1 * a.2.2 - a.1 * b.2.2)),
   (b.1 * a.2.2 - a.1 * b.2.2) * (b.1 * a.2.2 - a.1 * b.2.2) * (b.1 * a.2.2 - a.1 * b.2.2) * (a.2.2 * b.2.2))
theorem FracT.plus (C : Fl3 P) {a b : T3 P} {p q : EC.Pt P} (h : FracT a p) (h' : FracT b q) : Gives 39 #[tv a, tv b] (tv (plF a b)) ∧ FracT (plF a b) (EC.add p q) := by
  have ho := C.cur.on h.2 h'.2
  obtain ⟨x1, y1, z1⟩ := a
  obtain ⟨x2, y2, z2⟩ := b
  unfold plF
  by_cases n1 : z1 = 0
  · rw [if_pos n1]
    obtain rfl := h.1.zero n1
    exact ⟨rPlus_a_c C x1 y1 z1 x2 y2 z2 n1, h'⟩
  · rw [if_neg n1]
    by_cases n2 : z2 = 0
    · rw [if_pos n2]
      obtain rfl := h'.1.zero n2
      refine ⟨rPlus_b_c C x1 y1 z1 x2 y2 z2 n1 n2, ?_⟩
      rw [EC.add_none]
      exact h
    · rw [if_neg n2]
      rcases h.1.plus C.cur h.2 h'.1 h'.2 n1 n2 with ⟨e1, e2, e3⟩ | ⟨e1, e2, e3, e4⟩ | ⟨e1, e2⟩
      · rw [if_pos e1, if_neg e2]
        refine ⟨rPlus_c_c C x1 y1 z1 x2 y2 z2 n1 n2 e1 e2, ?_, ho⟩
        rw [e3]
        exact rfl
      · rw [if_pos e1, if_pos e2]
        refine ⟨rPlus_d_c C x1 y1 z1 x2 y2 z2 n1 n2 e1 e2 e3, ?_, ho⟩
        rw [e4]
        exact h.1.double C.cur h.2 n1
      · rw [if_neg e1]
        exact ⟨rPlus_e_c C x1 y1 z1 x2 y2 z2 n1 n2 e1, e2, ho⟩
theorem FracT.none : FracT ((0, 1, 0) : T3 P) .none := ⟨rfl, EC.none_on⟩
theorem FracT.neg {t : T3 P} {p : EC.Pt P} (h : FracT t p) : FracT ((t.1, 0 - t.2.1, t.2.2) : T3 P) (EC.neg p) := ⟨h.1.neg, EC.neg_on h.2⟩

/-- What the reference's Times has behind m rounds. -/
def tmF (n : Nat) (t : T3 P) : Nat → T3 P
  | 0 => (0, 1, 0)
  | m + 1 => if n / 2 ^ (255 - m) % 2 = 1 then plF (plF (tmF n t m) (tmF n t m)) t else plF (tmF n t m) (tmF n t m)
theorem tmF_F (C : Fl3 P) {n : Nat} {t : T3 P} {p : EC.Pt P} (hn : n < 2 ^ 256) (h : FracT t p) : ∀ m, m ≤ 256 → FracT (tmF n t m) (EC.mul (n / 2 ^ (256 - m)) p)
  | 0, _ => by
    rw [Nat.sub_zero, Nat.div_eq_of_lt hn]
    exact FracT.none
  | m + 1, hm => by
    have ih := tmF_F C hn h m (by omega)
    have e1 : 256 - m = 255 - m + 1 := by omega
    rw [show 256 - (m + 1) = 255 - m by omega, div_bit n (255 - m), ← e1]
    unfold tmF
    have h2 := (ih.plus C ih).2
    rw [← EC.mul_add C.cur h.2, ← Nat.two_mul] at h2
    by_cases hb : n / 2 ^ (255 - m) % 2 = 1
    · rw [if_pos hb, hb]
      exact (h2.plus C h).2
    · rw [if_neg hb, show n / 2 ^ (255 - m) % 2 = 0 by omega]
      exact h2
end Go.Proofs.Ytdeidgbknlmhjab
