import Derived.Test.YtdeidgbknlmhjabEC6
set_option linter.unusedVariables false
set_option linter.unusedSimpArgs false
namespace Go.Proofs.Ytdeidgbknlmhjab.EC
variable {P : Nat} [NeZero P]

/-- What the curve's field has. -/
structure Cur (P : Nat) [NeZero P] : Prop where
  pr : NT.IsP P
  two : (2 : Fin P) ≠ 0
  sev : ∀ x : Fin P, x ^ 3 + 7 ≠ 0

theorem Cur.y_ne (C : Cur P) {a b : Fin P} (h : On (some (a, b))) : b ≠ 0 := fun e => C.sev a (no_y e h)
theorem Cur.opp_ne (C : Cur P) {a b : Fin P} (h : On (some (a, b))) : ¬ (a = a ∧ b = -b) := fun e => by
  have h1 : 2 * b = 0 := by
    have := e.2
    grobner
  exact mul_ne C.pr C.two (C.y_ne h) h1

/-- Nothing is nothing; others are (x / z^2, y / z^3). -/
def Jac (x y z : Fin P) : Pt P → Prop
  | none => z = 0
  | some (a, b) => z ≠ 0 ∧ x = a * z ^ 2 ∧ y = b * z ^ 3
/-- Nothing is nothing; others are (x / z, y / z). -/
def Frac (x y z : Fin P) : Pt P → Prop
  | none => z = 0
  | some (a, b) => z ≠ 0 ∧ x = a * z ∧ y = b * z
/-- Nothing is (0, 0). -/
def Pair (x y : Fin P) : Pt P → Prop
  | none => x = 0 ∧ y = 0
  | some (a, b) => x = a ∧ y = b

def dbl (n : Fin P) : Fin P := n + n
def twB (x y : Fin P) : Fin P := dbl (dbl (x * (y * y)))
def twS (x : Fin P) : Fin P := dbl (x * x) + x * x
def twX (x y : Fin P) : Fin P := twS x * twS x - dbl (twB x y)
def twY (x y : Fin P) : Fin P := twS x * (twB x y - twX x y) - dbl (dbl (dbl (y * y * (y * y))))
def twZ (y z : Fin P) : Fin P := dbl (y * z)

theorem tw_x {a b l x y z : Fin P} (g : l * (2 * b) = 3 * a ^ 2) (ex : x = a * z ^ 2) (ey : y = b * z ^ 3) : twX x y = (l ^ 2 - a - a) * twZ y z ^ 2 := by
  subst ex ey
  unfold twX twS twB twZ dbl
  have h1 : (l * (2 * b)) ^ 2 = (3 * a ^ 2) ^ 2 := by rw [g]
  grobner (ringSteps := 100000000)
theorem tw_y {a b l x y z X : Fin P} (g : l * (2 * b) = 3 * a ^ 2) (ex : x = a * z ^ 2) (ey : y = b * z ^ 3) (hX : twX x y = X * twZ y z ^ 2) : twY x y = (l * (a - X) - b) * twZ y z ^ 3 := by
  subst ex ey
  unfold twY
  rw [hX]
  clear hX
  unfold twS twB twZ dbl
  grobner (ringSteps := 100000000)
theorem tw_z (C : Cur P) {b y z : Fin P} (hb : b ≠ 0) (hz : z ≠ 0) (ey : y = b * z ^ 3) : twZ y z ≠ 0 := fun e => by
  have h1 : 2 * b * (z * z * (z * z)) = 0 := by
    unfold twZ dbl at e
    subst ey
    grobner
  exact mul_ne C.pr (mul_ne C.pr C.two hb) (mul_ne C.pr (mul_ne C.pr hz hz) (mul_ne C.pr hz hz)) h1
theorem Jac.twice (C : Cur P) {x y z : Fin P} {p : Pt P} (h : Jac x y z p) (hp : On p) : Jac (twX x y) (twY x y) (twZ y z) (add p p) := by
  match p, h, hp with
  | none, h, _ =>
    have h0 : z = 0 := h
    show twZ y z = 0
    subst h0
    unfold twZ dbl
    grobner
  | some (a, b), h, hp =>
    obtain ⟨hz, ex, ey⟩ := h
    have ho := C.opp_ne hp
    have L := slope_line C.pr C.two hp hp ho
    rw [add_line C.pr C.two hp hp ho L]
    have hx := tw_x L.at ex ey
    exact ⟨tw_z C (C.y_ne hp) hz ey, hx, tw_y L.at ex ey hx⟩

def plAx (x1 z2 : Fin P) : Fin P := x1 * (z2 * z2)
def plAy (y1 z2 : Fin P) : Fin P := y1 * (z2 * z2) * z2
def plX (ax ay bx bY : Fin P) : Fin P := (bY - ay) * (bY - ay) - (bx - ax) * (bx - ax) * (bx - ax) - dbl ((bx - ax) * (bx - ax) * ax)
def plY (ax ay bx bY : Fin P) : Fin P := (bY - ay) * ((bx - ax) * (bx - ax) * ax - plX ax ay bx bY) - (bx - ax) * (bx - ax) * (bx - ax) * ay
def plZ (z1 z2 ax bx : Fin P) : Fin P := z1 * z2 * (bx - ax)

theorem pl_x {a b c d l t ax ay bx bY Z : Fin P} (g : d - b = l * (c - a)) (e1 : ax = a * t ^ 2) (e2 : ay = b * t ^ 3) (e3 : bx = c * t ^ 2) (e4 : bY = d * t ^ 3) (eZ : Z = t * (bx - ax)) : plX ax ay bx bY = (l ^ 2 - a - c) * Z ^ 2 := by
  have e5 : d = b + l * (c - a) := by grobner
  subst e5 e1 e2 e3 e4 eZ
  unfold plX dbl
  clear g
  grobner (ringSteps := 100000000)
theorem pl_y {a b c d l t ax ay bx bY Z X : Fin P} (g : d - b = l * (c - a)) (e1 : ax = a * t ^ 2) (e2 : ay = b * t ^ 3) (e3 : bx = c * t ^ 2) (e4 : bY = d * t ^ 3) (eZ : Z = t * (bx - ax)) (hX : plX ax ay bx bY = X * Z ^ 2) : plY ax ay bx bY = (l * (a - X) - b) * Z ^ 3 := by
  unfold plY
  rw [hX]
  have e5 : d = b + l * (c - a) := by grobner
  clear hX
  subst e5 e1 e2 e3 e4 eZ
  clear g
  grobner (ringSteps := 100000000)
theorem pl_same (C : Cur P) {a c t : Fin P} {k : Nat} (ht : t ≠ 0) (e : a * t ^ k = c * t ^ k) : a = c := by
  have hk : ∀ k : Nat, t ^ k ≠ 0 := fun k => by
    induction k with
    | zero => intro h; exact ht (by have h2 : (1 : Fin P) = 0 := by { rw [← h]; grind }; calc t = t * 1 := by grobner
                                    _ = 0 := by rw [h2]; grobner)
    | succ k ih => intro h; exact mul_ne C.pr ih ht (by rw [← h]; grind)
  exact cancel C.pr (hk k) e
theorem Jac.plus (C : Cur P) {x1 y1 z1 x2 y2 z2 : Fin P} {p q : Pt P} (h : Jac x1 y1 z1 p) (hp : On p) (h' : Jac x2 y2 z2 q) (hq : On q) (n1 : z1 ≠ 0) (n2 : z2 ≠ 0) :
    (plAx x1 z2 = plAx x2 z1 ∧ plAy y1 z2 = plAy y2 z1 ∧ add p q = add p p) ∨
    (¬ (plAx x1 z2 = plAx x2 z1 ∧ plAy y1 z2 = plAy y2 z1) ∧ Jac (plX (plAx x1 z2) (plAy y1 z2) (plAx x2 z1) (plAy y2 z1)) (plY (plAx x1 z2) (plAy y1 z2) (plAx x2 z1) (plAy y2 z1)) (plZ z1 z2 (plAx x1 z2) (plAx x2 z1)) (add p q)) := by
  match p, q, h, hp, h', hq with
  | none, _, h, _, _, _ => exact absurd h n1
  | some (a, b), none, _, _, h, _ => exact absurd h n2
  | some (a, b), some (c, d), h, hp, h', hq =>
    obtain ⟨-, ex1, ey1⟩ := h
    obtain ⟨-, ex2, ey2⟩ := h'
    have ht := mul_ne C.pr n1 n2
    have e1 : plAx x1 z2 = a * (z1 * z2) ^ 2 := by subst ex1; unfold plAx; clear hp hq; grobner
    have e2 : plAy y1 z2 = b * (z1 * z2) ^ 3 := by subst ey1; unfold plAy; clear hp hq; grobner
    have e3 : plAx x2 z1 = c * (z1 * z2) ^ 2 := by subst ex2; unfold plAx; clear hp hq; grobner
    have e4 : plAy y2 z1 = d * (z1 * z2) ^ 3 := by subst ey2; unfold plAy; clear hp hq; grobner
    by_cases hs : plAx x1 z2 = plAx x2 z1 ∧ plAy y1 z2 = plAy y2 z1
    · refine Or.inl ⟨hs.1, hs.2, ?_⟩
      have h1 : a = c := pl_same C ht (by rw [← e1, ← e3]; exact hs.1)
      have h2 : b = d := pl_same C ht (by rw [← e2, ← e4]; exact hs.2)
      rw [h1, h2]
    · refine Or.inr ⟨hs, ?_⟩
      by_cases hac : a = c
      · have hd : d = -b := Classical.byContradiction fun hn => hs ⟨by rw [e1, e3, hac], by
          have := same_y C.pr (x := a) hp (by rw [hac]; exact hq) hn
          rw [e2, e4, this]⟩
        rw [add_opp ⟨hac, hd⟩]
        show plZ _ _ _ _ = 0
        rw [e1, e3, hac]
        unfold plZ
        clear hp hq
        grobner
      · have ho : ¬ (a = c ∧ d = -b) := fun h => hac h.1
        have L := slope_line C.pr C.two hp hq ho
        rw [add_line C.pr C.two hp hq ho L]
        have hZ : plZ z1 z2 (plAx x1 z2) (plAx x2 z1) = z1 * z2 * (plAx x2 z1 - plAx x1 z2) := rfl
        have hx := pl_x L.run.1 e1 e2 e3 e4 hZ
        refine ⟨?_, hx, pl_y L.run.1 e1 e2 e3 e4 hZ hx⟩
        rw [hZ]
        refine mul_ne C.pr ht (fun h => hac ?_)
        exact pl_same C (k := 2) ht (by rw [← e1, ← e3]; clear hp hq L hx; grobner)

theorem Jac.zero (C : Cur P) {x y z : Fin P} {p : Pt P} (h : Jac x y z p) (hz : z = 0) : p = none := by
  match p, h with
  | none, _ => rfl
  | some (a, b), h => exact absurd hz h.1
theorem Jac.neg {x y z : Fin P} {p : Pt P} (h : Jac x y z p) : Jac x (0 - y) z (neg p) := by
  match p, h with
  | none, h => exact h
  | some (a, b), h => exact ⟨h.1, h.2.1, by have := h.2.2; show 0 - y = -b * z ^ 3; grobner⟩
theorem inv_zero (C : Cur P) : inv (0 : Fin P) = 0 := by
  apply Fin.ext
  have h2 := C.pr.1
  show (0 : Fin P).val ^ (P - 2) % P = _
  rw [val_zero]
  by_cases h : P = 2
  · exact absurd (Fin.ext (by rw [val_zero]; show 2 % P = 0; rw [h])) C.two
  · rw [Nat.zero_pow (by omega), Nat.zero_mod]
theorem Jac.pair (C : Cur P) {x y z : Fin P} {p : Pt P} (h : Jac x y z p) : Pair (x * (inv z * inv z)) (y * (inv z * inv z) * inv z) p := by
  match p, h with
  | none, h =>
    have h0 : z = 0 := h
    subst h0
    rw [inv_zero C]
    exact ⟨by grobner, by grobner⟩
  | some (a, b), h =>
    have hi := inv_mul C.pr h.1
    obtain ⟨-, ex, ey⟩ := h
    generalize inv z = i at hi ⊢
    subst ex ey
    exact ⟨by grobner, by grobner⟩
theorem Pair.jac (C : Cur P) {x y : Fin P} {p : Pt P} (h : Pair x y p) (hn : ¬ (x = 0 ∧ y = 0)) : Jac x y 1 p := by
  match p, h with
  | none, h => exact absurd h hn
  | some (a, b), h =>
    obtain ⟨ex, ey⟩ := h
    subst ex ey
    refine ⟨fun e => ?_, by grobner, by grobner⟩
    have := congrArg Fin.val e
    rw [val_zero, val_one C.pr] at this
    omega
theorem Pair.nothing (C : Cur P) {x y : Fin P} {p : Pt P} (h : Pair x y p) (hp : On p) (hn : x = 0 ∧ y = 0) : p = none := by
  match p, h, hp with
  | none, _, _ => rfl
  | some (a, b), h, hp =>
    obtain ⟨ex, ey⟩ := h
    exact absurd (by rw [← ey]; exact hn.2) (C.y_ne hp)
theorem Pair.neg {x y : Fin P} {p : Pt P} (h : Pair x y p) : Pair x (0 - y) (neg p) := by
  match p, h with
  | none, h => exact ⟨h.1, by rw [h.2]; grobner⟩
  | some (a, b), h => exact ⟨h.1, by rw [h.2]; grobner⟩

/- The reference's fractions. -/
def frT (d e w v2 : Fin P) : Fin P := d * d * w - e * e * e - (v2 + v2) * (e * e)
theorem fr_x {a b c d l w v v2 u u2 : Fin P} (g : d - b = l * (c - a)) (e1 : v2 = a * w) (e2 : u2 = b * w) (e3 : v = c * w) (e4 : u = d * w) : (v - v2) * frT (u - u2) (v - v2) w v2 = (l ^ 2 - a - c) * ((v - v2) * (v - v2) * (v - v2) * w) := by
  have e5 : d = b + l * (c - a) := by grobner
  subst e5 e1 e2 e3 e4
  clear g
  unfold frT
  grobner (ringSteps := 100000000)
theorem fr_y {a b c d l w v v2 u u2 : Fin P} (g : d - b = l * (c - a)) (e1 : v2 = a * w) (e2 : u2 = b * w) (e3 : v = c * w) (e4 : u = d * w) :
    (u - u2) * (v2 * ((v - v2) * (v - v2)) - frT (u - u2) (v - v2) w v2) - u2 * ((v - v2) * (v - v2) * (v - v2)) = (l * (a - (l ^ 2 - a - c)) - b) * ((v - v2) * (v - v2) * (v - v2) * w) := by
  have e5 : d = b + l * (c - a) := by grobner
  subst e5 e1 e2 e3 e4
  clear g
  unfold frT
  grobner (ringSteps := 100000000)
def fdD (x : Fin P) : Fin P := x * x + x * x + x * x
def fdE (y z : Fin P) : Fin P := (y + y) * z
def fdT (x y z : Fin P) : Fin P := fdD x * fdD x * z - (x + x) * (fdE y z * fdE y z)
theorem fd_x {a b l x y z : Fin P} (g : l * (2 * b) = 3 * a ^ 2) (ex : x = a * z) (ey : y = b * z) : fdE y z * fdT x y z = (l ^ 2 - a - a) * (fdE y z * fdE y z * fdE y z * z) := by
  subst ex ey
  have h1 : (l * (2 * b)) ^ 2 = (3 * a ^ 2) ^ 2 := by rw [g]
  unfold fdT fdD fdE
  grobner (ringSteps := 100000000)
theorem fd_t {a b l x y z : Fin P} (g : l * (2 * b) = 3 * a ^ 2) (ex : x = a * z) (ey : y = b * z) : fdT x y z = (l ^ 2 - a - a) * (fdE y z * fdE y z * z) := by
  subst ex ey
  have h1 : (l * (2 * b)) ^ 2 = (3 * a ^ 2) ^ 2 := by rw [g]
  unfold fdT fdD fdE
  grobner (ringSteps := 100000000)
theorem fd_y {a b l x y z X : Fin P} (g : l * (2 * b) = 3 * a ^ 2) (ex : x = a * z) (ey : y = b * z) (hT : fdT x y z = X * (fdE y z * fdE y z * z)) :
    fdD x * (x * (fdE y z * fdE y z) - fdT x y z) - y * (fdE y z * fdE y z * fdE y z) = (l * (a - X) - b) * (fdE y z * fdE y z * fdE y z * z) := by
  rw [hT]
  clear hT
  subst ex ey
  unfold fdD fdE
  grobner (ringSteps := 100000000)
theorem Frac.zero {x y z : Fin P} {p : Pt P} (h : Frac x y z p) (hz : z = 0) : p = none := by
  match p, h with
  | none, _ => rfl
  | some (a, b), h => exact absurd hz h.1
theorem Frac.double (C : Cur P) {x y z : Fin P} {p : Pt P} (h : Frac x y z p) (hp : On p) (hz : z ≠ 0) :
    Frac (fdE y z * fdT x y z) (fdD x * (x * (fdE y z * fdE y z) - fdT x y z) - y * (fdE y z * fdE y z * fdE y z)) (fdE y z * fdE y z * fdE y z * z) (add p p) := by
  match p, h, hp with
  | none, h, _ => exact absurd h hz
  | some (a, b), h, hp =>
    obtain ⟨-, ex, ey⟩ := h
    have ho := C.opp_ne hp
    have L := slope_line C.pr C.two hp hp ho
    rw [add_line C.pr C.two hp hp ho L]
    have hb := C.y_ne hp
    have he : fdE y z ≠ 0 := fun e => by
      refine mul_ne C.pr (mul_ne C.pr C.two hb) (mul_ne C.pr hz hz) ?_
      unfold fdE at e
      subst ey
      clear hp L
      grobner
    exact ⟨mul_ne C.pr (mul_ne C.pr (mul_ne C.pr he he) he) hz, fd_x L.at ex ey, fd_y L.at ex ey (fd_t L.at ex ey)⟩
theorem Frac.plus (C : Cur P) {x1 y1 z1 x2 y2 z2 : Fin P} {p q : Pt P} (h : Frac x1 y1 z1 p) (hp : On p) (h' : Frac x2 y2 z2 q) (hq : On q) (n1 : z1 ≠ 0) (n2 : z2 ≠ 0) :
    (x2 * z1 = x1 * z2 ∧ ¬ y2 * z1 = y1 * z2 ∧ add p q = none) ∨ (x2 * z1 = x1 * z2 ∧ y2 * z1 = y1 * z2 ∧ ¬ y2 * z1 = 0 ∧ add p q = add p p) ∨
    (¬ x2 * z1 = x1 * z2 ∧ Frac ((x2 * z1 - x1 * z2) * frT (y2 * z1 - y1 * z2) (x2 * z1 - x1 * z2) (z1 * z2) (x1 * z2))
      ((y2 * z1 - y1 * z2) * (x1 * z2 * ((x2 * z1 - x1 * z2) * (x2 * z1 - x1 * z2)) - frT (y2 * z1 - y1 * z2) (x2 * z1 - x1 * z2) (z1 * z2) (x1 * z2)) - y1 * z2 * ((x2 * z1 - x1 * z2) * (x2 * z1 - x1 * z2) * (x2 * z1 - x1 * z2)))
      ((x2 * z1 - x1 * z2) * (x2 * z1 - x1 * z2) * (x2 * z1 - x1 * z2) * (z1 * z2)) (add p q)) := by
  match p, q, h, hp, h', hq with
  | none, _, h, _, _, _ => exact absurd h n1
  | some (a, b), none, _, _, h, _ => exact absurd h n2
  | some (a, b), some (c, d), h, hp, h', hq =>
    obtain ⟨-, ex1, ey1⟩ := h
    obtain ⟨-, ex2, ey2⟩ := h'
    have ht := mul_ne C.pr n1 n2
    have e1 : x1 * z2 = a * (z1 * z2) := by subst ex1; clear hp hq; grobner
    have e2 : y1 * z2 = b * (z1 * z2) := by subst ey1; clear hp hq; grobner
    have e3 : x2 * z1 = c * (z1 * z2) := by subst ex2; clear hp hq; grobner
    have e4 : y2 * z1 = d * (z1 * z2) := by subst ey2; clear hp hq; grobner
    generalize x1 * z2 = v2 at *
    generalize y1 * z2 = u2 at *
    generalize x2 * z1 = v at *
    generalize y2 * z1 = u at *
    by_cases hs : v = v2
    · have hac : a = c := cancel C.pr ht (by rw [← e1, ← e3, hs])
      by_cases hu : u = u2
      · have hbd : b = d := cancel C.pr ht (by rw [← e2, ← e4, hu])
        refine Or.inr (Or.inl ⟨hs, hu, ?_, by rw [hac, hbd]⟩)
        rw [e4]
        exact mul_ne C.pr (C.y_ne hq) ht
      · refine Or.inl ⟨hs, hu, add_opp ⟨hac, ?_⟩⟩
        exact Classical.byContradiction fun hn => hu (by
          have := same_y C.pr (x := a) hp (by rw [hac]; exact hq) hn
          rw [e4, e2, this])
    · refine Or.inr (Or.inr ⟨hs, ?_⟩)
      have hac : ¬ a = c := fun h => hs (by rw [e3, e1, h])
      have ho : ¬ (a = c ∧ d = -b) := fun h => hac h.1
      have L := slope_line C.pr C.two hp hq ho
      rw [add_line C.pr C.two hp hq ho L]
      have hd : v - v2 ≠ 0 := sub_ne hs
      exact ⟨mul_ne C.pr (mul_ne C.pr (mul_ne C.pr hd hd) hd) ht, fr_x L.run.1 e1 e2 e3 e4, fr_y L.run.1 e1 e2 e3 e4⟩
theorem Frac.neg {x y z : Fin P} {p : Pt P} (h : Frac x y z p) : Frac x (0 - y) z (neg p) := by
  match p, h with
  | none, h => exact h
  | some (a, b), h => exact ⟨h.1, h.2.1, by have := h.2.2; show 0 - y = -b * z; grobner⟩
theorem Frac.pair (C : Cur P) {x y z : Fin P} {p : Pt P} (h : Frac x y z p) (hz : z ≠ 0) : Pair (x * inv z) (y * inv z) p := by
  match p, h with
  | none, h => exact absurd h hz
  | some (a, b), h =>
    have hi := inv_mul C.pr h.1
    obtain ⟨-, ex, ey⟩ := h
    generalize inv z = i at hi ⊢
    subst ex ey
    exact ⟨by grobner, by grobner⟩
end Go.Proofs.Ytdeidgbknlmhjab.EC
