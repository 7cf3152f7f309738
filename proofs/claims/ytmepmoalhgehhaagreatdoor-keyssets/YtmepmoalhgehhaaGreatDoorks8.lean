import Derived.Deep.LoopGhost
import Derived.Test.YtmepmoalhgehhaaGreatDoorks7
set_option linter.unusedVariables false
set_option linter.unusedSimpArgs false
namespace Go.Proofs.YtmepmoalhgehhaaGreatDoor
open Go.RowKit Go.Sort
variable {P : Nat} [NeZero P]
/-- Three coordinates. -/
abbrev T3 (P : Nat) := Fin P × Fin P × Fin P
abbrev tv (t : T3 P) : Value := rv t.1 t.2.1 t.2.2
abbrev tw (t : T3 P) : List Value := ws t.1 ++ (ws t.2.1 ++ ws t.2.2)
def JacT (t : T3 P) (p : EC.Pt P) : Prop := EC.Jac t.1 t.2.1 t.2.2 p ∧ EC.On p
def twJ (t : T3 P) : T3 P := (EC.twX t.1 t.2.1, EC.twY t.1 t.2.1, EC.twZ t.2.1 t.2.2)
def plJ (a b : T3 P) : T3 P :=
  if a.2.2 = 0 then b else if b.2.2 = 0 then a else
  if EC.plAx a.1 b.2.2 = EC.plAx b.1 a.2.2 ∧ EC.plAy a.2.1 b.2.2 = EC.plAy b.2.1 a.2.2 then twJ a else
  (EC.plX (EC.plAx a.1 b.2.2) (EC.plAy a.2.1 b.2.2) (EC.plAx b.1 a.2.2) (EC.plAy b.2.1 a.2.2), EC.plY (EC.plAx a.1 b.2.2) (EC.plAy a.2.1 b.2.2) (EC.plAx b.1 a.2.2) (EC.plAy b.2.1 a.2.2), EC.plZ a.2.2 b.2.2 (EC.plAx a.1 b.2.2) (EC.plAx b.1 a.2.2))
def opJ (t : T3 P) : T3 P := (t.1, 0 - t.2.1, t.2.2)
def raJ (x y : Fin P) : T3 P := if x = 0 ∧ y = 0 then (0, 0, 0) else (x, y, 1)
theorem twJ_c (C : Fld P) (t : T3 P) : Gives 92 #[tv t] (tv (twJ t)) := twice_c C t.1 t.2.1 t.2.2
theorem plJ_c (C : Fld P) (a b : T3 P) : Gives 93 #[tv a, tv b] (tv (plJ a b)) := by
  obtain ⟨x1, y1, z1⟩ := a
  obtain ⟨x2, y2, z2⟩ := b
  exact plusJ_any C x1 y1 z1 x2 y2 z2 _ (fun h => by unfold plJ; rw [if_pos h]) (fun h1 h2 => by unfold plJ; rw [if_neg h1, if_pos h2]) (fun h1 h2 h => by unfold plJ; rw [if_neg h1, if_neg h2, if_pos h]; rfl) (fun h1 h2 h => by unfold plJ; rw [if_neg h1, if_neg h2, if_neg h])
theorem opJ_c (C : Fld P) (t : T3 P) : Gives 123 #[tv t] (tv (opJ t)) := opposite_c C t.1 t.2.1 t.2.2
theorem raJ_c (C : Fld P) (x y : Fin P) : Gives 117 #[pv x y] (tv (raJ x y)) := by
  unfold raJ
  by_cases hz : x = 0 ∧ y = 0
  · rw [if_pos hz]
    exact ratio_t_c C x y hz
  · rw [if_neg hz]
    exact ratio_f_c C x y hz
theorem ptJ_c (C : Fld P) (t : T3 P) : Gives 95 #[tv t] (pv (t.1 * (EC.inv t.2.2 * EC.inv t.2.2)) (t.2.1 * (EC.inv t.2.2 * EC.inv t.2.2) * EC.inv t.2.2)) := point_c C t.1 t.2.1 t.2.2
theorem JacT.twice (C : Fld P) {t : T3 P} {p : EC.Pt P} (h : JacT t p) : JacT (twJ t) (EC.add p p) := ⟨h.1.twice C.cur h.2, C.cur.on h.2 h.2⟩
theorem JacT.plus (C : Fld P) {a b : T3 P} {p q : EC.Pt P} (h : JacT a p) (h' : JacT b q) : JacT (plJ a b) (EC.add p q) := by
  refine ⟨?_, C.cur.on h.2 h'.2⟩
  obtain ⟨x1, y1, z1⟩ := a
  obtain ⟨x2, y2, z2⟩ := b
  unfold plJ
  by_cases n1 : z1 = 0
  · rw [if_pos n1]
    obtain rfl := h.1.zero C.cur n1
    exact h'.1
  · rw [if_neg n1]
    by_cases n2 : z2 = 0
    · rw [if_pos n2]
      obtain rfl := h'.1.zero C.cur n2
      rw [EC.add_none]
      exact h.1
    · rw [if_neg n2]
      rcases h.1.plus C.cur h.2 h'.1 h'.2 n1 n2 with ⟨e1, e2, e3⟩ | ⟨e1, e2⟩
      · rw [if_pos ⟨e1, e2⟩, e3]
        exact h.1.twice C.cur h.2
      · rw [if_neg e1]
        exact e2
theorem JacT.neg {t : T3 P} {p : EC.Pt P} (h : JacT t p) : JacT (opJ t) (EC.neg p) := ⟨h.1.neg, EC.neg_on h.2⟩
theorem raJ_J (C : Fld P) {x y : Fin P} {p : EC.Pt P} (h : EC.Pair x y p) (hp : EC.On p) : JacT (raJ x y) p := by
  refine ⟨?_, hp⟩
  unfold raJ
  by_cases hz : x = 0 ∧ y = 0
  · obtain rfl := h.nothing C.cur hp hz
    rw [if_pos hz]
    rfl
  · rw [if_neg hz]
    exact h.jac C.cur hz
theorem JacT.pair (C : Fld P) {t : T3 P} {p : EC.Pt P} (h : JacT t p) : EC.Pair (t.1 * (EC.inv t.2.2 * EC.inv t.2.2)) (t.2.1 * (EC.inv t.2.2 * EC.inv t.2.2) * EC.inv t.2.2) p := h.1.pair C.cur
theorem JacT.none : JacT ((0, 0, 0) : T3 P) .none := ⟨rfl, EC.none_on⟩
end Go.Proofs.YtmepmoalhgehhaaGreatDoor
namespace Go.Proofs.YtmepmoalhgehhaaGreatDoor.DG
def dsum (d : Nat → Int) : Nat → Int
  | 0 => 0
  | k + 1 => dsum d k + d k * 2 ^ k
def upd (d : Nat → Int) (i : Nat) (v : Int) : Nat → Int := fun j => if j = i then v else d j
theorem dsum_congr {d e : Nat → Int} : ∀ k, (∀ j, j < k → d j = e j) → dsum d k = dsum e k
  | 0, _ => rfl
  | k + 1, h => by
    show dsum d k + d k * 2 ^ k = dsum e k + e k * 2 ^ k
    rw [dsum_congr k fun j hj => h j (by omega), h k (by omega)]
theorem dsum_pad {d : Nat → Int} (i : Nat) (h : ∀ j, i ≤ j → d j = 0) : ∀ k, dsum d (i + k) = dsum d i
  | 0 => rfl
  | k + 1 => by
    show dsum d (i + k) + d (i + k) * 2 ^ (i + k) = _
    rw [h (i + k) (by omega), Int.zero_mul, Int.add_zero, dsum_pad i h k]
theorem upd_same (d : Nat → Int) (i : Nat) (v : Int) : upd d i v i = v := if_pos rfl
theorem upd_other {d : Nat → Int} {i j : Nat} {v : Int} (h : j ≠ i) : upd d i v j = d j := if_neg h
theorem dsum_upd {d : Nat → Int} (i : Nat) (v : Int) (h : ∀ j, i ≤ j → d j = 0) (k : Nat) : dsum (upd d i v) (i + 1 + k) = dsum d i + v * 2 ^ i := by
  rw [dsum_pad (i + 1) (fun j hj => by rw [upd_other (by omega)]; exact h j (by omega)) k]
  show dsum (upd d i v) i + upd d i v i * 2 ^ i = _
  rw [upd_same, dsum_congr i fun j hj => upd_other (by omega)]
/-- The digits of n, as far as i. -/
structure DI (n : Nat) (d : Nat → Int) (i c : Nat) : Prop where
  hc : c ≤ 1
  hz : ∀ j, i ≤ j → d j = 0
  hw : ∀ j, 257 ≤ j → d j = 0
  ho : ∀ j, d j = 0 ∨ (d j % 2 = 1 ∧ -15 ≤ d j ∧ d j ≤ 15)
  hs : (n : Int) = dsum d i + ((n / 2 ^ i + c : Nat) : Int) * 2 ^ i
  he : 257 ≤ i → n / 2 ^ i + c = 0
theorem DI.start (n : Nat) : DI n (fun _ => 0) 0 0 := by
  refine ⟨by decide, fun _ _ => rfl, fun _ _ => rfl, fun _ => Or.inl rfl, ?_, fun h => by omega⟩
  rw [Nat.pow_zero, Nat.div_one]
  show (n : Int) = 0 + ((n + 0 : Nat) : Int) * 1
  omega
theorem high {n i : Nat} (hn : n < 2 ^ 256) (hi : 256 ≤ i) : n / 2 ^ i = 0 :=
  Nat.div_eq_of_lt (Nat.lt_of_lt_of_le hn (Nat.pow_le_pow_right (by decide) hi))
theorem DI.skip {n i c : Nat} {d : Nat → Int} (h : DI n d i c) (hn : n < 2 ^ 256) (hi : i < 257) (hb : n / 2 ^ i % 2 = c) : DI n d (i + 1) c := by
  have hdiv : n / 2 ^ (i + 1) = n / 2 ^ i / 2 := by rw [Nat.pow_succ, Nat.div_div_eq_div_mul]
  refine ⟨h.hc, fun j hj => h.hz j (by omega), h.hw, h.ho, ?_, fun h257 => ?_⟩
  · rw [h.hs]
    show _ = dsum d i + d i * 2 ^ i + _
    rw [h.hz i (Nat.le_refl _), Int.zero_mul, Int.add_zero, hdiv, show n / 2 ^ i + c = (n / 2 ^ i / 2 + c) * 2 by have := h.hc; omega]
    rw [show (2 : Int) ^ (i + 1) = 2 ^ i * 2 by rw [Int.pow_succ]]
    generalize (2 : Int) ^ i = t
    rw [Int.natCast_mul, Int.mul_assoc, Int.mul_comm (2 : Nat) t]
    rfl
  · have h1 : i = 256 := by omega
    have h2 : n / 2 ^ i = 0 := high hn (by omega)
    rw [hdiv, h2]
    rw [h2] at hb
    omega
theorem DI.take {n i c : Nat} {d : Nat → Int} (h : DI n d i c) (hn : n < 2 ^ 256) (hi : i < 257) (hb : n / 2 ^ i % 2 ≠ c) :
    DI n (upd d i (((n / 2 ^ i % 32 + c : Nat) : Int) - 32 * (((n / 2 ^ i % 32 + c) / 16 : Nat) : Int))) (i + 5) ((n / 2 ^ i % 32 + c) / 16) := by
  have hdiv : n / 2 ^ (i + 5) = n / 2 ^ i / 32 := by rw [Nat.pow_add, Nat.div_div_eq_div_mul]
  have hc := h.hc
  have hodd : (n / 2 ^ i % 32 + c) % 2 = 1 := by omega
  have hlt : n / 2 ^ i % 32 + c < 32 := by omega
  refine ⟨by omega, fun j hj => ?_, fun j hj => ?_, fun j => ?_, ?_, fun h257 => ?_⟩
  · rw [upd_other (by omega)]; exact h.hz j (by omega)
  · rw [upd_other (by omega)]; exact h.hw j hj
  · by_cases hj : j = i
    · subst hj
      rw [upd_same]
      right
      omega
    · rw [upd_other hj]; exact h.ho j
  · rw [show i + 5 = i + 1 + 4 by omega, dsum_upd i _ h.hz 4, show i + 1 + 4 = i + 5 by omega, h.hs, Int.add_assoc]
    congr 1
    rw [hdiv, Int.pow_add, show (2 : Int) ^ 5 = 32 by decide, ← Int.mul_comm (32 : Int), ← Int.mul_assoc, ← Int.add_mul]
    congr 1
    omega
  · have h2 : n / 2 ^ i < 16 := by
      rw [Nat.div_lt_iff_lt_mul (Nat.pow_pos (by decide))]
      refine Nat.lt_of_lt_of_le hn ?_
      calc 2 ^ 256 = 16 * 2 ^ 252 := by decide +kernel
        _ ≤ 16 * 2 ^ i := Nat.mul_le_mul (Nat.le_refl _) (Nat.pow_le_pow_right (by decide) (by omega))
    rw [hdiv]
    generalize n / 2 ^ i = m at h2 hb hodd hlt ⊢
    rw [Nat.mod_eq_of_lt (show m < 32 by omega)] at hodd ⊢
    have h3 : m + c < 16 := by omega
    rw [Nat.div_eq_of_lt h3, Nat.div_eq_of_lt (show m < 32 by omega)]
theorem DI.all {n i c : Nat} {d : Nat → Int} (h : DI n d i c) (hi : 257 ≤ i) : (n : Int) = dsum d 257 := by
  have h1 := h.hs
  rw [h.he hi, Int.natCast_zero, Int.zero_mul, Int.add_zero] at h1
  rw [h1, show i = 257 + (i - 257) by omega, dsum_pad 257 h.hw]
/-- The digits from the top, k of them. -/
def hor (d : Nat → Int) : Nat → Int
  | 0 => 0
  | k + 1 => 2 * hor d k + d (256 - k)
theorem hor_sum (d : Nat → Int) : ∀ k, k ≤ 257 → hor d k * 2 ^ (257 - k) + dsum d (257 - k) = dsum d 257
  | 0, _ => by show 0 * _ + _ = _; rw [Int.zero_mul, Int.zero_add]
  | k + 1, hk => by
    rw [← hor_sum d k (by omega)]
    show (2 * hor d k + d (256 - k)) * 2 ^ (257 - (k + 1)) + dsum d (257 - (k + 1)) = _
    rw [show 257 - (k + 1) = 256 - k by omega, show 257 - k = (256 - k) + 1 by omega]
    show _ = hor d k * 2 ^ (256 - k + 1) + (dsum d (256 - k) + d (256 - k) * 2 ^ (256 - k))
    rw [Int.pow_succ]
    generalize (2 : Int) ^ (256 - k) = t
    generalize hor d k = a
    generalize dsum d (256 - k) = b
    rw [Int.add_mul, Int.mul_comm t 2, ← Int.mul_assoc, Int.mul_comm a 2]
    omega
theorem hor_all {n i c : Nat} {d : Nat → Int} (h : DI n d i c) (hi : 257 ≤ i) : hor d 257 = (n : Int) := by
  have h1 := hor_sum d 257 (Nat.le_refl _)
  rw [Nat.sub_self] at h1
  rw [h.all hi, ← h1]
  show hor d 257 = hor d 257 * 1 + 0
  omega
end Go.Proofs.YtmepmoalhgehhaaGreatDoor.DG
set_option linter.unusedVariables false
set_option linter.unusedSimpArgs false
namespace Go.Proofs.YtmepmoalhgehhaaGreatDoor
open Go.RowKit Go.Sort
theorem at138 (k o i : Nat) (hi : i < 257) (w : World) : (Instr.indexAt 152 (.pointer (some ⟨k, o, none⟩)) (.int .i64 (i : Int))).run Tryz.prog w = .ok (.pointer (some ⟨k, o + i, none⟩)) w := by
  have h1 : ¬ (i : Int) < 0 := by omega
  have h2 : (i : Int) < 257 := by omega
  go_simp
theorem at138z (k i : Nat) (hi : i < 257) (w : World) : (Instr.indexAt 152 (.pointer (some ⟨k, 0, none⟩)) (.int .i64 (i : Int))).run Tryz.prog w = .ok (.pointer (some ⟨k, i, none⟩)) w := by
  rw [at138 k 0 i hi, Nat.zero_add]
theorem at136 (k o i : Nat) (hi : i < 8) (w : World) : (Instr.indexAt 150 (.pointer (some ⟨k, o, none⟩)) (.int .i64 (i : Int))).run Tryz.prog w = .ok (.pointer (some ⟨k, o + 12 * i, none⟩)) w := by
  have h1 : ¬ (i : Int) < 0 := by omega
  have h2 : (i : Int) < 8 := by omega
  go_simp
theorem at136b (k o i : Nat) (hi : i < 8) (w : World) : (Instr.indexAt 150 (.pointer (some ⟨k, o, none⟩)) (.int .i8 (i : Int))).run Tryz.prog w = .ok (.pointer (some ⟨k, o + 12 * i, none⟩)) w := by
  have h1 : ¬ (i : Int) < 0 := by omega
  have h2 : (i : Int) < 8 := by omega
  go_simp
theorem at135 (k n c i : Nat) (hi : i < n) (w : World) : (Instr.indexAt 146 (.slice (some ⟨k, 0, none⟩) n c) (.int .i64 (i : Int))).run Tryz.prog w = .ok (.pointer (some ⟨k, 353 * i, none⟩)) w := by
  have h1 : ¬ (i : Int) < 0 := by omega
  have h2 : (i : Int) < n := by omega
  go_simp
theorem at82 (k o n c i : Nat) (hi : i < n) (w : World) : (Instr.indexAt 114 (.slice (some ⟨k, o, none⟩) n c) (.int .i64 (i : Int))).run Tryz.prog w = .ok (.pointer (some ⟨k, o + 4 * i, none⟩)) w := by
  have h1 : ¬ (i : Int) < 0 := by omega
  have h2 : (i : Int) < n := by omega
  go_simp
theorem at112 (k o n c i : Nat) (hi : i < n) (w : World) : (Instr.indexAt 117 (.slice (some ⟨k, o, none⟩) n c) (.int .i64 (i : Int))).run Tryz.prog w = .ok (.pointer (some ⟨k, o + 8 * i, none⟩)) w := by
  have h1 : ¬ (i : Int) < 0 := by omega
  have h2 : (i : Int) < n := by omega
  go_simp
theorem i8neg (d : Int) (hd : -15 ≤ d ∧ d ≤ 15) (w : World) : (Op.unary .neg (.int .i8 d)).run Tryz.prog w = .ok (.int .i8 (-d)) w := by
  have h := IntWalk.i8_in (-d) (by omega)
  go_simp
theorem i8quo (k : Nat) (hk : k < 8) (w : World) : (binOp .quo 151 (.int .i8 (2 * (k : Int) + 1)) (.int .i8 2)).run Tryz.prog w = .ok (.int .i8 (k : Int)) w := by
  have h0 : (2 * (k : Int) + 1).tdiv 2 = (k : Int) := by rw [Int.tdiv_eq_ediv_of_nonneg (by omega)]; omega
  have h := IntWalk.i8_in (k : Int) (by omega)
  go_simp
theorem shr4 (g : Nat) (hg : g < 32) (w : World) : (binOp .shr 3 (.int .i64 (g : Int)) (.int .u64 4)).run Tryz.prog w = .ok (.int .i64 ((g / 16 : Nat) : Int)) w := by
  go_simp
theorem shl5 (g : Nat) (hg : g < 32) (w : World) : (binOp .shl 3 (.int .i64 (g : Int)) (.int .u64 5)).run Tryz.prog w = .ok (.int .i64 (32 * (g : Int))) w := by
  have h := IntWalk.i64_in (32 * (g : Int)) (by omega)
  have h2 : (g : Int) * 32 = 32 * (g : Int) := by omega
  go_simp
theorem sub64i (a b : Int) (ha : -1000 ≤ a ∧ a ≤ 1000) (hb : -1000 ≤ b ∧ b ≤ 1000) (w : World) : (binOp .sub 3 (.int .i64 a) (.int .i64 b)).run Tryz.prog w = .ok (.int .i64 (a - b)) w := by
  have h := IntWalk.i64_in (a - b) (by omega)
  go_simp
theorem addn (a b : Nat) (ha : a ≤ 1000000) (hb : b ≤ 1000000) (w : World) : (binOp .add 3 (.int .i64 (a : Int)) (.int .i64 (b : Int))).run Tryz.prog w = .ok (.int .i64 ((a + b : Nat) : Int)) w := by
  have h := IntWalk.i64_in ((a : Int) + (b : Int)) (by omega)
  go_simp
theorem cv8 (v : Int) (hv : -15 ≤ v ∧ v ≤ 15) (w : World) : (convert 3 151 (.int .i64 v)).run Tryz.prog w = .ok (.int .i8 v) w := by
  have h := IntWalk.i8_in v (by omega)
  go_simp
theorem cmp_t {b c : Nat} (e : b = c) (w : World) : (binOp .eql 3 (.int .i64 (b : Int)) (.int .i64 (c : Int))).run Tryz.prog w = .ok (.bool true) w := by
  subst e
  go_simp
theorem cmp_f {b c : Nat} (e : ¬ b = c) (w : World) : (binOp .eql 3 (.int .i64 (b : Int)) (.int .i64 (c : Int))).run Tryz.prog w = .ok (.bool false) w := by
  have h : ¬ (b : Int) = (c : Int) := by omega
  go_simp
theorem lssn_t {i n : Nat} (e : i < n) (w : World) : (binOp .lss 3 (.int .i64 (i : Int)) (.int .i64 (n : Int))).run Tryz.prog w = .ok (.bool true) w := by
  have h : (i : Int) < (n : Int) := by omega
  go_simp
theorem lssn_f {i n : Nat} (e : ¬ i < n) (w : World) : (binOp .lss 3 (.int .i64 (i : Int)) (.int .i64 (n : Int))).run Tryz.prog w = .ok (.bool false) w := by
  have h : ¬ (i : Int) < (n : Int) := by omega
  go_simp
theorem Bits_c {n f c : Nat} (hn : n < top) (hf : f ≤ 256) (hc : c ≤ 32) : Gives 141 #[nv n, .int .i64 (f : Int), .int .i64 (c : Int)] (.int .i64 ((n / 2 ^ f % 2 ^ c : Nat) : Int)) := fun w =>
  (Bits_any _ n f c (four_nv hn) hf hc w).mono (by rintro e w' ⟨v, rfl, hb, rfl⟩; exact ⟨_, rfl, hb, rfl⟩)
/-- 257 digits. -/
def dg (d : Nat → Int) : List Value := (List.range 257).map (fun j => Value.int .i8 (d j))
def dv (d : Nat → Int) : Value := .agg (dg d).toArray
theorem dg_length (d : Nat → Int) : (dg d).length = 257 := by unfold dg; rw [List.length_map, List.length_range]
theorem dg_at (d : Nat → Int) (j : Nat) (hj : j < 257) : (dg d)[j]? = some (.int .i8 (d j)) := by
  unfold dg
  rw [List.getElem?_map, List.getElem?_range hj]
  rfl
theorem dg_set (d : Nat → Int) (i : Nat) (v : Int) : dg (DG.upd d i v) = (dg d).set i (.int .i8 v) := by
  apply List.ext_getElem?
  intro j
  rw [List.getElem?_set]
  by_cases hj : j < 257
  · rw [dg_at _ j hj, dg_at _ j hj]
    by_cases hij : i = j
    · subst hij
      rw [if_pos rfl, if_pos (by rw [dg_length]; exact hj), DG.upd_same]
    · rw [if_neg hij, DG.upd_other (fun h => hij h.symm)]
  · rw [List.getElem?_eq_none (by rw [dg_length]; omega)]
    by_cases hij : i = j
    · rw [if_pos hij, if_neg (by rw [dg_length]; omega)]
    · rw [if_neg hij, List.getElem?_eq_none (by rw [dg_length]; omega)]
theorem dg_one (d : Nat → Int) : (dg d).all (·.oneCell') = true := by
  unfold dg
  rw [List.all_map]
  exact List.all_eq_true.2 fun _ _ => rfl
theorem dg_sub (d : Nat → Int) : ((dg d).drop 0).take (dg d).length = dg d := by rw [List.drop_zero, List.take_length]
/-- The digits, as they come. -/
def dgo (n : Nat) : Nat → (Nat → Int) → Nat → Nat → (Nat → Int)
  | 0, d, _, _ => d
  | f + 1, d, i, c => if i < 257 then (if n / 2 ^ i % 2 = c then dgo n f d (i + 1) c else
      dgo n f (DG.upd d i (((n / 2 ^ i % 32 + c : Nat) : Int) - 32 * (((n / 2 ^ i % 32 + c) / 16 : Nat) : Int))) (i + 5) ((n / 2 ^ i % 32 + c) / 16)) else d
theorem dgo_end (n : Nat) (f : Nat) (d : Nat → Int) (i c : Nat) (h : ¬ i < 257) : dgo n f d i c = d := by
  cases f with
  | zero => rfl
  | succ f => rw [dgo, if_neg h]
theorem dgo_DI {n : Nat} (hn : n < 2 ^ 256) : ∀ (f : Nat) (d : Nat → Int) (i c : Nat), DG.DI n d i c → 257 ≤ i + f → ∃ i' c', 257 ≤ i' ∧ DG.DI n (dgo n f d i c) i' c'
  | 0, d, i, c, h, hf => ⟨i, c, by omega, h⟩
  | f + 1, d, i, c, h, hf => by
    by_cases hi : i < 257
    · rw [dgo, if_pos hi]
      by_cases hb : n / 2 ^ i % 2 = c
      · rw [if_pos hb]
        exact dgo_DI hn f d (i + 1) c (h.skip hn hi hb) (by omega)
      · rw [if_neg hb]
        exact dgo_DI hn f _ (i + 5) _ (h.take hn hi hb) (by omega)
    · rw [dgo_end n _ d i c hi]
      exact ⟨i, c, by omega, h⟩
def digs (n : Nat) : Nat → Int := dgo n 257 (fun _ => 0) 0 0
theorem digs_DI {n : Nat} (hn : n < 2 ^ 256) : ∃ i c, 257 ≤ i ∧ DG.DI n (digs n) i c := dgo_DI hn 257 _ 0 0 (DG.DI.start n) (by omega)
end Go.Proofs.YtmepmoalhgehhaaGreatDoor
namespace Go.Proofs.YtmepmoalhgehhaaGreatDoor
open Go.RowKit Go.Sort
variable {P : Nat} [NeZero P]
theorem u138 : (Tryz.prog.underlying 152).map (·.isRow) = some true := by kernel_rfl
theorem i138 : (Tryz.prog.info? 152).map (·.size) = some 257 := by kernel_rfl
theorem i137 : (Tryz.prog.info? 151).map (·.size) = some 1 := by kernel_rfl
theorem u137 : (Tryz.prog.underlying 151).map (·.isRow) = some false := by kernel_rfl
theorem al138 (w : World) : (Instr.alloc 152 true (.tuple #[])).run Tryz.prog w = .ok (.pointer (some ⟨w.heap.size, 0, none⟩)) (w.alloc (.cells (dg (fun _ => 0)).toArray 152)) := by kernel_rfl
set_option maxHeartbeats 2000000 in
set_option maxRecDepth 100000 in
theorem digits_c {n : Nat} (hn : n < top) : Gives 116 #[nv n] (dv (digs n)) := by
  intro w
  go_enter Tryz.func116, Tryz.ntmps116
  refine RG.var1 (v0 := nv n) (n := 33) (by kernel_rfl) (by kernel_rfl) (by kernel_rfl) ?_
  intro a0 sl0 f0
  have hS0 := RG.St.begin w
  have M0 : RG.M w w.heap.size [] 33 [] [] [(0, (.v (nv n)))] a0 _ := ⟨hS0, sl0, ⟨f0, trivial⟩⟩
  repeat refine wp_seq ?_
  refine M0.t [.m 1 [] 0, .m 2 [] 1] [(0, (wn n)), (1, (dg (fun _ => 0)))] [] [(wn n), (dg (fun _ => 0))] [(1, (.p 0 0)), (2, (.p 1 0))] ⟨RG.mk 0 45, RG.cert_alloc 1 rfl rfl _ rfl 152 rfl (al138), trivial⟩ ?_
  intro j1 i1 a1 w1 M1
  repeat refine wp_seq ?_
  refine M1.t [.m 3 [] 2] [(0, (dg (fun _ => 0)))] [] [(wn n), (dg (fun _ => 0)), (dg (fun _ => 0))] [(1, (.p 0 0)), (2, (.p 1 0)), (3, (.p 2 0))] ⟨RG.cert_alloc 2 rfl rfl _ rfl 152 rfl (al138), trivial⟩ ?_
  intro j2 a2 w2 M2
  repeat refine wp_seq ?_
  refine M2.u [.x 4 [] (.int .i64 0)] [(1, (.p 0 0)), (2, (.p 1 0)), (3, (.p 2 0)), (4, (.v (.int .i64 0)))] ⟨RG.st, trivial⟩ ?_
  intro a3 w3 M3
  repeat refine wp_seq ?_
  refine M3.u [.x 5 [] (.int .i64 0)] [(1, (.p 0 0)), (2, (.p 1 0)), (3, (.p 2 0)), (4, (.v (.int .i64 0))), (5, (.v (.int .i64 0)))] ⟨RG.st, trivial⟩ ?_
  intro a4 w4 M4
  have f1_4 : a4.tmps[1]? = some (.pointer (some ⟨j1, 0, none⟩)) := M4.at (s := (.p 0 0))
  have f2_4 : a4.tmps[2]? = some (.pointer (some ⟨i1, 0, none⟩)) := M4.at (s := (.p 1 0))
  have f3_4 : a4.tmps[3]? = some (.pointer (some ⟨j2, 0, none⟩)) := M4.at (s := (.p 2 0))
  have f4_4 : a4.tmps[4]? = some (.int .i64 0) := M4.at (s := (.v (.int .i64 0)))
  have f5_4 : a4.tmps[5]? = some (.int .i64 0) := M4.at (s := (.v (.int .i64 0)))
  repeat refine wp_seq ?_
  refine wp_block ?_
  refine wp_loop_ghost (fun m a wr => ∃ (d : Nat → Int) (i c : Nat), c ≤ 1 ∧ i ≤ 261 ∧ 257 ≤ i + m ∧ dgo n m d i c = digs n ∧ RG.Sl a 33 ∧ a.tmps[1]? = some (.pointer (some ⟨j1, 0, none⟩)) ∧ a.tmps[2]? = some (.pointer (some ⟨i1, 0, none⟩)) ∧ a.tmps[3]? = some (.pointer (some ⟨j2, 0, none⟩)) ∧ a.tmps[4]? = some (.int .i64 (c : Int)) ∧ a.tmps[5]? = some (.int .i64 (i : Int)) ∧ RG.St w w.heap.size [] [wn n, dg (fun _ => 0), dg d] [j1, i1, j2] wr) 257 ⟨fun _ => 0, 0, 0, by omega, by omega, by omega, rfl, M4.sl, f1_4, f2_4, f3_4, f4_4, f5_4, M4.st⟩ ?_
  intro m a wr
  rintro ⟨d, i, c, hc, hi2, hm, hd, sl, f1, f2, f3, f4, f5, hS⟩
  obtain ⟨b, hbv⟩ : ∃ b, n / 2 ^ i % 2 = b := ⟨_, rfl⟩
  obtain ⟨e, hev⟩ : ∃ e, n / 2 ^ i % 32 = e := ⟨_, rfl⟩
  obtain ⟨g, hgv⟩ : ∃ g, e + c = g := ⟨_, rfl⟩
  obtain ⟨v, hvv⟩ : ∃ v : Int, (g : Int) - 32 * ((g / 16 : Nat) : Int) = v := ⟨_, rfl⟩
  generalize j1 = k1 at f1 f2 f3 hS
  generalize i1 = k2 at f1 f2 f3 hS
  generalize j2 = k3 at f1 f2 f3 hS
  by_cases hi : i < 257
  · have hB1 : Gives 141 #[nv n, .int .i64 (i : Int), .int .i64 1] (.int .i64 (b : Int)) := by rw [← hbv]; exact Bits_c (c := 1) hn (by omega) (by omega)
    have hB5 : Gives 141 #[nv n, .int .i64 (i : Int), .int .i64 5] (.int .i64 (e : Int)) := by rw [← hev]; exact Bits_c (c := 5) hn (by omega) (by omega)
    have hm0 : ∃ m', m = m' + 1 := by
      cases m with
      | zero => exact absurd hm (by omega)
      | succ m' => exact ⟨m', rfl⟩
    obtain ⟨m', rfl⟩ := hm0
    rw [dgo, if_pos hi, hbv, hev, hgv, hvv] at hd
    by_cases hb : b = c
    · rw [if_pos hb] at hd
      have M0 : RG.M w w.heap.size [] 33 [(wn n), (dg (fun _ => 0)), (dg d)] [k1, k2, k3] [(1, (.p 0 0)), (2, (.p 1 0)), (3, (.p 2 0)), (4, (.v (.int .i64 (c : Int)))), (5, (.v (.int .i64 (i : Int))))] a _ := ⟨hS, sl, ⟨f1, f2, f3, f4, f5, trivial⟩⟩
      repeat refine wp_seq ?_
      refine M0.u [.x 7 [] (.int .i64 (i : Int)), .x 8 [(7, 0)] (.bool true)] [(1, (.p 0 0)), (2, (.p 1 0)), (3, (.p 2 0)), (4, (.v (.int .i64 (c : Int)))), (5, (.v (.int .i64 (i : Int)))), (8, (.v (.bool true)))] ⟨RG.st, RG.cert_binc rfl .lss 3 3 7 (.int .i64 (i : Int)) (.int .i64 257) (.bool true) rfl rfl RG.sx (fun w => by kernel_rfl) (lssn_t (n := 257) hi), trivial⟩ ?_
      intro a1 w1 M1
      repeat refine wp_seq ?_
      refine wp_cond_true M1.ev ?_
      refine wp_skip ?_
      refine wp_seq ?_
      refine wp_block ?_
      repeat refine wp_seq ?_
      refine M1.u [.x 11 [] (nv n), .x 12 [] (.int .i64 (i : Int)), .c 13 [(11, 0), (12, 1)] (.int .i64 (b : Int)), .x 14 [] (.int .i64 (c : Int)), .x 15 [(13, 2), (14, 3)] (.bool true)] [(1, (.p 0 0)), (2, (.p 1 0)), (3, (.p 2 0)), (4, (.v (.int .i64 (c : Int)))), (5, (.v (.int .i64 (i : Int)))), (15, (.v (.bool true)))] ⟨RG.ld u85 i85, RG.st, RG.cl (hB1), RG.st, RG.cert_bin rfl .eql 3 3 13 14 (.int .i64 (b : Int)) (.int .i64 (c : Int)) (.bool true) rfl rfl RG.sx RG.sx (fun w => by kernel_rfl) (cmp_t hb), trivial⟩ ?_
      intro a2 w2 M2
      repeat refine wp_seq ?_
      refine wp_cond_true M2.ev ?_
      refine wp_exit ?_
      dsimp only [Exit.then, Exit.inBlock]
      rw [if_pos rfl]
      repeat refine wp_seq ?_
      refine M2.u [.x 9 [] (.int .i64 (i : Int)), .x 10 [(9, 0)] (.int .i64 ((i + 1 : Nat) : Int)), .x 5 [(10, 1)] (.int .i64 ((i + 1 : Nat) : Int))] [(1, (.p 0 0)), (2, (.p 1 0)), (3, (.p 2 0)), (4, (.v (.int .i64 (c : Int)))), (5, (.v (.int .i64 ((i + 1 : Nat) : Int))))] ⟨RG.st, RG.cert_binc rfl .add 3 3 9 (.int .i64 (i : Int)) (.int .i64 1) (.int .i64 ((i + 1 : Nat) : Int)) rfl rfl RG.sx (fun w => by kernel_rfl) (addn i 1 (by omega) (by omega)), RG.st, trivial⟩ ?_
      intro a3 w3 M3
      have f1_3 : a3.tmps[1]? = some (.pointer (some ⟨k1, 0, none⟩)) := M3.at (s := (.p 0 0))
      have f2_3 : a3.tmps[2]? = some (.pointer (some ⟨k2, 0, none⟩)) := M3.at (s := (.p 1 0))
      have f3_3 : a3.tmps[3]? = some (.pointer (some ⟨k3, 0, none⟩)) := M3.at (s := (.p 2 0))
      have f4_3 : a3.tmps[4]? = some (.int .i64 (c : Int)) := M3.at (s := (.v (.int .i64 (c : Int))))
      have f5_3 : a3.tmps[5]? = some (.int .i64 ((i + 1 : Nat) : Int)) := M3.at (s := (.v (.int .i64 ((i + 1 : Nat) : Int))))
      show ∃ n', _
      exact ⟨m', Nat.lt_succ_self m', d, i + 1, c, hc, by omega, by omega, hd, M3.sl, f1_3, f2_3, f3_3, f4_3, f5_3, M3.st⟩
    · rw [if_neg hb] at hd
      have he : e < 32 := by omega
      have hpar : g % 2 = 1 := by omega
      have hg : g < 32 := by omega
      have hv : -15 ≤ v ∧ v ≤ 15 := by omega
      have hadd : ∀ w, (binOp .add 3 (.int .i64 (e : Int)) (.int .i64 (c : Int))).run Tryz.prog w = .ok (.int .i64 (g : Int)) w := fun w => by rw [addn e c (by omega) (by omega), hgv]
      have hsub : ∀ w, (binOp .sub 3 (.int .i64 (g : Int)) (.int .i64 (32 * ((g / 16 : Nat) : Int)))).run Tryz.prog w = .ok (.int .i64 v) w := fun w => by rw [sub64i _ _ (by omega) (by omega), hvv]
      have M0 : RG.M w w.heap.size [] 33 [(wn n), (dg (fun _ => 0)), (dg d)] [k1, k2, k3] [(1, (.p 0 0)), (2, (.p 1 0)), (3, (.p 2 0)), (4, (.v (.int .i64 (c : Int)))), (5, (.v (.int .i64 (i : Int))))] a _ := ⟨hS, sl, ⟨f1, f2, f3, f4, f5, trivial⟩⟩
      repeat refine wp_seq ?_
      refine M0.u [.x 7 [] (.int .i64 (i : Int)), .x 8 [(7, 0)] (.bool true)] [(1, (.p 0 0)), (2, (.p 1 0)), (3, (.p 2 0)), (4, (.v (.int .i64 (c : Int)))), (5, (.v (.int .i64 (i : Int)))), (8, (.v (.bool true)))] ⟨RG.st, RG.cert_binc rfl .lss 3 3 7 (.int .i64 (i : Int)) (.int .i64 257) (.bool true) rfl rfl RG.sx (fun w => by kernel_rfl) (lssn_t (n := 257) hi), trivial⟩ ?_
      intro a1 w1 M1
      repeat refine wp_seq ?_
      refine wp_cond_true M1.ev ?_
      refine wp_skip ?_
      refine wp_seq ?_
      refine wp_block ?_
      repeat refine wp_seq ?_
      refine M1.u [.x 11 [] (nv n), .x 12 [] (.int .i64 (i : Int)), .c 13 [(11, 0), (12, 1)] (.int .i64 (b : Int)), .x 14 [] (.int .i64 (c : Int)), .x 15 [(13, 2), (14, 3)] (.bool false)] [(1, (.p 0 0)), (2, (.p 1 0)), (3, (.p 2 0)), (4, (.v (.int .i64 (c : Int)))), (5, (.v (.int .i64 (i : Int)))), (15, (.v (.bool false)))] ⟨RG.ld u85 i85, RG.st, RG.cl (hB1), RG.st, RG.cert_bin rfl .eql 3 3 13 14 (.int .i64 (b : Int)) (.int .i64 (c : Int)) (.bool false) rfl rfl RG.sx RG.sx (fun w => by kernel_rfl) (cmp_f hb), trivial⟩ ?_
      intro a2 w2 M2
      repeat refine wp_seq ?_
      refine wp_cond_false M2.ev ?_
      refine wp_skip ?_
      repeat refine wp_seq ?_
      refine M2.u [.x 16 [] (nv n), .x 17 [] (.int .i64 (i : Int)), .c 18 [(16, 0), (17, 1)] (.int .i64 (e : Int)), .x 19 [] (.int .i64 (c : Int)), .x 20 [(18, 2), (19, 3)] (.int .i64 (g : Int)), .x 6 [(20, 4)] (.int .i64 (g : Int))] [(1, (.p 0 0)), (2, (.p 1 0)), (3, (.p 2 0)), (4, (.v (.int .i64 (c : Int)))), (5, (.v (.int .i64 (i : Int)))), (6, (.v (.int .i64 (g : Int))))] ⟨RG.ld u85 i85, RG.st, RG.cl (hB5), RG.st, RG.cert_bin rfl .add 3 3 18 19 (.int .i64 (e : Int)) (.int .i64 (c : Int)) (.int .i64 (g : Int)) rfl rfl RG.sx RG.sx (fun w => by kernel_rfl) (hadd), RG.st, trivial⟩ ?_
      intro a3 w3 M3
      repeat refine wp_seq ?_
      refine M3.u [.x 21 [] (.int .i64 (g : Int)), .x 22 [(21, 0)] (.int .i64 ((g / 16 : Nat) : Int)), .x 4 [(22, 1)] (.int .i64 ((g / 16 : Nat) : Int))] [(1, (.p 0 0)), (2, (.p 1 0)), (3, (.p 2 0)), (4, (.v (.int .i64 ((g / 16 : Nat) : Int)))), (5, (.v (.int .i64 (i : Int)))), (6, (.v (.int .i64 (g : Int))))] ⟨RG.st, RG.cert_binc rfl .shr 3 75 21 (.int .i64 (g : Int)) (.int .u64 4) (.int .i64 ((g / 16 : Nat) : Int)) rfl rfl RG.sx (fun w => by kernel_rfl) (shr4 g hg), RG.st, trivial⟩ ?_
      intro a4 w4 M4
      repeat refine wp_seq ?_
      refine M4.t [.x 23 [] (.int .i64 (i : Int)), .x 24 [] (.int .i64 (g : Int)), .x 25 [] (.int .i64 ((g / 16 : Nat) : Int)), .x 26 [(25, 2)] (.int .i64 (32 * ((g / 16 : Nat) : Int))), .x 27 [(24, 1), (26, 3)] (.int .i64 v), .x 28 [(27, 4)] (.int .i8 v), .s 29 [(23, 0)] (.p 2 i), .u [(29, 6), (28, 5)] 2] [] [(2, 7, (dg (DG.upd d i v)))] [(wn n), (dg (fun _ => 0)), (dg (DG.upd d i v))] [(1, (.p 0 0)), (2, (.p 1 0)), (3, (.p 2 0)), (4, (.v (.int .i64 ((g / 16 : Nat) : Int)))), (5, (.v (.int .i64 (i : Int))))] ⟨RG.st, RG.st, RG.st, RG.cert_binc rfl .shl 3 75 25 (.int .i64 ((g / 16 : Nat) : Int)) (.int .u64 5) (.int .i64 (32 * ((g / 16 : Nat) : Int))) rfl rfl RG.sx (fun w => by kernel_rfl) (shl5 (g / 16) (by omega)), RG.cert_bin rfl .sub 3 3 24 26 (.int .i64 (g : Int)) (.int .i64 (32 * ((g / 16 : Nat) : Int))) (.int .i64 v) rfl rfl RG.sx RG.sx (fun w => by kernel_rfl) (hsub), RG.cert_conv rfl 3 151 27 (.int .i64 v) (.int .i8 v) rfl rfl RG.sx (cv8 v hv), RG.cert_idx rfl 152 3 23 rfl (.p 2 0) (.int .i64 (i : Int)) RG.sx RG.sx (fun μ w => at138z _ i hi w), RG.cert_put1 2 i rfl _ rfl 151 (.tmp 29) (.tmp 28) (.int .i8 v) rfl rfl RG.sx RG.sx (by show i < (dg _).length; rw [dg_length]; exact hi) (dg_set d i v) i137 rfl rfl, trivial⟩ ?_
      intro a5 w5 M5
      repeat refine wp_seq ?_
      refine M5.u [.x 30 [] (.int .i64 (i : Int)), .x 31 [(30, 0)] (.int .i64 ((i + 4 : Nat) : Int)), .x 5 [(31, 1)] (.int .i64 ((i + 4 : Nat) : Int))] [(1, (.p 0 0)), (2, (.p 1 0)), (3, (.p 2 0)), (4, (.v (.int .i64 ((g / 16 : Nat) : Int)))), (5, (.v (.int .i64 ((i + 4 : Nat) : Int))))] ⟨RG.st, RG.cert_binc rfl .add 3 3 30 (.int .i64 (i : Int)) (.int .i64 4) (.int .i64 ((i + 4 : Nat) : Int)) rfl rfl RG.sx (fun w => by kernel_rfl) (addn i 4 (by omega) (by omega)), RG.st, trivial⟩ ?_
      intro a6 w6 M6
      repeat refine wp_seq ?_
      refine M6.u [.x 9 [] (.int .i64 ((i + 4 : Nat) : Int)), .x 10 [(9, 0)] (.int .i64 ((i + 4 + 1 : Nat) : Int)), .x 5 [(10, 1)] (.int .i64 ((i + 4 + 1 : Nat) : Int))] [(1, (.p 0 0)), (2, (.p 1 0)), (3, (.p 2 0)), (4, (.v (.int .i64 ((g / 16 : Nat) : Int)))), (5, (.v (.int .i64 ((i + 4 + 1 : Nat) : Int))))] ⟨RG.st, RG.cert_binc rfl .add 3 3 9 (.int .i64 ((i + 4 : Nat) : Int)) (.int .i64 1) (.int .i64 ((i + 4 + 1 : Nat) : Int)) rfl rfl RG.sx (fun w => by kernel_rfl) (addn (i + 4) 1 (by omega) (by omega)), RG.st, trivial⟩ ?_
      intro a7 w7 M7
      have f1_7 : a7.tmps[1]? = some (.pointer (some ⟨k1, 0, none⟩)) := M7.at (s := (.p 0 0))
      have f2_7 : a7.tmps[2]? = some (.pointer (some ⟨k2, 0, none⟩)) := M7.at (s := (.p 1 0))
      have f3_7 : a7.tmps[3]? = some (.pointer (some ⟨k3, 0, none⟩)) := M7.at (s := (.p 2 0))
      have f4_7 : a7.tmps[4]? = some (.int .i64 ((g / 16 : Nat) : Int)) := M7.at (s := (.v (.int .i64 ((g / 16 : Nat) : Int))))
      have f5_7 : a7.tmps[5]? = some (.int .i64 ((i + 4 + 1 : Nat) : Int)) := M7.at (s := (.v (.int .i64 ((i + 4 + 1 : Nat) : Int))))
      show ∃ n', _
      exact ⟨m', Nat.lt_succ_self m', DG.upd d i v, i + 5, g / 16, by omega, by omega, by omega, hd, M7.sl, f1_7, f2_7, f3_7, f4_7, f5_7, M7.st⟩
  · have hD : d = digs n := by rw [← hd, dgo_end n m d i c hi]
    have M0 : RG.M w w.heap.size [] 33 [(wn n), (dg (fun _ => 0)), (dg d)] [k1, k2, k3] [(1, (.p 0 0)), (2, (.p 1 0)), (3, (.p 2 0)), (4, (.v (.int .i64 (c : Int)))), (5, (.v (.int .i64 (i : Int))))] a _ := ⟨hS, sl, ⟨f1, f2, f3, f4, f5, trivial⟩⟩
    repeat refine wp_seq ?_
    refine M0.u [.x 7 [] (.int .i64 (i : Int)), .x 8 [(7, 0)] (.bool false)] [(2, (.p 1 0)), (3, (.p 2 0)), (8, (.v (.bool false)))] ⟨RG.st, RG.cert_binc rfl .lss 3 3 7 (.int .i64 (i : Int)) (.int .i64 257) (.bool false) rfl rfl RG.sx (fun w => by kernel_rfl) (lssn_f (n := 257) hi), trivial⟩ ?_
    intro a1 w1 M1
    repeat refine wp_seq ?_
    refine wp_cond_false M1.ev ?_
    refine wp_exit ?_
    dsimp only [Exit.then, Exit.inBlock]
    rw [if_pos rfl]
    repeat refine wp_seq ?_
    refine M1.t [.x 32 [] (dv d), .u [(32, 0)] 1] [] [(1, 1, (dg d))] [(wn n), (dg d), (dg d)] [(2, (.p 1 0))] ⟨RG.cert_load rfl 2 0 _ rfl rfl (by kernel_rfl) 152 3 rfl (dg d) rfl RG.sx (dg_sub _) u138 (by rw [dg_length]; exact i138), RG.cert_put 1 rfl _ rfl 152 (.tmp 2) (.tmp 32) rfl rfl (by show (dg _).length = (dg _).length; rw [dg_length, dg_length]) RG.sx RG.sx (by show _ = some (dg _).length; rw [dg_length]; exact i138) (dg_one _), trivial⟩ ?_
    intro a2 w2 M2
    refine wp_ret ?_
    refine bodyPost_ret (v := dv d) (RG.results_row M2.st 2 152 rfl 1 _ rfl (M2.at (s := (.p 1 0))) u138 (by rw [dg_length]; exact i138)) M2.sl.defers ?_
    exact ⟨_, rfl, M2.st.bel.below, by rw [hD]⟩
end Go.Proofs.YtmepmoalhgehhaaGreatDoor
namespace Go.Proofs.YtmepmoalhgehhaaGreatDoor
open Go.RowKit Go.Sort
variable {P : Nat} [NeZero P]
omit [NeZero P] in
theorem tw_length (t : T3 P) : (tw t).length = 12 := rfl
omit [NeZero P] in
theorem tw_one (t : T3 P) : (tw t).all (·.oneCell') = true := rfl
/-- The odd multiples as they are made. -/
def od (x y : Fin P) : Nat → T3 P
  | 0 => raJ x y
  | q + 1 => plJ (od x y q) (twJ (raJ x y))
theorem od_J (C : Fld P) {x y : Fin P} {p : EC.Pt P} (h : EC.Pair x y p) (hp : EC.On p) : ∀ q, JacT (od x y q) (EC.zmul ((2 * q + 1 : Nat) : Int) p)
  | 0 => by
    show JacT (raJ x y) (EC.zmul 1 p)
    rw [EC.zmul_one]
    exact raJ_J C h hp
  | q + 1 => by
    have h1 := od_J C h hp q
    have h2 := (raJ_J C h hp).twice C
    have h3 := h1.plus C h2
    have e : EC.zmul ((2 * (q + 1) + 1 : Nat) : Int) p = EC.add (EC.zmul ((2 * q + 1 : Nat) : Int) p) (EC.add p p) := by
      have : EC.add p p = EC.zmul 2 p := by
        rw [show (2 : Int) = 1 + 1 by rfl, EC.zmul_add C.cur hp, EC.zmul_one]
      rw [this, ← EC.zmul_add C.cur hp]
      congr 1
    rw [e]
    exact h3
/-- A block as fill leaves it, behind m odd multiples. -/
structure Fi (x y : Fin P) (D : Nat → Int) (C0 : List Value) (off m : Nat) (C : List Value) : Prop where
  len : C.length = C0.length
  out : ∀ j, j < off ∨ off + 353 ≤ j → C[j]? = C0[j]?
  dig : ∀ j, j < 257 → C[off + 96 + j]? = some (.int .i8 (D j))
  odd : ∀ q j, q < m → j < 12 → C[off + 12 * q + j]? = (tw (od x y q))[j]?
theorem Fi.first {x y : Fin P} {D : Nat → Int} {C0 : List Value} {off : Nat} (h : off + 353 ≤ C0.length) : Fi x y D C0 off 0 (RG.rep C0 (off + 96) (dg D)) := by
  have hl : off + 96 + (dg D).length ≤ C0.length := by rw [dg_length]; omega
  refine ⟨RG.rep_length hl, fun j hj => ?_, fun j hj => ?_, fun q j hq _ => by omega⟩
  · rw [RG.rep_at hl, if_neg (by rw [dg_length]; omega)]
  · rw [RG.rep_at hl, if_pos (by rw [dg_length]; omega), show off + 96 + j - (off + 96) = j by omega, dg_at D j hj]
theorem Fi.next {x y : Fin P} {D : Nat → Int} {C0 C : List Value} {off m : Nat} (h : off + 353 ≤ C0.length) (hF : Fi x y D C0 off m C) (hm : m < 8) : Fi x y D C0 off (m + 1) (RG.rep C (off + 12 * m) (tw (od x y m))) := by
  have hlen := hF.len
  have hl : off + 12 * m + (tw (od x y m)).length ≤ C.length := by rw [tw_length]; omega
  refine ⟨by rw [RG.rep_length hl]; exact hlen, fun j hj => ?_, fun j hj => ?_, fun q j hq hj => ?_⟩
  · rw [RG.rep_at hl, if_neg (by rw [tw_length]; omega)]
    exact hF.out j hj
  · rw [RG.rep_at hl, if_neg (by rw [tw_length]; omega)]
    exact hF.dig j hj
  · rw [RG.rep_at hl]
    by_cases hqm : q = m
    · subst hqm
      rw [if_pos (by rw [tw_length]; omega), show off + 12 * q + j - (off + 12 * q) = j by omega]
    · rw [if_neg (by rw [tw_length]; omega)]
      exact hF.odd q j (by omega) hj
theorem Fi.sub {x y : Fin P} {D : Nat → Int} {C0 C : List Value} {off m q : Nat} (h : off + 353 ≤ C0.length) (hF : Fi x y D C0 off m C) (hq : q < m) (hm : m ≤ 8) : (C.drop (off + 12 * q)).take (tw (od x y q)).length = tw (od x y q) :=
  RG.sub_of (fun j hj => hF.odd q j hq (by rw [tw_length] at hj; exact hj)) (by rw [tw_length]; have := hF.len; omega)
/-- The block behind fill. -/
def fc (x y : Fin P) (D : Nat → Int) (C0 : List Value) (off : Nat) : Nat → List Value
  | 0 => RG.rep C0 (off + 96) (dg D)
  | m + 1 => RG.rep (fc x y D C0 off m) (off + 12 * m) (tw (od x y m))
theorem fc_Fi {x y : Fin P} {D : Nat → Int} {C0 : List Value} {off : Nat} (h : off + 353 ≤ C0.length) : ∀ m, m ≤ 8 → Fi x y D C0 off m (fc x y D C0 off m)
  | 0, _ => Fi.first h
  | m + 1, hm => (fc_Fi h m (by omega)).next h (by omega)
theorem Fi.uniq {x y : Fin P} {D : Nat → Int} {C0 C C' : List Value} {off : Nat} (h : Fi x y D C0 off 8 C) (h' : Fi x y D C0 off 8 C') : C = C' := by
  apply List.ext_getElem?
  intro j
  by_cases h1 : j < off ∨ off + 353 ≤ j
  · rw [h.out j h1, h'.out j h1]
  · by_cases h2 : j < off + 96
    · have e : j = off + 12 * ((j - off) / 12) + (j - off) % 12 := by omega
      rw [e, h.odd _ _ (by omega) (by omega), h'.odd _ _ (by omega) (by omega)]
    · have e : j = off + 96 + (j - off - 96) := by omega
      rw [e, h.dig _ (by omega), h'.dig _ (by omega)]
end Go.Proofs.YtmepmoalhgehhaaGreatDoor
namespace Go.Proofs.YtmepmoalhgehhaaGreatDoor
open Go.RowKit Go.Sort
variable {P : Nat} [NeZero P]
set_option maxHeartbeats 2000000 in
set_option maxRecDepth 100000 in
theorem fill_c (F : Fld P) {n : Nat} (hn : n < top) (x y : Fin P) (C0 : List Value) (kt off : Nat) (hoff : off + 353 ≤ C0.length) (w : World) (hk : kt < w.heap.size) (ht : w.there kt 0 C0.length) (hr : w.rangeAt kt 0 C0) :
    Calls Tryz.prog 91 #[.pointer (some ⟨kt, off, none⟩), nv n, pv x y] w (Ret fun r w' => (∃ C, Fi x y (digs n) C0 off 8 C ∧ RG.PutTo kt C0.length C w w') ∧ r = .tuple #[]) := by
  obtain ⟨D, hDe⟩ : ∃ D, digs n = D := ⟨_, rfl⟩
  have hD : Gives 116 #[nv n] (dv D) := hDe ▸ digits_c hn
  obtain ⟨s0, hs0e⟩ : ∃ s, raJ x y = s := ⟨_, rfl⟩
  have hs0 : Gives 117 #[pv x y] (tv s0) := hs0e ▸ raJ_c F x y
  obtain ⟨s2, hs2e⟩ : ∃ s, twJ s0 = s := ⟨_, rfl⟩
  have hs2 : Gives 92 #[tv s0] (tv s2) := hs2e ▸ twJ_c F s0
  obtain ⟨C1, hC1e⟩ : ∃ c, RG.rep C0 (off + 96) (dg D) = c := ⟨_, rfl⟩
  have hlD : off + 96 + (dg D).length ≤ C0.length := by rw [dg_length]; omega
  have hC1 := hC1e ▸ RG.rep_at hlD
  have hL1 : C1.length = C0.length := hC1e ▸ RG.rep_length hlD
  have F1 : Fi x y D C0 off 0 C1 := hC1e ▸ Fi.first hoff
  obtain ⟨C2, hC2e⟩ : ∃ c, RG.rep C1 (off + 0 + 12 * 0) (tw s0) = c := ⟨_, rfl⟩
  have hlS : off + 0 + 12 * 0 + (tw s0).length ≤ C1.length := by rw [tw_length]; omega
  have hC2 := hC2e ▸ RG.rep_at hlS
  have hL2 : C2.length = C1.length := hC2e ▸ RG.rep_length hlS
  have F2 : Fi x y D C0 off 1 C2 := by
    have := F1.next hoff (by decide)
    rw [← hC2e, ← hs0e]
    exact this
  have hsub0 : (C2.drop (off + 0 + 12 * 0)).take (tw s0).length = tw s0 := by
    have := F2.sub hoff (q := 0) (by decide) (by decide)
    rw [← hs0e]
    exact this
  obtain ⟨i, hi0⟩ : ∃ i : Nat, i = 0 := ⟨_, rfl⟩
  obtain ⟨s3, -⟩ : ∃ s : T3 P, s = s0 := ⟨_, rfl⟩
  obtain ⟨sp, -⟩ : ∃ s : T3 P, s = s0 := ⟨_, rfl⟩
  go_enter Tryz.func91, Tryz.ntmps91
  refine RG.var3 (v0 := .pointer (some ⟨kt, off, none⟩)) (v1 := nv n) (v2 := pv x y) (n := 43) (by kernel_rfl) (by kernel_rfl) (by kernel_rfl) (by kernel_rfl) (by kernel_rfl) ?_
  intro a0 sl0 f0 f1 f2
  have hS0 := RG.St.lent hk hr ht
  have M0 : RG.M w w.heap.size [kt] 43 [C0] [kt] [(0, (.p 0 off)), (1, (.v (nv n))), (2, (.v (pv x y)))] a0 _ := ⟨hS0, sl0, ⟨f0, f1, f2, trivial⟩⟩
  repeat refine wp_seq ?_
  refine M0.t [.m 4 [] 1, .m 5 [] 2] [(0, (wn n)), (1, (ws x ++ (ws y)))] [] [C0, (wn n), (ws x ++ (ws y))] [(0, (.p 0 off)), (4, (.p 1 0)), (5, (.p 2 0))] ⟨RG.mk 1 45, RG.mk 2 107, trivial⟩ ?_
  intro j1 i1 a1 w1 M1
  have f0_1 : a1.tmps[0]? = some (.pointer (some ⟨kt, off, none⟩)) := M1.at (s := (.p 0 off))
  have f4_1 : a1.tmps[4]? = some (.pointer (some ⟨j1, 0, none⟩)) := M1.at (s := (.p 1 0))
  have f5_1 : a1.tmps[5]? = some (.pointer (some ⟨i1, 0, none⟩)) := M1.at (s := (.p 2 0))
  have M1 : RG.M w w.heap.size [kt] 43 [C0, (wn n), (ws x ++ (ws y))] [kt, j1, i1] [(0, (.p 0 off)), (4, (.p 1 0)), (5, (.p 2 0))] a1 _ := ⟨M1.st, M1.sl, ⟨f0_1, f4_1, f5_1, trivial⟩⟩
  repeat refine wp_seq ?_
  refine M1.tx [.s 8 [] (.p 0 off), .x 9 [] (nv n), .c 10 [(9, 1)] (dv D), .s 11 [(8, 0)] (.p 0 off), .s 12 [(11, 3)] (.p 0 (off + 96)), .u [(12, 4), (10, 2)] 0] [] [(0, 5, C1)] [C1, (wn n), (ws x ++ (ws y))] [(0, (.p 0 off)), (5, (.p 2 0))] (by kernel_rfl) (congrArg (fun n => [n]) hL1) ⟨RG.st, RG.ld u85 i85, RG.cl (hD), RG.st, RG.st, RG.cert_putAt 0 (off + 96) rfl _ rfl 152 (.tmp 12) (.tmp 10) (dg D) rfl rfl RG.sx RG.sx (by show off + 96 + (dg D).length ≤ C0.length; rw [dg_length]; omega) (hC1) (by show _ = some (dg _).length; rw [dg_length]; exact i138) (dg_one _), trivial⟩ ?_
  intro a2 w2 M2
  have f0_2 : a2.tmps[0]? = some (.pointer (some ⟨kt, off, none⟩)) := M2.at (s := (.p 0 off))
  have f5_2 : a2.tmps[5]? = some (.pointer (some ⟨i1, 0, none⟩)) := M2.at (s := (.p 2 0))
  have M2 : RG.M w w.heap.size [kt] 43 [C1, (wn n), (ws x ++ (ws y))] [kt, j1, i1] [(0, (.p 0 off)), (5, (.p 2 0))] a2 _ := ⟨M2.st, M2.sl, ⟨f0_2, f5_2, trivial⟩⟩
  repeat refine wp_seq ?_
  refine M2.dr (by kernel_rfl) [.s 13 [] (.p 0 off), .x 14 [] (pv x y), .c 15 [(14, 1)] (tv s0), .s 16 [(13, 0)] (.p 0 off), .s 17 [(16, 3)] (.p 0 (off + 0)), .s 18 [(17, 4)] (.p 0 ((off + 0) + 12 * 0)), .u [(18, 5), (15, 2)] 0] [] [(0, 6, C2)] [C2, (wn n), (ws x ++ (ws y))] [(0, (.p 0 off))] (by kernel_rfl) (congrArg (fun n => [n]) hL2) ⟨RG.st, RG.ld u109 i109, RG.cl (hs0), RG.st, RG.st, RG.cert_idxc rfl 150 17 (.int .i64 0) rfl (.p 0 (off + 0)) RG.sx (fun μ w => at136 _ _ 0 (by decide) w), RG.cert_putAt 0 ((off + 0) + 12 * 0) rfl _ rfl 149 (.tmp 18) (.tmp 15) (tw s0) rfl rfl RG.sx RG.sx (by show off + 0 + 12 * 0 + (tw s0).length ≤ C1.length; rw [tw_length]; omega) (hC2) i117 (tw_one _), trivial⟩ ?_
  intro a3 w3 M3
  have f0_3 : a3.tmps[0]? = some (.pointer (some ⟨kt, off, none⟩)) := M3.at (s := (.p 0 off))
  have M3 : RG.M w w.heap.size [kt] 43 [C2, (wn n), (ws x ++ (ws y))] [kt, j1, i1] [(0, (.p 0 off))] a3 _ := ⟨M3.st, M3.sl, ⟨f0_3, trivial⟩⟩
  repeat refine wp_seq ?_
  refine M3.t [.s 19 [] (.p 0 off), .s 20 [(19, 0)] (.p 0 off), .s 21 [(20, 1)] (.p 0 (off + 0)), .s 22 [(21, 2)] (.p 0 ((off + 0) + 12 * 0)), .x 23 [(22, 3)] (tv s0), .c 24 [(23, 4)] (tv s2), .m 6 [] 3, .u [(6, 6), (24, 5)] 3] [(6, (RG.z 12))] [(3, 7, (tw s2))] [C2, (wn n), (ws x ++ (ws y)), (tw s2)] [(0, (.p 0 off)), (6, (.p 3 0))] ⟨RG.st, RG.st, RG.st, RG.cert_idxc rfl 150 21 (.int .i64 0) rfl (.p 0 (off + 0)) RG.sx (fun μ w => at136 _ _ 0 (by decide) w), RG.cert_load rfl 0 ((off + 0) + 12 * 0) _ rfl rfl (by kernel_rfl) 149 22 rfl (tw s0) rfl RG.sx (hsub0) u117 i117, RG.cl (hs2), RG.mk 3 149, RG.pt i117, trivial⟩ ?_
  intro j4 a4 w4 M4
  repeat refine wp_seq ?_
  refine M4.u [.x 7 [] (.int .i64 1)] [(0, (.p 0 off)), (6, (.p 3 0)), (7, (.v (.int .i64 1)))] ⟨RG.st, trivial⟩ ?_
  intro a5 w5 M5
  have f0_5 : a5.tmps[0]? = some (.pointer (some ⟨kt, off, none⟩)) := M5.at (s := (.p 0 off))
  have f6_5 : a5.tmps[6]? = some (.pointer (some ⟨j4, 0, none⟩)) := M5.at (s := (.p 3 0))
  have f7_5 : a5.tmps[7]? = some (.int .i64 1) := M5.at (s := (.v (.int .i64 1)))
  subst hDe
  subst hs0e
  subst hs2e
  clear hC1 hC2 hsub0 hL1 hL2 hlD hlS
  repeat refine wp_seq ?_
  refine wp_block ?_
  refine wp_loop_ghost (fun m a wr => ∃ (i : Nat) (C : List Value), 1 ≤ i ∧ i ≤ 8 ∧ i + m = 8 ∧ Fi x y (digs n) C0 off i C ∧ RG.Sl a 43 ∧ a.tmps[0]? = some (.pointer (some ⟨kt, off, none⟩)) ∧ a.tmps[6]? = some (.pointer (some ⟨j4, 0, none⟩)) ∧ a.tmps[7]? = some (.int .i64 (i : Int)) ∧ RG.St w w.heap.size [kt] [C, wn n, ws x ++ ws y, tw (twJ (raJ x y))] [kt, j1, i1, j4] wr) 7 ⟨1, C2, by omega, by omega, by omega, F2, M5.sl, f0_5, f6_5, f7_5, M5.st⟩ ?_
  intro m a wr
  rintro ⟨i, C1, hi1, hi8, hm, hF, sl, g0, g6, g7, hS⟩
  generalize j1 = k1 at g6 hS
  generalize i1 = k2 at g6 hS
  generalize j4 = k3 at g6 hS
  obtain ⟨D, hDe⟩ : ∃ D, digs n = D := ⟨_, rfl⟩
  rw [hDe] at hF
  obtain ⟨s0, hs0e⟩ : ∃ s, raJ x y = s := ⟨_, rfl⟩
  obtain ⟨s2, hs2e⟩ : ∃ s, twJ (raJ x y) = s := ⟨_, rfl⟩
  rw [hs2e] at hS
  obtain ⟨sp, hspe⟩ : ∃ s, od x y (i - 1) = s := ⟨_, rfl⟩
  obtain ⟨s3, hs3e⟩ : ∃ s, plJ sp s2 = s := ⟨_, rfl⟩
  have hs3 : Gives 93 #[tv sp, tv s2] (tv s3) := hs3e ▸ plJ_c F sp s2
  have hlen := hF.len
  by_cases hi : i < 8
  · have hod : od x y i = s3 := by
      obtain ⟨q, rfl⟩ : ∃ q, i = q + 1 := ⟨i - 1, by omega⟩
      rw [← hs3e, ← hspe, ← hs2e]
      rfl
    have hsubp : (C1.drop (off + 0 + 12 * (i - 1))).take (tw sp).length = tw sp := by
      have := hF.sub hoff (q := i - 1) (by omega) (by omega)
      rw [hspe] at this
      exact this
    obtain ⟨C2, hC2e⟩ : ∃ c, RG.rep C1 (off + 0 + 12 * i) (tw s3) = c := ⟨_, rfl⟩
    have hlS : off + 0 + 12 * i + (tw s3).length ≤ C1.length := by rw [tw_length]; omega
    have hC2 := hC2e ▸ RG.rep_at hlS
    have hL2 : C2.length = C1.length := hC2e ▸ RG.rep_length hlS
    have hF2 : Fi x y D C0 off (i + 1) C2 := by
      have := hF.next hoff hi
      rw [hod] at this
      rw [← hC2e]
      exact this
    have hsb : ∀ w, (binOp .sub 3 (.int .i64 (i : Int)) (.int .i64 1)).run Tryz.prog w = .ok (.int .i64 ((i - 1 : Nat) : Int)) w := fun w => by
      rw [sub64i _ _ (by omega) (by omega), show (i : Int) - 1 = ((i - 1 : Nat) : Int) by omega]
    clear hs0e hC2e
    have M0 : RG.M w w.heap.size [kt] 43 [C1, (wn n), (ws x ++ (ws y)), (tw s2)] [kt, k1, k2, k3] [(0, (.p 0 off)), (6, (.p 3 0)), (7, (.v (.int .i64 (i : Int))))] a _ := ⟨hS, sl, ⟨g0, g6, g7, trivial⟩⟩
    repeat refine wp_seq ?_
    refine M0.u [.x 25 [] (.int .i64 (i : Int)), .x 26 [(25, 0)] (.bool true)] [(0, (.p 0 off)), (6, (.p 3 0)), (7, (.v (.int .i64 (i : Int)))), (26, (.v (.bool true)))] ⟨RG.st, RG.cert_binc rfl .lss 3 3 25 (.int .i64 (i : Int)) (.int .i64 8) (.bool true) rfl rfl RG.sx (fun w => by kernel_rfl) (lssn_t (n := 8) hi), trivial⟩ ?_
    intro a1 w1 M1
    repeat refine wp_seq ?_
    refine wp_cond_true M1.ev ?_
    refine wp_skip ?_
    refine wp_seq ?_
    refine wp_block ?_
    repeat refine wp_seq ?_
    refine M1.dr (by kernel_rfl) [.s 29 [] (.p 0 off), .x 30 [] (.int .i64 (i : Int)), .s 31 [] (.p 0 off), .x 32 [] (.int .i64 (i : Int)), .x 33 [(32, 3)] (.int .i64 ((i - 1 : Nat) : Int)), .s 34 [(31, 2)] (.p 0 off), .s 35 [(34, 5)] (.p 0 (off + 0)), .s 36 [(35, 6), (33, 4)] (.p 0 ((off + 0) + 12 * (i - 1))), .x 37 [(36, 7)] (tv sp), .x 38 [] (tv s2), .c 39 [(37, 8), (38, 9)] (tv s3), .s 40 [(29, 0)] (.p 0 off), .s 41 [(40, 11)] (.p 0 (off + 0)), .s 42 [(41, 12), (30, 1)] (.p 0 ((off + 0) + 12 * i)), .u [(42, 13), (39, 10)] 0] [] [(0, 14, C2)] [C2, (wn n), (ws x ++ (ws y)), (tw s2)] [(0, (.p 0 off)), (6, (.p 3 0)), (7, (.v (.int .i64 (i : Int))))] (by kernel_rfl) (congrArg (fun n => [n]) hL2) ⟨RG.st, RG.st, RG.st, RG.st, RG.cert_binc rfl .sub 3 3 32 (.int .i64 (i : Int)) (.int .i64 1) (.int .i64 ((i - 1 : Nat) : Int)) rfl rfl RG.sx (fun w => by kernel_rfl) (hsb), RG.st, RG.st, RG.cert_idx rfl 150 35 33 rfl (.p 0 (off + 0)) (.int .i64 ((i - 1 : Nat) : Int)) RG.sx RG.sx (fun μ w => at136 _ _ (i - 1) (by omega) w), RG.cert_load rfl 0 ((off + 0) + 12 * (i - 1)) _ rfl rfl (by kernel_rfl) 149 36 rfl (tw sp) rfl RG.sx (hsubp) u117 i117, RG.ld u117 i117, RG.cl (hs3), RG.st, RG.st, RG.cert_idx rfl 150 41 30 rfl (.p 0 (off + 0)) (.int .i64 (i : Int)) RG.sx RG.sx (fun μ w => at136 _ _ i (by omega) w), RG.cert_putAt 0 ((off + 0) + 12 * i) rfl _ rfl 149 (.tmp 42) (.tmp 39) (tw s3) rfl rfl RG.sx RG.sx (by show off + 0 + 12 * i + (tw s3).length ≤ C1.length; rw [tw_length]; omega) (hC2) i117 (tw_one _), trivial⟩ ?_
    intro a2 w2 M2
    repeat refine wp_seq ?_
    refine M2.u [.x 27 [] (.int .i64 (i : Int)), .x 28 [(27, 0)] (.int .i64 ((i + 1 : Nat) : Int)), .x 7 [(28, 1)] (.int .i64 ((i + 1 : Nat) : Int))] [(0, (.p 0 off)), (6, (.p 3 0)), (7, (.v (.int .i64 ((i + 1 : Nat) : Int))))] ⟨RG.st, RG.cert_binc rfl .add 3 3 27 (.int .i64 (i : Int)) (.int .i64 1) (.int .i64 ((i + 1 : Nat) : Int)) rfl rfl RG.sx (fun w => by kernel_rfl) (addn i 1 (by omega) (by omega)), RG.st, trivial⟩ ?_
    intro a3 w3 M3
    have f0_3 : a3.tmps[0]? = some (.pointer (some ⟨kt, off, none⟩)) := M3.at (s := (.p 0 off))
    have f6_3 : a3.tmps[6]? = some (.pointer (some ⟨k3, 0, none⟩)) := M3.at (s := (.p 3 0))
    have f7_3 : a3.tmps[7]? = some (.int .i64 ((i + 1 : Nat) : Int)) := M3.at (s := (.v (.int .i64 ((i + 1 : Nat) : Int))))
    show ∃ n', _
    exact ⟨m - 1, by omega, i + 1, C2, by omega, by omega, by omega, hDe.symm ▸ hF2, M3.sl, f0_3, f6_3, f7_3, by rw [hs2e]; exact M3.st⟩
  · have hi9 : i = 8 := by omega
    obtain ⟨C2, -⟩ : ∃ c : List Value, c = C1 := ⟨_, rfl⟩
    have M0 : RG.M w w.heap.size [kt] 43 [C1, (wn n), (ws x ++ (ws y)), (tw s2)] [kt, k1, k2, k3] [(0, (.p 0 off)), (6, (.p 3 0)), (7, (.v (.int .i64 (i : Int))))] a _ := ⟨hS, sl, ⟨g0, g6, g7, trivial⟩⟩
    repeat refine wp_seq ?_
    refine M0.u [.x 25 [] (.int .i64 (i : Int)), .x 26 [(25, 0)] (.bool false)] [(0, (.p 0 off)), (6, (.p 3 0)), (7, (.v (.int .i64 (i : Int)))), (26, (.v (.bool false)))] ⟨RG.st, RG.cert_binc rfl .lss 3 3 25 (.int .i64 (i : Int)) (.int .i64 8) (.bool false) rfl rfl RG.sx (fun w => by kernel_rfl) (lssn_f (n := 8) hi), trivial⟩ ?_
    intro a1 w1 M1
    repeat refine wp_seq ?_
    refine wp_cond_false M1.ev ?_
    refine wp_exit ?_
    dsimp only [Exit.then, Exit.inBlock]
    rw [if_pos rfl]
    have f0_1 : a1.tmps[0]? = some (.pointer (some ⟨kt, off, none⟩)) := M1.at (s := (.p 0 off))
    have f6_1 : a1.tmps[6]? = some (.pointer (some ⟨k3, 0, none⟩)) := M1.at (s := (.p 3 0))
    have f7_1 : a1.tmps[7]? = some (.int .i64 (i : Int)) := M1.at (s := (.v (.int .i64 (i : Int))))
    exact ⟨M1.sl.defers, .tuple #[], RG.results_none rfl, _, rfl, ⟨C1, hDe.symm ▸ hi9 ▸ hF, M1.st.putTo hF.len⟩, rfl⟩
end Go.Proofs.YtmepmoalhgehhaaGreatDoor
namespace Go.Proofs.YtmepmoalhgehhaaGreatDoor
open Go.RowKit Go.Sort
variable {P : Nat} [NeZero P]
set_option maxHeartbeats 2000000 in
set_option maxRecDepth 100000 in
theorem times_n (F : Fld P) (kt o k : Nat) (hq : k < 8) (s : T3 P) (w : World) (hk : kt < w.heap.size) (hr : w.rangeAt kt (o + 0 + 12 * k) (tw s)) : Calls Tryz.prog 94 #[(.pointer (some ⟨kt, o, none⟩)), (.int .i8 (-(2 * (k : Int) + 1)))] w (Ret fun e w' => Below w.heap.size w w' ∧ e = tv (opJ s)) := by
  obtain ⟨s2, hs2e⟩ : ∃ s2, opJ s = s2 := ⟨_, rfl⟩
  have hs2 : Gives 123 #[tv s] (tv s2) := hs2e ▸ opJ_c F s
  have hlss : ∀ w, (binOp .lss 151 (.int .i8 (-(2 * (k : Int) + 1))) (.int .i8 0)).run Tryz.prog w = .ok (.bool true) w := fun w => by
    have h1 : -(2 * (k : Int) + 1) < 0 := by omega
    go_simp
    try omega
  have hneg : ∀ w, (Op.unary .neg (.int .i8 (-(2 * (k : Int) + 1)))).run Tryz.prog w = .ok (.int .i8 (2 * (k : Int) + 1)) w := fun w => by
    rw [i8neg _ (by omega), Int.neg_neg]
  go_enter Tryz.func94, Tryz.ntmps94
  refine RG.var2 (v0 := (.pointer (some ⟨kt, o, none⟩))) (v1 := (.int .i8 (-(2 * (k : Int) + 1)))) (n := 23) (by kernel_rfl) (by kernel_rfl) (by kernel_rfl) (by kernel_rfl) ?_
  intro a0 sl0 f0 f1
  have hS0 := RG.St.begin w
  have M0 : RG.M w w.heap.size [] 23 [] [] [(0, (.v (.pointer (some ⟨kt, o, none⟩)))), (1, (.v (.int .i8 (-(2 * (k : Int) + 1)))))] a0 _ := ⟨hS0, sl0, ⟨f0, f1, trivial⟩⟩
  repeat refine wp_seq ?_
  refine M0.t [.m 4 [] 0] [(0, (RG.z 12))] [] [(RG.z 12)] [(0, (.v (.pointer (some ⟨kt, o, none⟩)))), (1, (.v (.int .i8 (-(2 * (k : Int) + 1))))), (4, (.p 0 0))] ⟨RG.mk 0 149, trivial⟩ ?_
  intro j1 a1 w1 M1
  repeat refine wp_seq ?_
  refine M1.u [.x 5 [] (.int .i8 (-(2 * (k : Int) + 1))), .x 6 [(5, 0)] (.bool true)] [(0, (.v (.pointer (some ⟨kt, o, none⟩)))), (1, (.v (.int .i8 (-(2 * (k : Int) + 1))))), (4, (.p 0 0)), (6, (.v (.bool true)))] ⟨RG.st, RG.cert_binc rfl .lss 151 151 5 (.int .i8 (-(2 * (k : Int) + 1))) (.int .i8 0) (.bool true) rfl rfl RG.sx (fun w => by kernel_rfl) (hlss), trivial⟩ ?_
  intro a2 w2 M2
  repeat refine wp_seq ?_
  refine wp_cond_true M2.ev ?_
  repeat refine wp_seq ?_
  refine M2.t [.x 7 [] (.pointer (some ⟨kt, o, none⟩)), .x 8 [] (.int .i8 (-(2 * (k : Int) + 1))), .x 9 [(8, 1)] (.int .i8 (2 * (k : Int) + 1)), .x 10 [(9, 2)] (.int .i8 (k : Int)), .x 11 [(7, 0)] (.pointer (some ⟨kt, o, none⟩)), .x 12 [(11, 4)] (.pointer (some ⟨kt, (o + 0), none⟩)), .x 13 [(12, 5), (10, 3)] (.pointer (some ⟨kt, ((o + 0) + 12 * k), none⟩)), .x 14 [(13, 6)] (tv s), .c 15 [(14, 7)] (tv s2), .u [(15, 8)] 0] [] [(0, 9, (tw s2))] [(tw s2)] [(4, (.p 0 0))] ⟨RG.st, RG.st, RG.cert_un rfl .neg 151 8 (.int .i8 (-(2 * (k : Int) + 1))) (.int .i8 (2 * (k : Int) + 1)) rfl rfl RG.sx (hneg), RG.cert_binc rfl .quo 151 151 9 (.int .i8 (2 * (k : Int) + 1)) (.int .i8 2) (.int .i8 (k : Int)) rfl rfl RG.sx (fun w => by kernel_rfl) (i8quo k hq), RG.st, RG.st, RG.cert_idx rfl 150 12 10 rfl (.v (.pointer (some ⟨kt, (o + 0), none⟩))) (.int .i8 (k : Int)) RG.sx RG.sx (fun μ w => at136b _ _ k hq w), RG.cert_loadB rfl kt ((o + 0) + 12 * k) hk List.not_mem_nil 149 13 rfl (tw s) rfl RG.sx hr u117 i117, RG.cl (hs2), RG.pt i117, trivial⟩ ?_
  intro a3 w3 M3
  refine wp_ret ?_
  refine bodyPost_ret (v := tv s2) (RG.results_row M3.st 4 149 rfl 0 _ rfl (M3.at (s := (.p 0 0))) u117 i117) M3.sl.defers ?_
  exact ⟨_, rfl, M3.st.bel.below, by rw [hs2e]⟩
set_option maxHeartbeats 2000000 in
set_option maxRecDepth 100000 in
theorem times_p (F : Fld P) (kt o k : Nat) (hq : k < 8) (s : T3 P) (w : World) (hk : kt < w.heap.size) (hr : w.rangeAt kt (o + 0 + 12 * k) (tw s)) : Calls Tryz.prog 94 #[(.pointer (some ⟨kt, o, none⟩)), (.int .i8 (2 * (k : Int) + 1))] w (Ret fun e w' => Below w.heap.size w w' ∧ e = tv s) := by
  obtain ⟨s2, hs2e⟩ : ∃ s2, opJ s = s2 := ⟨_, rfl⟩
  have hs2 : Gives 123 #[tv s] (tv s2) := hs2e ▸ opJ_c F s
  have hlss : ∀ w, (binOp .lss 151 (.int .i8 (2 * (k : Int) + 1)) (.int .i8 0)).run Tryz.prog w = .ok (.bool false) w := fun w => by
    have h1 : ¬ 2 * (k : Int) + 1 < 0 := by omega
    go_simp
    try omega
  have hneg : ∀ w, (Op.unary .neg (.int .i8 (-(2 * (k : Int) + 1)))).run Tryz.prog w = .ok (.int .i8 (2 * (k : Int) + 1)) w := fun w => by
    rw [i8neg _ (by omega), Int.neg_neg]
  go_enter Tryz.func94, Tryz.ntmps94
  refine RG.var2 (v0 := (.pointer (some ⟨kt, o, none⟩))) (v1 := (.int .i8 (2 * (k : Int) + 1))) (n := 23) (by kernel_rfl) (by kernel_rfl) (by kernel_rfl) (by kernel_rfl) ?_
  intro a0 sl0 f0 f1
  have hS0 := RG.St.begin w
  have M0 : RG.M w w.heap.size [] 23 [] [] [(0, (.v (.pointer (some ⟨kt, o, none⟩)))), (1, (.v (.int .i8 (2 * (k : Int) + 1))))] a0 _ := ⟨hS0, sl0, ⟨f0, f1, trivial⟩⟩
  repeat refine wp_seq ?_
  refine M0.t [.m 4 [] 0] [(0, (RG.z 12))] [] [(RG.z 12)] [(0, (.v (.pointer (some ⟨kt, o, none⟩)))), (1, (.v (.int .i8 (2 * (k : Int) + 1)))), (4, (.p 0 0))] ⟨RG.mk 0 149, trivial⟩ ?_
  intro j1 a1 w1 M1
  repeat refine wp_seq ?_
  refine M1.u [.x 5 [] (.int .i8 (2 * (k : Int) + 1)), .x 6 [(5, 0)] (.bool false)] [(0, (.v (.pointer (some ⟨kt, o, none⟩)))), (1, (.v (.int .i8 (2 * (k : Int) + 1)))), (4, (.p 0 0)), (6, (.v (.bool false)))] ⟨RG.st, RG.cert_binc rfl .lss 151 151 5 (.int .i8 (2 * (k : Int) + 1)) (.int .i8 0) (.bool false) rfl rfl RG.sx (fun w => by kernel_rfl) (hlss), trivial⟩ ?_
  intro a2 w2 M2
  repeat refine wp_seq ?_
  refine wp_cond_false M2.ev ?_
  refine wp_skip ?_
  repeat refine wp_seq ?_
  refine M2.t [.x 16 [] (.pointer (some ⟨kt, o, none⟩)), .x 17 [] (.int .i8 (2 * (k : Int) + 1)), .x 18 [(17, 1)] (.int .i8 (k : Int)), .x 19 [(16, 0)] (.pointer (some ⟨kt, o, none⟩)), .x 20 [(19, 3)] (.pointer (some ⟨kt, (o + 0), none⟩)), .x 21 [(20, 4), (18, 2)] (.pointer (some ⟨kt, ((o + 0) + 12 * k), none⟩)), .x 22 [(21, 5)] (tv s), .u [(22, 6)] 0] [] [(0, 7, (tw s))] [(tw s)] [(4, (.p 0 0))] ⟨RG.st, RG.st, RG.cert_binc rfl .quo 151 151 17 (.int .i8 (2 * (k : Int) + 1)) (.int .i8 2) (.int .i8 (k : Int)) rfl rfl RG.sx (fun w => by kernel_rfl) (i8quo k hq), RG.st, RG.st, RG.cert_idx rfl 150 20 18 rfl (.v (.pointer (some ⟨kt, (o + 0), none⟩))) (.int .i8 (k : Int)) RG.sx RG.sx (fun μ w => at136b _ _ k hq w), RG.cert_loadB rfl kt ((o + 0) + 12 * k) hk List.not_mem_nil 149 21 rfl (tw s) rfl RG.sx hr u117 i117, RG.pt i117, trivial⟩ ?_
  intro a3 w3 M3
  refine wp_ret ?_
  refine bodyPost_ret (v := tv s) (RG.results_row M3.st 4 149 rfl 0 _ rfl (M3.at (s := (.p 0 0))) u117 i117) M3.sl.defers ?_
  exact ⟨_, rfl, M3.st.bel.below, rfl⟩
end Go.Proofs.YtmepmoalhgehhaaGreatDoor
namespace Go.Proofs.YtmepmoalhgehhaaGreatDoor
open Go.RowKit Go.Sort
variable {P : Nat} [NeZero P]
/-- A term times a digit. -/
def tmJ (x y : Fin P) (d : Int) : T3 P := if d < 0 then opJ (od x y ((-d).toNat / 2)) else od x y (d.toNat / 2)
theorem tmJ_J (C : Fld P) {x y : Fin P} {p : EC.Pt P} (h : EC.Pair x y p) (hp : EC.On p) {d : Int} (hd : d % 2 = 1) : JacT (tmJ x y d) (EC.zmul d p) := by
  unfold tmJ
  by_cases hn : d < 0
  · rw [if_pos hn]
    have h1 := (od_J C h hp ((-d).toNat / 2)).neg
    rw [← EC.zmul_neg C.cur hp] at h1
    rw [show -((2 * ((-d).toNat / 2) + 1 : Nat) : Int) = d by omega] at h1
    exact h1
  · rw [if_neg hn]
    have h1 := od_J C h hp (d.toNat / 2)
    rw [show ((2 * (d.toNat / 2) + 1 : Nat) : Int) = d by omega] at h1
    exact h1
/-- What a place adds, of i terms. -/
def inn (ns : Nat → Nat) (xs ys : Nat → Fin P) (st : T3 P) (place : Nat) : Nat → T3 P
  | 0 => st
  | i + 1 => if digs (ns i) place = 0 then inn ns xs ys st place i else plJ (inn ns xs ys st place i) (tmJ (xs i) (ys i) (digs (ns i) place))
/-- The sum behind m places. -/
def sumJ (ns : Nat → Nat) (xs ys : Nat → Fin P) (N : Nat) : Nat → T3 P
  | 0 => (0, 0, 0)
  | m + 1 => inn ns xs ys (twJ (sumJ ns xs ys N m)) (256 - m) N
theorem inn_J (C : Fld P) {ns : Nat → Nat} {xs ys : Nat → Fin P} {p : Nat → EC.Pt P} {N : Nat} (hns : ∀ i, i < N → ns i < 2 ^ 256) (hp : ∀ i, i < N → EC.Pair (xs i) (ys i) (p i)) (ho : ∀ i, i < N → EC.On (p i)) {st : T3 P} {g : Nat → Int} {place : Nat}
    (h : JacT st (EC.tot p N g)) : ∀ i, i ≤ N → JacT (inn ns xs ys st place i) (EC.tot p N (fun j => if j < i then g j + digs (ns j) place else g j))
  | 0, _ => by
    have : EC.tot p N (fun j => if j < 0 then g j + digs (ns j) place else g j) = EC.tot p N g := EC.tot_congr N fun j _ => if_neg (by omega)
    rw [this]
    exact h
  | i + 1, hi => by
    have ih := inn_J C hns hp ho (place := place) h i (by omega)
    have e : EC.tot p N (fun j => if j < i + 1 then g j + digs (ns j) place else g j) = EC.add (EC.tot p N (fun j => if j < i then g j + digs (ns j) place else g j)) (EC.zmul (digs (ns i) place) (p i)) := by
      rw [← EC.tot_upd C.cur _ i (digs (ns i) place) N (by omega) ho]
      refine EC.tot_congr N fun j _ => ?_
      by_cases h1 : j = i
      · subst h1
        rw [if_pos (by omega), if_pos rfl, if_neg (by omega)]
      · rw [if_neg h1]
        by_cases h2 : j < i
        · rw [if_pos (by omega), if_pos h2]
        · rw [if_neg (by omega), if_neg h2]
    rw [e]
    unfold inn
    by_cases hz : digs (ns i) place = 0
    · rw [if_pos hz, hz, EC.zmul_zero, EC.add_none]
      exact ih
    · rw [if_neg hz]
      obtain ⟨q, c, -, hD⟩ := digs_DI (hns i (by omega))
      rcases hD.ho place with h1 | h1
      · exact absurd h1 hz
      · exact ih.plus C (tmJ_J C (hp i (by omega)) (ho i (by omega)) h1.1)
theorem sumJ_J (C : Fld P) {ns : Nat → Nat} {xs ys : Nat → Fin P} {p : Nat → EC.Pt P} {N : Nat} (hns : ∀ i, i < N → ns i < 2 ^ 256) (hp : ∀ i, i < N → EC.Pair (xs i) (ys i) (p i)) (ho : ∀ i, i < N → EC.On (p i)) :
    ∀ m, m ≤ 257 → JacT (sumJ ns xs ys N m) (EC.tot p N (fun j => DG.hor (digs (ns j)) m))
  | 0, _ => by
    rw [show EC.tot p N (fun j => DG.hor (digs (ns j)) 0) = .none from EC.tot_zero p N (fun _ _ => rfl)]
    exact JacT.none
  | m + 1, hm => by
    have ih := (sumJ_J C hns hp ho m (by omega)).twice C
    rw [← EC.tot_twice C.cur _ N ho] at ih
    have h1 := inn_J C hns hp ho (place := 256 - m) ih N (Nat.le_refl _)
    have e : EC.tot p N (fun j => DG.hor (digs (ns j)) (m + 1)) = EC.tot p N (fun j => if j < N then 2 * DG.hor (digs (ns j)) m + digs (ns j) (256 - m) else 2 * DG.hor (digs (ns j)) m) :=
      EC.tot_congr N fun j hj => by rw [if_pos hj]; rfl
    rw [e]
    exact h1
theorem sumJ_all (C : Fld P) {ns : Nat → Nat} {xs ys : Nat → Fin P} {p : Nat → EC.Pt P} {N : Nat} (hns : ∀ i, i < N → ns i < 2 ^ 256) (hp : ∀ i, i < N → EC.Pair (xs i) (ys i) (p i)) (ho : ∀ i, i < N → EC.On (p i)) :
    JacT (sumJ ns xs ys N 257) (EC.tot p N (fun j => (ns j : Int))) := by
  have h := sumJ_J C hns hp ho 257 (Nat.le_refl _)
  have e : EC.tot p N (fun j => (ns j : Int)) = EC.tot p N (fun j => DG.hor (digs (ns j)) 257) := EC.tot_congr N fun j hj => by
    obtain ⟨q, c, hq, hD⟩ := digs_DI (hns j hj)
    exact (DG.hor_all hD hq).symm
  rw [e]
  exact h
/-- The block of terms, i of them filled. -/
def cc (ns : Nat → Nat) (xs ys : Nat → Fin P) (C0 : List Value) : Nat → List Value
  | 0 => C0
  | i + 1 => fc (xs i) (ys i) (digs (ns i)) (cc ns xs ys C0 i) (353 * i) 8
theorem cc_at {ns : Nat → Nat} {xs ys : Nat → Fin P} {C0 : List Value} {N : Nat} (hl : C0.length = 353 * N) : ∀ i, i ≤ N → (cc ns xs ys C0 i).length = 353 * N ∧
    ∀ j, j < i → (∀ q, q < 257 → (cc ns xs ys C0 i)[353 * j + 96 + q]? = some (.int .i8 (digs (ns j) q))) ∧ ∀ q r, q < 8 → r < 12 → (cc ns xs ys C0 i)[353 * j + 12 * q + r]? = (tw (od (xs j) (ys j) q))[r]?
  | 0, _ => ⟨hl, fun j hj => by omega⟩
  | i + 1, hi => by
    obtain ⟨h1, h2⟩ := cc_at hl i (by omega)
    have hF := fc_Fi (x := xs i) (y := ys i) (D := digs (ns i)) (C0 := cc ns xs ys C0 i) (off := 353 * i) (by rw [h1]; omega) 8 (Nat.le_refl _)
    refine ⟨by rw [← h1]; exact hF.len, fun j hj => ?_⟩
    by_cases hji : j = i
    · subst hji
      exact ⟨hF.dig, fun q r hq hr => hF.odd q r hq hr⟩
    · obtain ⟨g1, g2⟩ := h2 j (by omega)
      exact ⟨fun q hq => (hF.out _ (by omega)).trans (g1 q hq), fun q r hq hr => (hF.out _ (by omega)).trans (g2 q r hq hr)⟩
theorem mk135 (N : Nat) (hN : N ≤ 512) : ∃ C0 : List Value, C0.length = 353 * N ∧ ∀ w : World, (Instr.makeSlice 146 (.int .i64 (N : Int)) (.int .i64 (N : Int))).run Tryz.prog w = .ok (.slice (some ⟨w.heap.size, 0, none⟩) N N) (w.alloc (.cells C0.toArray 154)) := by
  have hu : Tryz.prog.underlying 146 = some (.slice 154) := by kernel_rfl
  have hi : (Tryz.prog.info? 154).map (fun i => (i.size, decide (i.bytes ≤ 4000), i.zero.isSome)) = some (353, true, true) := by kernel_rfl
  obtain ⟨i, hi1, hi2⟩ := Option.map_eq_some_iff.1 hi
  simp only [Prod.mk.injEq, decide_eq_true_eq] at hi2
  obtain ⟨h1, h2, h3⟩ := hi2
  obtain ⟨z, hz⟩ := Option.isSome_iff_exists.1 h3
  refine ⟨(madeCells z.cells (N * 353)).toList, by rw [Array.length_toList, size_madeCells, Nat.mul_comm], fun w => ?_⟩
  have hb : (i.bytes : Int) * (N : Int) ≤ 281474976710656 := by
    have : i.bytes * N ≤ 4000 * 512 := Nat.mul_le_mul h2 hN
    have h5 : ((i.bytes * N : Nat) : Int) ≤ 281474976710656 := by omega
    rwa [Int.natCast_mul] at h5
  have := run_make (P := Tryz.prog) w 146 154 i z hu hi1 hz .i64 .i64 (N : Int) (N : Int) (by omega) (by omega) hb (by omega)
  rw [Int.toNat_natCast, h1] at this
  rw [Array.toArray_toList]
  exact this
/-- Fill, as a call that writes into a block. -/
theorem fill_put (F : Fld P) {n : Nat} (hn : n < top) (x y : Fin P) (C0 : List Value) (kt off : Nat) (hoff : off + 353 ≤ C0.length) (w : World) (ht : w.there kt 0 C0.length) (hr : w.rangeAt kt 0 C0) :
    Calls Tryz.prog 91 #[.pointer (some ⟨kt, off, none⟩), nv n, pv x y] w (Ret fun r w' => RG.PutTo kt C0.length (fc x y (digs n) C0 off 8) w w' ∧ r = .tuple #[]) := by
  have hk : kt < w.heap.size := by
    have h1 := (ht 0 (by omega)).1
    exact Classical.byContradiction fun hn => by
      have h2 : w.heap[kt]? = none := Array.getElem?_eq_none (by omega)
      simp [World.cell?, h2] at h1
  refine (fill_c F hn x y C0 kt off hoff w hk ht hr).mono ?_
  rintro e w' ⟨v, rfl, ⟨C, hF, hP⟩, rfl⟩
  refine ⟨_, rfl, ?_, rfl⟩
  rw [(fc_Fi hoff 8 (Nat.le_refl _)).uniq hF]
  exact hP
/-- Times, at a digit. -/
theorem times_d (F : Fld P) (kt o : Nat) (x y : Fin P) {d : Int} (hd : d % 2 = 1) (hd2 : -15 ≤ d ∧ d ≤ 15) (w : World) (hk : kt < w.heap.size) (hr : ∀ q, q < 8 → w.rangeAt kt (o + 0 + 12 * q) (tw (od x y q))) :
    Calls Tryz.prog 94 #[.pointer (some ⟨kt, o, none⟩), .int .i8 d] w (Ret fun e w' => Below w.heap.size w w' ∧ e = tv (tmJ x y d)) := by
  unfold tmJ
  by_cases hn : d < 0
  · rw [if_pos hn]
    have h1 := times_n F kt o ((-d).toNat / 2) (by omega) (od x y ((-d).toNat / 2)) w hk (hr _ (by omega))
    rw [show -(2 * (((-d).toNat / 2 : Nat) : Int) + 1) = d by omega] at h1
    exact h1
  · rw [if_neg hn]
    have h1 := times_p F kt o (d.toNat / 2) (by omega) (od x y (d.toNat / 2)) w hk (hr _ (by omega))
    rw [show 2 * ((d.toNat / 2 : Nat) : Int) + 1 = d by omega] at h1
    exact h1
end Go.Proofs.YtmepmoalhgehhaaGreatDoor
namespace Go.Proofs.YtmepmoalhgehhaaGreatDoor
open Go.RowKit Go.Sort
variable {P : Nat} [NeZero P]
theorem al117 {P : Nat} [NeZero P] (w : World) : (Instr.alloc 149 true (.tuple #[])).run Tryz.prog w = .ok (.pointer (some ⟨w.heap.size, 0, none⟩)) (w.alloc (.cells (tw ((0, 0, 0) : T3 P)).toArray 149)) := by
  show _ = Result.ok _ (w.alloc (.cells (ws (0 : Fin P) ++ (ws (0 : Fin P) ++ ws (0 : Fin P))).toArray 149))
  rw [← ws_zero]
  kernel_rfl
theorem ne8_f (w : World) : (binOp .neq 151 (.int .i8 0) (.int .i8 0)).run Tryz.prog w = .ok (.bool false) w := by kernel_rfl
theorem ne8_t {d : Int} (h : ¬ d = 0) (w : World) : (binOp .neq 151 (.int .i8 d) (.int .i8 0)).run Tryz.prog w = .ok (.bool true) w := by
  go_simp
theorem sub1' (q : Nat) (hq : q < 1000) (w : World) : (binOp .sub 3 (.int .i64 (q : Int)) (.int .i64 1)).run Tryz.prog w = .ok (.int .i64 ((q : Int) - 1)) w := sub64i _ _ (by omega) (by omega) w
theorem geq0' (i : Nat) (w : World) : (binOp .geq 3 (.int .i64 (i : Int)) (.int .i64 0)).run Tryz.prog w = .ok (.bool true) w := by
  go_simp
set_option maxHeartbeats 4000000 in
set_option maxRecDepth 100000 in
theorem sums_c (F : Fld P) (N : Nat) (hN : N ≤ 512) (ns : Nat → Nat) (xs ys : Nat → Fin P) (hns : ∀ i, i < N → ns i < top) (kn ka : Nat) (w : World) (hkn : kn < w.heap.size) (hka : ka < w.heap.size)
    (hn : ∀ i, i < N → w.rangeAt kn (4 * i) (wn (ns i))) (ha : ∀ i, i < N → w.rangeAt ka (8 * i) (ws (xs i) ++ ws (ys i))) :
    Calls Tryz.prog 67 #[(.slice (some ⟨kn, 0, none⟩) N N), (.slice (some ⟨ka, 0, none⟩) N N)] w (Ret fun e w' => Below w.heap.size w w' ∧ ∃ s, s = sumJ ns xs ys N 257 ∧ e = pv (s.1 * (EC.inv s.2.2 * EC.inv s.2.2)) (s.2.1 * (EC.inv s.2.2 * EC.inv s.2.2) * EC.inv s.2.2)) := by
  obtain ⟨C, hCl, hmk⟩ := mk135 N hN
  have hstepC : ∀ (i : Nat) (c2 : List Value), fc (xs i) (ys i) (digs (ns i)) (cc ns xs ys C i) (353 * i) 8 = c2 → cc ns xs ys C (i + 1) = c2 := fun i c2 h => h
  obtain ⟨i, -⟩ : ∃ i : Nat, i = 0 := ⟨_, rfl⟩
  obtain ⟨q, -⟩ : ∃ i : Nat, i = 0 := ⟨_, rfl⟩
  obtain ⟨d, -⟩ : ∃ i : Int, i = 0 := ⟨_, rfl⟩
  obtain ⟨C2, -⟩ : ∃ c : List Value, c = C := ⟨_, rfl⟩
  obtain ⟨s, -⟩ : ∃ s : T3 P, s = (0, 0, 0) := ⟨_, rfl⟩
  obtain ⟨s2, -⟩ : ∃ s : T3 P, s = (0, 0, 0) := ⟨_, rfl⟩
  obtain ⟨s3, -⟩ : ∃ s : T3 P, s = (0, 0, 0) := ⟨_, rfl⟩
  obtain ⟨s4, -⟩ : ∃ s : T3 P, s = (0, 0, 0) := ⟨_, rfl⟩
  go_enter Tryz.func67, Tryz.ntmps67
  refine RG.var2 (v0 := (.slice (some ⟨kn, 0, none⟩) N N)) (v1 := (.slice (some ⟨ka, 0, none⟩) N N)) (n := 62) (by kernel_rfl) (by kernel_rfl) (by kernel_rfl) (by kernel_rfl) ?_
  intro a0 sl0 f0 f1
  have hS0 := RG.St.begin w
  have M0 : RG.M w w.heap.size [] 62 [] [] [(0, (.v (.slice (some ⟨kn, 0, none⟩) N N))), (1, (.v (.slice (some ⟨ka, 0, none⟩) N N)))] a0 _ := ⟨hS0, sl0, ⟨f0, f1, trivial⟩⟩
  repeat refine wp_seq ?_
  refine M0.t [.m 4 [] 0] [(0, (RG.z 8))] [] [(RG.z 8)] [(0, (.v (.slice (some ⟨kn, 0, none⟩) N N))), (1, (.v (.slice (some ⟨ka, 0, none⟩) N N))), (4, (.p 0 0))] ⟨RG.mk 0 107, trivial⟩ ?_
  intro j1 a1 w1 M1
  repeat refine wp_seq ?_
  refine M1.t [.x 11 [] (.slice (some ⟨kn, 0, none⟩) N N), .x 12 [(11, 0)] (.int .i64 (N : Int)), ⟨some 13, [(12, 1)], (.s 1 N N), .make 1⟩, .s 5 [(13, 2)] (.s 1 N N)] [(2, C)] [] [(RG.z 8), C] [(0, (.v (.slice (some ⟨kn, 0, none⟩) N N))), (1, (.v (.slice (some ⟨ka, 0, none⟩) N N))), (4, (.p 0 0)), (5, (.s 1 N N))] ⟨RG.st, RG.cert_one rfl 11 (.v (.slice (some ⟨kn, 0, none⟩) N N)) (.int .i64 (N : Int)) rfl RG.sx (fun a w => by kernel_rfl) (fun μ w => by kernel_rfl), RG.cert_makes 1 rfl _ rfl 146 154 12 12 N rfl rfl RG.sx RG.sx (hmk), RG.st, trivial⟩ ?_
  intro j2 a2 w2 M2
  repeat refine wp_seq ?_
  refine M2.u [.s 14 [] (.s 1 N N), .x 15 [(14, 0)] (.int .i64 (N : Int)), .x 16 [] (.int .i64 0)] [(0, (.v (.slice (some ⟨kn, 0, none⟩) N N))), (1, (.v (.slice (some ⟨ka, 0, none⟩) N N))), (4, (.p 0 0)), (5, (.s 1 N N)), (15, (.v (.int .i64 (N : Int)))), (16, (.v (.int .i64 0)))] ⟨RG.st, RG.cert_one rfl 14 (.s 1 N N) (.int .i64 (N : Int)) rfl RG.sx (fun a w => by kernel_rfl) (fun μ w => by kernel_rfl), RG.st, trivial⟩ ?_
  intro a3 w3 M3
  have f0_3 : a3.tmps[0]? = some (.slice (some ⟨kn, 0, none⟩) N N) := M3.at (s := (.v (.slice (some ⟨kn, 0, none⟩) N N)))
  have f1_3 : a3.tmps[1]? = some (.slice (some ⟨ka, 0, none⟩) N N) := M3.at (s := (.v (.slice (some ⟨ka, 0, none⟩) N N)))
  have f4_3 : a3.tmps[4]? = some (.pointer (some ⟨j1, 0, none⟩)) := M3.at (s := (.p 0 0))
  have f5_3 : a3.tmps[5]? = some (.slice (some ⟨j2, 0, none⟩) N N) := M3.at (s := (.s 1 N N))
  have f15_3 : a3.tmps[15]? = some (.int .i64 (N : Int)) := M3.at (s := (.v (.int .i64 (N : Int))))
  have f16_3 : a3.tmps[16]? = some (.int .i64 0) := M3.at (s := (.v (.int .i64 0)))
  repeat refine wp_seq ?_
  refine wp_block ?_
  refine wp_loop_ghost (fun m a wr => ∃ i, i + m = N ∧ RG.Sl a 62 ∧ a.tmps[0]? = some (.slice (some ⟨kn, 0, none⟩) N N) ∧ a.tmps[1]? = some (.slice (some ⟨ka, 0, none⟩) N N) ∧ a.tmps[4]? = some (.pointer (some ⟨j1, 0, none⟩)) ∧ a.tmps[5]? = some (.slice (some ⟨j2, 0, none⟩) N N) ∧ a.tmps[15]? = some (.int .i64 (N : Int)) ∧ a.tmps[16]? = some (.int .i64 (i : Int)) ∧ RG.St w w.heap.size [] [[.int .u64 0, .int .u64 0, .int .u64 0, .int .u64 0, .int .u64 0, .int .u64 0, .int .u64 0, .int .u64 0], cc ns xs ys C i] [j1, j2] wr) N ⟨0, by omega, M3.sl, f0_3, f1_3, f4_3, f5_3, f15_3, f16_3, M3.st⟩ ?_
  intro m a wr
  rintro ⟨i, him, sl, p0, p1, p4, p5, p15, p16, hSp⟩
  generalize j1 = kr at p4 hSp
  generalize j2 = kt at p5 hSp
  obtain ⟨C, hCe⟩ : ∃ c, cc ns xs ys C i = c := ⟨_, rfl⟩
  have hcc := cc_at (ns := ns) (xs := xs) (ys := ys) hCl i (by omega)
  rw [hCe] at hSp hcc
  by_cases hi : i < N
  · obtain ⟨C2, hC2e⟩ : ∃ c, fc (xs i) (ys i) (digs (ns i)) C (353 * i) 8 = c := ⟨_, rfl⟩
    have hoff : 353 * i + 353 ≤ C.length := by rw [hcc.1]; omega
    have hcl : C2.length = C.length := hC2e ▸ (fc_Fi hoff 8 (Nat.le_refl _)).len
    have hfill : ∀ (k : Nat) (w : World), w.there k 0 C.length → w.rangeAt k 0 C → Calls Tryz.prog 91 #[.pointer (some ⟨k, 353 * i, none⟩), nv (ns i), pv (xs i) (ys i)] w (Ret fun r w' => RG.PutTo k C.length C2 w w' ∧ r = .tuple #[]) := fun k w ht hr => hC2e ▸ fill_put F (hns i hi) (xs i) (ys i) C k (353 * i) hoff w ht hr
    have hrn : w.rangeAt kn (0 + 4 * i) (wn (ns i)) := by rw [Nat.zero_add]; exact hn i hi
    have hra : w.rangeAt ka (0 + 8 * i) (ws (xs i) ++ ws (ys i)) := by rw [Nat.zero_add]; exact ha i hi
    have M10 : RG.M w w.heap.size [] 62 [(RG.z 8), C] [kr, kt] [(0, (.v (.slice (some ⟨kn, 0, none⟩) N N))), (1, (.v (.slice (some ⟨ka, 0, none⟩) N N))), (4, (.p 0 0)), (5, (.s 1 N N)), (15, (.v (.int .i64 (N : Int)))), (16, (.v (.int .i64 (i : Int))))] a _ := ⟨hSp, sl, ⟨p0, p1, p4, p5, p15, p16, trivial⟩⟩
    repeat refine wp_seq ?_
    refine M10.u [.x 17 [] (.bool true)] [(0, (.v (.slice (some ⟨kn, 0, none⟩) N N))), (1, (.v (.slice (some ⟨ka, 0, none⟩) N N))), (4, (.p 0 0)), (5, (.s 1 N N)), (15, (.v (.int .i64 (N : Int)))), (16, (.v (.int .i64 (i : Int)))), (17, (.v (.bool true)))] ⟨RG.cert_bin rfl .lss 3 3 16 15 (.int .i64 (i : Int)) (.int .i64 (N : Int)) (.bool true) rfl rfl RG.sx RG.sx (fun w => by kernel_rfl) (lssn_t hi), trivial⟩ ?_
    intro a11 w11 M11
    repeat refine wp_seq ?_
    refine wp_cond_true M11.ev ?_
    refine wp_skip ?_
    refine wp_seq ?_
    refine wp_block ?_
    repeat refine wp_seq ?_
    refine M11.u [.x 18 [] (.int .i64 (i : Int)), .x 6 [(18, 0)] (.int .i64 (i : Int))] [(0, (.v (.slice (some ⟨kn, 0, none⟩) N N))), (1, (.v (.slice (some ⟨ka, 0, none⟩) N N))), (4, (.p 0 0)), (5, (.s 1 N N)), (6, (.v (.int .i64 (i : Int)))), (15, (.v (.int .i64 (N : Int)))), (16, (.v (.int .i64 (i : Int))))] ⟨RG.st, RG.st, trivial⟩ ?_
    intro a12 w12 M12
    repeat refine wp_seq ?_
    refine M12.dr (by kernel_rfl) [.s 19 [] (.s 1 N N), .x 20 [] (.int .i64 (i : Int)), .s 21 [(19, 0), (20, 1)] (.p 1 (353 * i)), .x 22 [] (.slice (some ⟨kn, 0, none⟩) N N), .x 23 [] (.int .i64 (i : Int)), .x 24 [(22, 3), (23, 4)] (.pointer (some ⟨kn, (0 + 4 * i), none⟩)), .x 25 [(24, 5)] (nv (ns i)), .x 26 [] (.slice (some ⟨ka, 0, none⟩) N N), .x 27 [] (.int .i64 (i : Int)), .x 28 [(26, 7), (27, 8)] (.pointer (some ⟨ka, (0 + 8 * i), none⟩)), .x 29 [(28, 9)] (pv (xs i) (ys i)), ⟨some 30, [(21, 2), (25, 6), (29, 10)], (.v (.tuple #[])), .put 1⟩] [] [(1, 11, C2)] [(RG.z 8), C2] [(0, (.v (.slice (some ⟨kn, 0, none⟩) N N))), (1, (.v (.slice (some ⟨ka, 0, none⟩) N N))), (4, (.p 0 0)), (5, (.s 1 N N)), (15, (.v (.int .i64 (N : Int)))), (16, (.v (.int .i64 (i : Int))))] (by kernel_rfl) (congrArg (fun n => [n]) hcl) ⟨RG.st, RG.st, RG.cert_idx rfl 146 19 20 rfl (.s 1 N N) (.int .i64 (i : Int)) RG.sx RG.sx (fun μ w => at135 _ _ _ i hi w), RG.st, RG.st, RG.cert_idx rfl 114 22 23 rfl (.v (.slice (some ⟨kn, 0, none⟩) N N)) (.int .i64 (i : Int)) RG.sx RG.sx (fun μ w => at82 _ _ _ _ i hi w), RG.cert_loadB rfl kn (0 + 4 * i) hkn List.not_mem_nil 45 24 rfl (wn (ns i)) rfl RG.sx hrn u85 i85, RG.st, RG.st, RG.cert_idx rfl 117 26 27 rfl (.v (.slice (some ⟨ka, 0, none⟩) N N)) (.int .i64 (i : Int)) RG.sx RG.sx (fun μ w => at112 _ _ _ _ i hi w), RG.cert_loadB rfl ka (0 + 8 * i) hka List.not_mem_nil 107 28 rfl (ws (xs i) ++ ws (ys i)) rfl RG.sx hra u109 i109, RG.cert_callput3 1 rfl _ rfl 91 21 25 29 (.p 1 (353 * i)) (nv (ns i)) (pv (xs i) (ys i)) (.tuple #[]) rfl (fun a w => by kernel_rfl) RG.sx RG.sx RG.sx (fun μ w ht hr => hfill (μ 1) w ht hr), trivial⟩ ?_
    intro a13 w13 M13
    repeat refine wp_seq ?_
    refine M13.u [.x 31 [] (.int .i64 ((i + 1 : Nat) : Int)), .x 16 [(31, 0)] (.int .i64 ((i + 1 : Nat) : Int))] [(0, (.v (.slice (some ⟨kn, 0, none⟩) N N))), (1, (.v (.slice (some ⟨ka, 0, none⟩) N N))), (4, (.p 0 0)), (5, (.s 1 N N)), (15, (.v (.int .i64 (N : Int)))), (16, (.v (.int .i64 ((i + 1 : Nat) : Int))))] ⟨RG.cert_binc rfl .add 3 3 16 (.int .i64 (i : Int)) (.int .i64 1) (.int .i64 ((i + 1 : Nat) : Int)) rfl rfl RG.sx (fun w => by kernel_rfl) (addn i 1 (by omega) (by omega)), RG.st, trivial⟩ ?_
    intro a14 w14 M14
    have f0_14 : a14.tmps[0]? = some (.slice (some ⟨kn, 0, none⟩) N N) := M14.at (s := (.v (.slice (some ⟨kn, 0, none⟩) N N)))
    have f1_14 : a14.tmps[1]? = some (.slice (some ⟨ka, 0, none⟩) N N) := M14.at (s := (.v (.slice (some ⟨ka, 0, none⟩) N N)))
    have f4_14 : a14.tmps[4]? = some (.pointer (some ⟨kr, 0, none⟩)) := M14.at (s := (.p 0 0))
    have f5_14 : a14.tmps[5]? = some (.slice (some ⟨kt, 0, none⟩) N N) := M14.at (s := (.s 1 N N))
    have f15_14 : a14.tmps[15]? = some (.int .i64 (N : Int)) := M14.at (s := (.v (.int .i64 (N : Int))))
    have f16_14 : a14.tmps[16]? = some (.int .i64 ((i + 1 : Nat) : Int)) := M14.at (s := (.v (.int .i64 ((i + 1 : Nat) : Int))))
    show ∃ n', _
    refine ⟨m - 1, by omega, i + 1, by omega, M14.sl, f0_14, f1_14, f4_14, f5_14, f15_14, f16_14, ?_⟩
    rw [hstepC i C2 (by rw [hCe]; exact hC2e)]
    exact M14.st
  · have hiN : i = N := by omega
    rw [hiN] at hcc
    have hcN := hcc.2
    have M20 : RG.M w w.heap.size [] 62 [(RG.z 8), C] [kr, kt] [(0, (.v (.slice (some ⟨kn, 0, none⟩) N N))), (1, (.v (.slice (some ⟨ka, 0, none⟩) N N))), (4, (.p 0 0)), (5, (.s 1 N N)), (15, (.v (.int .i64 (N : Int)))), (16, (.v (.int .i64 (i : Int))))] a _ := ⟨hSp, sl, ⟨p0, p1, p4, p5, p15, p16, trivial⟩⟩
    repeat refine wp_seq ?_
    refine M20.u [.x 17 [] (.bool false)] [(4, (.p 0 0)), (5, (.s 1 N N)), (17, (.v (.bool false)))] ⟨RG.cert_bin rfl .lss 3 3 16 15 (.int .i64 (i : Int)) (.int .i64 (N : Int)) (.bool false) rfl rfl RG.sx RG.sx (fun w => by kernel_rfl) (lssn_f hi), trivial⟩ ?_
    intro a21 w21 M21
    repeat refine wp_seq ?_
    refine wp_cond_false M21.ev ?_
    refine wp_exit ?_
    dsimp only [Exit.then, Exit.inBlock]
    rw [if_pos rfl]
    repeat refine wp_seq ?_
    refine M21.t [.m 7 [] 2] [(0, (tw ((0, 0, 0) : T3 P)))] [] [(RG.z 8), C, (tw ((0, 0, 0) : T3 P))] [(4, (.p 0 0)), (5, (.s 1 N N)), (7, (.p 2 0))] ⟨RG.cert_alloc 2 rfl rfl _ rfl 149 rfl (al117), trivial⟩ ?_
    intro j22 a22 w22 M22
    repeat refine wp_seq ?_
    refine M22.u [.x 8 [] (.int .i64 256)] [(4, (.p 0 0)), (5, (.s 1 N N)), (7, (.p 2 0)), (8, (.v (.int .i64 256)))] ⟨RG.st, trivial⟩ ?_
    intro a23 w23 M23
    have f4_23 : a23.tmps[4]? = some (.pointer (some ⟨kr, 0, none⟩)) := M23.at (s := (.p 0 0))
    have f5_23 : a23.tmps[5]? = some (.slice (some ⟨kt, 0, none⟩) N N) := M23.at (s := (.s 1 N N))
    have f7_23 : a23.tmps[7]? = some (.pointer (some ⟨j22, 0, none⟩)) := M23.at (s := (.p 2 0))
    have f8_23 : a23.tmps[8]? = some (.int .i64 256) := M23.at (s := (.v (.int .i64 256)))
    repeat refine wp_seq ?_
    refine wp_block ?_
    refine wp_loop_ghost (fun m a wr => m ≤ 257 ∧ RG.Sl a 62 ∧ a.tmps[4]? = some (.pointer (some ⟨kr, 0, none⟩)) ∧ a.tmps[5]? = some (.slice (some ⟨kt, 0, none⟩) N N) ∧ a.tmps[7]? = some (.pointer (some ⟨j22, 0, none⟩)) ∧ a.tmps[8]? = some (.int .i64 ((m : Int) - 1)) ∧ RG.St w w.heap.size [] [[.int .u64 0, .int .u64 0, .int .u64 0, .int .u64 0, .int .u64 0, .int .u64 0, .int .u64 0, .int .u64 0], C, tw (sumJ ns xs ys N (257 - m))] [kr, kt, j22] wr) 257 ⟨Nat.le_refl _, M23.sl, f4_23, f5_23, f7_23, f8_23, ?_⟩ ?_
    · rw [Nat.sub_self, sumJ]
      exact M23.st
    intro m b wr
    rintro ⟨hm, slb, q4, q5, q7, q8, hSq⟩
    generalize j22 = kl at q7 hSq
    by_cases hz : m = 0
    · subst hz
      rw [show 257 - 0 = 257 from rfl] at hSq
      obtain ⟨s, hse⟩ : ∃ s, sumJ ns xs ys N 257 = s := ⟨_, rfl⟩
      rw [hse] at hSq
      have M40 : RG.M w w.heap.size [] 62 [(RG.z 8), C, (tw s)] [kr, kt, kl] [(4, (.p 0 0)), (5, (.s 1 N N)), (7, (.p 2 0)), (8, (.v (.int .i64 (-1))))] b _ := ⟨hSq, slb, ⟨q4, q5, q7, q8, trivial⟩⟩
      repeat refine wp_seq ?_
      refine M40.u [.x 32 [] (.int .i64 (-1)), .x 33 [(32, 0)] (.bool false)] [(4, (.p 0 0)), (7, (.p 2 0)), (33, (.v (.bool false)))] ⟨RG.st, RG.st, trivial⟩ ?_
      intro a41 w41 M41
      repeat refine wp_seq ?_
      refine wp_cond_false M41.ev ?_
      refine wp_exit ?_
      dsimp only [Exit.then, Exit.inBlock]
      rw [if_pos rfl]
      repeat refine wp_seq ?_
      refine M41.t [.x 60 [] (tv s), .c 61 [(60, 0)] (pv (s.1 * (EC.inv s.2.2 * EC.inv s.2.2)) (s.2.1 * (EC.inv s.2.2 * EC.inv s.2.2) * EC.inv s.2.2)), .u [(61, 1)] 0] [] [(0, 2, (ws (s.1 * (EC.inv s.2.2 * EC.inv s.2.2)) ++ (ws (s.2.1 * (EC.inv s.2.2 * EC.inv s.2.2) * EC.inv s.2.2))))] [(ws (s.1 * (EC.inv s.2.2 * EC.inv s.2.2)) ++ (ws (s.2.1 * (EC.inv s.2.2 * EC.inv s.2.2) * EC.inv s.2.2))), C, (tw s)] [(4, (.p 0 0))] ⟨RG.ld u117 i117, RG.cl (ptJ_c F s), RG.pt i109, trivial⟩ ?_
      intro a42 w42 M42
      refine wp_ret ?_
      refine bodyPost_ret (v := pv (s.1 * (EC.inv s.2.2 * EC.inv s.2.2)) (s.2.1 * (EC.inv s.2.2 * EC.inv s.2.2) * EC.inv s.2.2)) (RG.results_row M42.st 4 107 rfl 0 _ rfl (M42.at (s := (.p 0 0))) u109 i109) M42.sl.defers ?_
      exact ⟨_, rfl, M42.st.bel.below, s, hse.symm, rfl⟩
    · obtain ⟨q, rfl⟩ : ∃ q, m = q + 1 := ⟨m - 1, by omega⟩
      have hq : q < 257 := by omega
      replace q8 : b.tmps[8]? = some (.int .i64 (q : Int)) := by rw [q8]; congr 2; omega
      obtain ⟨s, hse⟩ : ∃ s, sumJ ns xs ys N (257 - (q + 1)) = s := ⟨_, rfl⟩
      rw [hse] at hSq
      obtain ⟨s2, hs2e⟩ : ∃ t, twJ s = t := ⟨_, rfl⟩
      have hs2 : Gives 92 #[tv s] (tv s2) := hs2e ▸ twJ_c F s
      have hnext : sumJ ns xs ys N (257 - q) = inn ns xs ys s2 q N := by
        rw [show 257 - q = 257 - (q + 1) + 1 by omega]
        show inn ns xs ys (twJ (sumJ ns xs ys N (257 - (q + 1)))) (256 - (257 - (q + 1))) N = _
        rw [hse, hs2e, show 256 - (257 - (q + 1)) = q by omega]
      have M30 : RG.M w w.heap.size [] 62 [(RG.z 8), C, (tw s)] [kr, kt, kl] [(4, (.p 0 0)), (5, (.s 1 N N)), (7, (.p 2 0)), (8, (.v (.int .i64 (q : Int))))] b _ := ⟨hSq, slb, ⟨q4, q5, q7, q8, trivial⟩⟩
      repeat refine wp_seq ?_
      refine M30.u [.x 32 [] (.int .i64 (q : Int)), .x 33 [(32, 0)] (.bool true)] [(4, (.p 0 0)), (5, (.s 1 N N)), (7, (.p 2 0)), (8, (.v (.int .i64 (q : Int)))), (33, (.v (.bool true)))] ⟨RG.st, RG.cert_binc rfl .geq 3 3 32 (.int .i64 (q : Int)) (.int .i64 0) (.bool true) rfl rfl RG.sx (fun w => by kernel_rfl) (geq0' q), trivial⟩ ?_
      intro a31 w31 M31
      repeat refine wp_seq ?_
      refine wp_cond_true M31.ev ?_
      refine wp_skip ?_
      refine wp_seq ?_
      refine wp_block ?_
      repeat refine wp_seq ?_
      refine M31.t [.x 36 [] (tv s), .c 37 [(36, 0)] (tv s2), .u [(37, 1)] 2] [] [(2, 2, (tw s2))] [(RG.z 8), C, (tw s2)] [(4, (.p 0 0)), (5, (.s 1 N N)), (7, (.p 2 0)), (8, (.v (.int .i64 (q : Int))))] ⟨RG.ld u117 i117, RG.cl (hs2), RG.pt i117, trivial⟩ ?_
      intro a32 w32 M32
      repeat refine wp_seq ?_
      refine M32.u [.s 38 [] (.s 1 N N), .x 39 [(38, 0)] (.int .i64 (N : Int)), .x 40 [] (.int .i64 0)] [(4, (.p 0 0)), (5, (.s 1 N N)), (7, (.p 2 0)), (8, (.v (.int .i64 (q : Int)))), (39, (.v (.int .i64 (N : Int)))), (40, (.v (.int .i64 0)))] ⟨RG.st, RG.cert_one rfl 38 (.s 1 N N) (.int .i64 (N : Int)) rfl RG.sx (fun a w => by kernel_rfl) (fun μ w => by kernel_rfl), RG.st, trivial⟩ ?_
      intro a33 w33 M33
      have f4_33 : a33.tmps[4]? = some (.pointer (some ⟨kr, 0, none⟩)) := M33.at (s := (.p 0 0))
      have f5_33 : a33.tmps[5]? = some (.slice (some ⟨kt, 0, none⟩) N N) := M33.at (s := (.s 1 N N))
      have f7_33 : a33.tmps[7]? = some (.pointer (some ⟨kl, 0, none⟩)) := M33.at (s := (.p 2 0))
      have f8_33 : a33.tmps[8]? = some (.int .i64 (q : Int)) := M33.at (s := (.v (.int .i64 (q : Int))))
      have f39_33 : a33.tmps[39]? = some (.int .i64 (N : Int)) := M33.at (s := (.v (.int .i64 (N : Int))))
      have f40_33 : a33.tmps[40]? = some (.int .i64 0) := M33.at (s := (.v (.int .i64 0)))
      repeat refine wp_seq ?_
      refine wp_block ?_
      refine wp_loop_ghost (fun m a wr => ∃ i, i + m = N ∧ RG.Sl a 62 ∧ a.tmps[4]? = some (.pointer (some ⟨kr, 0, none⟩)) ∧ a.tmps[5]? = some (.slice (some ⟨kt, 0, none⟩) N N) ∧ a.tmps[7]? = some (.pointer (some ⟨kl, 0, none⟩)) ∧ a.tmps[8]? = some (.int .i64 (q : Int)) ∧ a.tmps[39]? = some (.int .i64 (N : Int)) ∧ a.tmps[40]? = some (.int .i64 (i : Int)) ∧ RG.St w w.heap.size [] [[.int .u64 0, .int .u64 0, .int .u64 0, .int .u64 0, .int .u64 0, .int .u64 0, .int .u64 0, .int .u64 0], C, tw (inn ns xs ys s2 q i)] [kr, kt, kl] wr) N ⟨0, by omega, M33.sl, f4_33, f5_33, f7_33, f8_33, f39_33, f40_33, M33.st⟩ ?_
      intro m' c wr
      rintro ⟨i, him, slc, r4, r5, r7, r8, r39, r40, hSr⟩
      obtain ⟨s, hse3⟩ : ∃ s, inn ns xs ys s2 q i = s := ⟨_, rfl⟩
      rw [hse3] at hSr
      by_cases hi : i < N
      · obtain ⟨h1, h2⟩ := hcN i hi
        obtain ⟨d, hde⟩ : ∃ d, digs (ns i) q = d := ⟨_, rfl⟩
        have hdig : C[353 * i + 96 + q]? = some (.int .i8 d) := hde ▸ h1 q hq
        have hCne : C ≠ [] := by intro h; rw [h] at hdig; simp at hdig
        have hstep : inn ns xs ys s2 q (i + 1) = if d = 0 then s else plJ s (tmJ (xs i) (ys i) d) := by rw [← hse3, ← hde]; rfl
        by_cases hdz : d = 0
        · rw [if_pos hdz] at hstep
          rw [hdz] at hdig
          have M50 : RG.M w w.heap.size [] 62 [(RG.z 8), C, (tw s)] [kr, kt, kl] [(4, (.p 0 0)), (5, (.s 1 N N)), (7, (.p 2 0)), (8, (.v (.int .i64 (q : Int)))), (39, (.v (.int .i64 (N : Int)))), (40, (.v (.int .i64 (i : Int))))] c _ := ⟨hSr, slc, ⟨r4, r5, r7, r8, r39, r40, trivial⟩⟩
          repeat refine wp_seq ?_
          refine M50.u [.x 41 [] (.bool true)] [(4, (.p 0 0)), (5, (.s 1 N N)), (7, (.p 2 0)), (8, (.v (.int .i64 (q : Int)))), (39, (.v (.int .i64 (N : Int)))), (40, (.v (.int .i64 (i : Int)))), (41, (.v (.bool true)))] ⟨RG.cert_bin rfl .lss 3 3 40 39 (.int .i64 (i : Int)) (.int .i64 (N : Int)) (.bool true) rfl rfl RG.sx RG.sx (fun w => by kernel_rfl) (lssn_t hi), trivial⟩ ?_
          intro a51 w51 M51
          repeat refine wp_seq ?_
          refine wp_cond_true M51.ev ?_
          refine wp_skip ?_
          refine wp_seq ?_
          refine wp_block ?_
          repeat refine wp_seq ?_
          refine M51.u [.x 42 [] (.int .i64 (i : Int)), .x 9 [(42, 0)] (.int .i64 (i : Int))] [(4, (.p 0 0)), (5, (.s 1 N N)), (7, (.p 2 0)), (8, (.v (.int .i64 (q : Int)))), (9, (.v (.int .i64 (i : Int)))), (39, (.v (.int .i64 (N : Int)))), (40, (.v (.int .i64 (i : Int))))] ⟨RG.st, RG.st, trivial⟩ ?_
          intro a52 w52 M52
          repeat refine wp_seq ?_
          refine M52.u [.s 43 [] (.s 1 N N), .x 44 [] (.int .i64 (i : Int)), .x 45 [] (.int .i64 (q : Int)), .s 46 [(43, 0), (44, 1)] (.p 1 (353 * i)), .s 47 [(46, 3)] (.p 1 ((353 * i) + 96)), .s 48 [(47, 4), (45, 2)] (.p 1 (((353 * i) + 96) + q)), .x 49 [(48, 5)] (.int .i8 0), .x 10 [(49, 6)] (.int .i8 0)] [(4, (.p 0 0)), (5, (.s 1 N N)), (7, (.p 2 0)), (8, (.v (.int .i64 (q : Int)))), (10, (.v (.int .i8 0))), (39, (.v (.int .i64 (N : Int)))), (40, (.v (.int .i64 (i : Int))))] ⟨RG.st, RG.st, RG.st, RG.cert_idx rfl 146 43 44 rfl (.s 1 N N) (.int .i64 (i : Int)) RG.sx RG.sx (fun μ w => at135 _ _ _ i hi w), RG.st, RG.cert_idx rfl 152 47 45 rfl (.p 1 ((353 * i) + 96)) (.int .i64 (q : Int)) RG.sx RG.sx (fun μ w => at138 _ _ q hq w), RG.cert_load1 rfl 1 (((353 * i) + 96) + q) _ rfl rfl (by kernel_rfl) 151 48 rfl (.int .i8 0) rfl RG.sx hdig u137, RG.st, trivial⟩ ?_
          intro a53 w53 M53
          repeat refine wp_seq ?_
          refine M53.u [.x 50 [] (.int .i8 0), .x 51 [(50, 0)] (.bool false)] [(4, (.p 0 0)), (5, (.s 1 N N)), (7, (.p 2 0)), (8, (.v (.int .i64 (q : Int)))), (39, (.v (.int .i64 (N : Int)))), (40, (.v (.int .i64 (i : Int)))), (51, (.v (.bool false)))] ⟨RG.st, RG.cert_binc rfl .neq 151 151 50 (.int .i8 0) (.int .i8 0) (.bool false) rfl rfl RG.sx (fun w => by kernel_rfl) (ne8_f), trivial⟩ ?_
          intro a54 w54 M54
          repeat refine wp_seq ?_
          refine wp_cond_false M54.ev ?_
          refine wp_skip ?_
          repeat refine wp_seq ?_
          refine M54.u [.x 59 [] (.int .i64 ((i + 1 : Nat) : Int)), .x 40 [(59, 0)] (.int .i64 ((i + 1 : Nat) : Int))] [(4, (.p 0 0)), (5, (.s 1 N N)), (7, (.p 2 0)), (8, (.v (.int .i64 (q : Int)))), (39, (.v (.int .i64 (N : Int)))), (40, (.v (.int .i64 ((i + 1 : Nat) : Int))))] ⟨RG.cert_binc rfl .add 3 3 40 (.int .i64 (i : Int)) (.int .i64 1) (.int .i64 ((i + 1 : Nat) : Int)) rfl rfl RG.sx (fun w => by kernel_rfl) (addn i 1 (by omega) (by omega)), RG.st, trivial⟩ ?_
          intro a55 w55 M55
          have f4_55 : a55.tmps[4]? = some (.pointer (some ⟨kr, 0, none⟩)) := M55.at (s := (.p 0 0))
          have f5_55 : a55.tmps[5]? = some (.slice (some ⟨kt, 0, none⟩) N N) := M55.at (s := (.s 1 N N))
          have f7_55 : a55.tmps[7]? = some (.pointer (some ⟨kl, 0, none⟩)) := M55.at (s := (.p 2 0))
          have f8_55 : a55.tmps[8]? = some (.int .i64 (q : Int)) := M55.at (s := (.v (.int .i64 (q : Int))))
          have f39_55 : a55.tmps[39]? = some (.int .i64 (N : Int)) := M55.at (s := (.v (.int .i64 (N : Int))))
          have f40_55 : a55.tmps[40]? = some (.int .i64 ((i + 1 : Nat) : Int)) := M55.at (s := (.v (.int .i64 ((i + 1 : Nat) : Int))))
          show ∃ n', _
          exact ⟨m' - 1, by omega, i + 1, by omega, M55.sl, f4_55, f5_55, f7_55, f8_55, f39_55, f40_55, by rw [hstep]; exact M55.st⟩
        · rw [if_neg hdz] at hstep
          have hodd : d % 2 = 1 ∧ -15 ≤ d ∧ d ≤ 15 := by
            obtain ⟨_, _, -, hD⟩ := digs_DI (show ns i < 2 ^ 256 from hns i hi)
            rcases hD.ho q with h | h
            · exact absurd (hde ▸ h) hdz
            · exact hde ▸ h
          obtain ⟨s3, hs3e⟩ : ∃ t, tmJ (xs i) (ys i) d = t := ⟨_, rfl⟩
          obtain ⟨s4, hs4e⟩ : ∃ t, plJ s s3 = t := ⟨_, rfl⟩
          have hs4 : Gives 93 #[tv s, tv s3] (tv s4) := hs4e ▸ plJ_c F s s3
          have htm : ∀ (k : Nat) (w : World), k < w.heap.size → w.rangeAt k 0 C → Calls Tryz.prog 94 #[.pointer (some ⟨k, 353 * i, none⟩), .int .i8 d] w (Ret fun r w' => Below w.heap.size w w' ∧ r = tv s3) := fun k w hlt hr =>
            hs3e ▸ times_d F k (353 * i) (xs i) (ys i) hodd.1 hodd.2 w hlt (fun qq hqq => RG.range_sub hr (fun j hj => by rw [Nat.add_zero]; exact h2 qq j hqq (by rw [tw_length] at hj; exact hj)))
          rw [hs3e, hs4e] at hstep
          have M50 : RG.M w w.heap.size [] 62 [(RG.z 8), C, (tw s)] [kr, kt, kl] [(4, (.p 0 0)), (5, (.s 1 N N)), (7, (.p 2 0)), (8, (.v (.int .i64 (q : Int)))), (39, (.v (.int .i64 (N : Int)))), (40, (.v (.int .i64 (i : Int))))] c _ := ⟨hSr, slc, ⟨r4, r5, r7, r8, r39, r40, trivial⟩⟩
          repeat refine wp_seq ?_
          refine M50.u [.x 41 [] (.bool true)] [(4, (.p 0 0)), (5, (.s 1 N N)), (7, (.p 2 0)), (8, (.v (.int .i64 (q : Int)))), (39, (.v (.int .i64 (N : Int)))), (40, (.v (.int .i64 (i : Int)))), (41, (.v (.bool true)))] ⟨RG.cert_bin rfl .lss 3 3 40 39 (.int .i64 (i : Int)) (.int .i64 (N : Int)) (.bool true) rfl rfl RG.sx RG.sx (fun w => by kernel_rfl) (lssn_t hi), trivial⟩ ?_
          intro a51 w51 M51
          repeat refine wp_seq ?_
          refine wp_cond_true M51.ev ?_
          refine wp_skip ?_
          refine wp_seq ?_
          refine wp_block ?_
          repeat refine wp_seq ?_
          refine M51.u [.x 42 [] (.int .i64 (i : Int)), .x 9 [(42, 0)] (.int .i64 (i : Int))] [(4, (.p 0 0)), (5, (.s 1 N N)), (7, (.p 2 0)), (8, (.v (.int .i64 (q : Int)))), (9, (.v (.int .i64 (i : Int)))), (39, (.v (.int .i64 (N : Int)))), (40, (.v (.int .i64 (i : Int))))] ⟨RG.st, RG.st, trivial⟩ ?_
          intro a52 w52 M52
          repeat refine wp_seq ?_
          refine M52.u [.s 43 [] (.s 1 N N), .x 44 [] (.int .i64 (i : Int)), .x 45 [] (.int .i64 (q : Int)), .s 46 [(43, 0), (44, 1)] (.p 1 (353 * i)), .s 47 [(46, 3)] (.p 1 ((353 * i) + 96)), .s 48 [(47, 4), (45, 2)] (.p 1 (((353 * i) + 96) + q)), .x 49 [(48, 5)] (.int .i8 d), .x 10 [(49, 6)] (.int .i8 d)] [(4, (.p 0 0)), (5, (.s 1 N N)), (7, (.p 2 0)), (8, (.v (.int .i64 (q : Int)))), (9, (.v (.int .i64 (i : Int)))), (10, (.v (.int .i8 d))), (39, (.v (.int .i64 (N : Int)))), (40, (.v (.int .i64 (i : Int))))] ⟨RG.st, RG.st, RG.st, RG.cert_idx rfl 146 43 44 rfl (.s 1 N N) (.int .i64 (i : Int)) RG.sx RG.sx (fun μ w => at135 _ _ _ i hi w), RG.st, RG.cert_idx rfl 152 47 45 rfl (.p 1 ((353 * i) + 96)) (.int .i64 (q : Int)) RG.sx RG.sx (fun μ w => at138 _ _ q hq w), RG.cert_load1 rfl 1 (((353 * i) + 96) + q) _ rfl rfl (by kernel_rfl) 151 48 rfl (.int .i8 d) rfl RG.sx hdig u137, RG.st, trivial⟩ ?_
          intro a53 w53 M53
          repeat refine wp_seq ?_
          refine M53.u [.x 50 [] (.int .i8 d), .x 51 [(50, 0)] (.bool true)] [(4, (.p 0 0)), (5, (.s 1 N N)), (7, (.p 2 0)), (8, (.v (.int .i64 (q : Int)))), (9, (.v (.int .i64 (i : Int)))), (10, (.v (.int .i8 d))), (39, (.v (.int .i64 (N : Int)))), (40, (.v (.int .i64 (i : Int)))), (51, (.v (.bool true)))] ⟨RG.st, RG.cert_binc rfl .neq 151 151 50 (.int .i8 d) (.int .i8 0) (.bool true) rfl rfl RG.sx (fun w => by kernel_rfl) (ne8_t hdz), trivial⟩ ?_
          intro a54 w54 M54
          repeat refine wp_seq ?_
          refine wp_cond_true M54.ev ?_
          repeat refine wp_seq ?_
          refine M54.d [.x 52 [] (tv s), .s 53 [] (.s 1 N N), .x 54 [] (.int .i64 (i : Int)), .s 55 [(53, 1), (54, 2)] (.p 1 (353 * i)), .x 56 [] (.int .i8 d), .c 57 [(55, 3), (56, 4)] (tv s3), .c 58 [(52, 0), (57, 5)] (tv s4), .u [(58, 6)] 2] [] [(2, 7, (tw s4))] [(RG.z 8), C, (tw s4)] [(4, (.p 0 0)), (5, (.s 1 N N)), (7, (.p 2 0)), (8, (.v (.int .i64 (q : Int)))), (39, (.v (.int .i64 (N : Int)))), (40, (.v (.int .i64 (i : Int))))] ⟨RG.ld u117 i117, RG.st, RG.st, RG.cert_idx rfl 146 53 54 rfl (.s 1 N N) (.int .i64 (i : Int)) RG.sx RG.sx (fun μ w => at135 _ _ _ i hi w), RG.st, RG.cert_callM2 rfl 1 _ rfl rfl (by kernel_rfl) hCne 94 55 56 (.p 1 (353 * i)) (.int .i8 d) (tv s3) rfl (fun a w => by kernel_rfl) RG.sx RG.sx (fun μ w hlt hr => htm (μ 1) w hlt hr), RG.cl (hs4), RG.pt i117, trivial⟩ ?_
          intro a55 w55 M55
          repeat refine wp_seq ?_
          refine M55.u [.x 59 [] (.int .i64 ((i + 1 : Nat) : Int)), .x 40 [(59, 0)] (.int .i64 ((i + 1 : Nat) : Int))] [(4, (.p 0 0)), (5, (.s 1 N N)), (7, (.p 2 0)), (8, (.v (.int .i64 (q : Int)))), (39, (.v (.int .i64 (N : Int)))), (40, (.v (.int .i64 ((i + 1 : Nat) : Int))))] ⟨RG.cert_binc rfl .add 3 3 40 (.int .i64 (i : Int)) (.int .i64 1) (.int .i64 ((i + 1 : Nat) : Int)) rfl rfl RG.sx (fun w => by kernel_rfl) (addn i 1 (by omega) (by omega)), RG.st, trivial⟩ ?_
          intro a56 w56 M56
          have f4_56 : a56.tmps[4]? = some (.pointer (some ⟨kr, 0, none⟩)) := M56.at (s := (.p 0 0))
          have f5_56 : a56.tmps[5]? = some (.slice (some ⟨kt, 0, none⟩) N N) := M56.at (s := (.s 1 N N))
          have f7_56 : a56.tmps[7]? = some (.pointer (some ⟨kl, 0, none⟩)) := M56.at (s := (.p 2 0))
          have f8_56 : a56.tmps[8]? = some (.int .i64 (q : Int)) := M56.at (s := (.v (.int .i64 (q : Int))))
          have f39_56 : a56.tmps[39]? = some (.int .i64 (N : Int)) := M56.at (s := (.v (.int .i64 (N : Int))))
          have f40_56 : a56.tmps[40]? = some (.int .i64 ((i + 1 : Nat) : Int)) := M56.at (s := (.v (.int .i64 ((i + 1 : Nat) : Int))))
          show ∃ n', _
          exact ⟨m' - 1, by omega, i + 1, by omega, M56.sl, f4_56, f5_56, f7_56, f8_56, f39_56, f40_56, by rw [hstep]; exact M56.st⟩
      · have hiN3 : i = N := by omega
        rw [hiN3] at hse3
        rw [hse3] at hnext
        have M60 : RG.M w w.heap.size [] 62 [(RG.z 8), C, (tw s)] [kr, kt, kl] [(4, (.p 0 0)), (5, (.s 1 N N)), (7, (.p 2 0)), (8, (.v (.int .i64 (q : Int)))), (39, (.v (.int .i64 (N : Int)))), (40, (.v (.int .i64 (i : Int))))] c _ := ⟨hSr, slc, ⟨r4, r5, r7, r8, r39, r40, trivial⟩⟩
        repeat refine wp_seq ?_
        refine M60.u [.x 41 [] (.bool false)] [(4, (.p 0 0)), (5, (.s 1 N N)), (7, (.p 2 0)), (8, (.v (.int .i64 (q : Int)))), (41, (.v (.bool false)))] ⟨RG.cert_bin rfl .lss 3 3 40 39 (.int .i64 (i : Int)) (.int .i64 (N : Int)) (.bool false) rfl rfl RG.sx RG.sx (fun w => by kernel_rfl) (lssn_f hi), trivial⟩ ?_
        intro a61 w61 M61
        repeat refine wp_seq ?_
        refine wp_cond_false M61.ev ?_
        refine wp_exit ?_
        dsimp only [Exit.then, Exit.inBlock]
        rw [if_pos rfl]
        repeat refine wp_seq ?_
        refine M61.u [.x 34 [] (.int .i64 (q : Int)), .x 35 [(34, 0)] (.int .i64 ((q : Int) - 1)), .x 8 [(35, 1)] (.int .i64 ((q : Int) - 1))] [(4, (.p 0 0)), (5, (.s 1 N N)), (7, (.p 2 0)), (8, (.v (.int .i64 ((q : Int) - 1))))] ⟨RG.st, RG.cert_binc rfl .sub 3 3 34 (.int .i64 (q : Int)) (.int .i64 1) (.int .i64 ((q : Int) - 1)) rfl rfl RG.sx (fun w => by kernel_rfl) (sub1' q (by omega)), RG.st, trivial⟩ ?_
        intro a62 w62 M62
        have f4_62 : a62.tmps[4]? = some (.pointer (some ⟨kr, 0, none⟩)) := M62.at (s := (.p 0 0))
        have f5_62 : a62.tmps[5]? = some (.slice (some ⟨kt, 0, none⟩) N N) := M62.at (s := (.s 1 N N))
        have f7_62 : a62.tmps[7]? = some (.pointer (some ⟨kl, 0, none⟩)) := M62.at (s := (.p 2 0))
        have f8_62 : a62.tmps[8]? = some (.int .i64 ((q : Int) - 1)) := M62.at (s := (.v (.int .i64 ((q : Int) - 1))))
        show ∃ n', _
        exact ⟨q, Nat.lt_succ_self q, by omega, M62.sl, f4_62, f5_62, f7_62, f8_62, by rw [hnext]; exact M62.st⟩
end Go.Proofs.YtmepmoalhgehhaaGreatDoor
set_option linter.unusedVariables false
set_option linter.unusedSimpArgs false
namespace Go.Proofs.YtmepmoalhgehhaaGreatDoor
open Go.RowKit Go.Sort
variable {P : Nat} [NeZero P]
theorem ws_one (h : Fld P) : ([.int .u64 1, .int .u64 0, .int .u64 0, .int .u64 0] : List Value) = ws (1 : Fin P) := by
  have h := one_fv h
  unfold nv at h
  injection h with h
  exact congrArg Array.toList h
/-- The even root of a number, if there is one. -/
def rt (m : Fin P) : Option (Fin P) := if m.val ^ (P / 4 + 1) % P * (m.val ^ (P / 4 + 1) % P) % P = m.val then some (Fin.ofNat P (even P (m.val ^ (P / 4 + 1) % P))) else none
omit [NeZero P] in
theorem even_lt {r : Nat} (hP : 0 < P) (h : r < P) : even P r < P := by unfold even; split <;> omega
theorem rt_four {m y : Fin P} {v : Value} (h : rt m = some y) (hF : Four v (even P (m.val ^ (P / 4 + 1) % P))) : v = fv y := by
  unfold rt at h
  split at h
  · obtain rfl := Option.some.inj h
    have : (Fin.ofNat P (even P (m.val ^ (P / 4 + 1) % P))).val = even P (m.val ^ (P / 4 + 1) % P) := Nat.mod_eq_of_lt (even_lt (Nat.pos_of_neZero P) (Nat.mod_lt _ (Nat.pos_of_neZero P)))
    show v = nv _
    rw [this]
    exact hF.nv
  · cases h
theorem rt_yes {m y : Fin P} (h : rt m = some y) : m.val ^ (P / 4 + 1) % P * (m.val ^ (P / 4 + 1) % P) % P = m.val := by
  unfold rt at h
  split at h
  · assumption
  · cases h
theorem rt_no {m : Fin P} (h : rt m = none) : ¬ m.val ^ (P / 4 + 1) % P * (m.val ^ (P / 4 + 1) % P) % P = m.val := by
  unfold rt at h
  split at h
  · cases h
  · assumption
theorem RootR.val {m : Fin P} {e : Value} (h : RootR P m.val (m.val ^ (P / 4 + 1) % P) e) : (∀ y, rt m = some y → e = .tuple #[fv y, .bool true]) ∧ (rt m = none → e = .tuple #[fv (0 : Fin P), .bool false]) := by
  obtain ⟨ya, yb, yc, yd, ok, rfl, h1, h2, h3⟩ := h
  refine ⟨fun y hy => ?_, fun hn => ?_⟩
  · cases ok with
    | true => rw [rt_four hy (h1 rfl).2]
    | false => exact absurd (rt_yes hy) (h2 rfl)
  · cases ok with
    | true => exact absurd (h1 rfl).1 (rt_no hn)
    | false =>
      obtain ⟨rfl, rfl, rfl, rfl⟩ := h3 rfl
      rw [← zero_fv]
      rfl
theorem Root_y (h : Fld P) {m y : Fin P} (e : rt m = some y) : Gives 139 #[gv0, fv m] (.tuple #[fv y, .bool true]) := fun w =>
  (Root_any 4294968273 0 0 P _ m.val h.gap h.p4 (h.four m) w).mono (by rintro e' w' ⟨v, rfl, hb, hF⟩; exact ⟨_, rfl, hb, hF.val.1 y e⟩)
theorem Root_n (h : Fld P) {m : Fin P} (e : rt m = none) : Gives 139 #[gv0, fv m] (.tuple #[fv (0 : Fin P), .bool false]) := fun w =>
  (Root_any 4294968273 0 0 P _ m.val h.gap h.p4 (h.four m) w).mono (by rintro e' w' ⟨v, rfl, hb, hF⟩; exact ⟨_, rfl, hb, hF.val.2 e⟩)
end Go.Proofs.YtmepmoalhgehhaaGreatDoor
namespace Go.Proofs.YtmepmoalhgehhaaGreatDoor
open Go.RowKit Go.Sort
variable {P : Nat} [NeZero P]
def gl0 : List Value := [.int .u64 4294968273, .int .u64 0, .int .u64 0, .int .u64 0]
set_option maxHeartbeats 2000000 in
set_option maxRecDepth 100000 in
theorem above_y_c (C : Fld P) (x y : Fin P)(hr : rt (x * x * x + 7) = some y)  : Gives 114 #[(fv x)] (.tuple #[pv x y, .bool true]) := by
  intro w
  obtain ⟨c1, hc1⟩ : ∃ c, c = x * x := ⟨_, rfl⟩
  obtain ⟨c2, hc2⟩ : ∃ c, c = c1 * x := ⟨_, rfl⟩
  obtain ⟨c3, hc3⟩ : ∃ c, c = c2 + (7 : Fin P) := ⟨_, rfl⟩
  have hfin : ((.tuple #[(pv x y), (.bool true)]) : Value) = (.tuple #[pv x y, .bool true]) := by
    subst_vars; rfl
  rw [← hfin]
  go_enter Tryz.func114, Tryz.ntmps114
  refine RG.M.enter [(0, (.v (fv x)))] 31 (by kernel_rfl) ?_
  intro a0 M0
  repeat refine wp_seq ?_
  refine M0.t [.m 1 [] 0, .m 2 [] 1, .x 3 [] (.bool false)] [(0, (ws x)), (1, (RG.z 8))] [] [(ws x), (RG.z 8)] [(1, (.p 0 0)), (2, (.p 1 0)), (3, (.v (.bool false)))] ⟨RG.mk 0 45, RG.mk 1 107, RG.st, trivial⟩ ?_
  intro j1 i1 a1 w1 M1
  repeat refine wp_seq ?_
  refine M1.t [.c 8 [] gv0, .m 4 [] 2, .u [(4, 1), (8, 0)] 2] [(1, (RG.z 4))] [(2, 2, gl0)] [(ws x), (RG.z 8), gl0] [(1, (.p 0 0)), (2, (.p 1 0)), (3, (.v (.bool false))), (4, (.p 2 0))] ⟨RG.cl (Coordinates_c), RG.mk 2 138, RG.pt i79, trivial⟩ ?_
  intro j2 a2 w2 M2
  repeat refine wp_seq ?_
  refine M2.d [.x 9 [] gv0, .x 10 [] gv0, .x 11 [] gv0, .x 12 [] (fv x), .x 13 [] (fv x), .c 14 [(11, 2), (12, 3), (13, 4)] (fv c1), .x 15 [] (fv x), .c 16 [(10, 1), (14, 5), (15, 6)] (fv c2), .x 17 [] (fv (7 : Fin P)), .c 18 [(9, 0), (16, 7), (17, 8)] (fv c3), .m 5 [] 3, .u [(5, 10), (18, 9)] 3] [(10, (RG.z 4))] [(3, 11, (ws c3))] [(ws x), (RG.z 8), gl0, (ws c3)] [(1, (.p 0 0)), (2, (.p 1 0)), (3, (.v (.bool false))), (4, (.p 2 0)), (5, (.p 3 0))] ⟨RG.ld u79 i79, RG.ld u79 i79, RG.ld u79 i79, RG.ld u85 i85, RG.ld u85 i85, RG.cl ((PTimes_c C x x).e hc1), RG.ld u85 i85, RG.cl ((PTimes_c C c1 x).e hc2), RG.se (seven_fv C), RG.cl ((PPlus_c C c2 (7 : Fin P)).e hc3), RG.mk 3 45, RG.pt i85, trivial⟩ ?_
  intro j3 a3 w3 M3
  repeat refine wp_seq ?_
  refine M3.t [.x 20 [] gv0, .x 21 [] (fv c3), .c 22 [(20, 0), (21, 1)] (.tuple #[(fv y), (.bool true)]), .x 19 [(22, 2)] (.tuple #[(fv y), (.bool true)]), .x 23 [(19, 3)] (fv y), .x 24 [(19, 3)] (.bool true), .m 6 [] 4, .u [(6, 6), (23, 4)] 4, .x 7 [(24, 5)] (.bool true)] [(6, (RG.z 4))] [(4, 7, (ws y))] [(ws x), (RG.z 8), gl0, (ws c3), (ws y)] [(1, (.p 0 0)), (2, (.p 1 0)), (3, (.v (.bool false))), (6, (.p 4 0)), (7, (.v (.bool true)))] ⟨RG.ld u79 i79, RG.ld u85 i85, RG.cl (f := 139) (args := #[gv0, (fv c3)]) (v := (.tuple #[(fv y), (.bool true)])) (Root_y C (by subst_vars; exact hr)), RG.st, RG.st, RG.st, RG.mk 4 45, RG.pt i85, RG.st, trivial⟩ ?_
  intro j4 a4 w4 M4
  repeat refine wp_seq ?_
  refine M4.u [.x 25 [] (.bool true), .x 26 [(25, 0)] (.bool false)] [(1, (.p 0 0)), (2, (.p 1 0)), (3, (.v (.bool false))), (6, (.p 4 0)), (26, (.v (.bool false)))] ⟨RG.st, RG.st, trivial⟩ ?_
  intro a5 w5 M5
  repeat refine wp_seq ?_
  refine wp_cond_false M5.ev ?_
  refine wp_skip ?_
  repeat refine wp_seq ?_
  refine M5.t [.x 28 [] (fv x), .x 29 [] (fv y), .x 30 [(28, 0), (29, 1)] (pv x y), .u [(30, 2)] 1, .x 3 [] (.bool true)] [] [(1, 3, (ws x ++ (ws y)))] [(ws x), (ws x ++ (ws y)), gl0, (ws c3), (ws y)] [(2, (.p 1 0)), (3, (.v (.bool true)))] ⟨RG.ld u85 i85, RG.ld u85 i85, RG.st, RG.pt i109, RG.st, trivial⟩ ?_
  intro a6 w6 M6
  refine wp_ret ?_
  refine bodyPost_ret (v := (.tuple #[(pv x y), (.bool true)])) (RG.results_rt M6.st 2 3 107 rfl 1 _ rfl (M6.at (s := (.p 1 0))) _ (M6.at (s := (.v (.bool true)))) u109 i109) M6.sl.defers ?_
  exact ⟨_, rfl, M6.st.bel.below, rfl⟩
set_option maxHeartbeats 2000000 in
set_option maxRecDepth 100000 in
theorem above_n_c (C : Fld P) (x : Fin P)(hr : rt (x * x * x + 7) = none)  : Gives 114 #[(fv x)] (.tuple #[pv (0 : Fin P) 0, .bool false]) := by
  intro w
  obtain ⟨c1, hc1⟩ : ∃ c, c = x * x := ⟨_, rfl⟩
  obtain ⟨c2, hc2⟩ : ∃ c, c = c1 * x := ⟨_, rfl⟩
  obtain ⟨c3, hc3⟩ : ∃ c, c = c2 + (7 : Fin P) := ⟨_, rfl⟩
  have hfin : ((.tuple #[(pv (0 : Fin P) (0 : Fin P)), (.bool false)]) : Value) = (.tuple #[pv (0 : Fin P) 0, .bool false]) := by
    subst_vars; rfl
  rw [← hfin]
  go_enter Tryz.func114, Tryz.ntmps114
  refine RG.M.enter [(0, (.v (fv x)))] 31 (by kernel_rfl) ?_
  intro a0 M0
  repeat refine wp_seq ?_
  refine M0.t [.m 1 [] 0, .m 2 [] 1, .x 3 [] (.bool false)] [(0, (ws x)), (1, (RG.z 8))] [] [(ws x), (RG.z 8)] [(1, (.p 0 0)), (2, (.p 1 0)), (3, (.v (.bool false)))] ⟨RG.mk 0 45, RG.mk 1 107, RG.st, trivial⟩ ?_
  intro j1 i1 a1 w1 M1
  repeat refine wp_seq ?_
  refine M1.t [.c 8 [] gv0, .m 4 [] 2, .u [(4, 1), (8, 0)] 2] [(1, (RG.z 4))] [(2, 2, gl0)] [(ws x), (RG.z 8), gl0] [(1, (.p 0 0)), (2, (.p 1 0)), (3, (.v (.bool false))), (4, (.p 2 0))] ⟨RG.cl (Coordinates_c), RG.mk 2 138, RG.pt i79, trivial⟩ ?_
  intro j2 a2 w2 M2
  repeat refine wp_seq ?_
  refine M2.d [.x 9 [] gv0, .x 10 [] gv0, .x 11 [] gv0, .x 12 [] (fv x), .x 13 [] (fv x), .c 14 [(11, 2), (12, 3), (13, 4)] (fv c1), .x 15 [] (fv x), .c 16 [(10, 1), (14, 5), (15, 6)] (fv c2), .x 17 [] (fv (7 : Fin P)), .c 18 [(9, 0), (16, 7), (17, 8)] (fv c3), .m 5 [] 3, .u [(5, 10), (18, 9)] 3] [(10, (RG.z 4))] [(3, 11, (ws c3))] [(ws x), (RG.z 8), gl0, (ws c3)] [(2, (.p 1 0)), (3, (.v (.bool false))), (4, (.p 2 0)), (5, (.p 3 0))] ⟨RG.ld u79 i79, RG.ld u79 i79, RG.ld u79 i79, RG.ld u85 i85, RG.ld u85 i85, RG.cl ((PTimes_c C x x).e hc1), RG.ld u85 i85, RG.cl ((PTimes_c C c1 x).e hc2), RG.se (seven_fv C), RG.cl ((PPlus_c C c2 (7 : Fin P)).e hc3), RG.mk 3 45, RG.pt i85, trivial⟩ ?_
  intro j3 a3 w3 M3
  repeat refine wp_seq ?_
  refine M3.t [.x 20 [] gv0, .x 21 [] (fv c3), .c 22 [(20, 0), (21, 1)] (.tuple #[(fv (0 : Fin P)), (.bool false)]), .x 19 [(22, 2)] (.tuple #[(fv (0 : Fin P)), (.bool false)]), .x 23 [(19, 3)] (fv (0 : Fin P)), .x 24 [(19, 3)] (.bool false), .m 6 [] 4, .u [(6, 6), (23, 4)] 4, .x 7 [(24, 5)] (.bool false)] [(6, (RG.z 4))] [(4, 7, (ws (0 : Fin P)))] [(ws x), (RG.z 8), gl0, (ws c3), (ws (0 : Fin P))] [(2, (.p 1 0)), (3, (.v (.bool false))), (7, (.v (.bool false)))] ⟨RG.ld u79 i79, RG.ld u85 i85, RG.cl (f := 139) (args := #[gv0, (fv c3)]) (v := (.tuple #[(fv (0 : Fin P)), (.bool false)])) (Root_n C (by subst_vars; exact hr)), RG.st, RG.st, RG.st, RG.mk 4 45, RG.pt i85, RG.st, trivial⟩ ?_
  intro j4 a4 w4 M4
  repeat refine wp_seq ?_
  refine M4.u [.x 25 [] (.bool false), .x 26 [(25, 0)] (.bool true)] [(2, (.p 1 0)), (3, (.v (.bool false))), (26, (.v (.bool true)))] ⟨RG.st, RG.st, trivial⟩ ?_
  intro a5 w5 M5
  repeat refine wp_seq ?_
  refine wp_cond_true M5.ev ?_
  repeat refine wp_seq ?_
  refine M5.t [.x 27 [] (pv (0 : Fin P) (0 : Fin P)), .u [(27, 0)] 1, .x 3 [] (.bool false)] [] [(1, 1, (ws (0 : Fin P) ++ (ws (0 : Fin P))))] [(ws x), (ws (0 : Fin P) ++ (ws (0 : Fin P))), gl0, (ws c3), (ws (0 : Fin P))] [(2, (.p 1 0)), (3, (.v (.bool false)))] ⟨RG.se (zero_pv (P := P)), RG.pt i109, RG.st, trivial⟩ ?_
  intro a6 w6 M6
  refine wp_ret ?_
  refine bodyPost_ret (v := (.tuple #[(pv (0 : Fin P) (0 : Fin P)), (.bool false)])) (RG.results_rt M6.st 2 3 107 rfl 1 _ rfl (M6.at (s := (.p 1 0))) _ (M6.at (s := (.v (.bool false)))) u109 i109) M6.sl.defers ?_
  exact ⟨_, rfl, M6.st.bel.below, rfl⟩
set_option maxHeartbeats 2000000 in
set_option maxRecDepth 100000 in
theorem popp_c (C : Fld P) (x y : Fin P) : Gives 115 #[(pv x y)] (pv x (0 - y)) := by
  intro w
  obtain ⟨c1, hc1⟩ : ∃ c, c = (0 : Fin P) - y := ⟨_, rfl⟩
  have hfin : ((pv x c1) : Value) = (pv x (0 - y)) := by
    subst_vars; rfl
  rw [← hfin]
  go_enter Tryz.func115, Tryz.ntmps115
  refine RG.M.enter [(0, (.v (pv x y)))] 11 (by kernel_rfl) ?_
  intro a0 M0
  repeat refine wp_seq ?_
  refine M0.t [.m 1 [] 0, .m 2 [] 1] [(0, (ws x ++ (ws y))), (1, (RG.z 8))] [] [(ws x ++ (ws y)), (RG.z 8)] [(1, (.p 0 0)), (2, (.p 1 0))] ⟨RG.mk 0 107, RG.mk 1 107, trivial⟩ ?_
  intro j1 i1 a1 w1 M1
  repeat refine wp_seq ?_
  refine M1.d [.s 3 [] (.p 0 0), .x 4 [(3, 0)] (fv x), .c 5 [] gv0, .x 6 [] (fv (0 : Fin P)), .s 7 [] (.p 0 4), .x 8 [(7, 4)] (fv y), .c 9 [(5, 2), (6, 3), (8, 5)] (fv c1), .x 10 [(4, 1), (9, 6)] (pv x c1), .u [(10, 7)] 1] [] [(1, 8, (ws x ++ (ws c1)))] [(ws x ++ (ws y)), (ws x ++ (ws c1))] [(2, (.p 1 0))] ⟨RG.st, RG.ld u85 i85, RG.cl (Coordinates_c), RG.se (zero_fv (P := P)), RG.st, RG.ld u85 i85, RG.cl ((PMinus_c C (0 : Fin P) y).e hc1), RG.st, RG.pt i109, trivial⟩ ?_
  intro a2 w2 M2
  refine wp_ret ?_
  refine bodyPost_ret (v := (pv x c1)) (RG.results_row M2.st 2 107 rfl 1 _ rfl (M2.at (s := (.p 1 0))) u109 i109) M2.sl.defers ?_
  exact ⟨_, rfl, M2.st.bel.below, rfl⟩
end Go.Proofs.YtmepmoalhgehhaaGreatDoor
