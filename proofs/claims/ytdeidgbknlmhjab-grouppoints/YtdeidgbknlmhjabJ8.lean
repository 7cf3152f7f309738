import Derived.Test.YtdeidgbknlmhjabJ7
import Derived.Test.YtdeidgbknlmhjabQ1
import Derived.Deep.RegionHeld3
namespace Go.Proofs.Ytdeidgbknlmhjab
open Go.RowKit Go.Sort

theorem or_q (a b : Nat) (ha : a < 18446744073709551616) : bits .or .u64 ((a / 4 : Nat) : Int) ((b * 4611686018427387904 % 18446744073709551616 : Nat) : Int) = ((a / 4 + b * 4611686018427387904 % 18446744073709551616 : Nat) : Int) ∧ a / 4 + b * 4611686018427387904 % 18446744073709551616 < 18446744073709551616 := by
  have h1 : b * 4611686018427387904 % 18446744073709551616 = 2 ^ 62 * (b % 4) := by omega
  have h2 := Nat.two_pow_add_eq_or_of_lt (i := 62) (b := a / 4) (by omega) (b % 4)
  rw [bits_or_u64_nat _ _ (by omega) (by omega), h1, Nat.or_comm, ← h2]
  omega

set_option maxHeartbeats 1000000 in
theorem quarter_any (x : Value) (m : Nat) (hx : Four x m) (w : World) :
    Calls Try.prog 95 #[x] w (Ret fun e w' => Below w.heap.size w w' ∧ Four e (m / 4)) := by
  obtain ⟨a, b, c, d, rfl, ha, hb, hc, hd, em⟩ := id hx
  obtain ⟨o0, l0⟩ := or_q a b ha
  obtain ⟨o1, l1⟩ := or_q b c hb
  obtain ⟨o2, l2⟩ := or_q c d hc
  have hq := quarter_eq a b c d
  rw [← em] at hq
  have s0 : (a : Int) / 4 = ((a / 4 : Nat) : Int) := by omega
  have s1 : (b : Int) / 4 = ((b / 4 : Nat) : Int) := by omega
  have s2 : (c : Int) / 4 = ((c / 4 : Nat) : Int) := by omega
  have s3 : (d : Int) / 4 = ((d / 4 : Nat) : Int) := by omega
  have t1 : IntKind.u64.wrap ((b : Int) * 4611686018427387904) = ((b * 4611686018427387904 % 18446744073709551616 : Nat) : Int) := by rw [IntKind.wrap_u64]; omega
  have t2 : IntKind.u64.wrap ((c : Int) * 4611686018427387904) = ((c * 4611686018427387904 % 18446744073709551616 : Nat) : Int) := by rw [IntKind.wrap_u64]; omega
  have t3 : IntKind.u64.wrap ((d : Int) * 4611686018427387904) = ((d * 4611686018427387904 % 18446744073709551616 : Nat) : Int) := by rw [IntKind.wrap_u64]; omega
  have l3 : d / 4 < 18446744073709551616 := by omega
  generalize a / 4 + b * 4611686018427387904 % 18446744073709551616 = y0 at o0 l0 hq
  generalize b / 4 + c * 4611686018427387904 % 18446744073709551616 = y1 at o1 l1 hq
  generalize c / 4 + d * 4611686018427387904 % 18446744073709551616 = y2 at o2 l2 hq
  generalize b * 4611686018427387904 % 18446744073709551616 = v1 at o0 t1
  generalize c * 4611686018427387904 % 18446744073709551616 = v2 at o1 t2
  generalize d * 4611686018427387904 % 18446744073709551616 = v3 at o2 t3
  generalize a / 4 = q0 at o0 s0
  generalize b / 4 = q1 at o1 s1
  generalize c / 4 = q2 at o2 s2
  generalize d / 4 = q3 at s3 l3 hq
  have HQ : Hid _ := hq
  clear hq em hx
  go_enter Try.func95, Try.ntmps95
  go_wp2
  refine bodyPost_ret (v := ?v) ?hr rfl ?hR
  case hr => simp [results, Try.results95, go_sem]; rfl
  exact ⟨_, rfl, below2 _ _ _, Four.mk l0 l1 l2 l3 HQ.out.symm⟩

theorem Odd_any (x : Value) (m : Nat) (hx : Four x m) (w : World) :
    Calls Try.prog 96 #[x] w (Ret fun e w' => Below w.heap.size w w' ∧ e = .bool (decide (m % 2 = 1))) := by
  obtain ⟨a, b, c, d, rfl, ha, hb, hc, hd, em⟩ := id hx
  have ho := and_one a ha
  have hm : m % 2 = a % 2 := by rw [em]; unfold val; omega
  rw [hm]
  clear hm em hx
  have h2 : a % 2 = 0 ∨ a % 2 = 1 := by omega
  rcases h2 with h | h
  · rw [h] at ho ⊢
    go_enter Try.func96, Try.ntmps96
    go_wp2
    go_ret
    exact ⟨_, rfl, below1 _ _, rfl⟩
  · rw [h] at ho ⊢
    go_enter Try.func96, Try.ntmps96
    go_wp2
    go_ret
    exact ⟨_, rfl, below1 _ _, rfl⟩

theorem rootS_of {w W : World} {k0 k1 k2 k7 a b c d ra rb rc rd g0 g1 g2 : Nat} (h : Kept w k0 [⟨k0, 0, g0, g1, g2, 0⟩, ⟨k7, 0, ra, rb, rc, rd⟩, ⟨k1, 0, a, b, c, d⟩, ⟨k2, 0, 0, 0, 0, 0⟩] W) : W.cell? ⟨k0, 0, none⟩ = some (.int .u64 (g0 : Int)) ∧ W.cell? ⟨k0, 1, none⟩ = some (.int .u64 (g1 : Int)) ∧ W.cell? ⟨k0, 2, none⟩ = some (.int .u64 (g2 : Int)) ∧ W.cell? ⟨k0, 3, none⟩ = some (.int .u64 0) ∧ W.cell? ⟨k7, 0, none⟩ = some (.int .u64 (ra : Int)) ∧ W.cell? ⟨k7, 1, none⟩ = some (.int .u64 (rb : Int)) ∧ W.cell? ⟨k7, 2, none⟩ = some (.int .u64 (rc : Int)) ∧ W.cell? ⟨k7, 3, none⟩ = some (.int .u64 (rd : Int)) ∧ W.cell? ⟨k1, 0, none⟩ = some (.int .u64 (a : Int)) ∧ W.cell? ⟨k1, 1, none⟩ = some (.int .u64 (b : Int)) ∧ W.cell? ⟨k1, 2, none⟩ = some (.int .u64 (c : Int)) ∧ W.cell? ⟨k1, 3, none⟩ = some (.int .u64 (d : Int)) ∧ Kept w k0 [⟨k0, 0, g0, g1, g2, 0⟩, ⟨k7, 0, ra, rb, rc, rd⟩, ⟨k1, 0, a, b, c, d⟩, ⟨k2, 0, 0, 0, 0, 0⟩] W :=
  ⟨h.head.c0, h.head.c1, h.head.c2, h.head.c3, h.tail.head.c0, h.tail.head.c1, h.tail.head.c2, h.tail.head.c3, h.tail.tail.head.c0, h.tail.tail.head.c1, h.tail.tail.head.c2, h.tail.tail.head.c3, h⟩

theorem four_ne {a b c d m n : Nat} {v : Value} (h : Four v n) (h' : Four (.agg #[.int .u64 (a : Int), .int .u64 (b : Int), .int .u64 (c : Int), .int .u64 (d : Int)]) m) (hne : ¬ n = m) :
    ∃ p q r s : Nat, v = .agg #[.int .u64 (p : Int), .int .u64 (q : Int), .int .u64 (r : Int), .int .u64 (s : Int)] ∧ ¬ (p = a ∧ q = b ∧ r = c ∧ s = d) := by
  obtain ⟨p, q, r, s, rfl, h1⟩ := id h
  refine ⟨p, q, r, s, rfl, ?_⟩
  rintro ⟨rfl, rfl, rfl, rfl⟩
  exact hne (h.num h')

/-- The even one of two roots. -/
def even (P r : Nat) : Nat := if r % 2 = 1 then P - r else r

/-- What Root answers. -/
def RootR (P m R : Nat) (e : Value) : Prop := ∃ (ya yb yc yd : Nat) (ok : Bool), e = .tuple #[.agg #[.int .u64 (ya : Int), .int .u64 (yb : Int), .int .u64 (yc : Int), .int .u64 (yd : Int)], .bool ok] ∧
  (ok = true → R * R % P = m ∧ Four (.agg #[.int .u64 (ya : Int), .int .u64 (yb : Int), .int .u64 (yc : Int), .int .u64 (yd : Int)]) (even P R)) ∧ (ok = false → ¬ R * R % P = m) ∧ (ok = false → ya = 0 ∧ yb = 0 ∧ yc = 0 ∧ yd = 0)
theorem RootR.yes {P m R ya yb yc yd : Nat} (h : R * R % P = m) (hF : Four (.agg #[.int .u64 (ya : Int), .int .u64 (yb : Int), .int .u64 (yc : Int), .int .u64 (yd : Int)]) (even P R)) : RootR P m R (.tuple #[.agg #[.int .u64 (ya : Int), .int .u64 (yb : Int), .int .u64 (yc : Int), .int .u64 (yd : Int)], .bool true]) :=
  ⟨ya, yb, yc, yd, true, rfl, fun _ => ⟨h, hF⟩, fun h => Bool.noConfusion h, fun h => Bool.noConfusion h⟩
theorem RootR.no {P m R : Nat} (h : ¬ R * R % P = m) : RootR P m R (.tuple #[.agg #[.int .u64 0, .int .u64 0, .int .u64 0, .int .u64 0], .bool false]) :=
  ⟨0, 0, 0, 0, false, rfl, fun h => Bool.noConfusion h, fun _ => h, fun _ => ⟨rfl, rfl, rfl, rfl⟩⟩

set_option maxHeartbeats 4000000 in
set_option maxRecDepth 100000 in
theorem Root_any (g0 g1 g2 P : Nat) (x : Value) (m : Nat) (hG : Gap g0 g1 g2 P) (hP1 : P / 4 % 18446744073709551616 < 18446744073709551615) (hx : Four x m) (w : World) :
    Calls Try.prog 64 #[.agg #[.int .u64 (g0 : Int), .int .u64 (g1 : Int), .int .u64 (g2 : Int), .int .u64 0], x] w (Ret fun e w' => Below w.heap.size w w' ∧ RootR P m (m ^ (P / 4 + 1) % P) e) := by
  obtain ⟨a, b, c, d, rfl, ha, hb, hc, hd, em⟩ := id hx
  have HX : Hid (Four _ m) := hx
  have HG : Hid (Gap g0 g1 g2 P) := hG
  obtain ⟨R, hR⟩ : ∃ R, m ^ (P / 4 + 1) % P = R := ⟨_, rfl⟩
  have hRP : R < P := by
    rw [← hR]
    refine Nat.mod_lt _ ?_
    have := hG.hP2
    omega
  rw [hR]
  have HRE : Hid (m ^ (P / 4 + 1) % P = R) := hR
  have HRP : Hid (R < P) := hRP
  clear em hx ha hb hc hd hG hR hRP
  go_enter Try.func64, Try.ntmps64
  go_wp2_with fail
  have KP := kept3 w 79 85 85 g0 g1 g2 0 a b c d 0 0 0 0
  simp only [Int.natCast_zero] at KP
  generalize World.alloc _ _ = W0 at KP ⊢
  generalize h2 : w.heap.size + 1 + 1 = k2 at KP ⊢
  generalize h1 : w.heap.size + 1 = k1 at KP ⊢
  have Q2 : Hid (w.heap.size ≤ k2) := by unfold Hid; omega
  generalize h0 : w.heap.size = k0 at KP Q2 ⊢
  have H0 : Hid (w.heap.size = k0) := h0
  clear h0 h1 h2
  refine (PModulus_any g0 g1 g2 P HG.out _).mono ?_
  rintro e w1 ⟨v, rfl, hb1, hF⟩
  obtain ⟨pa, pb, pc, pd, rfl, -⟩ := id hF
  replace KP := KP.call hb1
  clear hb1
  go_wp2_with fail
  refine (quarter_any _ _ hF _).mono ?_
  rintro e w2 ⟨v, rfl, hb2, hF2⟩
  obtain ⟨qa, qb, qc, qd, rfl, hqa, hqb, hqc, hqd, eq⟩ := id hF2
  replace KP := KP.call hb2
  clear hb2 hF hF2
  have hqe : qa < 18446744073709551615 := by rw [eq] at hP1; unfold val at hP1; omega
  obtain ⟨qe, hqe'⟩ : ∃ qe, qa + 1 = qe := ⟨_, rfl⟩
  have HE : Hid (Four (.agg #[.int .u64 (qe : Int), .int .u64 (qb : Int), .int .u64 (qc : Int), .int .u64 (qd : Int)]) (P / 4 + 1)) := by
    refine Four.mk (by omega) hqb hqc hqd ?_
    rw [eq, ← hqe']; unfold val; omega
  have hadd : (qa : Int) + 1 = (qe : Int) := by omega
  have hw := wrapN qe (by omega)
  clear hqe eq hP1 hqa hqb hqc hqd hqe'
  obtain ⟨xc0, xc1, xc2, xc3, xf⟩ := KP.tail.head.at4
  have zx := KP.tail.head.lt
  obtain ⟨pc0, pc1, pc2, pc3, pf⟩ := KP.head.at4
  have zp := KP.head.lt
  have n1 : k1 ≠ w2.heap.size := Nat.ne_of_lt zx
  have n0 : k0 ≠ w2.heap.size := Nat.ne_of_lt zp
  go_wp2_with fail
  refine (power_any g0 g1 g2 P _ _ _ _ HG.out HX.out HE.out _).mono ?_
  rintro e w3 ⟨v, rfl, hb3, hF⟩
  replace KP := (KP.alloc _).call hb3
  clear hb3 xc0 xc1 xc2 xc3 xf zx pc0 pc1 pc2 pc3 pf zp n0 n1 HE hadd hw
  obtain ⟨ra, rb, rc, rd, rfl, -⟩ := id hF
  rw [HRE.out] at hF
  have HF : Hid (Four _ R) := hF
  clear hF
  go_upto_region 4 with fail
  have KP7 : Kept w k0 [⟨k0, 0, g0, g1, g2, 0⟩, ⟨w3.heap.size, 0, ra, rb, rc, rd⟩, ⟨k1, 0, a, b, c, d⟩, ⟨k2, 0, 0, 0, 0, 0⟩] _ := ((((Kept.mk1 (KP.alloc (.cells #[.int .u64 (ra : Int), .int .u64 (rb : Int), .int .u64 (rc : Int), .int .u64 (rd : Int)] 85)).bl (KP.alloc _).le).cons (KP.alloc _).tail.tail.head).cons (KP.alloc _).tail.head).cons (At4.made w3 85 ra rb rc rd rfl).blk).cons (x := ⟨k0, 0, g0, g1, g2, 0⟩) (KP.alloc _).head |> fun h => by exact h
  have n70 : w3.heap.size ≠ k0 := Nat.ne_of_gt KP.head.lt
  have n72 : w3.heap.size ≠ k2 := Nat.ne_of_gt KP.tail.tail.head.lt
  have n71 : w3.heap.size ≠ k1 := Nat.ne_of_gt KP.tail.head.lt
  have Q7 : Hid (k0 ≤ w3.heap.size) := KP.le
  clear KP
  have KP := KP7
  clear KP7
  generalize World.alloc _ _ = W4 at KP ⊢
  generalize w3.heap.size = k7 at KP n70 n71 n72 Q7 ⊢
  by_cases heq : R * R % P = m
  · have hsame := same_P a b c d
    go_region_held3 (fun w' => w'.cell? ⟨k0, 0, none⟩ = some (.int .u64 (g0 : Int)) ∧ w'.cell? ⟨k0, 1, none⟩ = some (.int .u64 (g1 : Int)) ∧ w'.cell? ⟨k0, 2, none⟩ = some (.int .u64 (g2 : Int)) ∧ w'.cell? ⟨k0, 3, none⟩ = some (.int .u64 0) ∧ w'.cell? ⟨k7, 0, none⟩ = some (.int .u64 (ra : Int)) ∧ w'.cell? ⟨k7, 1, none⟩ = some (.int .u64 (rb : Int)) ∧ w'.cell? ⟨k7, 2, none⟩ = some (.int .u64 (rc : Int)) ∧ w'.cell? ⟨k7, 3, none⟩ = some (.int .u64 (rd : Int)) ∧ w'.cell? ⟨k1, 0, none⟩ = some (.int .u64 (a : Int)) ∧ w'.cell? ⟨k1, 1, none⟩ = some (.int .u64 (b : Int)) ∧ w'.cell? ⟨k1, 2, none⟩ = some (.int .u64 (c : Int)) ∧ w'.cell? ⟨k1, 3, none⟩ = some (.int .u64 (d : Int)) ∧ Kept w k0 [⟨k0, 0, g0, g1, g2, 0⟩, ⟨k7, 0, ra, rb, rc, rd⟩, ⟨k1, 0, a, b, c, d⟩, ⟨k2, 0, 0, 0, 0, 0⟩] w') (first | (with_reducible exact rootS_of KP) | (with_reducible exact rootS_of KP.drew) | fail) (first | (go_at_call 47; refine (Times_any g0 g1 g2 P _ _ _ _ HG.out HF.out HF.out _).mono ?_; rintro e w5 ⟨v, rfl, hb1, hF3⟩; rw [heq] at hF3; obtain rfl := hF3.inj HX.out; clear hF3; (first | (with_reducible (have KP1 := KP.drew.call hb1)) | (with_reducible (have KP1 := KP.call hb1)) | fail); clear KP hb1; have KP := KP1; clear KP1))
    have HEQ : Hid (R * R % P = m) := heq
    clear heq
    rename_i hHeld
    clear hHeld
    obtain ⟨tc0, tc1, tc2, tc3, tf⟩ := KP.tail.head.at4
    have zt := KP.tail.head.lt
    go_wp2_with fail
    clear tc0 tc1 tc2 tc3 tf zt
    refine (Odd_any _ _ HF.out _).mono ?_
    rintro e w6 ⟨v, rfl, hb6, rfl⟩
    replace KP := KP.call hb6
    clear hb6
    obtain ⟨tc0, tc1, tc2, tc3, tf⟩ := KP.tail.head.at4
    have zt := KP.tail.head.lt
    obtain ⟨uc0, uc1, uc2, uc3, uf⟩ := KP.tail.tail.tail.head.at4
    have zu := KP.tail.tail.tail.head.lt
    by_cases hodd : R % 2 = 1
    · have hd : decide (R % 2 = 1) = true := decide_eq_true hodd
      rw [hd]
      have HO : Hid (R % 2 = 1) := hodd
      clear hd hodd
      obtain ⟨pc0, pc1, pc2, pc3, pf⟩ := KP.head.at4
      have zp := KP.head.lt
      go_wp2_with fail
      refine (Minus_any g0 g1 g2 P _ _ 0 _ HG.out (Four.mk (a := 0) (b := 0) (c := 0) (d := 0) (by decide) (by decide) (by decide) (by decide) rfl) HF.out (by have := HRP.out; omega) HRP.out _).mono ?_
      rintro e w8 ⟨v, rfl, hb8, hF8⟩
      obtain ⟨sa, sb, sc, sd, rfl, -⟩ := id hF8
      have HF8 : Hid (Four (.agg #[.int .u64 (sa : Int), .int .u64 (sb : Int), .int .u64 (sc : Int), .int .u64 (sd : Int)]) (even P R)) := by
        have h1 : (0 + P - R) % P = even P R := by
          unfold even
          rw [if_pos HO.out, Nat.zero_add]
          exact Nat.mod_eq_of_lt (by have := HRP.out; have := HO.out; omega)
        unfold Hid
        rw [← h1]
        exact hF8
      replace KP := KP.call hb8
      clear hb8 hF8 tc0 tc1 tc2 tc3 tf zt uc0 uc1 uc2 uc3 uf zu pc0 pc1 pc2 pc3 pf zp
      obtain ⟨tc0, tc1, tc2, tc3, tf⟩ := KP.tail.head.at4
      have zt := KP.tail.head.lt
      obtain ⟨uc0, uc1, uc2, uc3, uf⟩ := KP.tail.tail.tail.head.at4
      have zu := KP.tail.tail.tail.head.lt
      go_wp2
      have RF := (KP.tail.tail.tail.head.at4.other4 n72 (.int .u64 (sa : Int)) (.int .u64 (sb : Int)) (.int .u64 (sc : Int)) (.int .u64 (sd : Int))).self4 sa sb sc sd
      unfold set4 at RF
      refine bodyPost_ret (v := ?v) ?hr rfl ?hR
      case hr => simp [results, Try.results64, go_sem, RF.c0, RF.c1, RF.c2, RF.c3]; rfl
      refine ⟨_, rfl, ?_, RootR.yes HEQ.out HF8.out⟩
      rw [H0.out]
      exact below_set4 (below_set4 KP.bl Q7.out _ _ _ _) Q2.out _ _ _ _
    · have hd : decide (R % 2 = 1) = false := decide_eq_false hodd
      rw [hd]
      have HF8 : Hid (Four (.agg #[.int .u64 (ra : Int), .int .u64 (rb : Int), .int .u64 (rc : Int), .int .u64 (rd : Int)]) (even P R)) := by
        have h1 : even P R = R := by unfold even; rw [if_neg hodd]
        unfold Hid
        rw [h1]
        exact HF.out
      clear hd hodd
      go_wp2
      have RF := KP.tail.tail.tail.head.at4.self4 ra rb rc rd
      unfold set4 at RF
      refine bodyPost_ret (v := ?v2) ?hr2 rfl ?hR2
      case hr2 => simp [results, Try.results64, go_sem, RF.c0, RF.c1, RF.c2, RF.c3]; rfl
      refine ⟨_, rfl, ?_, RootR.yes HEQ.out HF8.out⟩
      rw [H0.out]
      exact below_set4 KP.bl Q2.out _ _ _ _
  · go_region_held3 (fun w' => w'.cell? ⟨k0, 0, none⟩ = some (.int .u64 (g0 : Int)) ∧ w'.cell? ⟨k0, 1, none⟩ = some (.int .u64 (g1 : Int)) ∧ w'.cell? ⟨k0, 2, none⟩ = some (.int .u64 (g2 : Int)) ∧ w'.cell? ⟨k0, 3, none⟩ = some (.int .u64 0) ∧ w'.cell? ⟨k7, 0, none⟩ = some (.int .u64 (ra : Int)) ∧ w'.cell? ⟨k7, 1, none⟩ = some (.int .u64 (rb : Int)) ∧ w'.cell? ⟨k7, 2, none⟩ = some (.int .u64 (rc : Int)) ∧ w'.cell? ⟨k7, 3, none⟩ = some (.int .u64 (rd : Int)) ∧ w'.cell? ⟨k1, 0, none⟩ = some (.int .u64 (a : Int)) ∧ w'.cell? ⟨k1, 1, none⟩ = some (.int .u64 (b : Int)) ∧ w'.cell? ⟨k1, 2, none⟩ = some (.int .u64 (c : Int)) ∧ w'.cell? ⟨k1, 3, none⟩ = some (.int .u64 (d : Int)) ∧ Kept w k0 [⟨k0, 0, g0, g1, g2, 0⟩, ⟨k7, 0, ra, rb, rc, rd⟩, ⟨k1, 0, a, b, c, d⟩, ⟨k2, 0, 0, 0, 0, 0⟩] w') (first | (with_reducible exact rootS_of KP) | (with_reducible exact rootS_of KP.drew) | fail) (first | (go_at_call 47; refine (Times_any g0 g1 g2 P _ _ _ _ HG.out HF.out HF.out _).mono ?_; rintro e w5 ⟨v, rfl, hb1, hF3⟩; obtain ⟨ta, tb, tc, td, rfl, hne⟩ := four_ne hF3 HX.out heq; have hoth := other_P hne; clear hF3; (first | (with_reducible (have KP1 := KP.drew.call hb1)) | (with_reducible (have KP1 := KP.call hb1)) | fail); clear KP hb1; have KP := KP1; clear KP1))
    have HEQ : Hid (¬ R * R % P = m) := heq
    clear heq
    rename_i hHeld
    clear hHeld
    obtain ⟨uc0, uc1, uc2, uc3, uf⟩ := KP.tail.tail.tail.head.at4
    have zu := KP.tail.tail.tail.head.lt
    go_wp2
    have RF : At4 (set4 w5 k2 (.int .u64 0) (.int .u64 0) (.int .u64 0) (.int .u64 0)) k2 0 0 0 0 := KP.tail.tail.tail.head.at4.self4 0 0 0 0
    unfold set4 at RF
    refine bodyPost_ret (v := ?v3) ?hr3 rfl ?hR3
    case hr3 => simp [results, Try.results64, go_sem, RF.c0, RF.c1, RF.c2, RF.c3]; rfl
    refine ⟨_, rfl, ?_, RootR.no HEQ.out⟩
    rw [H0.out]
    exact below_set4 KP.bl Q2.out _ _ _ _
end Go.Proofs.Ytdeidgbknlmhjab
