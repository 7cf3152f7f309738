import Derived.Test.YtdeidgbknlmhjabD1
import Derived.Test.YtdeidgbknlmhjabJ1
namespace Go.Proofs.Ytdeidgbknlmhjab
open Go.RowKit Go.Sort

theorem rows_sum {a b c d n m r0 s0 t0 u0 y0 y1 y2 y3 : Nat} (em : m = val a b c d)
    (e0 : r0 + 18446744073709551616 * y0 = a * n + val 0 0 0 0)
    (e1 : s0 + 18446744073709551616 * y1 = b * n + y0)
    (e2 : t0 + 18446744073709551616 * y2 = c * n + y1)
    (e3 : u0 + 18446744073709551616 * y3 = d * n + y2) :
    val r0 s0 t0 u0 + top * y3 = m * n := by
  have hm : val a b c d * n = val (a * n) (b * n) (c * n) (d * n) := by
    rw [Nat.mul_comm, mul_val, Nat.mul_comm n a, Nat.mul_comm n b, Nat.mul_comm n c, Nat.mul_comm n d]
  rw [em, hm]
  generalize a * n = x0 at *
  generalize b * n = x1 at *
  generalize c * n = x2 at *
  generalize d * n = x3 at *
  unfold val at *
  unfold top
  omega

set_option maxHeartbeats 4000000 in
set_option maxRecDepth 100000 in
theorem product_any (g0 g1 g2 P : Nat) (x y : Value) (m n : Nat) (hG : Gap g0 g1 g2 P) (hx : Four x m) (hy : Four y n) (w : World) :
    Calls Try.prog 87 #[.agg #[.int .u64 (g0 : Int), .int .u64 (g1 : Int), .int .u64 (g2 : Int), .int .u64 0], x, y] w (Ret fun e w' => Below w.heap.size w w' ∧ Four e (m * n % P)) := by
  obtain ⟨a, b, c, d, rfl, ha, hb, hc, hd, em⟩ := hx
  obtain ⟨p, q, r, s, rfl, hp, hq, hr, hs, en⟩ := id hy
  have HM : Hid (m = val a b c d) := em
  clear em en
  go_enter Try.func87, Try.ntmps87
  go_wp2_with fail
  have KP := kept4 w 79 77 77 77 g0 g1 g2 0 a b c d p q r s 0 0 0 0
  simp only [Int.natCast_zero] at KP
  have PR := KP.head.at4
  have X := KP.tail.head.at4
  have Y := KP.tail.tail.head.at4
  have RE := KP.tail.tail.tail.head.at4
  have BL : Hid (Below w.heap.size w _) := KP.bl
  clear KP
  generalize World.alloc _ _ = w1 at X Y PR RE BL ⊢
  generalize h3 : w.heap.size + 1 + 1 + 1 = k3 at RE ⊢
  generalize h2 : w.heap.size + 1 + 1 = k4 at Y ⊢
  generalize h1 : w.heap.size + 1 = k1 at X ⊢
  have Q3 : Hid (w.heap.size ≤ k3) := by unfold Hid; omega
  generalize h0 : w.heap.size = k0 at PR BL Q3 ⊢
  have n03 : k0 ≠ k3 := by omega
  have n13 : k1 ≠ k3 := by omega
  have H0 : Hid (w.heap.size = k0) := h0
  clear h0 h1 h2 h3
  refine (row_any a _ _ _ _ ha hy (Four.mk (a := 0) (b := 0) (c := 0) (d := 0) (by decide) (by decide) (by decide) (by decide) rfl) _).mono ?_
  rintro e w2 ⟨v, rfl, hb2, l0, v2, t0, rfl, hl0, ⟨a0, b0, c0, d0, rfl, ha0, hb0, hc0, hd0, es⟩, he⟩
  have HQ0 : Hid (l0 + 18446744073709551616 * val a0 b0 c0 d0 = a * n + val 0 0 0 0) := by unfold Hid; rw [← es]; exact he
  clear he es
  replace BL : Hid (Below k0 w w2) := blcall BL PR hb2
  replace X := X.call hb2
  replace Y := Y.call hb2
  replace RE := RE.call hb2
  replace PR := PR.call hb2
  clear hb2
  obtain ⟨xc0, xc1, xc2, xc3, xf⟩ := id X
  have z1 := X.lt
  obtain ⟨yc0, yc1, yc2, yc3, yf⟩ := id Y
  have z4 := Y.lt
  obtain ⟨rc0, rc1, rc2, rc3, rf⟩ := id RE
  have z3 := RE.lt
  obtain ⟨pc0, pc1, pc2, pc3, pf⟩ := id PR
  have z0 := PR.lt
  go_wp2_with fail
  refine (row_any b _ _ _ _ hb hy (Four.mk ha0 hb0 hc0 hd0 rfl) _).mono ?_
  rintro e w3 ⟨v, rfl, hb3, l1, v3, t1, rfl, hl1, ⟨a1, b1, c1, d1, rfl, ha1, hb1, hc1, hd1, es⟩, he⟩
  clear xc0 xc1 xc2 xc3 xf z1 yc0 yc1 yc2 yc3 yf z4 rc0 rc1 rc2 rc3 rf z3 pc0 pc1 pc2 pc3 pf z0
  have HQ1 : Hid (l1 + 18446744073709551616 * val a1 b1 c1 d1 = b * n + val a0 b0 c0 d0) := by unfold Hid; rw [← es]; exact he
  clear he es
  have j0 : k0 ≠ w2.heap.size := Nat.ne_of_lt PR.lt
  have j1 : k1 ≠ w2.heap.size := Nat.ne_of_lt X.lt
  have j3 : k3 ≠ w2.heap.size := Nat.ne_of_lt RE.lt
  have j4 : k4 ≠ w2.heap.size := Nat.ne_of_lt Y.lt
  have J0 : Hid (k0 ≤ w2.heap.size) := Nat.le_of_lt PR.lt
  have T := (At4.made w2 77 a0 b0 c0 d0 rfl).call hb3
  replace BL : Hid (Below k0 w w3) := blcall (W := w2.alloc (.cells #[.int .u64 (a0 : Int), .int .u64 (b0 : Int), .int .u64 (c0 : Int), .int .u64 (d0 : Int)] 77)) (BL.out.alloc (Nat.le_of_lt PR.lt) _) (PR.alloc _) hb3
  replace X := (X.alloc _).call hb3
  replace Y := (Y.alloc _).call hb3
  replace RE := (RE.alloc _).call hb3
  replace PR := (PR.alloc _).call hb3
  clear hb3
  generalize w2.heap.size = k5 at T j0 j1 j3 j4 J0 ⊢
  obtain ⟨xc0, xc1, xc2, xc3, xf⟩ := id X
  have z1 := X.lt
  obtain ⟨yc0, yc1, yc2, yc3, yf⟩ := id Y
  have z4 := Y.lt
  obtain ⟨rc0, rc1, rc2, rc3, rf⟩ := id RE
  have z3 := RE.lt
  obtain ⟨pc0, pc1, pc2, pc3, pf⟩ := id PR
  have z0 := PR.lt
  obtain ⟨tc0, tc1, tc2, tc3, tf⟩ := id T
  have z5 := T.lt
  go_wp2_with fail
  refine (row_any c _ _ _ _ hc hy (Four.mk ha1 hb1 hc1 hd1 rfl) _).mono ?_
  rintro e w4 ⟨v, rfl, hbb, l2, v4, t4, rfl, hl2, ⟨a2, b2, c2, d2, rfl, ha2, hb2, hc2, hd2, es⟩, he⟩
  clear xc0 xc1 xc2 xc3 xf z1 yc0 yc1 yc2 yc3 yf z4 rc0 rc1 rc2 rc3 rf z3 pc0 pc1 pc2 pc3 pf z0 tc0 tc1 tc2 tc3 tf z5
  have HQ2 : Hid (l2 + 18446744073709551616 * val a2 b2 c2 d2 = c * n + val a1 b1 c1 d1) := by unfold Hid; rw [← es]; exact he
  clear he es
  replace BL : Hid (Below k0 w w4) := blcall (below_set4 BL.out J0.out _ _ _ _) (PR.other4 j0.symm _ _ _ _) hbb
  replace X := (X.other4 j1.symm _ _ _ _).call hbb
  replace Y := (Y.other4 j4.symm _ _ _ _).call hbb
  replace RE := (RE.other4 j3.symm _ _ _ _).call hbb
  replace PR := (PR.other4 j0.symm _ _ _ _).call hbb
  replace T := (T.self4 a1 b1 c1 d1).call hbb
  clear hbb
  obtain ⟨xc0, xc1, xc2, xc3, xf⟩ := id X
  have z1 := X.lt
  obtain ⟨yc0, yc1, yc2, yc3, yf⟩ := id Y
  have z4 := Y.lt
  obtain ⟨rc0, rc1, rc2, rc3, rf⟩ := id RE
  have z3 := RE.lt
  obtain ⟨pc0, pc1, pc2, pc3, pf⟩ := id PR
  have z0 := PR.lt
  obtain ⟨tc0, tc1, tc2, tc3, tf⟩ := id T
  have z5 := T.lt
  go_wp2_with fail
  refine (row_any d _ _ _ _ hd hy (Four.mk ha2 hb2 hc2 hd2 rfl) _).mono ?_
  rintro e w5 ⟨v, rfl, hbb, l3, v4, t4, rfl, hl3, ⟨a3, b3, c3, d3, rfl, ha3, hb3, hc3, hd3, es⟩, he⟩
  clear xc0 xc1 xc2 xc3 xf z1 yc0 yc1 yc2 yc3 yf z4 rc0 rc1 rc2 rc3 rf z3 pc0 pc1 pc2 pc3 pf z0 tc0 tc1 tc2 tc3 tf z5
  have HQ3 : Hid (l3 + 18446744073709551616 * val a3 b3 c3 d3 = d * n + val a2 b2 c2 d2) := by unfold Hid; rw [← es]; exact he
  clear he es
  replace BL : Hid (Below k0 w w5) := blcall (below_set4 BL.out J0.out _ _ _ _) (PR.other4 j0.symm _ _ _ _) hbb
  replace X := (X.other4 j1.symm _ _ _ _).call hbb
  replace Y := (Y.other4 j4.symm _ _ _ _).call hbb
  replace RE := (RE.other4 j3.symm _ _ _ _).call hbb
  replace PR := (PR.other4 j0.symm _ _ _ _).call hbb
  replace T := (T.self4 a2 b2 c2 d2).call hbb
  clear hbb
  obtain ⟨rc0, rc1, rc2, rc3, rf⟩ := id RE
  have z3 := RE.lt
  obtain ⟨pc0, pc1, pc2, pc3, pf⟩ := id PR
  have z0 := PR.lt
  obtain ⟨tc0, tc1, tc2, tc3, tf⟩ := id T
  have z5 := T.lt
  go_wp2_with fail
  refine (fold_any g0 g1 g2 _ _ _ _ P hG.h0 hG.h1 hG.h2 hG.hor hG.hP hG.hP2 (Four.mk hl0 hl1 hl2 hl3 rfl) (Four.mk ha3 hb3 hc3 hd3 rfl) _).mono ?_
  rintro e w6 ⟨v, rfl, hbb, hv⟩
  rw [rows_sum HM.out HQ0.out HQ1.out HQ2.out HQ3.out] at hv
  clear rc0 rc1 rc2 rc3 rf z3 pc0 pc1 pc2 pc3 pf z0 tc0 tc1 tc2 tc3 tf z5
  replace BL : Hid (Below k0 w w6) := blcall (below_set4 BL.out J0.out _ _ _ _) (PR.other4 j0.symm _ _ _ _) hbb
  replace RE := (RE.other4 j3.symm _ _ _ _).call hbb
  replace PR := (PR.other4 j0.symm _ _ _ _).call hbb
  clear hbb T X Y HQ0 HQ1 HQ2 HQ3 HM
  obtain ⟨a7, b7, c7, d7, rfl, ha7, hb7, hc7, hd7, hv7⟩ := id hv
  have HV : Hid (Four _ _) := hv
  clear hv hv7
  obtain ⟨rc0, rc1, rc2, rc3, rf⟩ := id RE
  have z3 := RE.lt
  go_wp2
  have RF := RE.self4 a7 b7 c7 d7
  unfold set4 at RF
  refine bodyPost_ret (v := ?v) ?hr rfl ?hR
  case hr => simp [results, Try.results87, go_sem, RF.c0, RF.c1, RF.c2, RF.c3]; rfl
  refine ⟨_, rfl, ?_, HV.out⟩
  rw [H0.out]
  exact below_set4 BL.out Q3.out _ _ _ _
end Go.Proofs.Ytdeidgbknlmhjab
