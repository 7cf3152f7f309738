import Derived.Test.YtdeidgbknlmhjabF0
import Derived.Test.YtdeidgbknlmhjabK1
namespace Go.Proofs.Ytdeidgbknlmhjab
open Go.RowKit Go.Sort

/-- Three arguments and a result, each in a block of its own. -/
theorem kept4 (w : World) (t0 t1 t2 t3 : TypeId) (a b c d e f g h i j k l m n o p : Nat) :
    Kept w w.heap.size [⟨w.heap.size, 0, a, b, c, d⟩, ⟨w.heap.size + 1, 0, e, f, g, h⟩, ⟨w.heap.size + 1 + 1, 0, i, j, k, l⟩, ⟨w.heap.size + 1 + 1 + 1, 0, m, n, o, p⟩]
      ((((w.alloc (.cells #[.int .u64 (a : Int), .int .u64 (b : Int), .int .u64 (c : Int), .int .u64 (d : Int)] t0)).alloc (.cells #[.int .u64 (e : Int), .int .u64 (f : Int), .int .u64 (g : Int), .int .u64 (h : Int)] t1)).alloc (.cells #[.int .u64 (i : Int), .int .u64 (j : Int), .int .u64 (k : Int), .int .u64 (l : Int)] t2)).alloc (.cells #[.int .u64 (m : Int), .int .u64 (n : Int), .int .u64 (o : Int), .int .u64 (p : Int)] t3)) := by
  refine ((((Kept.mk1 (below4 w _ _ _ _) (below4 w _ _ _ _).size).cons ?_).cons ?_).cons ?_).cons ?_
  · exact (At4.made _ t3 m n o p (by simp)).blk
  · exact ((At4.made _ t2 i j k l (by simp)).alloc _).blk
  · exact (((At4.made _ t1 e f g h (by simp)).alloc _).alloc _).blk
  · exact ((((At4.made _ t0 a b c d rfl).alloc _).alloc _).alloc _).blk

theorem plus_lo {g0 g1 g2 P m n s l : Nat} (hG : Gap g0 g1 g2 P) (h1 : s + top * 0 = m + n) (h2 : l + top * 0 = s + val g0 g1 g2 0) (hl : l < top) : (m + n) % P = s := by
  have := hG.hP
  rw [← h1, Nat.mul_zero, Nat.add_zero, Nat.mod_eq_of_lt (by omega)]
theorem plus_hi {g0 g1 g2 P m n s l k j : Nat} (hG : Gap g0 g1 g2 P) (hm : m < P) (hn : n < P) (h1 : s + top * k = m + n) (h2 : l + top * j = s + val g0 g1 g2 0) (hk : k ≤ 1) (hj : j ≤ 1) (hz : ¬ (k = 0 ∧ j = 0)) (hs : s < top) (_ : l < top) : (m + n) % P = l := by
  have h3 := hG.hP
  have h4 := hG.hP2
  have hk' : k = 0 ∨ k = 1 := by omega
  have hj' : j = 0 ∨ j = 1 := by omega
  have : m + n = l + P := by
    rcases hk' with h | h <;> rcases hj' with h' | h' <;> rw [h] at h1 <;> rw [h'] at h2 <;> first | omega | (exfalso; exact hz ⟨h, h'⟩)
  rw [this, Nat.add_mod_right, Nat.mod_eq_of_lt (by omega)]
theorem or2 (a b : Nat) (ha : a ≤ 1) (hb : b ≤ 1) : ∃ o : Nat, bits .or .u64 (a : Int) (b : Int) = (o : Int) ∧ (o = 0 ↔ (a = 0 ∧ b = 0)) := by
  have h1 : a = 0 ∨ a = 1 := by omega
  have h2 : b = 0 ∨ b = 1 := by omega
  rcases h1 with rfl | rfl <;> rcases h2 with rfl | rfl
  · exact ⟨0, by decide +kernel, by decide⟩
  · exact ⟨1, by decide +kernel, by decide⟩
  · exact ⟨1, by decide +kernel, by decide⟩
  · exact ⟨1, by decide +kernel, by decide⟩
theorem minus_lo {P m n s : Nat} (hm : m < P) (hn : n < P) (h1 : s + n = m + top * 0) : (m + P - n) % P = s := by
  rw [show m + P - n = s + P by omega, Nat.add_mod_right, Nat.mod_eq_of_lt (by omega)]
theorem minus_hi {g0 g1 g2 P m n s l j : Nat} (hG : Gap g0 g1 g2 P) (_ : m < P) (hn : n < P) (h1 : s + n = m + top * 1) (h2 : l + val g0 g1 g2 0 = s + top * j) (hj : j ≤ 1) (hl : l < top) (hs : s < top) : (m + P - n) % P = l := by
  have h3 := hG.hP
  have hj' : j = 0 ∨ j = 1 := by omega
  have : m + P - n = l := by
    rcases hj' with h' | h' <;> rw [h'] at h2 <;> omega
  rw [this, Nat.mod_eq_of_lt (by omega)]

set_option maxHeartbeats 4000000 in
set_option maxRecDepth 100000 in
theorem sum_any (g0 g1 g2 P : Nat) (x y : Value) (m n : Nat) (hG : Gap g0 g1 g2 P) (hx : Four x m) (hy : Four y n) (hm : m < P) (hn : n < P) (w : World) :
    Calls Try.prog 83 #[.agg #[.int .u64 (g0 : Int), .int .u64 (g1 : Int), .int .u64 (g2 : Int), .int .u64 0], x, y] w (Ret fun e w' => Below w.heap.size w w' ∧ Four e ((m + n) % P)) := by
  obtain ⟨a, b, c, d, rfl, ha, hb, hc, hd, em⟩ := id hx
  obtain ⟨p, q, r, s, rfl, hp, hq, hr, hs, en⟩ := id hy
  clear em en ha hb hc hd hp hq hr hs
  go_enter Try.func83, Try.ntmps83
  go_wp2_with fail
  have KP := kept4 w 79 77 77 77 g0 g1 g2 0 a b c d p q r s 0 0 0 0
  simp only [Int.natCast_zero] at KP
  generalize World.alloc _ _ = W0 at KP ⊢
  generalize h3 : w.heap.size + 1 + 1 + 1 = k3 at KP ⊢
  generalize h2 : w.heap.size + 1 + 1 = k2 at KP ⊢
  generalize h1 : w.heap.size + 1 = k1 at KP ⊢
  have Q3 : Hid (w.heap.size ≤ k3) := by unfold Hid; omega
  generalize h0 : w.heap.size = k0 at KP Q3 ⊢
  have H0 : Hid (w.heap.size = k0) := h0
  have n03 : k0 ≠ k3 := by omega
  clear h0 h1 h2 h3
  refine (plus_any _ _ _ _ hx hy _).mono ?_
  rintro e w1 ⟨v, rfl, hb1, v2, t, k, rfl, ⟨a1, b1, c1, d1, rfl, ha1, hb1', hc1, hd1, es⟩, hk, he⟩
  have HE : Hid (val a1 b1 c1 d1 + top * k = m + n) := by unfold Hid; rw [← es]; exact he
  clear es he
  replace KP := KP.call hb1
  clear hb1
  have KP4 := (KP.alloc (.cells #[.int .u64 (a1 : Int), .int .u64 (b1 : Int), .int .u64 (c1 : Int), .int .u64 (d1 : Int)] 77)).cons (At4.made w1 77 a1 b1 c1 d1 rfl).blk
  have m0 : k0 ≠ w1.heap.size := Nat.ne_of_lt KP.head.lt
  have m3 : k3 ≠ w1.heap.size := Nat.ne_of_lt KP.tail.tail.tail.head.lt
  clear KP
  obtain ⟨pc0, pc1, pc2, pc3, pf⟩ := KP4.tail.head.at4
  have z0 := KP4.tail.head.lt
  go_wp2_with fail
  generalize World.alloc _ _ = W1 at KP4 z0 pc0 pc1 pc2 pc3 pf ⊢
  refine (plus_any _ _ _ _ (Four.mk ha1 hb1' hc1 hd1 rfl) (Four.mk hG.h0 hG.h1 hG.h2 (by decide) rfl) _).mono ?_
  rintro e w2 ⟨v, rfl, hb2, v3, t2, j, rfl, ⟨a2, b2, c2, d2, rfl, ha2, hb2', hc2, hd2, es⟩, hj, he⟩
  have HE2 : Hid (val a2 b2 c2 d2 + top * j = val a1 b1 c1 d1 + val g0 g1 g2 0) := by unfold Hid; rw [← es]; exact he
  clear es he pc0 pc1 pc2 pc3 pf z0
  replace KP4 := KP4.call hb2
  clear hb2
  have HG : Hid (Gap g0 g1 g2 P) := hG
  have HM : Hid (m < P ∧ n < P) := ⟨hm, hn⟩
  clear hG hm hn hx hy m0 n03
  generalize w1.heap.size = k4 at KP4 m3 ⊢
  obtain ⟨sc0, sc1, sc2, sc3, sf⟩ := KP4.head.at4
  obtain ⟨rc0, rc1, rc2, rc3, rf⟩ := KP4.tail.tail.tail.tail.head.at4
  have z4 := KP4.head.lt
  have z3 := KP4.tail.tail.tail.tail.head.lt
  obtain ⟨o, ho, hoz⟩ := or2 k j hk hj
  by_cases hz : k = 0 ∧ j = 0
  · obtain ⟨rfl, rfl⟩ := hz
    obtain rfl : o = 0 := hoz.2 ⟨rfl, rfl⟩
    clear hoz
    replace ho : bits .or .u64 0 0 = 0 := ho
    go_wp2
    have RF := (KP4.tail.tail.tail.tail.head.at4.self4 a1 b1 c1 d1).alloc (.cells #[.int .u64 (a2 : Int), .int .u64 (b2 : Int), .int .u64 (c2 : Int), .int .u64 (d2 : Int)] 77)
    unfold set4 at RF
    refine bodyPost_ret (v := ?v0) ?hr0 rfl ?hR0
    case hr0 => simp [results, Try.results83, go_sem, RF.c0, RF.c1, RF.c2, RF.c3]; rfl
    refine ⟨_, rfl, ?_, Four.mk ha1 hb1' hc1 hd1 (plus_lo HG.out HE.out HE2.out (val_lt ha2 hb2' hc2 hd2))⟩
    rw [H0.out]
    exact (below_set4 KP4.bl Q3.out _ _ _ _).alloc (by simpa [set4] using KP4.le) _
  · have ho0 : ¬ o = 0 := fun h => hz (hoz.1 h)
    clear hoz
    go_wp2
    have RF := (KP4.tail.tail.tail.tail.head.at4.self4 a2 b2 c2 d2).alloc (.cells #[.int .u64 (a2 : Int), .int .u64 (b2 : Int), .int .u64 (c2 : Int), .int .u64 (d2 : Int)] 77)
    unfold set4 at RF
    refine bodyPost_ret (v := ?v1) ?hr1 rfl ?hR1
    case hr1 => simp [results, Try.results83, go_sem, RF.c0, RF.c1, RF.c2, RF.c3]; rfl
    refine ⟨_, rfl, ?_, Four.mk ha2 hb2' hc2 hd2 (plus_hi HG.out HM.out.1 HM.out.2 HE.out HE2.out hk hj hz (val_lt ha1 hb1' hc1 hd1) (val_lt ha2 hb2' hc2 hd2))⟩
    rw [H0.out]
    exact (below_set4 KP4.bl Q3.out _ _ _ _).alloc (by simpa [set4] using KP4.le) _

set_option maxHeartbeats 4000000 in
set_option maxRecDepth 100000 in
theorem difference_any (g0 g1 g2 P : Nat) (x y : Value) (m n : Nat) (hG : Gap g0 g1 g2 P) (hx : Four x m) (hy : Four y n) (hm : m < P) (hn : n < P) (w : World) :
    Calls Try.prog 86 #[.agg #[.int .u64 (g0 : Int), .int .u64 (g1 : Int), .int .u64 (g2 : Int), .int .u64 0], x, y] w (Ret fun e w' => Below w.heap.size w w' ∧ Four e ((m + P - n) % P)) := by
  obtain ⟨a, b, c, d, rfl, ha, hb, hc, hd, em⟩ := id hx
  obtain ⟨p, q, r, s, rfl, hp, hq, hr, hs, en⟩ := id hy
  clear em en ha hb hc hd hp hq hr hs
  go_enter Try.func86, Try.ntmps86
  go_wp2_with fail
  have KP := kept4 w 79 77 77 77 g0 g1 g2 0 a b c d p q r s 0 0 0 0
  simp only [Int.natCast_zero] at KP
  generalize World.alloc _ _ = W0 at KP ⊢
  generalize h3 : w.heap.size + 1 + 1 + 1 = k3 at KP ⊢
  generalize h2 : w.heap.size + 1 + 1 = k2 at KP ⊢
  generalize h1 : w.heap.size + 1 = k1 at KP ⊢
  have Q3 : Hid (w.heap.size ≤ k3) := by unfold Hid; omega
  generalize h0 : w.heap.size = k0 at KP Q3 ⊢
  have H0 : Hid (w.heap.size = k0) := h0
  have n03 : k0 ≠ k3 := by omega
  clear h0 h1 h2 h3
  refine (minus_any _ _ _ _ hx hy _).mono ?_
  rintro e w1 ⟨v, rfl, hb1, v2, t, k, rfl, ⟨a1, b1, c1, d1, rfl, ha1, hb1', hc1, hd1, es⟩, hk, he⟩
  have HE : Hid (val a1 b1 c1 d1 + n = m + top * k) := by unfold Hid; rw [← es]; exact he
  clear es he
  replace KP := KP.call hb1
  clear hb1
  have KP4 := (KP.alloc (.cells #[.int .u64 (a1 : Int), .int .u64 (b1 : Int), .int .u64 (c1 : Int), .int .u64 (d1 : Int)] 77)).cons (At4.made w1 77 a1 b1 c1 d1 rfl).blk
  have m0 : k0 ≠ w1.heap.size := Nat.ne_of_lt KP.head.lt
  have m3 : k3 ≠ w1.heap.size := Nat.ne_of_lt KP.tail.tail.tail.head.lt
  have HG : Hid (Gap g0 g1 g2 P) := hG
  have HM : Hid (m < P ∧ n < P) := ⟨hm, hn⟩
  have Q4 : Hid (k0 ≤ w1.heap.size) := KP.le
  clear hG hm hn hx hy
  have hk' : k = 0 ∨ k = 1 := by omega
  obtain ⟨rc0, rc1, rc2, rc3, rf⟩ := KP.tail.tail.tail.head.at4
  have z3 := KP.tail.tail.tail.head.lt
  rcases hk' with rfl | rfl
  · clear KP4
    go_wp2
    have RF := (KP.tail.tail.tail.head.at4.self4 a1 b1 c1 d1).alloc (.cells #[.int .u64 (a1 : Int), .int .u64 (b1 : Int), .int .u64 (c1 : Int), .int .u64 (d1 : Int)] 77)
    unfold set4 at RF
    refine bodyPost_ret (v := ?v0) ?hr0 rfl ?hR0
    case hr0 => simp [results, Try.results86, go_sem, RF.c0, RF.c1, RF.c2, RF.c3]; rfl
    refine ⟨_, rfl, ?_, Four.mk ha1 hb1' hc1 hd1 (minus_lo HM.out.1 HM.out.2 HE.out)⟩
    rw [H0.out]
    exact (below_set4 KP.bl Q3.out _ _ _ _).alloc (by simpa [set4] using KP.le) _
  · clear KP rc0 rc1 rc2 rc3 rf z3
    obtain ⟨pc0, pc1, pc2, pc3, pf⟩ := KP4.tail.head.at4
    have z0 := KP4.tail.head.lt
    go_wp2_with fail
    generalize World.alloc _ _ = W1 at KP4 z0 pc0 pc1 pc2 pc3 pf ⊢
    refine (minus_any _ _ _ _ (Four.mk ha1 hb1' hc1 hd1 rfl) (Four.mk HG.out.h0 HG.out.h1 HG.out.h2 (by decide) rfl) _).mono ?_
    rintro e w2 ⟨v, rfl, hb2, v3, t2, j, rfl, ⟨a2, b2, c2, d2, rfl, ha2, hb2', hc2, hd2, es⟩, hj, he⟩
    have HE2 : Hid (val a2 b2 c2 d2 + val g0 g1 g2 0 = val a1 b1 c1 d1 + top * j) := by unfold Hid; rw [← es]; exact he
    clear es he pc0 pc1 pc2 pc3 pf z0
    replace KP4 := KP4.call hb2
    clear hb2
    generalize w1.heap.size = k4 at KP4 m0 m3 Q4 ⊢
    obtain ⟨sc0, sc1, sc2, sc3, sf⟩ := KP4.head.at4
    obtain ⟨rc0, rc1, rc2, rc3, rf⟩ := KP4.tail.tail.tail.tail.head.at4
    have z4 := KP4.head.lt
    have z3 := KP4.tail.tail.tail.tail.head.lt
    go_wp2
    have RF := (KP4.tail.tail.tail.tail.head.at4.other4 m3.symm (.int .u64 (a2 : Int)) (.int .u64 (b2 : Int)) (.int .u64 (c2 : Int)) (.int .u64 (d2 : Int))).self4 a2 b2 c2 d2
    unfold set4 at RF
    refine bodyPost_ret (v := ?v1) ?hr1 rfl ?hR1
    case hr1 => simp [results, Try.results86, go_sem, RF.c0, RF.c1, RF.c2, RF.c3]; rfl
    refine ⟨_, rfl, ?_, Four.mk ha2 hb2' hc2 hd2 (minus_hi HG.out HM.out.1 HM.out.2 HE.out HE2.out hj (val_lt ha2 hb2' hc2 hd2) (val_lt ha1 hb1' hc1 hd1))⟩
    rw [H0.out]
    exact below_set4 (below_set4 KP4.bl Q4.out _ _ _ _) Q3.out _ _ _ _
end Go.Proofs.Ytdeidgbknlmhjab
