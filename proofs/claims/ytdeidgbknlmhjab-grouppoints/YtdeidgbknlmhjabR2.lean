import Derived.Test.YtdeidgbknlmhjabR0
import Derived.Test.YtdeidgbknlmhjabR1
import Derived.Test.YtdeidgbknlmhjabL1
namespace Go.Proofs.Ytdeidgbknlmhjab
open Go.RowKit Go.Sort Go.Deep

/-- A prime of the reference, two numbers and a result, each in a block of its own. -/
theorem keptF3 (w : World) (p0 p1 p2 p3 c0 c1 c2 c3 a b c d p q r s : Nat) :
    Kept w w.heap.size [⟨w.heap.size, 0, p0, p1, p2, p3⟩, ⟨w.heap.size, 4, c0, c1, c2, c3⟩, ⟨w.heap.size + 1, 0, a, b, c, d⟩, ⟨w.heap.size + 1 + 1, 0, p, q, r, s⟩, ⟨w.heap.size + 1 + 1 + 1, 0, 0, 0, 0, 0⟩]
      ((((w.alloc (.cells #[.int .u64 (p0 : Int), .int .u64 (p1 : Int), .int .u64 (p2 : Int), .int .u64 (p3 : Int), .int .u64 (c0 : Int), .int .u64 (c1 : Int), .int .u64 (c2 : Int), .int .u64 (c3 : Int)] 35)).alloc (.cells #[.int .u64 (a : Int), .int .u64 (b : Int), .int .u64 (c : Int), .int .u64 (d : Int)] 33)).alloc (.cells #[.int .u64 (p : Int), .int .u64 (q : Int), .int .u64 (r : Int), .int .u64 (s : Int)] 33)).alloc (.cells #[.int .u64 0, .int .u64 0, .int .u64 0, .int .u64 0] 33)) := by
  have F := (((At8.made w 35 p0 p1 p2 p3 c0 c1 c2 c3 rfl).alloc (.cells #[.int .u64 (a : Int), .int .u64 (b : Int), .int .u64 (c : Int), .int .u64 (d : Int)] 33)).alloc (.cells #[.int .u64 (p : Int), .int .u64 (q : Int), .int .u64 (r : Int), .int .u64 (s : Int)] 33)).alloc (.cells #[.int .u64 0, .int .u64 0, .int .u64 0, .int .u64 0] 33)
  refine (((((Kept.mk1 (below4 w _ _ _ _) (below4 w _ _ _ _).size).cons ?_).cons ?_).cons ?_).cons ?_).cons ?_
  · exact (At4.made _ 33 0 0 0 0 (by simp)).blk
  · exact ((At4.made _ 33 p q r s (by simp)).alloc _).blk
  · exact (((At4.made _ 33 a b c d (by simp)).alloc _).alloc _).blk
  · exact ⟨F.c4, F.c5, F.c6, F.c7, F.fz⟩
  · exact ⟨F.c0, F.c1, F.c2, F.c3, F.fz⟩
theorem keptF2 (w : World) (p0 p1 p2 p3 c0 c1 c2 c3 a b c d : Nat) :
    Kept w w.heap.size [⟨w.heap.size, 0, p0, p1, p2, p3⟩, ⟨w.heap.size, 4, c0, c1, c2, c3⟩, ⟨w.heap.size + 1, 0, a, b, c, d⟩, ⟨w.heap.size + 1 + 1, 0, 0, 0, 0, 0⟩]
      (((w.alloc (.cells #[.int .u64 (p0 : Int), .int .u64 (p1 : Int), .int .u64 (p2 : Int), .int .u64 (p3 : Int), .int .u64 (c0 : Int), .int .u64 (c1 : Int), .int .u64 (c2 : Int), .int .u64 (c3 : Int)] 35)).alloc (.cells #[.int .u64 (a : Int), .int .u64 (b : Int), .int .u64 (c : Int), .int .u64 (d : Int)] 33)).alloc (.cells #[.int .u64 0, .int .u64 0, .int .u64 0, .int .u64 0] 33)) := by
  have F := ((At8.made w 35 p0 p1 p2 p3 c0 c1 c2 c3 rfl).alloc (.cells #[.int .u64 (a : Int), .int .u64 (b : Int), .int .u64 (c : Int), .int .u64 (d : Int)] 33)).alloc (.cells #[.int .u64 0, .int .u64 0, .int .u64 0, .int .u64 0] 33)
  refine ((((Kept.mk1 (below3 w _ _ _) (below3 w _ _ _).size).cons ?_).cons ?_).cons ?_).cons ?_
  · exact (At4.made _ 33 0 0 0 0 (by simp)).blk
  · exact ((At4.made _ 33 a b c d (by simp)).alloc _).blk
  · exact ⟨F.c4, F.c5, F.c6, F.c7, F.fz⟩
  · exact ⟨F.c0, F.c1, F.c2, F.c3, F.fz⟩
theorem keptF1 (w : World) (p0 p1 p2 p3 c0 c1 c2 c3 : Nat) :
    Kept w w.heap.size [⟨w.heap.size, 0, p0, p1, p2, p3⟩, ⟨w.heap.size, 4, c0, c1, c2, c3⟩, ⟨w.heap.size + 1, 0, 0, 0, 0, 0⟩] ((w.alloc (.cells #[.int .u64 (p0 : Int), .int .u64 (p1 : Int), .int .u64 (p2 : Int), .int .u64 (p3 : Int), .int .u64 (c0 : Int), .int .u64 (c1 : Int), .int .u64 (c2 : Int), .int .u64 (c3 : Int)] 35)).alloc (.cells #[.int .u64 0, .int .u64 0, .int .u64 0, .int .u64 0] 33)) := by
  have F := (At8.made w 35 p0 p1 p2 p3 c0 c1 c2 c3 rfl).alloc (.cells #[.int .u64 0, .int .u64 0, .int .u64 0, .int .u64 0] 33)
  refine (((Kept.mk1 (below2 w _ _) (below2 w _ _).size).cons ?_).cons ?_).cons ?_
  · exact (At4.made _ 33 0 0 0 0 (by simp)).blk
  · exact ⟨F.c4, F.c5, F.c6, F.c7, F.fz⟩
  · exact ⟨F.c0, F.c1, F.c2, F.c3, F.fz⟩

set_option maxHeartbeats 2000000 in
set_option maxRecDepth 100000 in
theorem rNumber_any (p0 p1 p2 p3 c0 c1 c2 c3 P : Nat) (x : ByteArray) (hR : RefP p0 p1 p2 p3 c0 c1 c2 c3 P) (w : World) :
    Calls Try.prog 17 #[.agg #[.int .u64 (p0 : Int), .int .u64 (p1 : Int), .int .u64 (p2 : Int), .int .u64 (p3 : Int), .int .u64 (c0 : Int), .int .u64 (c1 : Int), .int .u64 (c2 : Int), .int .u64 (c3 : Int)], .string x] w (Ret fun e w' => Below w.heap.size w w' ∧ ∃ (a b c d : Nat) (ok : Bool), e = .tuple #[.agg #[.int .u64 (a : Int), .int .u64 (b : Int), .int .u64 (c : Int), .int .u64 (d : Int)], .bool ok] ∧ (ok = true → IsNum P x.data ∧ Four (.agg #[.int .u64 (a : Int), .int .u64 (b : Int), .int .u64 (c : Int), .int .u64 (d : Int)]) (beV x.data.toList)) ∧ (ok = false → ¬ IsNum P x.data) ∧ (x.size = 32 → Four (.agg #[.int .u64 (a : Int), .int .u64 (b : Int), .int .u64 (c : Int), .int .u64 (d : Int)]) (beV x.data.toList)) ∧ (¬ x.size = 32 → a = 0 ∧ b = 0 ∧ c = 0 ∧ d = 0)) := by
  have HR : Hid (RefP p0 p1 p2 p3 c0 c1 c2 c3 P) := hR
  clear hR
  by_cases hs : x.size = 32
  · have HS : Hid (x.size = 32) := hs
    have hs' : (x.size : Int) = 32 := by omega
    clear hs
    go_enter Try.func17, Try.ntmps17
    go_wp2_with fail
    have KP := keptF1 w p0 p1 p2 p3 c0 c1 c2 c3
    generalize World.alloc _ _ = W0 at KP ⊢
    refine (rOf_any x HS.out _).mono ?_
    rintro e w1 ⟨v, rfl, hb1, hF⟩
    obtain ⟨a, b, c, d, rfl, ha, hb, hc, hd, es⟩ := id hF
    have HF : Hid (Four _ _) := hF
    replace KP := KP.call hb1
    clear hF es hb1 ha hb hc hd
    obtain ⟨pc0, pc1, pc2, pc3, pf⟩ := KP.head.at4
    have z0 := KP.head.lt
    have n0 : w.heap.size ≠ w1.heap.size := Nat.ne_of_lt z0
    go_wp2_with fail
    refine (rBelow_any _ _ _ _ HF.out (Four.mk HR.out.hp0 HR.out.hp1 HR.out.hp2 HR.out.hp3 HR.out.eP) _).mono ?_
    rintro e w2 ⟨v, rfl, hb2, rfl⟩
    have KP2 := ((KP.alloc (.cells #[.int .u64 (a : Int), .int .u64 (b : Int), .int .u64 (c : Int), .int .u64 (d : Int)] 33)).cons (At4.made w1 33 a b c d rfl).blk).call hb2
    clear hb2 pc0 pc1 pc2 pc3 pf z0 n0
    have n4 : w.heap.size + 1 ≠ w1.heap.size := Nat.ne_of_lt KP.tail.tail.head.lt
    clear KP
    generalize w1.heap.size = k5 at KP2 n4 ⊢
    obtain ⟨nc0, nc1, nc2, nc3, nf⟩ := KP2.head.at4
    obtain ⟨rc0, rc1, rc2, rc3, rf⟩ := KP2.tail.tail.tail.head.at4
    have z5 := KP2.head.lt
    have z1 := KP2.tail.tail.tail.head.lt
    obtain ⟨ok, hok⟩ : ∃ ok, decide (beV x.data.toList < P) = ok := ⟨_, rfl⟩
    rw [hok]
    have HO : Hid (decide (beV x.data.toList < P) = ok) := hok
    clear hok
    go_wp2
    have RF := KP2.tail.tail.tail.head.at4.self4 a b c d
    unfold set4 at RF
    refine bodyPost_ret (v := ?v) ?hr rfl ?hR
    case hr => simp [results, Try.results17, go_sem, RF.c0, RF.c1, RF.c2, RF.c3]; rfl
    refine ⟨_, rfl, below_set4 KP2.bl (Nat.le_succ _) _ _ _ _, a, b, c, d, ok, rfl, fun h => ⟨⟨HS.out, ?_⟩, HF.out⟩, fun h hn => ?_, fun _ => HF.out, fun h => absurd HS.out h⟩
    · exact of_decide_eq_true (HO.out.trans h)
    · have := HO.out
      rw [h] at this
      exact of_decide_eq_false this hn.2
  · have hs' : ¬ (x.size : Int) = 32 := by omega
    go_enter Try.func17, Try.ntmps17
    go_wp2
    refine bodyPost_ret (v := ?v2) ?hr2 rfl ?hR2
    case hr2 => simp [results, Try.results17, go_sem]; rfl
    exact ⟨_, rfl, below2 _ _ _, 0, 0, 0, 0, false, rfl, fun h => Bool.noConfusion h, fun _ h => hs h.1, fun h => absurd h hs, fun _ => ⟨rfl, rfl, rfl, rfl⟩⟩

theorem rSmall_any (n : Nat) (_ : n < 18446744073709551616) (w : World) : Calls Try.prog 66 #[.int .u64 (n : Int)] w (Ret fun e w' => Below w.heap.size w w' ∧ e = .agg #[.int .u64 (n : Int), .int .u64 0, .int .u64 0, .int .u64 0]) := by
  go_enter Try.func66, Try.ntmps66
  go_wp2
  refine bodyPost_ret (v := ?v) ?hr rfl ?hR
  case hr => simp [results, Try.results66, go_sem]; rfl
  exact ⟨_, rfl, below1 _ _, rfl⟩

set_option maxHeartbeats 1000000 in
theorem rBit_any (x : Value) (m i : Nat) (hx : Four x m) (hi : i < 256) (w : World) : Calls Try.prog 65 #[x, .int .i64 (i : Int)] w (Ret fun e w' => Below w.heap.size w w' ∧ ∃ t : Nat, e = .int .u64 (t : Int) ∧ t = m / 2 ^ i % 2) := by
  obtain ⟨a, b, c, d, rfl, ha, hb, hc, hd, em⟩ := id hx
  have xw := (At4.made w 33 a b c d rfl).wd (i / 64) (by omega)
  have hwl : wd a b c d (i / 64) < 18446744073709551616 := wd_lt _ ha hb hc hd
  have hbit : wd a b c d (i / 64) / 2 ^ (i % 64) % 2 = m / 2 ^ i % 2 := by rw [em]; exact wd_bit i hi ha hb hc hd
  have i2 : (i : Int).tdiv 64 = ((i / 64 : Nat) : Int) := by rw [Int.tdiv_eq_ediv_of_nonneg (by omega)]; omega
  have i3 : (i : Int).tmod 64 = ((i % 64 : Nat) : Int) := by rw [Int.tmod_eq_emod_of_nonneg (by omega)]; omega
  have i4 : (i / 64 : Nat) < 4 := by omega
  generalize wd a b c d (i / 64) = v at xw hwl hbit
  have hvl : v / 2 ^ (i % 64) < 18446744073709551616 := Nat.lt_of_le_of_lt (Nat.div_le_self _ _) hwl
  have hand : bits .and .u64 ((v : Int) / 2 ^ (i % 64)) 1 = ((m / 2 ^ i % 2 : Nat) : Int) := by
    have := and_one (v / 2 ^ (i % 64)) hvl
    rw [hbit] at this
    rw [← this, Int.natCast_ediv, Int.natCast_pow]
    rfl
  obtain ⟨t, ht⟩ : ∃ t, m / 2 ^ i % 2 = t := ⟨_, rfl⟩
  rw [ht] at hand
  have HT : Hid (t = m / 2 ^ i % 2) := ht.symm
  clear hx em ha hb hc hd hbit ht hvl
  go_enter Try.func65, Try.ntmps65
  go_upto_region 1 with fail
  have zx : w.heap.size < (w.alloc (.cells #[.int .u64 (a : Int), .int .u64 (b : Int), .int .u64 (c : Int), .int .u64 (d : Int)] 33)).heap.size := by simp
  have BL := below1 w (.cells #[.int .u64 (a : Int), .int .u64 (b : Int), .int .u64 (c : Int), .int .u64 (d : Int)] 33)
  generalize World.alloc _ _ = W0 at xw zx BL ⊢
  go_wp2
  go_ret
  exact ⟨_, rfl, BL, t, rfl, HT.out⟩

theorem or_nat (a b : Nat) (ha : a < 18446744073709551616) (hb : b < 18446744073709551616) : ∃ x : Nat, bits .or .u64 (a : Int) (b : Int) = (x : Int) ∧ (x = 0 ↔ a = 0 ∧ b = 0) ∧ x < 18446744073709551616 :=
  ⟨a ||| b, bits_or_u64_nat a b ha hb, Nat.or_eq_zero_iff, Nat.or_lt_two_pow (n := 64) ha hb⟩

set_option maxHeartbeats 1000000 in
theorem rZero_any (x : Value) (m : Nat) (hx : Four x m) (w : World) : Calls Try.prog 79 #[x] w (Ret fun e w' => Below w.heap.size w w' ∧ e = .bool (decide (m = 0))) := by
  obtain ⟨a, b, c, d, rfl, ha, hb, hc, hd, em⟩ := id hx
  obtain ⟨y, o1, z1, l1⟩ := or_nat a b ha hb
  obtain ⟨z, o2, z2, l2⟩ := or_nat y c l1 hc
  obtain ⟨t, o3, z3, l3⟩ := or_nat z d l2 hd
  have hz : decide (m = 0) = decide (t = 0) := by
    rw [decide_eq_decide, z3, z2, z1, em]
    unfold val
    omega
  rw [hz]
  clear z1 z2 z3 hz em hx
  go_enter Try.func79, Try.ntmps79
  go_wp2
  go_ret
  exact ⟨_, rfl, below1 _ _, by by_cases h : t = 0 <;> simp [h]⟩

theorem neg_val {P m s k : Nat} (hm : m < P) (_ : P < top) (h0 : ¬ m = 0) (hs : s < top) (hk : k ≤ 1) (h : s + m = P + top * k) : s = (P - m) % P := by
  have : k = 0 ∨ k = 1 := by omega
  rw [Nat.mod_eq_of_lt (by omega)]
  rcases this with h' | h' <;> rw [h'] at h <;> omega

set_option maxHeartbeats 2000000 in
set_option maxRecDepth 100000 in
theorem rNeg_any (p0 p1 p2 p3 c0 c1 c2 c3 P : Nat) (x : Value) (m : Nat) (hR : RefP p0 p1 p2 p3 c0 c1 c2 c3 P) (hx : Four x m) (hm : m < P) (w : World) :
    Calls Try.prog 57 #[.agg #[.int .u64 (p0 : Int), .int .u64 (p1 : Int), .int .u64 (p2 : Int), .int .u64 (p3 : Int), .int .u64 (c0 : Int), .int .u64 (c1 : Int), .int .u64 (c2 : Int), .int .u64 (c3 : Int)], x] w (Ret fun e w' => Below w.heap.size w w' ∧ Four e ((P - m) % P)) := by
  have HR : Hid (RefP p0 p1 p2 p3 c0 c1 c2 c3 P) := hR
  have HX : Hid (Four x m) := hx
  have HM : Hid (m < P) := hm
  obtain ⟨a, b, c, d, rfl, ha, hb, hc, hd, em⟩ := id hx
  clear hR hx hm em ha hb hc hd
  go_enter Try.func57, Try.ntmps57
  go_wp2_with fail
  have KP := keptF2 w p0 p1 p2 p3 c0 c1 c2 c3 a b c d
  generalize World.alloc _ _ = W0 at KP ⊢
  generalize h2 : w.heap.size + 1 + 1 = k2 at KP ⊢
  generalize h1 : w.heap.size + 1 = k1 at KP ⊢
  have Q2 : Hid (w.heap.size ≤ k2) := by unfold Hid; omega
  generalize h0 : w.heap.size = k0 at KP Q2 ⊢
  have H0 : Hid (w.heap.size = k0) := h0
  clear h0 h1 h2
  refine (rZero_any _ _ HX.out _).mono ?_
  rintro e w1 ⟨v, rfl, hb1, rfl⟩
  replace KP := KP.call hb1
  clear hb1
  obtain ⟨xc0, xc1, xc2, xc3, xf⟩ := KP.tail.tail.head.at4
  have zx := KP.tail.tail.head.lt
  by_cases hz : m = 0
  · have hd : decide (m = 0) = true := decide_eq_true hz
    rw [hd]
    have HZ : Hid (m = 0) := hz
    clear hd hz
    obtain ⟨rc0, rc1, rc2, rc3, rf⟩ := KP.tail.tail.tail.head.at4
    have zr := KP.tail.tail.tail.head.lt
    go_wp2
    have RF := KP.tail.tail.tail.head.at4.self4 a b c d
    unfold set4 at RF
    refine bodyPost_ret (v := ?v) ?hr rfl ?hR
    case hr => simp [results, Try.results57, go_sem, RF.c0, RF.c1, RF.c2, RF.c3]; rfl
    refine ⟨_, rfl, by rw [H0.out]; exact below_set4 KP.bl Q2.out _ _ _ _, ?_⟩
    have h1 := HX.out
    rw [HZ.out] at h1 ⊢
    rw [Nat.sub_zero, Nat.mod_self]
    exact h1
  · have hd : decide (m = 0) = false := decide_eq_false hz
    rw [hd]
    have HZ : Hid (¬ m = 0) := hz
    clear hd hz
    obtain ⟨fc0, fc1, fc2, fc3, ff⟩ := KP.head.at4
    have zf := KP.head.lt
    go_wp2_with fail
    refine (rless_any _ _ _ _ (Four.mk HR.out.hp0 HR.out.hp1 HR.out.hp2 HR.out.hp3 HR.out.eP) HX.out _).mono ?_
    rintro e w2 ⟨v, rfl, hb2, v2, t, k, rfl, hF, hk, he⟩
    have HF : Hid (Four v2 ((P - m) % P)) := by
      have h1 := neg_val HM.out (by have h3 := HR.out.hP; have h4 := HR.out.hP2; have h5 := HM.out; have h6 : 0 < val c0 c1 c2 c3 ∨ val c0 c1 c2 c3 = 0 := by omega
                                    rcases h6 with h6 | h6
                                    · omega
                                    · have h7 : Four (.agg #[.int .u64 (p0 : Int), .int .u64 (p1 : Int), .int .u64 (p2 : Int), .int .u64 (p3 : Int)]) P := Four.mk HR.out.hp0 HR.out.hp1 HR.out.hp2 HR.out.hp3 HR.out.eP
                                      exact h7.lt) HZ.out hF.lt hk he
      rw [← h1]; exact hF
    obtain ⟨ra, rb, rc, rd, rfl, -⟩ := id hF
    replace KP := KP.call hb2
    clear hb2 xc0 xc1 xc2 xc3 xf zx fc0 fc1 fc2 fc3 ff zf hF he
    obtain ⟨rc0, rc1, rc2, rc3, rf⟩ := KP.tail.tail.tail.head.at4
    have zr := KP.tail.tail.tail.head.lt
    have nr : k2 ≠ w2.heap.size := Nat.ne_of_lt zr
    go_wp2
    have RF := (KP.tail.tail.tail.head.at4.self4 ra rb rc rd).alloc (.cells #[.int .u64 (ra : Int), .int .u64 (rb : Int), .int .u64 (rc : Int), .int .u64 (rd : Int)] 33)
    unfold set4 at RF
    refine bodyPost_ret (v := ?v2) ?hr2 rfl ?hR2
    case hr2 => simp [results, Try.results57, go_sem, RF.c0, RF.c1, RF.c2, RF.c3]; rfl
    refine ⟨_, rfl, ?_, HF.out⟩
    rw [H0.out]
    exact (below_set4 KP.bl Q2.out _ _ _ _).alloc (by simpa [set4] using KP.le) _
end Go.Proofs.Ytdeidgbknlmhjab
