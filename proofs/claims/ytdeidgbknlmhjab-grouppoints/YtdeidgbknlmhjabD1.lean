import Derived.Test.YtdeidgbknlmhjabC2
import Derived.Deep.CutRange
namespace Go.Proofs.Ytdeidgbknlmhjab
open Go.RowKit Go.Sort

/-- What the loop of fold keeps. -/
structure FoldI (w wr : World) (g0 g1 g2 a b c d p q r s : Nat) : Prop where
  bl : Below w.heap.size w wr
  pr : At4 wr w.heap.size g0 g1 g2 0
  lo : At4 wr (w.heap.size + 1) a b c d
  hi : At4 wr (w.heap.size + 1 + 1) p q r s
  re : At4 wr (w.heap.size + 1 + 1 + 1) 0 0 0 0
  ha : a < 18446744073709551616
  hb : b < 18446744073709551616
  hc : c < 18446744073709551616
  hd : d < 18446744073709551616
  hp : p < 18446744073709551616
  hq : q < 18446744073709551616
  hr : r < 18446744073709551616
  hs : s < 18446744073709551616

theorem fold_end {a b c d p q r s g0 g1 g2 t k P gk : Nat} (hP : P + val g0 g1 g2 0 = top) (hP2 : top < 2 * P) (hlt : val a b c d < top) (hg : gk = val a b c d + top * val 0 0 0 0)
    (he : t + top * k = val a b c d + val g0 g1 g2 0) (hk : k ≤ 1) (es : t = val p q r s) (ht : t < top) : (k = 0 → val a b c d = gk % P) ∧ (k = 1 → val p q r s = gk % P) := by
  have hg' : gk = val a b c d := by rw [hg]; rfl
  rw [hg']
  generalize val a b c d = x at *
  generalize val g0 g1 g2 0 = g at *
  refine ⟨fun h => ?_, fun h => ?_⟩
  · subst h
    rw [Nat.mod_eq_of_lt (by omega)]
  · subst h
    rw [← es, Nat.mod_eq_sub_mod (by omega), Nat.mod_eq_of_lt (by omega)]
    omega

theorem val_pos {p q r s : Nat} (h : ¬ (p = 0 ∧ q = 0 ∧ r = 0 ∧ s = 0)) : 0 < val p q r s := by unfold val; omega

theorem fold_less {x h g P gk : Nat} (hpos : 0 < h) (hP : P + g = top) (hP2 : top < 2 * P) (hg : gk = x + top * h) : x + g * h < gk ∧ (x + g * h) % P = gk % P := by
  have e : gk = x + g * h + P * h := by rw [hg, ← hP, Nat.add_mul]; omega
  rw [e, Nat.add_mul_mod_self_left]
  have : 0 < P * h := Nat.mul_pos (by omega) hpos
  exact ⟨by omega, rfl⟩

theorem fold_one {l t a b c d g h x : Nat} (h1 : g * h + x = l + 18446744073709551616 * t) (h2 : t = val a b c d) : val l a b c + top * val d 0 0 0 = x + val g 0 0 0 * h := by
  have e : val g 0 0 0 = g := by unfold val; omega
  rw [e]
  generalize g * h = y at *
  unfold val at *
  unfold top
  omega

theorem val_mul (g0 g1 g2 h : Nat) : val g0 g1 g2 0 * h = g0 * h + 18446744073709551616 * (g1 * h) + 340282366920938463463374607431768211456 * (g2 * h) := by
  unfold val
  rw [Nat.add_mul, Nat.add_mul, Nat.add_mul, Nat.mul_assoc, Nat.mul_assoc]
  omega

theorem fold_three {l0 l1 l2 g0 g1 g2 h x a b c d a' b' c' d' a'' b'' c'' d'' : Nat} (h1 : l0 + 18446744073709551616 * val a b c d = g0 * h + x)
    (h2 : l1 + 18446744073709551616 * val a' b' c' d' = g1 * h + val a b c d) (h3 : l2 + 18446744073709551616 * val a'' b'' c'' d'' = g2 * h + val a' b' c' d') :
    val l0 l1 l2 a'' + top * val b'' c'' d'' 0 = x + val g0 g1 g2 0 * h := by
  rw [val_mul]
  generalize g0 * h = y0 at *
  generalize g1 * h = y1 at *
  generalize g2 * h = y2 at *
  generalize val a b c d = v1 at *
  generalize val a' b' c' d' = v2 at *
  unfold val at *
  unfold top
  omega

set_option maxHeartbeats 2000000 in
theorem fold_any (g0 g1 g2 : Nat) (x y : Value) (m n P : Nat) (hg0 : g0 < 18446744073709551616) (hg1 : g1 < 18446744073709551616) (hg2 : g2 < 18446744073709551616)
    (hor : (g1 = 0 ∧ g2 = 0) ∨ ∃ o : Nat, bits .or .u64 (g1 : Int) (g2 : Int) = (o : Int) ∧ o ≠ 0) (hP : P + val g0 g1 g2 0 = top) (hP2 : top < 2 * P) (hx : Four x m) (hy : Four y n) (w : World) :
    Calls Try.prog 97 #[.agg #[.int .u64 (g0 : Int), .int .u64 (g1 : Int), .int .u64 (g2 : Int), .int .u64 0], x, y] w (Ret fun e w' => Below w.heap.size w w' ∧ Four e ((m + top * n) % P)) := by
  obtain ⟨a, b, c, d, rfl, ha, hb, hc, hd, em⟩ := hx
  obtain ⟨p, q, r, s, rfl, hp, hq, hr, hs, en⟩ := hy
  go_enter Try.func97, Try.ntmps97
  go_wp2
  go_loopg [] (val a b c d + top * val p q r s) (fun g wr => ∃ (a b c d p q r s : Nat), FoldI w wr g0 g1 g2 a b c d p q r s ∧ g = val a b c d + top * val p q r s ∧ Hid (g % P = (m + top * n) % P))
  case atStart =>
    have b4 := below4 w (.cells #[.int .u64 (g0 : Int), .int .u64 (g1 : Int), .int .u64 (g2 : Int), .int .u64 0] 79) (.cells #[.int .u64 (a : Int), .int .u64 (b : Int), .int .u64 (c : Int), .int .u64 (d : Int)] 77) (.cells #[.int .u64 (p : Int), .int .u64 (q : Int), .int .u64 (r : Int), .int .u64 (s : Int)] 77) (.cells #[.int .u64 0, .int .u64 0, .int .u64 0, .int .u64 0] 77)
    refine ⟨a, b, c, d, p, q, r, s, ⟨b4, ?_, ?_, ?_, ?_, ha, hb, hc, hd, hp, hq, hr, hs⟩, rfl, ?_⟩
    · exact (((At4.new w 79 g0 g1 g2 0).alloc _).alloc _).alloc _
    · exact ((At4.made (w.alloc _) 77 a b c d (World.size_alloc _ _)).alloc _).alloc _
    · exact (At4.made ((w.alloc _).alloc _) 77 p q r s (by simp)).alloc _
    · exact At4.made (((w.alloc _).alloc _).alloc _) 77 0 0 0 0 (by simp)
    · rw [em, en]; rfl
  case round =>
    obtain ⟨a, b, c, d, p, q, r, s, hI, hg, HE⟩ := hrel
    clear em en ha hb hc hd hp hq hr hs
    obtain ⟨bl, pr, lo, hi, re, ha, hb, hc, hd, hp, hq, hr, hs⟩ := hI
    have HB : Hid (Below w.heap.size w wr) := bl
    clear bl
    generalize h3 : w.heap.size + 1 + 1 + 1 = k3 at re ⊢
    generalize h2 : w.heap.size + 1 + 1 = k2 at hi ⊢
    generalize h1 : w.heap.size + 1 = k1 at lo ⊢
    have H : Hid (w.heap.size + 1 = k1 ∧ w.heap.size + 1 + 1 = k2 ∧ w.heap.size + 1 + 1 + 1 = k3) := ⟨h1, h2, h3⟩
    generalize h0 : w.heap.size = k0 at pr HB ⊢
    have H0 : Hid (w.heap.size = k0) := h0
    have Q01 : Hid (k0 ≤ k1) := by unfold Hid; omega
    have n01 : k0 ≠ k1 := by omega
    have n02 : k0 ≠ k2 := by omega
    have n03 : k0 ≠ k3 := by omega
    have n12 : k1 ≠ k2 := by omega
    have n13 : k1 ≠ k3 := by omega
    have n23 : k2 ≠ k3 := by omega
    have z0 := pr.lt
    have z1 := lo.lt
    have z2 := hi.lt
    have z3 := re.lt
    clear h0 h1 h2 h3
    by_cases hz : p = 0 ∧ q = 0 ∧ r = 0 ∧ s = 0
    · obtain ⟨rfl, rfl, rfl, rfl⟩ := hz
      obtain ⟨p0, p1, p2, p3, pf⟩ := id pr
      obtain ⟨l0, l1, l2, l3, lf⟩ := id lo
      obtain ⟨h0, h1, h2, h3, hf⟩ := id hi
      obtain ⟨r0, r1, r2, r3, rf⟩ := id re
      go_wp2_with fail
      refine (plus_any _ _ _ _ (Four.mk ha hb hc hd rfl) (Four.mk hg0 hg1 hg2 (by decide) rfl) _).mono ?_
      rintro e w1 ⟨v, rfl, hb1, v4, t, k, rfl, ⟨a', b', c', d', rfl, ha', hb', hc', hd', es⟩, hk, he⟩
      have hfin := fold_end hP hP2 (val_lt ha hb hc hd) hg he hk es (es ▸ val_lt ha' hb' hc' hd')
      rw [HE.out] at hfin
      have HF : Hid _ := hfin
      clear hfin
      clear p0 p1 p2 p3 pf l0 l1 l2 l3 lf h0 h1 h2 h3 hf r0 r1 r2 r3 rf he es hg HE
      have lo1 := lo.call hb1
      have re1 := re.call hb1
      have z3 := re1.lt
      have z1 := lo1.lt
      have HB1 : Hid (Below k0 w w1) := HB.out.trans (hb1.mono (by omega))
      obtain ⟨l0, l1, l2, l3, lf⟩ := id lo1
      obtain ⟨r0, r1, r2, r3, rf⟩ := id re1
      have hk' : k = 0 ∨ k = 1 := by omega
      rcases hk' with rfl | rfl
      · go_wp2
        have rf1 := ((((re1.set0 a).set1 b).set2 c).set3 d).alloc (.cells #[.int .u64 (a' : Int), .int .u64 (b' : Int), .int .u64 (c' : Int), .int .u64 (d' : Int)] 77)
        refine bodyPost_ret (v := ?v0) ?hr0 rfl ?hR0
        case hr0 => simp [results, Try.results97, go_sem, rf1.c0, rf1.c1, rf1.c2, rf1.c3]; rfl
        refine ⟨_, rfl, ?_, Four.mk ha hb hc hd (HF.out.1 trivial).symm⟩
        rw [H0.out]
        have q0 : k0 ≤ k3 := by have := H.out; have := H0.out; omega
        have q1 := (((HB1.out.setCell (p := ⟨k3, 0, none⟩) q0 (.int .u64 (a : Int))).setCell (p := ⟨k3, 1, none⟩) q0 (.int .u64 (b : Int))).setCell (p := ⟨k3, 2, none⟩) q0 (.int .u64 (c : Int))).setCell (p := ⟨k3, 3, none⟩) q0 (.int .u64 (d : Int))
        exact q1.alloc (by simp; omega) _
      · go_wp2
        have rf1 := ((((re1.set0 a').set1 b').set2 c').set3 d').alloc (.cells #[.int .u64 (a' : Int), .int .u64 (b' : Int), .int .u64 (c' : Int), .int .u64 (d' : Int)] 77)
        refine bodyPost_ret (v := ?v1) ?hr1 rfl ?hR1
        case hr1 => simp [results, Try.results97, go_sem, rf1.c0, rf1.c1, rf1.c2, rf1.c3]; rfl
        refine ⟨_, rfl, ?_, Four.mk ha' hb' hc' hd' (HF.out.2 trivial).symm⟩
        rw [H0.out]
        have q0 : k0 ≤ k3 := by have := H.out; have := H0.out; omega
        have q1 := (((HB1.out.setCell (p := ⟨k3, 0, none⟩) q0 (.int .u64 (a' : Int))).setCell (p := ⟨k3, 1, none⟩) q0 (.int .u64 (b' : Int))).setCell (p := ⟨k3, 2, none⟩) q0 (.int .u64 (c' : Int))).setCell (p := ⟨k3, 3, none⟩) q0 (.int .u64 (d' : Int))
        exact q1.alloc (by simp; omega) _
    · go_upto_region 1 with fail
      go_cut [12] from 10 to 72 (fun c wx => c = .bool true ∧ wr = wx)
      case first =>
        obtain ⟨h0, h1, h2, h3, hf⟩ := id hi
        go_wp2_with fail
        all_goals (go_meet; exact ⟨rfl, rfl⟩)
      case rest =>
        obtain ⟨rfl, rfl⟩ := hcut
        have hlt := fold_less (val_pos hz) hP hP2 hg
        clear hz
        obtain ⟨p0, p1, p2, p3, pf⟩ := id pr
        obtain ⟨l0, l1, l2, l3, lf⟩ := id lo
        obtain ⟨h0, h1, h2, h3, hf⟩ := id hi
        rcases hor with ⟨rfl, rfl⟩ | ⟨o, ho, hne⟩
        · have hor : bits .or .u64 0 0 = 0 := by decide +kernel
          go_wp2_with fail
          refine (row_any g0 _ _ _ _ hg0 (Four.mk hp hq hr hs rfl) (Four.mk ha hb hc hd rfl) _).mono ?_
          rintro e w1 ⟨v, rfl, hb1, l, v4, t, rfl, hl, ⟨a', b', c', d', rfl, ha', hb', hc', hd', es⟩, he⟩
          have lo1 := (lo.alloc _).call hb1
          have hi1 := (hi.alloc _).call hb1
          have pr1 := (pr.alloc _).call hb1
          have re1 := (re.alloc _).call hb1
          have tm1 := (At4.new wr 77 0 0 0 0).call hb1
          have HB1 : Hid (Below k0 w w1) := (HB.out.alloc (by omega) _).trans (hb1.mono (by simp; omega))
          clear hb1 p0 p1 p2 p3 pf l0 l1 l2 l3 lf h0 h1 h2 h3 hf lo hi pr re
          generalize hk4 : wr.heap.size = k4 at tm1 z0 z1 z2 z3 ⊢
          clear hk4
          have m0 : k0 ≠ k4 := by omega
          have m1 : k1 ≠ k4 := by omega
          have m2 : k2 ≠ k4 := by omega
          have m3 : k3 ≠ k4 := by omega
          have M : Hid (k0 < k4) := z0
          clear z0 z1 z2 z3
          have z0 := pr1.lt
          have z1 := lo1.lt
          have z2 := hi1.lt
          have z3 := re1.lt
          have z4 := tm1.lt
          have HQ : Hid (g0 * val p q r s + val a b c d = l + 18446744073709551616 * t ∧ t = val a' b' c' d') := ⟨he.symm, es⟩
          have HL : Hid (_ ∧ _) := hlt
          clear he es hlt hg
          obtain ⟨p0, p1, p2, p3, pf⟩ := id pr1
          obtain ⟨l0, l1, l2, l3, lf⟩ := id lo1
          obtain ⟨h0, h1, h2, h3, hf⟩ := id hi1
          obtain ⟨t0, t1, t2, t3, tf⟩ := id tm1
          go_wp2
          go_region
          go_wp2
          obtain ⟨q1, q2, q3⟩ := H.out
          have q0 := H0.out
          subst q1 q2 q3 q0
          go_roundg (val l a' b' c' + top * val d' 0 0 0)
          case measure => rw [fold_one HQ.out.1 HQ.out.2]; exact HL.out.1
          case rel =>
            refine ⟨l, a', b', c', d', 0, 0, 0, ⟨?_, ?_, ?_, ?_, ?_, hl, ha', hb', hc', hd', by decide, by decide, by decide⟩, rfl, ?_⟩
            · have s1 := (HB1.out.setCell (p := ⟨w.heap.size + 1, 0, none⟩) (Nat.le_succ _) (.int .u64 (l : Int)))
              exact (below_set4 (below_set4 (below_set4 s1 (Nat.le_of_lt M.out) _ _ _ _) (Nat.le_succ _) _ _ _ _) (by omega) _ _ _ _).drew
            · exact ((((pr1.other n01.symm _).other4 m0.symm _ _ _ _).other4 n01.symm _ _ _ _).other4 n02.symm _ _ _ _).drew
            · exact ((((lo1.set0 l).other4 m1.symm _ _ _ _).self4 l a' b' c').other4 n12.symm _ _ _ _).drew
            · exact ((((hi1.other n12 _).other4 m2.symm _ _ _ _).other4 n12 _ _ _ _).self4 d' 0 0 0).drew
            · exact ((((re1.other n13 _).other4 m3.symm _ _ _ _).other4 n13 _ _ _ _).other4 n23 _ _ _ _).drew
            · unfold Hid
              rw [fold_one HQ.out.1 HQ.out.2, ← HE.out]
              exact HL.out.2
        · go_wp2_with fail
          refine (row_any g0 _ _ _ _ hg0 (Four.mk hp hq hr hs rfl) (Four.mk ha hb hc hd rfl) _).mono ?_
          rintro e w1 ⟨v, rfl, hb1, l, v4, t, rfl, hl, ⟨a', b', c', d', rfl, ha', hb', hc', hd', es⟩, he⟩
          have lo1 := (lo.alloc _).call hb1
          have hi1 := (hi.alloc _).call hb1
          have pr1 := (pr.alloc _).call hb1
          have re1 := (re.alloc _).call hb1
          have tm1 := (At4.new wr 77 0 0 0 0).call hb1
          have HB1 : Hid (Below k0 w w1) := (HB.out.alloc (by omega) _).trans (hb1.mono (by simp; omega))
          clear hb1 p0 p1 p2 p3 pf l0 l1 l2 l3 lf h0 h1 h2 h3 hf lo hi pr re
          generalize hk4 : wr.heap.size = k4 at tm1 z0 z1 z2 z3 ⊢
          clear hk4
          have m0 : k0 ≠ k4 := by omega
          have m1 : k1 ≠ k4 := by omega
          have m2 : k2 ≠ k4 := by omega
          have m3 : k3 ≠ k4 := by omega
          have M : Hid (k0 < k4) := z0
          clear z0 z1 z2 z3
          have HQ1 : Hid (l + 18446744073709551616 * val a' b' c' d' = g0 * val p q r s + val a b c d) := by unfold Hid; rw [← es]; exact he
          have HL : Hid (_ ∧ _) := hlt
          clear he es hlt hg
          have z0 := pr1.lt
          have z1 := lo1.lt
          have z2 := hi1.lt
          have z3 := re1.lt
          have z4 := tm1.lt
          obtain ⟨p0, p1, p2, p3, pf⟩ := id pr1
          obtain ⟨l0, l1, l2, l3, lf⟩ := id lo1
          obtain ⟨h0, h1, h2, h3, hf⟩ := id hi1
          obtain ⟨t0, t1, t2, t3, tf⟩ := id tm1
          go_wp2_with fail
          refine (row_any g1 _ _ _ _ hg1 (Four.mk hp hq hr hs rfl) (Four.mk ha' hb' hc' hd' rfl) _).mono ?_
          rintro e w2 ⟨v, rfl, hb2, l', v5, t, rfl, hl', ⟨a2, b2, c2, d2, rfl, ha2, hb2', hc2, hd2, es⟩, he⟩
          have lo2 := ((lo1.set0 l).other4 m1.symm _ _ _ _).call hb2
          have hi2 := ((hi1.other n12 _).other4 m2.symm _ _ _ _).call hb2
          have pr2 := ((pr1.other n01.symm _).other4 m0.symm _ _ _ _).call hb2
          have re2 := ((re1.other n13 _).other4 m3.symm _ _ _ _).call hb2
          have tm2 := ((tm1.other m1 _).self4 a' b' c' d').call hb2
          have HB2 : Hid (Below k0 w w2) := ((below_set4 (HB1.out.setCell (p := ⟨k1, 0, none⟩) Q01.out _) (Nat.le_of_lt M.out) _ _ _ _).trans (hb2.mono (by simp; omega)))
          clear hb2 p0 p1 p2 p3 pf l0 l1 l2 l3 lf h0 h1 h2 h3 hf t0 t1 t2 t3 tf lo1 hi1 pr1 re1 tm1 HB1 z0 z1 z2 z3 z4
          have HQ2 : Hid (l' + 18446744073709551616 * val a2 b2 c2 d2 = g1 * val p q r s + val a' b' c' d') := by unfold Hid; rw [← es]; exact he
          clear he es
          have z0 := pr2.lt
          have z1 := lo2.lt
          have z2 := hi2.lt
          have z3 := re2.lt
          have z4 := tm2.lt
          obtain ⟨p0, p1, p2, p3, pf⟩ := id pr2
          obtain ⟨l0, l1, l2, l3, lf⟩ := id lo2
          obtain ⟨h0, h1, h2, h3, hf⟩ := id hi2
          obtain ⟨t0, t1, t2, t3, tf⟩ := id tm2
          go_wp2_with fail
          refine (row_any g2 _ _ _ _ hg2 (Four.mk hp hq hr hs rfl) (Four.mk ha2 hb2' hc2 hd2 rfl) _).mono ?_
          rintro e w3 ⟨v, rfl, hb3, l'', v6, t, rfl, hl'', ⟨a3, b3, c3, d3, rfl, ha3, hb3', hc3, hd3, es⟩, he⟩
          have lo3 := ((lo2.set1 l').other4 m1.symm _ _ _ _).call hb3
          have hi3 := ((hi2.other n12 _).other4 m2.symm _ _ _ _).call hb3
          have pr3 := ((pr2.other n01.symm _).other4 m0.symm _ _ _ _).call hb3
          have re3 := ((re2.other n13 _).other4 m3.symm _ _ _ _).call hb3
          have tm3 := ((tm2.other m1 _).self4 a2 b2 c2 d2).call hb3
          have HB3 : Hid (Below k0 w w3) := ((below_set4 (HB2.out.setCell (p := ⟨k1, 1, none⟩) Q01.out _) (Nat.le_of_lt M.out) _ _ _ _).trans (hb3.mono (by simp; omega)))
          clear hb3 p0 p1 p2 p3 pf l0 l1 l2 l3 lf h0 h1 h2 h3 hf t0 t1 t2 t3 tf lo2 hi2 pr2 re2 tm2 HB2 z0 z1 z2 z3 z4
          have HQ3 : Hid (l'' + 18446744073709551616 * val a3 b3 c3 d3 = g2 * val p q r s + val a2 b2 c2 d2) := by unfold Hid; rw [← es]; exact he
          clear he es
          have z0 := pr3.lt
          have z1 := lo3.lt
          have z2 := hi3.lt
          have z3 := re3.lt
          have z4 := tm3.lt
          obtain ⟨l0, l1, l2, l3, lf⟩ := id lo3
          obtain ⟨h0, h1, h2, h3, hf⟩ := id hi3
          obtain ⟨t0, t1, t2, t3, tf⟩ := id tm3
          go_wp2
          go_region
          go_wp2
          clear l0 l1 l2 l3 lf h0 h1 h2 h3 hf t0 t1 t2 t3 tf
          obtain ⟨q1, q2, q3⟩ := H.out
          have q0 := H0.out
          subst q1 q2 q3 q0
          go_roundg (val l l' l'' a3 + top * val b3 c3 d3 0)
          case measure => rw [fold_three HQ1.out HQ2.out HQ3.out]; exact HL.out.1
          case rel =>
            refine ⟨l, l', l'', a3, b3, c3, d3, 0, ⟨?_, ?_, ?_, ?_, ?_, hl, hl', hl'', ha3, hb3', hc3, hd3, by decide⟩, rfl, ?_⟩
            · have s1 := (HB3.out.setCell (p := ⟨w.heap.size + 1, 2, none⟩) (Nat.le_succ _) (.int .u64 (l'' : Int)))
              have s2 := (below_set4 s1 (Nat.le_of_lt M.out) (.int .u64 (a3 : Int)) (.int .u64 (b3 : Int)) (.int .u64 (c3 : Int)) (.int .u64 (d3 : Int)))
              exact (below_set4 (s2.setCell (p := ⟨w.heap.size + 1, 3, none⟩) (Nat.le_succ _) (.int .u64 (a3 : Int))) (by omega) _ _ _ _).drew
            · exact ((((pr3.other n01.symm _).other4 m0.symm _ _ _ _).other n01.symm _).other4 n02.symm _ _ _ _).drew
            · exact ((((lo3.set2 l'').other4 m1.symm _ _ _ _).set3 a3).other4 n12.symm _ _ _ _).drew
            · exact ((((hi3.other n12 _).other4 m2.symm _ _ _ _).other n12 _).self4 b3 c3 d3 0).drew
            · exact ((((re3.other n13 _).other4 m3.symm _ _ _ _).other n13 _).other4 n23 _ _ _ _).drew
            · unfold Hid
              rw [fold_three HQ1.out HQ2.out HQ3.out, ← HE.out]
              exact HL.out.2
end Go.Proofs.Ytdeidgbknlmhjab
