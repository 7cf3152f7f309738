import Derived.Deep.LoopGhost
import Derived.Deep.RegionHeld3
import Derived.Deep.CutRange
import Derived.Test.YticolhhalbbogaeSS5
set_option linter.unusedVariables false
set_option linter.unusedSimpArgs false
namespace Go.Proofs.Yticolhhalbbogae
open Go.RowKit Go.Sort
structure LessI (w wr : World) (p0 p1 p2 p3 c0 c1 c2 c3 a b c d e f g h : Nat) : Prop where
  bl : Below w.heap.size w wr
  fr : At8 wr w.heap.size p0 p1 p2 p3 c0 c1 c2 c3
  wi : At8 wr (w.heap.size + 1) a b c d e f g h
  re : At4 wr (w.heap.size + 1 + 1) 0 0 0 0
  ha : a < 18446744073709551616
  hb : b < 18446744073709551616
  hc : c < 18446744073709551616
  hd : d < 18446744073709551616
  he : e < 18446744073709551616
  hf : f < 18446744073709551616
  hg : g < 18446744073709551616
  hh : h < 18446744073709551616
theorem blcall8 {k a b c d e f g h : Nat} {w W w1 : World} (H : Hid (Below k w W)) (pr : At8 W k a b c d e f g h) (hb : Below W.heap.size W w1) : Hid (Below k w w1) := H.out.trans (hb.mono (Nat.le_of_lt pr.lt))
theorem mul_lt_top {x y : Nat} (hx : x < top) (hy : y < top) : x * y + top ≤ top * top := by
  have h1 : x * y ≤ (top - 1) * (top - 1) := Nat.mul_le_mul (by omega) (by omega)
  have h2 : (top - 1) * (top - 1) + top ≤ top * top := by unfold top; decide
  omega
section
variable {w w0 : World} {k a b c d e f g h j B : Nat}
theorem below_set8x (H : Below B w0 w) (hj : B ≤ j) (x0 x1 x2 x3 x4 x5 x6 x7 : Value) : Below B w0 ((((((((w.setCell ⟨j, 0, none⟩ x0).setCell ⟨j, 1, none⟩ x1).setCell ⟨j, 2, none⟩ x2).setCell ⟨j, 3, none⟩ x3).setCell ⟨j, 4, none⟩ x4).setCell ⟨j, 5, none⟩ x5).setCell ⟨j, 6, none⟩ x6).setCell ⟨j, 7, none⟩ x7) := below_set8c H hj x0 x1 x2 x3 x4 x5 x6 x7
theorem At8.other8x (H : At8 w k a b c d e f g h) (hj : j ≠ k) (x0 x1 x2 x3 x4 x5 x6 x7 : Value) : At8 ((((((((w.setCell ⟨j, 0, none⟩ x0).setCell ⟨j, 1, none⟩ x1).setCell ⟨j, 2, none⟩ x2).setCell ⟨j, 3, none⟩ x3).setCell ⟨j, 4, none⟩ x4).setCell ⟨j, 5, none⟩ x5).setCell ⟨j, 6, none⟩ x6).setCell ⟨j, 7, none⟩ x7) k a b c d e f g h := H.other8 hj x0 x1 x2 x3 x4 x5 x6 x7
theorem At4.other8x (H : At4 w k a b c d) (hj : j ≠ k) (x0 x1 x2 x3 x4 x5 x6 x7 : Value) : At4 ((((((((w.setCell ⟨j, 0, none⟩ x0).setCell ⟨j, 1, none⟩ x1).setCell ⟨j, 2, none⟩ x2).setCell ⟨j, 3, none⟩ x3).setCell ⟨j, 4, none⟩ x4).setCell ⟨j, 5, none⟩ x5).setCell ⟨j, 6, none⟩ x6).setCell ⟨j, 7, none⟩ x7) k a b c d := H.other8 hj x0 x1 x2 x3 x4 x5 x6 x7
theorem At8.self8x (H : At8 w k a b c d e f g h) (x0 x1 x2 x3 x4 x5 x6 x7 : Nat) : At8 ((((((((w.setCell ⟨k, 0, none⟩ (.int .u64 (x0 : Int))).setCell ⟨k, 1, none⟩ (.int .u64 (x1 : Int))).setCell ⟨k, 2, none⟩ (.int .u64 (x2 : Int))).setCell ⟨k, 3, none⟩ (.int .u64 (x3 : Int))).setCell ⟨k, 4, none⟩ (.int .u64 (x4 : Int))).setCell ⟨k, 5, none⟩ (.int .u64 (x5 : Int))).setCell ⟨k, 6, none⟩ (.int .u64 (x6 : Int))).setCell ⟨k, 7, none⟩ (.int .u64 (x7 : Int))) k x0 x1 x2 x3 x4 x5 x6 x7 := H.self8 x0 x1 x2 x3 x4 x5 x6 x7
end
theorem lessS_of {w W : World} {k0 k1 k2 p0 p1 p2 p3 c0 c1 c2 c3 a b c d e f g h : Nat} (H : Kept w k0 [⟨k0, 0, p0, p1, p2, p3⟩, ⟨k0, 4, c0, c1, c2, c3⟩, ⟨k1, 0, a, b, c, d⟩, ⟨k1, 4, e, f, g, h⟩, ⟨k2, 0, 0, 0, 0, 0⟩] W) : W.cell? ⟨k0, 4, none⟩ = some (.int .u64 (c0 : Int)) ∧ W.cell? ⟨k0, 5, none⟩ = some (.int .u64 (c1 : Int)) ∧ W.cell? ⟨k0, 6, none⟩ = some (.int .u64 (c2 : Int)) ∧ W.cell? ⟨k0, 7, none⟩ = some (.int .u64 (c3 : Int)) ∧ W.cell? ⟨k1, 0, none⟩ = some (.int .u64 (a : Int)) ∧ W.cell? ⟨k1, 1, none⟩ = some (.int .u64 (b : Int)) ∧ W.cell? ⟨k1, 2, none⟩ = some (.int .u64 (c : Int)) ∧ W.cell? ⟨k1, 3, none⟩ = some (.int .u64 (d : Int)) ∧ W.cell? ⟨k1, 4, none⟩ = some (.int .u64 (e : Int)) ∧ W.cell? ⟨k1, 5, none⟩ = some (.int .u64 (f : Int)) ∧ W.cell? ⟨k1, 6, none⟩ = some (.int .u64 (g : Int)) ∧ W.cell? ⟨k1, 7, none⟩ = some (.int .u64 (h : Int)) ∧ Kept w k0 [⟨k0, 0, p0, p1, p2, p3⟩, ⟨k0, 4, c0, c1, c2, c3⟩, ⟨k1, 0, a, b, c, d⟩, ⟨k1, 4, e, f, g, h⟩, ⟨k2, 0, 0, 0, 0, 0⟩] W :=
  ⟨H.tail.head.c0, H.tail.head.c1, H.tail.head.c2, H.tail.head.c3, H.tail.tail.head.c0, H.tail.tail.head.c1, H.tail.tail.head.c2, H.tail.tail.head.c3, H.tail.tail.tail.head.c0, H.tail.tail.tail.head.c1, H.tail.tail.tail.head.c2, H.tail.tail.tail.head.c3, H⟩
theorem keep_call {W w1 : World} {p : Addr} {v : Value} (hb : Below W.heap.size W w1) (h : W.cell? p = some v) : w1.cell? p = some v := by
  rw [hb.cell (World.block_lt_of_cell? _ _ h)]; exact h
theorem or4 (a b c d : Nat) (ha : a < 18446744073709551616) (hb : b < 18446744073709551616) (hc : c < 18446744073709551616) (hd : d < 18446744073709551616) :
    ∃ o : Nat, bits .or .u64 (bits .or .u64 (bits .or .u64 (a : Int) (b : Int)) (c : Int)) (d : Int) = (o : Int) ∧ (o = 0 ↔ (a = 0 ∧ b = 0 ∧ c = 0 ∧ d = 0)) := by
  have lt : ∀ x y : Nat, x < 18446744073709551616 → y < 18446744073709551616 → x ||| y < 18446744073709551616 := fun x y hx hy => Nat.or_lt_two_pow (n := 64) hx hy
  refine ⟨a ||| b ||| c ||| d, ?_, ?_⟩
  · rw [bits_or_u64_nat a b ha hb, bits_or_u64_nat _ c (lt _ _ ha hb) hc, bits_or_u64_nat _ d (lt _ _ (lt _ _ ha hb) hc) hd]
  · constructor
    · intro h
      have h1 := Nat.left_le_or (n := a ||| b ||| c) (m := d)
      have h2 := Nat.right_le_or (n := a ||| b ||| c) (m := d)
      have h3 := Nat.left_le_or (n := a ||| b) (m := c)
      have h4 := Nat.right_le_or (n := a ||| b) (m := c)
      have h5 := Nat.left_le_or (n := a) (m := b)
      have h6 := Nat.right_le_or (n := a) (m := b)
      omega
    · rintro ⟨rfl, rfl, rfl, rfl⟩
      rfl
theorem less_step {lo hi cc P gk : Nat} (hP : P + cc = top) (hP2 : top < 2 * P) (hpos : 0 < hi) (hg : gk = lo + top * hi) : hi * cc + lo < gk ∧ (hi * cc + lo) % P = gk % P := by
  have e : gk = hi * cc + lo + P * hi := by rw [hg, ← hP, Nat.add_mul, Nat.mul_comm cc]; omega
  rw [e, Nat.add_mul_mod_self_left]
  have : 0 < P * hi := Nat.mul_pos (by omega) hpos
  exact ⟨by omega, rfl⟩
set_option maxHeartbeats 4000000 in
set_option maxRecDepth 100000 in
theorem rLess_any (p0 p1 p2 p3 c0 c1 c2 c3 P : Nat) (x : Value) (m : Nat) (hp0 : p0 < 18446744073709551616) (hp1 : p1 < 18446744073709551616) (hp2 : p2 < 18446744073709551616) (hp3 : p3 < 18446744073709551616)
    (hc0 : c0 < 18446744073709551616) (hc1 : c1 < 18446744073709551616) (hc2 : c2 < 18446744073709551616) (hc3 : c3 < 18446744073709551616) (eP : P = val p0 p1 p2 p3) (hP : P + val c0 c1 c2 c3 = top) (hP2 : top < 2 * P) (hx : Eight x m) (w : World) :
    Calls Try.prog 39 #[.agg #[.int .u64 (p0 : Int), .int .u64 (p1 : Int), .int .u64 (p2 : Int), .int .u64 (p3 : Int), .int .u64 (c0 : Int), .int .u64 (c1 : Int), .int .u64 (c2 : Int), .int .u64 (c3 : Int)], x] w (Ret fun e w' => Below w.heap.size w w' ∧ Four e (m % P)) := by
  obtain ⟨a, b, c, d, e, f, g, h, rfl, ha, hb, hc, hd, he, hf, hg, hh, em⟩ := hx
  go_enter Try.func39, Try.ntmps39
  go_wp2
  have HEP : Hid (P = val p0 p1 p2 p3) := eP
  clear eP
  go_loopg [] (val a b c d + top * val e f g h) (fun gk wr => ∃ (a b c d e f g h : Nat), LessI w wr p0 p1 p2 p3 c0 c1 c2 c3 a b c d e f g h ∧ gk = val a b c d + top * val e f g h ∧ Hid (gk % P = m % P))
  case atStart =>
    refine ⟨a, b, c, d, e, f, g, h, ⟨below3 _ _ _ _, ?_, ?_, ?_, ha, hb, hc, hd, he, hf, hg, hh⟩, rfl, ?_⟩
    · exact (((At8.made w 48 p0 p1 p2 p3 c0 c1 c2 c3 rfl).alloc _).alloc _)
    · exact (At8.made (w.alloc _) 80 a b c d e f g h (World.size_alloc _ _)).alloc _
    · exact At4.made ((w.alloc _).alloc _) 44 0 0 0 0 (by simp)
    · rw [em]; rfl
  case round =>
    obtain ⟨a, b, c, d, e, f, g, h, hI, hgk, HE⟩ := hrel
    clear em ha hb hc hd he hf hg hh
    obtain ⟨bl, fr, wi, re, ha, hb, hc, hd, he, hf, hg, hh⟩ := hI
    have HB : Hid (Below w.heap.size w wr) := bl
    clear bl
    generalize q2 : w.heap.size + 1 + 1 = k2 at re ⊢
    generalize q1 : w.heap.size + 1 = k1 at wi ⊢
    have H : Hid (w.heap.size + 1 = k1 ∧ w.heap.size + 1 + 1 = k2) := ⟨q1, q2⟩
    have Q1 : Hid (w.heap.size ≤ k1) := by unfold Hid; omega
    have Q2 : Hid (w.heap.size ≤ k2) := by unfold Hid; omega
    generalize q0 : w.heap.size = k0 at fr HB Q1 Q2 ⊢
    have H0 : Hid (w.heap.size = k0) := q0
    have n01 : k0 ≠ k1 := by omega
    have n02 : k0 ≠ k2 := by omega
    have n12 : k1 ≠ k2 := by omega
    have z0 := fr.lt
    have z1 := wi.lt
    have z2 := re.lt
    clear q0 q1 q2
    obtain ⟨o, ho, hoz⟩ := or4 e f g h he hf hg hh
    obtain ⟨fc0, fc1, fc2, fc3, fc4, fc5, fc6, fc7, ff⟩ := id fr
    obtain ⟨wc0, wc1, wc2, wc3, wc4, wc5, wc6, wc7, wf⟩ := id wi
    obtain ⟨rc0, rc1, rc2, rc3, rf⟩ := id re
    by_cases hz : o = 0
    · obtain ⟨rfl, rfl, rfl, rfl⟩ := hoz.1 hz
      have hlow : gk = val a b c d := by rw [hgk]; rfl
      have HE2 : Hid (val a b c d % P = m % P) := by unfold Hid; rw [← hlow]; exact HE.out
      clear hgk HE hoz hlow
      subst hz
      go_wp2
      have N := At4.made wr 44 a b c d rfl
      have M0 : k0 ≠ wr.heap.size := Nat.ne_of_lt z0
      have M2 : k2 ≠ wr.heap.size := Nat.ne_of_lt z2
      have M5 : Hid (k0 ≤ wr.heap.size) := Nat.le_of_lt z0
      have HB0 : Hid (Below k0 w _) := HB.out.alloc (Nat.le_of_lt z0) (.cells #[.int .u64 (a : Int), .int .u64 (b : Int), .int .u64 (c : Int), .int .u64 (d : Int)] 44)
      replace fr := fr.alloc (.cells #[.int .u64 (a : Int), .int .u64 (b : Int), .int .u64 (c : Int), .int .u64 (d : Int)] 44)
      replace re := re.alloc (.cells #[.int .u64 (a : Int), .int .u64 (b : Int), .int .u64 (c : Int), .int .u64 (d : Int)] 44)
      clear wi fc0 fc1 fc2 fc3 fc4 fc5 fc6 fc7 ff wc0 wc1 wc2 wc3 wc4 wc5 wc6 wc7 wf rc0 rc1 rc2 rc3 rf z0 z1 z2 HB ho
      generalize World.alloc _ _ = W0 at N fr re HB0 ⊢
      generalize wr.heap.size = k5 at N M0 M2 M5 ⊢
      have hB4 : Hid (a < 18446744073709551616 ∧ b < 18446744073709551616 ∧ c < 18446744073709551616 ∧ d < 18446744073709551616) := ⟨ha, hb, hc, hd⟩
      have HPP : Hid (0 < P) := by unfold Hid; have := hP2; omega
      clear ha hb hc hd hP hP2
      have KP : Kept w k0 [⟨k5, 0, a, b, c, d⟩, ⟨k0, 0, p0, p1, p2, p3⟩, ⟨k2, 0, 0, 0, 0, 0⟩] W0 :=
        (((Kept.mk1 HB0.out (Nat.le_of_lt fr.lt)).cons re.blk).cons (x := ⟨k0, 0, p0, p1, p2, p3⟩) ⟨fr.c0, fr.c1, fr.c2, fr.c3, fr.fz⟩).cons N.blk
      clear fr re N HB0
      go_loopg [] (val a b c d) (fun gk2 wr2 => ∃ (a b c d : Nat), gk2 = val a b c d ∧ Kept w k0 [⟨k5, 0, a, b, c, d⟩, ⟨k0, 0, p0, p1, p2, p3⟩, ⟨k2, 0, 0, 0, 0, 0⟩] wr2 ∧ Hid (a < 18446744073709551616 ∧ b < 18446744073709551616 ∧ c < 18446744073709551616 ∧ d < 18446744073709551616) ∧ Hid (val a b c d % P = m % P))
      case atStart => exact ⟨a, b, c, d, rfl, KP, hB4, HE2⟩
      case round =>
        clear KP hB4 HE2
        obtain ⟨a, b, c, d, hgk2, KP, hB4, HE2⟩ := hrel
        obtain ⟨xc0, xc1, xc2, xc3, xf⟩ := KP.head.at4
        obtain ⟨pc0, pc1, pc2, pc3, pf⟩ := KP.tail.head.at4
        have z5 := KP.head.lt
        have z0 := KP.tail.head.lt
        go_wp2_with fail
        refine (rless_any _ _ _ _ (Four.mk hB4.out.1 hB4.out.2.1 hB4.out.2.2.1 hB4.out.2.2.2 rfl) (Four.mk hp0 hp1 hp2 hp3 rfl) _).mono ?_
        rintro r w2 ⟨v, rfl, hb2, v2, t2, j, rfl, ⟨a2, b2, c2, d2, rfl, ha2, hb2', hc2, hd2, es2⟩, hj, he2⟩
        clear xc0 xc1 xc2 xc3 xf pc0 pc1 pc2 pc3 pf z5 z0
        replace KP := KP.call hb2
        clear hb2
        have HE3 : Hid (val a2 b2 c2 d2 + P = val a b c d + top * j) := by unfold Hid; rw [← es2, HEP.out]; exact he2
        clear he2 es2
        have hj' : j = 0 ∨ j = 1 := by omega
        rcases hj' with rfl | rfl
        · obtain ⟨xc0, xc1, xc2, xc3, xf⟩ := KP.head.at4
          have z5 := KP.head.lt
          go_wp2
          go_roundg (val a2 b2 c2 d2)
          case measure => have := HE3.out; have := HPP.out; omega
          case rel =>
            refine ⟨a2, b2, c2, d2, rfl, ?_, ⟨ha2, hb2', hc2, hd2⟩, ?_⟩
            · exact (KP.put M5.out (by simp only [List.mem_cons, List.not_mem_nil, or_false]; rintro x (rfl | rfl); exact M0.symm; exact M2.symm) a2 b2 c2 d2).alloc _
            · unfold Hid
              rw [← HE2.out, show val a b c d = val a2 b2 c2 d2 + P by have := HE3.out; omega, Nat.add_mod_right]
        · obtain ⟨xc0, xc1, xc2, xc3, xf⟩ := KP.head.at4
          obtain ⟨rc0, rc1, rc2, rc3, rf⟩ := KP.tail.tail.head.at4
          have z5 := KP.head.lt
          have z3 := KP.tail.tail.head.lt
          go_wp2
          have RF := (KP.tail.tail.head.at4.self4 a b c d).alloc (.cells #[.int .u64 (a2 : Int), .int .u64 (b2 : Int), .int .u64 (c2 : Int), .int .u64 (d2 : Int)] 44)
          unfold set4 at RF
          refine bodyPost_ret (v := ?v) ?hr rfl ?hR
          case hr => simp [results, Try.results39, go_sem, RF.c0, RF.c1, RF.c2, RF.c3]; rfl
          refine ⟨_, rfl, ?_, Four.mk hB4.out.1 hB4.out.2.1 hB4.out.2.2.1 hB4.out.2.2.2 ?_⟩
          · rw [H0.out]
            exact (below_set4 KP.bl Q2.out _ _ _ _).alloc (by rw [size_set4]; exact KP.le) _
          · rw [← HE2.out, Nat.mod_eq_of_lt (by have := HE3.out; have := val_lt ha2 hb2' hc2 hd2; omega)]
    · have hpos : 0 < val e f g h := by
        rcases Nat.eq_zero_or_pos (val e f g h) with h0 | h0
        · exact absurd (hoz.2 (by unfold val at h0; omega)) hz
        · exact h0
      have HL : Hid (_ ∧ _) := less_step hP hP2 hpos hgk
      clear hoz hgk hpos
      go_wp2
      have KP : Kept w k0 [⟨k0, 0, p0, p1, p2, p3⟩, ⟨k0, 4, c0, c1, c2, c3⟩, ⟨k1, 0, a, b, c, d⟩, ⟨k1, 4, e, f, g, h⟩, ⟨k2, 0, 0, 0, 0, 0⟩] wr :=
        (((((Kept.mk1 HB.out (Nat.le_of_lt z0)).cons re.blk).cons (x := ⟨k1, 4, e, f, g, h⟩) ⟨wi.c4, wi.c5, wi.c6, wi.c7, wi.fz⟩).cons (x := ⟨k1, 0, a, b, c, d⟩) ⟨wi.c0, wi.c1, wi.c2, wi.c3, wi.fz⟩).cons (x := ⟨k0, 4, c0, c1, c2, c3⟩) ⟨fr.c4, fr.c5, fr.c6, fr.c7, fr.fz⟩).cons (x := ⟨k0, 0, p0, p1, p2, p3⟩) ⟨fr.c0, fr.c1, fr.c2, fr.c3, fr.fz⟩
      clear HEP rc0 rc1 rc2 rc3 rf fc0 fc1 fc2 fc3 fr wi re HB
      refine anyTill.begin (fun w' => w'.cell? ⟨k0, 4, none⟩ = some (.int .u64 (c0 : Int)) ∧ w'.cell? ⟨k0, 5, none⟩ = some (.int .u64 (c1 : Int)) ∧ w'.cell? ⟨k0, 6, none⟩ = some (.int .u64 (c2 : Int)) ∧ w'.cell? ⟨k0, 7, none⟩ = some (.int .u64 (c3 : Int)) ∧ w'.cell? ⟨k1, 0, none⟩ = some (.int .u64 (a : Int)) ∧ w'.cell? ⟨k1, 1, none⟩ = some (.int .u64 (b : Int)) ∧ w'.cell? ⟨k1, 2, none⟩ = some (.int .u64 (c : Int)) ∧ w'.cell? ⟨k1, 3, none⟩ = some (.int .u64 (d : Int)) ∧ w'.cell? ⟨k1, 4, none⟩ = some (.int .u64 (e : Int)) ∧ w'.cell? ⟨k1, 5, none⟩ = some (.int .u64 (f : Int)) ∧ w'.cell? ⟨k1, 6, none⟩ = some (.int .u64 (g : Int)) ∧ w'.cell? ⟨k1, 7, none⟩ = some (.int .u64 (h : Int)) ∧ Kept w k0 [⟨k0, 0, p0, p1, p2, p3⟩, ⟨k0, 4, c0, c1, c2, c3⟩, ⟨k1, 0, a, b, c, d⟩, ⟨k1, 4, e, f, g, h⟩, ⟨k2, 0, 0, 0, 0, 0⟩] w') 22 mixed (lessS_of KP.drew) (fun hS => ?_)
      refine anyTill.take (i := 0) (v := ?_) rfl (by kernel_rfl) (by kernel_rfl) (by kernel_rfl) (by kernel_rfl) (by kernel_rfl) (fun _ _ _ h => h) (Or.inl ⟨by rfl, ?_⟩) hS ?_
      rotate_left
      · intro w hSw
        (try dsimp only at hSw)
        go_simp
        try (with_reducible rfl)
      simp only [Act.put, List.setIfInBounds_toArray]
      refine anyTill.take (i := 1) (v := ?_) rfl (by kernel_rfl) (by kernel_rfl) (by kernel_rfl) (by kernel_rfl) (by kernel_rfl) (fun _ _ _ h => h) (Or.inl ⟨by rfl, ?_⟩) hS ?_
      rotate_left
      · intro w hSw
        (try dsimp only at hSw)
        go_simp
        try (with_reducible rfl)
      simp only [Act.put]
      refine anyTill.take (i := 2) (v := ?_) rfl (by kernel_rfl) (by kernel_rfl) (by kernel_rfl) (by kernel_rfl) (by kernel_rfl) (fun _ _ _ h => h) (Or.inl ⟨by rfl, ?_⟩) hS ?_
      rotate_left
      · intro w hSw
        (try dsimp only at hSw)
        go_simp
        try (with_reducible rfl)
      simp only [Act.put]
      refine anyTill.take (i := 3) (v := ?_) rfl (by kernel_rfl) (by kernel_rfl) (by kernel_rfl) (by kernel_rfl) (by kernel_rfl) (fun _ _ _ h => h) (Or.inl ⟨by rfl, ?_⟩) hS ?_
      rotate_left
      · intro w hSw
        (try dsimp only at hSw)
        go_simp
        try (with_reducible rfl)
      simp only [Act.put]
      refine anyTill.take (i := 4) (v := ?_) rfl (by kernel_rfl) (by kernel_rfl) (by kernel_rfl) (by kernel_rfl) (by kernel_rfl) (fun _ _ _ h => h) (Or.inl ⟨by rfl, ?_⟩) hS ?_
      rotate_left
      · intro w hSw
        (try dsimp only at hSw)
        go_simp
        try (with_reducible rfl)
      simp only [Act.put]
      refine anyTill.take (i := 5) (v := ?_) rfl (by kernel_rfl) (by kernel_rfl) (by kernel_rfl) (by kernel_rfl) (by kernel_rfl) (fun _ _ _ h => h) (Or.inl ⟨by rfl, ?_⟩) hS ?_
      rotate_left
      · intro w hSw
        (try dsimp only at hSw)
        go_simp
        try (with_reducible rfl)
      simp only [Act.put]
      refine anyTill.take (i := 6) (v := ?_) rfl (by kernel_rfl) (by kernel_rfl) (by kernel_rfl) (by kernel_rfl) (by kernel_rfl) (fun _ _ _ h => h) (Or.inl ⟨by rfl, ?_⟩) hS ?_
      rotate_left
      · intro w hSw
        (try dsimp only at hSw)
        go_simp
        try (with_reducible rfl)
      simp only [Act.put]
      refine anyTill.take (i := 7) (v := ?_) rfl (by kernel_rfl) (by kernel_rfl) (by kernel_rfl) (by kernel_rfl) (by kernel_rfl) (fun _ _ _ h => h) (Or.inl ⟨by rfl, ?_⟩) hS ?_
      rotate_left
      · intro w hSw
        (try dsimp only at hSw)
        go_simp
        try (with_reducible rfl)
      simp only [Act.put]
      refine anyTill.take (i := 8) (v := ?_) rfl (by kernel_rfl) (by kernel_rfl) (by kernel_rfl) (by kernel_rfl) (by kernel_rfl) (fun _ _ _ h => h) (Or.inl ⟨by rfl, ?_⟩) hS ?_
      rotate_left
      · intro w hSw
        (try dsimp only at hSw)
        go_simp
        try (with_reducible rfl)
      simp only [Act.put]
      refine anyTill.take (i := 9) (v := ?_) rfl (by kernel_rfl) (by kernel_rfl) (by kernel_rfl) (by kernel_rfl) (by kernel_rfl) (fun _ _ _ h => h) (Or.inl ⟨by rfl, ?_⟩) hS ?_
      rotate_left
      · intro w hSw
        (try dsimp only at hSw)
        go_simp
        try (with_reducible rfl)
      simp only [Act.put]
      refine anyTill.take (i := 10) (v := ?_) rfl (by kernel_rfl) (by kernel_rfl) (by kernel_rfl) (by kernel_rfl) (by kernel_rfl) (fun _ _ _ h => h) (Or.inl ⟨by rfl, ?_⟩) hS ?_
      rotate_left
      · intro w hSw
        (try dsimp only at hSw)
        go_simp
        try (with_reducible rfl)
      simp only [Act.put]
      refine anyTill.take (i := 12) (v := ?_) rfl (by kernel_rfl) (by kernel_rfl) (by kernel_rfl) (by kernel_rfl) (by kernel_rfl) (fun _ _ _ h => h) (Or.inl ⟨by rfl, ?_⟩) hS ?_
      rotate_left
      · intro w hSw
        (try dsimp only at hSw)
        go_simp
        try (with_reducible rfl)
      simp only [Act.put]
      refine anyTill.take (i := 13) (v := ?_) rfl (by kernel_rfl) (by kernel_rfl) (by kernel_rfl) (by kernel_rfl) (by kernel_rfl) (fun _ _ _ h => h) (Or.inl ⟨by rfl, ?_⟩) hS ?_
      rotate_left
      · intro w hSw
        (try dsimp only at hSw)
        go_simp
        try (with_reducible rfl)
      simp only [Act.put]
      refine anyTill.take (i := 14) (v := ?_) rfl (by kernel_rfl) (by kernel_rfl) (by kernel_rfl) (by kernel_rfl) (by kernel_rfl) (fun _ _ _ h => h) (Or.inl ⟨by rfl, ?_⟩) hS ?_
      rotate_left
      · intro w hSw
        (try dsimp only at hSw)
        go_simp
        try (with_reducible rfl)
      simp only [Act.put]
      refine anyTill.take (i := 15) (v := ?_) rfl (by kernel_rfl) (by kernel_rfl) (by kernel_rfl) (by kernel_rfl) (by kernel_rfl) (fun _ _ _ h => h) (Or.inl ⟨by rfl, ?_⟩) hS ?_
      rotate_left
      · intro w hSw
        (try dsimp only at hSw)
        go_simp
        try (with_reducible rfl)
      simp only [Act.put]
      refine anyTill.take (i := 16) (v := ?_) rfl (by kernel_rfl) (by kernel_rfl) (by kernel_rfl) (by kernel_rfl) (by kernel_rfl) (fun _ _ _ h => h) (Or.inl ⟨by rfl, ?_⟩) hS ?_
      rotate_left
      · intro w hSw
        (try dsimp only at hSw)
        go_simp
        try (with_reducible rfl)
      simp only [Act.put]
      refine anyTill.take (i := 17) (v := ?_) rfl (by kernel_rfl) (by kernel_rfl) (by kernel_rfl) (by kernel_rfl) (by kernel_rfl) (fun _ _ _ h => h) (Or.inl ⟨by rfl, ?_⟩) hS ?_
      rotate_left
      · intro w hSw
        (try dsimp only at hSw)
        go_simp
        try (with_reducible rfl)
      simp only [Act.put]
      refine anyTill.take (i := 18) (v := ?_) rfl (by kernel_rfl) (by kernel_rfl) (by kernel_rfl) (by kernel_rfl) (by kernel_rfl) (fun _ _ _ h => h) (Or.inl ⟨by rfl, ?_⟩) hS ?_
      rotate_left
      · intro w hSw
        (try dsimp only at hSw)
        go_simp
        try (with_reducible rfl)
      simp only [Act.put]
      refine anyTill.take (i := 19) (v := ?_) rfl (by kernel_rfl) (by kernel_rfl) (by kernel_rfl) (by kernel_rfl) (by kernel_rfl) (fun _ _ _ h => h) (Or.inl ⟨by rfl, ?_⟩) hS ?_
      rotate_left
      · intro w hSw
        (try dsimp only at hSw)
        go_simp
        try (with_reducible rfl)
      simp only [Act.put]
      refine anyTill.take (i := 20) (v := ?_) rfl (by kernel_rfl) (by kernel_rfl) (by kernel_rfl) (by kernel_rfl) (by kernel_rfl) (fun _ _ _ h => h) (Or.inl ⟨by rfl, ?_⟩) hS ?_
      rotate_left
      · intro w hSw
        (try dsimp only at hSw)
        go_simp
        try (with_reducible rfl)
      simp only [Act.put]
      refine anyTill.step (i := 11) rfl (by kernel_rfl) (fun K hK => ?_)
      go_simp
      refine (rproduct_any _ _ _ _ (Four.mk he hf hg hh rfl) (Four.mk hc0 hc1 hc2 hc3 rfl) _).mono ?_
      rintro r w1 ⟨v, rfl, hb1, hE1⟩
      obtain ⟨x0, x1, x2, x3, x4, x5, x6, x7, rfl, hx0, hx1, hx2, hx3, hx4, hx5, hx6, hx7, hxe⟩ := id hE1
      clear hxe hS
      have KP1 := KP.drew.call hb1
      clear hb1 KP
      refine hK.out _ _ (fun _ => lessS_of KP1) ?_
      clear hK K
      try simp only [Act.put, List.setIfInBounds_toArray, List.set_cons_zero, List.set_cons_succ]
      refine anyTill.step (i := 21) rfl (by kernel_rfl) (fun K hK => ?_)
      go_simp
      refine (rplus_any _ _ _ _ hE1 ⟨a, b, c, d, 0, 0, 0, 0, rfl, ha, hb, hc, hd, by decide, by decide, by decide, by decide, rfl⟩ (by have h1 := mul_lt_top (val_lt he hf hg hh) (val_lt hc0 hc1 hc2 hc3); have h2 := val_lt ha hb hc hd; have e0 : val 0 0 0 0 = 0 := rfl; rw [e0, Nat.mul_zero, Nat.add_zero]; omega) _).mono ?_
      rintro r w2 ⟨v, rfl, hb2, hE2⟩
      obtain ⟨y0, y1, y2, y3, y4, y5, y6, y7, rfl, hy0, hy1, hy2, hy3, hy4, hy5, hy6, hy7, hye⟩ := id hE2
      rw [show val 0 0 0 0 = 0 from rfl, Nat.mul_zero, Nat.add_zero] at hye
      have HY : Hid (_ = _) := hye
      clear hye hE1 hE2
      have KP2 := KP1.call hb2
      clear hb2 KP1
      refine hK.out _ _ (fun _ => lessS_of KP2) ?_
      clear hK K
      try simp only [Act.put, List.setIfInBounds_toArray, List.set_cons_zero, List.set_cons_succ]
      have fr : At8 w2 k0 p0 p1 p2 p3 c0 c1 c2 c3 := ⟨KP2.head.c0, KP2.head.c1, KP2.head.c2, KP2.head.c3, KP2.tail.head.c0, KP2.tail.head.c1, KP2.tail.head.c2, KP2.tail.head.c3, KP2.head.f⟩
      have wi : At8 w2 k1 a b c d e f g h := ⟨KP2.tail.tail.head.c0, KP2.tail.tail.head.c1, KP2.tail.tail.head.c2, KP2.tail.tail.head.c3, KP2.tail.tail.tail.head.c0, KP2.tail.tail.tail.head.c1, KP2.tail.tail.tail.head.c2, KP2.tail.tail.tail.head.c3, KP2.tail.tail.head.f⟩
      have re : At4 w2 k2 0 0 0 0 := KP2.tail.tail.tail.tail.head.at4
      have HB : Hid (Below k0 w w2) := KP2.bl
      clear KP2 wc0 wc1 wc2 wc3 wc4 wc5 wc6 wc7 wf z0 z1 z2
      obtain ⟨wc0, wc1, wc2, wc3, wc4, wc5, wc6, wc7, wf⟩ := id wi
      have z1 := wi.lt
      refine anyTill.step (i := 22) rfl (by kernel_rfl) (fun K hK => ?_)
      go_simp
      refine hK.out _ _ (fun h => Bool.noConfusion h) ?_
      clear hK K
      try simp only [Act.put, List.setIfInBounds_toArray, List.set_cons_zero, List.set_cons_succ]
      refine anyTill.done (by kernel_rfl) ?_ _
      obtain ⟨q1, q2⟩ := H.out
      have q0 := H0.out
      subst q1 q2 q0
      go_wp2
      go_roundg (val y0 y1 y2 y3 + top * val y4 y5 y6 y7)
      case measure => rw [← HY.out]; exact HL.out.1
      case rel =>
        refine ⟨y0, y1, y2, y3, y4, y5, y6, y7, ⟨?_, ?_, ?_, ?_, hy0, hy1, hy2, hy3, hy4, hy5, hy6, hy7⟩, rfl, ?_⟩
        · exact below_set8x HB.out Q1.out _ _ _ _ _ _ _ _
        · exact At8.other8x fr n01.symm _ _ _ _ _ _ _ _
        · exact At8.self8x wi y0 y1 y2 y3 y4 y5 y6 y7
        · exact At4.other8x re n12 _ _ _ _ _ _ _ _
        · unfold Hid
          rw [← HY.out, ← HE.out]
          exact HL.out.2
end Go.Proofs.Yticolhhalbbogae
namespace Go.Proofs.Yticolhhalbbogae
open Go.RowKit Go.Sort
theorem mulS_of {w W : World} {k0 k1 k2 p0 p1 p2 p3 c0 c1 c2 c3 a b c d p q r s : Nat} (h : Kept w k0 [⟨k0, 0, p0, p1, p2, p3⟩, ⟨k0, 4, c0, c1, c2, c3⟩, ⟨k1, 0, a, b, c, d⟩, ⟨k2, 0, p, q, r, s⟩] W) : W.cell? ⟨k0, 0, none⟩ = some (.int .u64 (p0 : Int)) ∧ W.cell? ⟨k0, 1, none⟩ = some (.int .u64 (p1 : Int)) ∧ W.cell? ⟨k0, 2, none⟩ = some (.int .u64 (p2 : Int)) ∧ W.cell? ⟨k0, 3, none⟩ = some (.int .u64 (p3 : Int)) ∧ W.cell? ⟨k0, 4, none⟩ = some (.int .u64 (c0 : Int)) ∧ W.cell? ⟨k0, 5, none⟩ = some (.int .u64 (c1 : Int)) ∧ W.cell? ⟨k0, 6, none⟩ = some (.int .u64 (c2 : Int)) ∧ W.cell? ⟨k0, 7, none⟩ = some (.int .u64 (c3 : Int)) ∧ W.cell? ⟨k1, 0, none⟩ = some (.int .u64 (a : Int)) ∧ W.cell? ⟨k1, 1, none⟩ = some (.int .u64 (b : Int)) ∧ W.cell? ⟨k1, 2, none⟩ = some (.int .u64 (c : Int)) ∧ W.cell? ⟨k1, 3, none⟩ = some (.int .u64 (d : Int)) ∧ W.cell? ⟨k2, 0, none⟩ = some (.int .u64 (p : Int)) ∧ W.cell? ⟨k2, 1, none⟩ = some (.int .u64 (q : Int)) ∧ W.cell? ⟨k2, 2, none⟩ = some (.int .u64 (r : Int)) ∧ W.cell? ⟨k2, 3, none⟩ = some (.int .u64 (s : Int)) ∧ Kept w k0 [⟨k0, 0, p0, p1, p2, p3⟩, ⟨k0, 4, c0, c1, c2, c3⟩, ⟨k1, 0, a, b, c, d⟩, ⟨k2, 0, p, q, r, s⟩] W :=
  ⟨h.head.c0, h.head.c1, h.head.c2, h.head.c3, h.tail.head.c0, h.tail.head.c1, h.tail.head.c2, h.tail.head.c3, h.tail.tail.head.c0, h.tail.tail.head.c1, h.tail.tail.head.c2, h.tail.tail.head.c3, h.tail.tail.tail.head.c0, h.tail.tail.tail.head.c1, h.tail.tail.tail.head.c2, h.tail.tail.tail.head.c3, h⟩
set_option maxHeartbeats 4000000 in
set_option maxRecDepth 100000 in
theorem rMul_any (p0 p1 p2 p3 c0 c1 c2 c3 P : Nat) (x y : Value) (m n : Nat) (hp0 : p0 < 18446744073709551616) (hp1 : p1 < 18446744073709551616) (hp2 : p2 < 18446744073709551616) (hp3 : p3 < 18446744073709551616)
    (hc0 : c0 < 18446744073709551616) (hc1 : c1 < 18446744073709551616) (hc2 : c2 < 18446744073709551616) (hc3 : c3 < 18446744073709551616) (eP : P = val p0 p1 p2 p3) (hP : P + val c0 c1 c2 c3 = top) (hP2 : top < 2 * P) (hx : Four x m) (hy : Four y n) (w : World) :
    Calls Try.prog 19 #[.agg #[.int .u64 (p0 : Int), .int .u64 (p1 : Int), .int .u64 (p2 : Int), .int .u64 (p3 : Int), .int .u64 (c0 : Int), .int .u64 (c1 : Int), .int .u64 (c2 : Int), .int .u64 (c3 : Int)], x, y] w (Ret fun e w' => Below w.heap.size w w' ∧ Four e (m * n % P)) := by
  obtain ⟨a, b, c, d, rfl, ha, hb, hc, hd, em⟩ := id hx
  obtain ⟨p, q, r, s, rfl, hp, hq, hr, hs, en⟩ := id hy
  have HX : Hid (Four _ _) := hx
  have HY : Hid (Four _ _) := hy
  have HL : Hid (∀ (v : Value) (k : Nat) (w : World), Eight v k → Calls Try.prog 39 #[.agg #[.int .u64 (p0 : Int), .int .u64 (p1 : Int), .int .u64 (p2 : Int), .int .u64 (p3 : Int), .int .u64 (c0 : Int), .int .u64 (c1 : Int), .int .u64 (c2 : Int), .int .u64 (c3 : Int)], v] w (Ret fun e w' => Below w.heap.size w w' ∧ Four e (k % P))) :=
    fun v k w hv => rLess_any p0 p1 p2 p3 c0 c1 c2 c3 P v k hp0 hp1 hp2 hp3 hc0 hc1 hc2 hc3 eP hP hP2 hv w
  clear em en hx hy ha hb hc hd hp hq hr hs hp0 hp1 hp2 hp3 hc0 hc1 hc2 hc3 eP hP hP2
  go_enter Try.func19, Try.ntmps19
  go_wp2_with fail
  have FR := ((((At8.made w 48 p0 p1 p2 p3 c0 c1 c2 c3 rfl).alloc (.cells #[.int .u64 (a : Int), .int .u64 (b : Int), .int .u64 (c : Int), .int .u64 (d : Int)] 44)).alloc (.cells #[.int .u64 (p : Int), .int .u64 (q : Int), .int .u64 (r : Int), .int .u64 (s : Int)] 44)).alloc (.cells #[.int .u64 0, .int .u64 0, .int .u64 0, .int .u64 0] 44))
  have X := (((At4.made (w.alloc (.cells #[.int .u64 (p0 : Int), .int .u64 (p1 : Int), .int .u64 (p2 : Int), .int .u64 (p3 : Int), .int .u64 (c0 : Int), .int .u64 (c1 : Int), .int .u64 (c2 : Int), .int .u64 (c3 : Int)] 48)) 44 a b c d (World.size_alloc _ _)).alloc (.cells #[.int .u64 (p : Int), .int .u64 (q : Int), .int .u64 (r : Int), .int .u64 (s : Int)] 44)).alloc (.cells #[.int .u64 0, .int .u64 0, .int .u64 0, .int .u64 0] 44))
  have Y := ((At4.made ((w.alloc (.cells #[.int .u64 (p0 : Int), .int .u64 (p1 : Int), .int .u64 (p2 : Int), .int .u64 (p3 : Int), .int .u64 (c0 : Int), .int .u64 (c1 : Int), .int .u64 (c2 : Int), .int .u64 (c3 : Int)] 48)).alloc (.cells #[.int .u64 (a : Int), .int .u64 (b : Int), .int .u64 (c : Int), .int .u64 (d : Int)] 44)) 44 p q r s (k := w.heap.size + 1 + 1) (by simp)).alloc (.cells #[.int .u64 0, .int .u64 0, .int .u64 0, .int .u64 0] 44))
  have T3 := At4.made (((w.alloc (.cells #[.int .u64 (p0 : Int), .int .u64 (p1 : Int), .int .u64 (p2 : Int), .int .u64 (p3 : Int), .int .u64 (c0 : Int), .int .u64 (c1 : Int), .int .u64 (c2 : Int), .int .u64 (c3 : Int)] 48)).alloc (.cells #[.int .u64 (a : Int), .int .u64 (b : Int), .int .u64 (c : Int), .int .u64 (d : Int)] 44)).alloc (.cells #[.int .u64 (p : Int), .int .u64 (q : Int), .int .u64 (r : Int), .int .u64 (s : Int)] 44)) 44 0 0 0 0 (k := w.heap.size + 1 + 1 + 1) (by simp)
  have KP := ((((Kept.mk1 (below4 w (.cells #[.int .u64 (p0 : Int), .int .u64 (p1 : Int), .int .u64 (p2 : Int), .int .u64 (p3 : Int), .int .u64 (c0 : Int), .int .u64 (c1 : Int), .int .u64 (c2 : Int), .int .u64 (c3 : Int)] 48) (.cells #[.int .u64 (a : Int), .int .u64 (b : Int), .int .u64 (c : Int), .int .u64 (d : Int)] 44) (.cells #[.int .u64 (p : Int), .int .u64 (q : Int), .int .u64 (r : Int), .int .u64 (s : Int)] 44) (.cells #[.int .u64 0, .int .u64 0, .int .u64 0, .int .u64 0] 44)) (below4 w (.cells #[.int .u64 (p0 : Int), .int .u64 (p1 : Int), .int .u64 (p2 : Int), .int .u64 (p3 : Int), .int .u64 (c0 : Int), .int .u64 (c1 : Int), .int .u64 (c2 : Int), .int .u64 (c3 : Int)] 48) (.cells #[.int .u64 (a : Int), .int .u64 (b : Int), .int .u64 (c : Int), .int .u64 (d : Int)] 44) (.cells #[.int .u64 (p : Int), .int .u64 (q : Int), .int .u64 (r : Int), .int .u64 (s : Int)] 44) (.cells #[.int .u64 0, .int .u64 0, .int .u64 0, .int .u64 0] 44)).size).cons Y.blk).cons X.blk).cons (x := ⟨w.heap.size, 4, c0, c1, c2, c3⟩) ⟨FR.c4, FR.c5, FR.c6, FR.c7, FR.fz⟩).cons (x := ⟨w.heap.size, 0, p0, p1, p2, p3⟩) ⟨FR.c0, FR.c1, FR.c2, FR.c3, FR.fz⟩
  simp only [Int.natCast_zero] at T3
  clear FR X Y
  generalize World.alloc _ _ = W0 at KP T3 ⊢
  generalize h3 : w.heap.size + 1 + 1 + 1 = k3 at T3 ⊢
  generalize h2 : w.heap.size + 1 + 1 = k2 at KP ⊢
  generalize h1 : w.heap.size + 1 = k1 at KP ⊢
  have Q3 : Hid (w.heap.size ≤ k3) := by unfold Hid; omega
  generalize h0 : w.heap.size = k0 at KP Q3 ⊢
  have H0 : Hid (w.heap.size = k0) := h0
  have hl3 : ∀ x ∈ ([⟨k0, 0, p0, p1, p2, p3⟩, ⟨k0, 4, c0, c1, c2, c3⟩, ⟨k1, 0, a, b, c, d⟩, ⟨k2, 0, p, q, r, s⟩] : List Blk), k3 ≠ x.k := by simp only [List.mem_cons, List.not_mem_nil, or_false]; rintro x (rfl | rfl | rfl | rfl) <;> simp only <;> omega
  clear h0 h1 h2 h3
  obtain ⟨tc0, tc1, tc2, tc3, tf⟩ := id T3
  have zt := T3.lt
  go_region_held3 (fun w' => w'.cell? ⟨k0, 0, none⟩ = some (.int .u64 (p0 : Int)) ∧ w'.cell? ⟨k0, 1, none⟩ = some (.int .u64 (p1 : Int)) ∧ w'.cell? ⟨k0, 2, none⟩ = some (.int .u64 (p2 : Int)) ∧ w'.cell? ⟨k0, 3, none⟩ = some (.int .u64 (p3 : Int)) ∧ w'.cell? ⟨k0, 4, none⟩ = some (.int .u64 (c0 : Int)) ∧ w'.cell? ⟨k0, 5, none⟩ = some (.int .u64 (c1 : Int)) ∧ w'.cell? ⟨k0, 6, none⟩ = some (.int .u64 (c2 : Int)) ∧ w'.cell? ⟨k0, 7, none⟩ = some (.int .u64 (c3 : Int)) ∧ w'.cell? ⟨k1, 0, none⟩ = some (.int .u64 (a : Int)) ∧ w'.cell? ⟨k1, 1, none⟩ = some (.int .u64 (b : Int)) ∧ w'.cell? ⟨k1, 2, none⟩ = some (.int .u64 (c : Int)) ∧ w'.cell? ⟨k1, 3, none⟩ = some (.int .u64 (d : Int)) ∧ w'.cell? ⟨k2, 0, none⟩ = some (.int .u64 (p : Int)) ∧ w'.cell? ⟨k2, 1, none⟩ = some (.int .u64 (q : Int)) ∧ w'.cell? ⟨k2, 2, none⟩ = some (.int .u64 (r : Int)) ∧ w'.cell? ⟨k2, 3, none⟩ = some (.int .u64 (s : Int)) ∧ Kept w k0 [⟨k0, 0, p0, p1, p2, p3⟩, ⟨k0, 4, c0, c1, c2, c3⟩, ⟨k1, 0, a, b, c, d⟩, ⟨k2, 0, p, q, r, s⟩] w') (first | (with_reducible exact mulS_of KP) | (with_reducible exact mulS_of KP.drew) | (with_reducible exact mulS_of (KP.set4' Q3.out hl3 _ _ _ _)) | (with_reducible exact mulS_of (KP.set4' Q3.out hl3 _ _ _ _).drew) | fail) (first | (go_at_call 40; refine (rproduct_any _ _ _ _ HX.out HY.out _).mono ?_; rintro e w1 ⟨v, rfl, hb1, hE1⟩; obtain ⟨x0, x1, x2, x3, x4, x5, x6, x7, rfl, hx0, hx1, hx2, hx3, hx4, hx5, hx6, hx7, hxe⟩ := id hE1; clear hxe; have HE1 : Hid (Eight _ _) := hE1; clear hE1; have KP1 := KP.drew.call hb1; have T1 := T3.drew.call hb1; clear KP T3 hb1; have KP := KP1; have T3 := T1; clear KP1 T1; obtain ⟨tc0, tc1, tc2, tc3, tf⟩ := id T3; have zt := T3.lt) | (go_at_call 39; refine (HL.out _ _ _ HE1.out).mono ?_; rintro e w2 ⟨v, rfl, hb2, hF3⟩; obtain ⟨a', b', c', d', rfl, ha', hb', hc', hd', es3⟩ := id hF3; clear es3; have HF3 : Hid (Four _ _) := hF3; clear hF3; have KP1 := KP.call hb2; have T1 := T3.call hb2; clear KP T3 hb2; have KP := KP1; have T3 := T1; clear KP1 T1; obtain ⟨tc0, tc1, tc2, tc3, tf⟩ := id T3; have zt := T3.lt))
  go_wp2
  have RF := T3.self4 a' b' c' d'
  unfold set4 at RF
  refine bodyPost_ret (v := ?v) ?hr rfl ?hR
  case hr => simp [results, Try.results19, go_sem, RF.c0, RF.c1, RF.c2, RF.c3]; rfl
  refine ⟨_, rfl, ?_, HF3.out⟩
  rw [H0.out]
  exact below_set4 KP.bl Q3.out _ _ _ _
end Go.Proofs.Yticolhhalbbogae
namespace Go.Proofs.Yticolhhalbbogae
open Go.RowKit Go.Sort
theorem Four.eight {a b c d m : Nat} (h : Four (.agg #[.int .u64 (a : Int), .int .u64 (b : Int), .int .u64 (c : Int), .int .u64 (d : Int)]) m) :
    Eight (.agg #[.int .u64 (a : Int), .int .u64 (b : Int), .int .u64 (c : Int), .int .u64 (d : Int), .int .u64 0, .int .u64 0, .int .u64 0, .int .u64 0]) m := by
  obtain ⟨p, q, r, s, e, hp, hq, hr, hs, rfl⟩ := h
  simp only [Value.agg.injEq, Array.mk.injEq, List.cons.injEq, Value.int.injEq, true_and, and_true, Int.ofNat_inj] at e
  obtain ⟨rfl, rfl, rfl, rfl⟩ := e
  exact ⟨a, b, c, d, 0, 0, 0, 0, rfl, hp, hq, hr, hs, by decide, by decide, by decide, by decide, rfl⟩
theorem add_bound {v u : Value} {m n : Nat} (hx : Four v m) (hy : Four u n) : m + n < top * top := by
  have h1 := hx.lt
  have h2 := hy.lt
  have h3 : top + top ≤ top * top := by unfold top; decide
  omega
set_option maxHeartbeats 4000000 in
set_option maxRecDepth 100000 in
theorem rAdd_any (p0 p1 p2 p3 c0 c1 c2 c3 P : Nat) (x y : Value) (m n : Nat) (hp0 : p0 < 18446744073709551616) (hp1 : p1 < 18446744073709551616) (hp2 : p2 < 18446744073709551616) (hp3 : p3 < 18446744073709551616)
    (hc0 : c0 < 18446744073709551616) (hc1 : c1 < 18446744073709551616) (hc2 : c2 < 18446744073709551616) (hc3 : c3 < 18446744073709551616) (eP : P = val p0 p1 p2 p3) (hP : P + val c0 c1 c2 c3 = top) (hP2 : top < 2 * P) (hx : Four x m) (hy : Four y n) (w : World) :
    Calls Try.prog 41 #[.agg #[.int .u64 (p0 : Int), .int .u64 (p1 : Int), .int .u64 (p2 : Int), .int .u64 (p3 : Int), .int .u64 (c0 : Int), .int .u64 (c1 : Int), .int .u64 (c2 : Int), .int .u64 (c3 : Int)], x, y] w (Ret fun e w' => Below w.heap.size w w' ∧ Four e ((m + n) % P)) := by
  obtain ⟨a, b, c, d, rfl, ha, hb, hc, hd, em⟩ := id hx
  obtain ⟨p, q, r, s, rfl, hp, hq, hr, hs, en⟩ := id hy
  have HX : Hid (Four _ _) := hx
  have HY : Hid (Four _ _) := hy
  have HL : Hid (∀ (v : Value) (k : Nat) (w : World), Eight v k → Calls Try.prog 39 #[.agg #[.int .u64 (p0 : Int), .int .u64 (p1 : Int), .int .u64 (p2 : Int), .int .u64 (p3 : Int), .int .u64 (c0 : Int), .int .u64 (c1 : Int), .int .u64 (c2 : Int), .int .u64 (c3 : Int)], v] w (Ret fun e w' => Below w.heap.size w w' ∧ Four e (k % P))) :=
    fun v k w hv => rLess_any p0 p1 p2 p3 c0 c1 c2 c3 P v k hp0 hp1 hp2 hp3 hc0 hc1 hc2 hc3 eP hP hP2 hv w
  clear em en hx hy ha hb hc hd hp hq hr hs hp0 hp1 hp2 hp3 hc0 hc1 hc2 hc3 eP hP hP2
  go_enter Try.func41, Try.ntmps41
  go_wp2_with fail
  have FR := ((((At8.made w 48 p0 p1 p2 p3 c0 c1 c2 c3 rfl).alloc (.cells #[.int .u64 (a : Int), .int .u64 (b : Int), .int .u64 (c : Int), .int .u64 (d : Int)] 44)).alloc (.cells #[.int .u64 (p : Int), .int .u64 (q : Int), .int .u64 (r : Int), .int .u64 (s : Int)] 44)).alloc (.cells #[.int .u64 0, .int .u64 0, .int .u64 0, .int .u64 0] 44))
  have X := (((At4.made (w.alloc (.cells #[.int .u64 (p0 : Int), .int .u64 (p1 : Int), .int .u64 (p2 : Int), .int .u64 (p3 : Int), .int .u64 (c0 : Int), .int .u64 (c1 : Int), .int .u64 (c2 : Int), .int .u64 (c3 : Int)] 48)) 44 a b c d (World.size_alloc _ _)).alloc (.cells #[.int .u64 (p : Int), .int .u64 (q : Int), .int .u64 (r : Int), .int .u64 (s : Int)] 44)).alloc (.cells #[.int .u64 0, .int .u64 0, .int .u64 0, .int .u64 0] 44))
  have Y := ((At4.made ((w.alloc (.cells #[.int .u64 (p0 : Int), .int .u64 (p1 : Int), .int .u64 (p2 : Int), .int .u64 (p3 : Int), .int .u64 (c0 : Int), .int .u64 (c1 : Int), .int .u64 (c2 : Int), .int .u64 (c3 : Int)] 48)).alloc (.cells #[.int .u64 (a : Int), .int .u64 (b : Int), .int .u64 (c : Int), .int .u64 (d : Int)] 44)) 44 p q r s (k := w.heap.size + 1 + 1) (by simp)).alloc (.cells #[.int .u64 0, .int .u64 0, .int .u64 0, .int .u64 0] 44))
  have T3 := At4.made (((w.alloc (.cells #[.int .u64 (p0 : Int), .int .u64 (p1 : Int), .int .u64 (p2 : Int), .int .u64 (p3 : Int), .int .u64 (c0 : Int), .int .u64 (c1 : Int), .int .u64 (c2 : Int), .int .u64 (c3 : Int)] 48)).alloc (.cells #[.int .u64 (a : Int), .int .u64 (b : Int), .int .u64 (c : Int), .int .u64 (d : Int)] 44)).alloc (.cells #[.int .u64 (p : Int), .int .u64 (q : Int), .int .u64 (r : Int), .int .u64 (s : Int)] 44)) 44 0 0 0 0 (k := w.heap.size + 1 + 1 + 1) (by simp)
  have KP := ((((Kept.mk1 (below4 w (.cells #[.int .u64 (p0 : Int), .int .u64 (p1 : Int), .int .u64 (p2 : Int), .int .u64 (p3 : Int), .int .u64 (c0 : Int), .int .u64 (c1 : Int), .int .u64 (c2 : Int), .int .u64 (c3 : Int)] 48) (.cells #[.int .u64 (a : Int), .int .u64 (b : Int), .int .u64 (c : Int), .int .u64 (d : Int)] 44) (.cells #[.int .u64 (p : Int), .int .u64 (q : Int), .int .u64 (r : Int), .int .u64 (s : Int)] 44) (.cells #[.int .u64 0, .int .u64 0, .int .u64 0, .int .u64 0] 44)) (below4 w (.cells #[.int .u64 (p0 : Int), .int .u64 (p1 : Int), .int .u64 (p2 : Int), .int .u64 (p3 : Int), .int .u64 (c0 : Int), .int .u64 (c1 : Int), .int .u64 (c2 : Int), .int .u64 (c3 : Int)] 48) (.cells #[.int .u64 (a : Int), .int .u64 (b : Int), .int .u64 (c : Int), .int .u64 (d : Int)] 44) (.cells #[.int .u64 (p : Int), .int .u64 (q : Int), .int .u64 (r : Int), .int .u64 (s : Int)] 44) (.cells #[.int .u64 0, .int .u64 0, .int .u64 0, .int .u64 0] 44)).size).cons Y.blk).cons X.blk).cons (x := ⟨w.heap.size, 4, c0, c1, c2, c3⟩) ⟨FR.c4, FR.c5, FR.c6, FR.c7, FR.fz⟩).cons (x := ⟨w.heap.size, 0, p0, p1, p2, p3⟩) ⟨FR.c0, FR.c1, FR.c2, FR.c3, FR.fz⟩
  simp only [Int.natCast_zero] at T3
  clear FR X Y
  generalize World.alloc _ _ = W0 at KP T3 ⊢
  generalize h3 : w.heap.size + 1 + 1 + 1 = k3 at T3 ⊢
  generalize h2 : w.heap.size + 1 + 1 = k2 at KP ⊢
  generalize h1 : w.heap.size + 1 = k1 at KP ⊢
  have Q3 : Hid (w.heap.size ≤ k3) := by unfold Hid; omega
  generalize h0 : w.heap.size = k0 at KP Q3 ⊢
  have H0 : Hid (w.heap.size = k0) := h0
  have hl3 : ∀ x ∈ ([⟨k0, 0, p0, p1, p2, p3⟩, ⟨k0, 4, c0, c1, c2, c3⟩, ⟨k1, 0, a, b, c, d⟩, ⟨k2, 0, p, q, r, s⟩] : List Blk), k3 ≠ x.k := by simp only [List.mem_cons, List.not_mem_nil, or_false]; rintro x (rfl | rfl | rfl | rfl) <;> simp only <;> omega
  clear h0 h1 h2 h3
  obtain ⟨tc0, tc1, tc2, tc3, tf⟩ := id T3
  have zt := T3.lt
  go_region_held3 (fun w' => w'.cell? ⟨k0, 0, none⟩ = some (.int .u64 (p0 : Int)) ∧ w'.cell? ⟨k0, 1, none⟩ = some (.int .u64 (p1 : Int)) ∧ w'.cell? ⟨k0, 2, none⟩ = some (.int .u64 (p2 : Int)) ∧ w'.cell? ⟨k0, 3, none⟩ = some (.int .u64 (p3 : Int)) ∧ w'.cell? ⟨k0, 4, none⟩ = some (.int .u64 (c0 : Int)) ∧ w'.cell? ⟨k0, 5, none⟩ = some (.int .u64 (c1 : Int)) ∧ w'.cell? ⟨k0, 6, none⟩ = some (.int .u64 (c2 : Int)) ∧ w'.cell? ⟨k0, 7, none⟩ = some (.int .u64 (c3 : Int)) ∧ w'.cell? ⟨k1, 0, none⟩ = some (.int .u64 (a : Int)) ∧ w'.cell? ⟨k1, 1, none⟩ = some (.int .u64 (b : Int)) ∧ w'.cell? ⟨k1, 2, none⟩ = some (.int .u64 (c : Int)) ∧ w'.cell? ⟨k1, 3, none⟩ = some (.int .u64 (d : Int)) ∧ w'.cell? ⟨k2, 0, none⟩ = some (.int .u64 (p : Int)) ∧ w'.cell? ⟨k2, 1, none⟩ = some (.int .u64 (q : Int)) ∧ w'.cell? ⟨k2, 2, none⟩ = some (.int .u64 (r : Int)) ∧ w'.cell? ⟨k2, 3, none⟩ = some (.int .u64 (s : Int)) ∧ Kept w k0 [⟨k0, 0, p0, p1, p2, p3⟩, ⟨k0, 4, c0, c1, c2, c3⟩, ⟨k1, 0, a, b, c, d⟩, ⟨k2, 0, p, q, r, s⟩] w') (first | (with_reducible exact mulS_of KP) | (with_reducible exact mulS_of KP.drew) | (with_reducible exact mulS_of (KP.set4' Q3.out hl3 _ _ _ _)) | (with_reducible exact mulS_of (KP.set4' Q3.out hl3 _ _ _ _).drew) | fail) (first | (go_at_call 70; refine (rplus_any _ _ _ _ (Four.eight HX.out) (Four.eight HY.out) (add_bound HX.out HY.out) _).mono ?_; rintro e w1 ⟨v, rfl, hb1, hE1⟩; obtain ⟨x0, x1, x2, x3, x4, x5, x6, x7, rfl, hx0, hx1, hx2, hx3, hx4, hx5, hx6, hx7, hxe⟩ := id hE1; clear hxe; have HE1 : Hid (Eight _ _) := hE1; clear hE1; have KP1 := KP.drew.call hb1; have T1 := T3.drew.call hb1; clear KP T3 hb1; have KP := KP1; have T3 := T1; clear KP1 T1; obtain ⟨tc0, tc1, tc2, tc3, tf⟩ := id T3; have zt := T3.lt) | (go_at_call 39; refine (HL.out _ _ _ HE1.out).mono ?_; rintro e w2 ⟨v, rfl, hb2, hF3⟩; obtain ⟨a', b', c', d', rfl, ha', hb', hc', hd', es3⟩ := id hF3; clear es3; have HF3 : Hid (Four _ _) := hF3; clear hF3; have KP1 := KP.call hb2; have T1 := T3.call hb2; clear KP T3 hb2; have KP := KP1; have T3 := T1; clear KP1 T1; obtain ⟨tc0, tc1, tc2, tc3, tf⟩ := id T3; have zt := T3.lt))
  go_wp2
  have RF := T3.self4 a' b' c' d'
  unfold set4 at RF
  refine bodyPost_ret (v := ?v) ?hr rfl ?hR
  case hr => simp [results, Try.results41, go_sem, RF.c0, RF.c1, RF.c2, RF.c3]; rfl
  refine ⟨_, rfl, ?_, HF3.out⟩
  rw [H0.out]
  exact below_set4 KP.bl Q3.out _ _ _ _
end Go.Proofs.Yticolhhalbbogae
namespace Go.Proofs.Yticolhhalbbogae
open Go.RowKit Go.Sort
set_option maxHeartbeats 1000000 in
theorem rBelow_any (x y : Value) (m n : Nat) (hx : Four x m) (hy : Four y n) (w : World) :
    Calls Try.prog 68 #[x, y] w (Ret fun e w' => Below w.heap.size w w' ∧ e = .bool (decide (m < n))) := by
  obtain ⟨a, b, c, d, rfl, ha, hb, hc, hd, em⟩ := id hx
  obtain ⟨p, q, r, s, rfl, hp, hq, hr, hs, en⟩ := id hy
  have HX : Hid (Four _ _) := hx
  have HY : Hid (Four _ _) := hy
  clear em en hx hy ha hb hc hd hp hq hr hs
  go_enter Try.func68, Try.ntmps68
  go_wp2_with fail
  refine (rless_any _ _ _ _ HX.out HY.out _).mono ?_
  rintro e w1 ⟨v, rfl, hb1, v2, t, k, rfl, hF, hk, he⟩
  have HB : Hid (Below w.heap.size w w1) := (below2 w _ _).trans (hb1.mono (below2 w _ _).size)
  have hd : decide (m < n) = decide (k = 1) := by
    have h1 := hF.lt
    have h2 := HX.out.lt
    have h3 := HY.out.lt
    have : k = 0 ∨ k = 1 := by omega
    rcases this with rfl | rfl
    · rw [decide_eq_false (by omega), decide_eq_false (by omega)]
    · rw [decide_eq_true (by omega), decide_eq_true rfl]
  have HD : Hid (decide (m < n) = decide (k = 1)) := hd
  obtain ⟨a', b', c', d', rfl, ha', hb', hc', hd', es⟩ := id hF
  clear es hF he hd hb1
  have : k = 0 ∨ k = 1 := by omega
  rcases this with rfl | rfl
  · go_wp2
    go_ret
    exact ⟨_, rfl, HB.out.alloc HB.out.size _, by rw [HD.out]; rfl⟩
  · go_wp2
    go_ret
    exact ⟨_, rfl, HB.out.alloc HB.out.size _, by rw [HD.out]; rfl⟩
end Go.Proofs.Yticolhhalbbogae
namespace Go.Proofs.Yticolhhalbbogae
open Go.RowKit Go.Sort Go.Deep
theorem At4.setq {w : World} {k a b c d : Nat} (h : At4 w k a b c d) (q o : Nat) (hq : q < 4) :
    At4 (w.setCell ⟨k, q, none⟩ (.int .u64 (o : Int))) k (if q = 0 then o else a) (if q = 1 then o else b) (if q = 2 then o else c) (if q = 3 then o else d) := by
  have h' : q = 0 ∨ q = 1 ∨ q = 2 ∨ q = 3 := by omega
  rcases h' with rfl | rfl | rfl | rfl
  · exact h.set0 o
  · exact h.set1 o
  · exact h.set2 o
  · exact h.set3 o
theorem of_word {a b c d M k B : Nat} (ha : a < 18446744073709551616) (hb : b < 18446744073709551616) (hc : c < 18446744073709551616) (hd : d < 18446744073709551616) (hk : k < 32) (hB : B < 256) (hv : val a b c d = M * 256 ^ (k + 1)) :
    bits .or .u64 (wd a b c d (k / 8) : Int) ((B * 2 ^ (8 * (k % 8)) : Nat) : Int) = ((wd a b c d (k / 8) + B * 2 ^ (8 * (k % 8)) : Nat) : Int) ∧ wd a b c d (k / 8) + B * 2 ^ (8 * (k % 8)) < 18446744073709551616 := by
  have h1 : wd a b c d (k / 8) = 256 ^ (k % 8 + 1) * (M % 256 ^ (7 - k % 8)) := by
    rw [wd_eq (k / 8) (by omega) ha hb hc hd, hv, of_div rfl rfl]
  obtain ⟨h2, h3⟩ := of_or (y := M % 256 ^ (7 - k % 8)) (x := B) (r := k % 8) (by omega) hB (Nat.mod_lt _ (Nat.pow_pos (by decide)))
  rw [h1]
  refine ⟨?_, h3⟩
  rw [bits_or_u64_nat _ _ (by omega) (by omega), h2]
theorem of_step {a b c d k B o : Nat} (hk : k < 32) (ho : o = wd a b c d (k / 8) + B * 2 ^ (8 * (k % 8))) :
    val (if k / 8 = 0 then o else a) (if k / 8 = 1 then o else b) (if k / 8 = 2 then o else c) (if k / 8 = 3 then o else d) = val a b c d + B * 256 ^ k := by
  have h := val_set a b c d (k / 8) o (by omega)
  have e : (256 : Nat) ^ k = 2 ^ (64 * (k / 8)) * 2 ^ (8 * (k % 8)) := by
    rw [← Nat.pow_add, show 64 * (k / 8) + 8 * (k % 8) = 8 * k by omega, Nat.pow_mul]
  rw [ho, Nat.mul_add, ← Nat.mul_assoc, Nat.mul_comm (2 ^ (64 * (k / 8))) B, Nat.mul_assoc, ← e] at h
  rw [ho]
  omega
theorem beV_next (s : ByteArray) (i : Nat) (hi : i < s.size) : beV (s.data.extract 0 (i + 1)).toList = beV (s.data.extract 0 i).toList * 256 + s[i].toNat := by
  have e : (s.data.extract 0 (i + 1)).toList = (s.data.extract 0 i).toList ++ [s[i]] := by
    rw [Array.extract_succ_right (by omega) hi, Array.toList_push]
    rfl
  rw [e, beV_append]
  simp [beV]
set_option maxHeartbeats 4000000 in
set_option maxRecDepth 100000 in
theorem rOf_any (s : ByteArray) (hs : s.size = 32) (w : World) :
    Calls Try.prog 67 #[.string s] w (Ret fun e w' => Below w.heap.size w w' ∧ Four e (beV s.data.toList)) := by
  go_enter Try.func67, Try.ntmps67
  go_wp2
  have KP := ((Kept.mk1 (below2 w (.cells #[.int .u64 0, .int .u64 0, .int .u64 0, .int .u64 0] 44) (.cells #[.int .u64 0, .int .u64 0, .int .u64 0, .int .u64 0] 44)) (below2 w _ _).size).cons ((At4.made w 44 0 0 0 0 rfl).alloc (.cells #[.int .u64 0, .int .u64 0, .int .u64 0, .int .u64 0] 44)).blk).cons (At4.made (w.alloc (.cells #[.int .u64 0, .int .u64 0, .int .u64 0, .int .u64 0] 44)) 44 0 0 0 0 (World.size_alloc _ _)).blk
  generalize World.alloc _ _ = W0 at KP ⊢
  generalize h1 : w.heap.size + 1 = k1 at KP ⊢
  have n10 : k1 ≠ w.heap.size := by omega
  have Q1 : Hid (w.heap.size ≤ k1) := by unfold Hid; omega
  clear h1
  go_loopg [4] 32 (fun gk s4 wr => ∃ i a b c d : Nat, i + gk = 32 ∧ s4 = .int .i64 (i : Int) ∧ Kept w w.heap.size [⟨k1, 0, a, b, c, d⟩, ⟨w.heap.size, 0, 0, 0, 0, 0⟩] wr ∧ Hid (Four (.agg #[.int .u64 (a : Int), .int .u64 (b : Int), .int .u64 (c : Int), .int .u64 (d : Int)]) (beV (s.data.extract 0 i).toList * 256 ^ (32 - i))))
  case atStart =>
    refine ⟨0, 0, 0, 0, 0, rfl, rfl, KP, ?_⟩
    have : beV (s.data.extract 0 0).toList = 0 := by simp [beV]
    rw [this, Nat.zero_mul]
    exact Four.mk (by decide) (by decide) (by decide) (by decide) rfl
  case round =>
    clear KP
    obtain ⟨i, a, b, c, d, hi, rfl, KP, HF⟩ := hrel
    by_cases hlt : i < 32
    · obtain ⟨k, hk⟩ : ∃ k, 31 - i = k := ⟨_, rfl⟩
      have hk32 : k < 32 := by omega
      have hi32 : i < s.size := by omega
      have hF : val a b c d = beV (s.data.extract 0 i).toList * 256 ^ (k + 1) ∧ a < 18446744073709551616 ∧ b < 18446744073709551616 ∧ c < 18446744073709551616 ∧ d < 18446744073709551616 := by
        obtain ⟨a', b', c', d', e', h1, h2, h3, h4, h5⟩ := HF.out
        obtain ⟨rfl, rfl, rfl, rfl⟩ : a' = a ∧ b' = b ∧ c' = c ∧ d' = d := by
          simp only [Value.agg.injEq, Array.mk.injEq, List.cons.injEq, Value.int.injEq, true_and, and_true, Int.ofNat_inj] at e'
          exact ⟨e'.1.symm, e'.2.1.symm, e'.2.2.1.symm, e'.2.2.2.symm⟩
        exact ⟨by rw [← h5, show 32 - i = k + 1 by omega], h1, h2, h3, h4⟩
      obtain ⟨B, hB⟩ : ∃ B, s[i].toNat = B := ⟨_, rfl⟩
      have hB256 : B < 256 := hB ▸ s[i].toNat_lt
      have hsb : IntKind.u64.wrap (s[i].toNat : Int) = (B : Int) := by rw [hB]; exact wrapN _ (by omega)
      obtain ⟨hor, hol⟩ := of_word hF.2.1 hF.2.2.1 hF.2.2.2.1 hF.2.2.2.2 hk32 hB256 hF.1
      have xw := KP.head.at4.wd (k / 8) (by omega)
      obtain ⟨o, ho⟩ : ∃ o, wd a b c d (k / 8) + B * 2 ^ (8 * (k % 8)) = o := ⟨_, rfl⟩
      rw [ho] at hor hol
      have hst := of_step (a := a) (b := b) (c := c) (d := d) hk32 ho.symm
      have HST : Hid (Four (.agg #[.int .u64 ((if k / 8 = 0 then o else a : Nat) : Int), .int .u64 ((if k / 8 = 1 then o else b : Nat) : Int), .int .u64 ((if k / 8 = 2 then o else c : Nat) : Int), .int .u64 ((if k / 8 = 3 then o else d : Nat) : Int)]) (beV (s.data.extract 0 (i + 1)).toList * 256 ^ (32 - (i + 1)))) := by
        refine Four.mk ?_ ?_ ?_ ?_ ?_
        · split; exact hol; exact hF.2.1
        · split; exact hol; exact hF.2.2.1
        · split; exact hol; exact hF.2.2.2.1
        · split; exact hol; exact hF.2.2.2.2
        · rw [hst, hF.1, beV_next s i hi32, hB, show 32 - (i + 1) = k by omega, Nat.add_mul, Nat.pow_succ, Nat.mul_assoc, Nat.mul_comm (256 ^ k) 256]
      obtain ⟨y, hy⟩ : ∃ y, B * 2 ^ (8 * (k % 8)) = y := ⟨_, rfl⟩
      have hyl : y < 18446744073709551616 := by omega
      rw [hy] at hor
      obtain ⟨v, hv⟩ : ∃ v, wd a b c d (k / 8) = v := ⟨_, rfl⟩
      rw [hv] at hor xw
      obtain ⟨q, hq⟩ : ∃ q, k / 8 = q := ⟨_, rfl⟩
      obtain ⟨r, hr⟩ : ∃ r, k % 8 = r := ⟨_, rfl⟩
      obtain ⟨t, ht⟩ : ∃ t, 8 * r = t := ⟨_, rfl⟩
      have hq4 : q < 4 := by omega
      have PT := fun (v : Value) => KP.tail.set (j := k1) (i := q) Q1.out (by simp only [List.mem_cons, List.not_mem_nil, or_false]; rintro x rfl; exact n10) v
      rw [hq] at xw HST
      have hsh : IntKind.u64.wrap ((B : Int) * 2 ^ t) = (y : Int) := by
        rw [← ht, ← hr, ← hy, Int.natCast_mul, Int.natCast_pow]
        have := wrapN (B * 2 ^ (8 * (k % 8))) (by omega)
        rw [Int.natCast_mul, Int.natCast_pow] at this
        exact this
      have i1 : (31 : Int) - (i : Int) = (k : Int) := by omega
      have i2 : (k : Int).tdiv 8 = (q : Int) := by rw [Int.tdiv_eq_ediv_of_nonneg (by omega)]; omega
      have i3 : (k : Int).tmod 8 = (r : Int) := by rw [Int.tmod_eq_emod_of_nonneg (by omega)]; omega
      have i4 : (q : Int) < 4 := by omega
      have i5 : IntKind.i64.wrap (q : Int) = (q : Int) := wrap_i _ (by omega)
      have i6 : IntKind.i64.wrap (r : Int) = (r : Int) := wrap_i _ (by omega)
      have i7 : (8 : Int) * (r : Int) = (t : Int) := by omega
      have i8 : IntKind.i64.wrap (t : Int) = (t : Int) := wrap_i _ (by omega)
      have i9 : t < 64 := by omega
      have i10 : (t : Int) < 64 := by omega
      have hlt' : (i : Int) < 32 := by omega
      have T1 := KP.head.at4.setq q o hq4
      have z1 := KP.head.lt
      have xf := KP.head.f
      have HSB : Hid (s[i].toNat = B) := hB
      have H4 : Hid (q < 4) := hq4
      clear hy hv hq hr ht ho hst hF hB HF
      go_wp2
      go_region
      go_wp2
      go_roundg (gk - 1)
      case measure => omega
      case rel =>
        refine ⟨i + 1, _, _, _, _, by omega, rfl, ?_, HST⟩
        exact ((PT _).cons T1.blk).drew
    · have hi32 : i = 32 := by omega
      subst hi32
      have hse : s.data.extract 0 32 = s.data := by
        have h2 : s.data.size = 32 := hs
        rw [← h2]
        exact Array.extract_size
      have h1 := HF.out
      rw [Nat.sub_self, Nat.pow_zero, Nat.mul_one, hse] at h1
      have HFE : Hid (Four _ _) := h1
      clear h1 hse
      obtain ⟨nc0, nc1, nc2, nc3, nf⟩ := KP.head.at4
      obtain ⟨rc0, rc1, rc2, rc3, rf⟩ := KP.tail.head.at4
      have z1 := KP.head.lt
      have z0 := KP.tail.head.lt
      clear HF
      go_wp2
      have RF := KP.tail.head.at4.self4 a b c d
      unfold set4 at RF
      refine bodyPost_ret (v := ?v) ?hr rfl ?hR
      case hr => simp [results, Try.results67, go_sem, RF.c0, RF.c1, RF.c2, RF.c3]; rfl
      exact ⟨_, rfl, below_set4 KP.bl (Nat.le_refl _) _ _ _ _, HFE.out⟩
end Go.Proofs.Yticolhhalbbogae
namespace Go.Proofs.Yticolhhalbbogae
open Go.RowKit Go.Sort Go.Deep
/-- A prime of the reference, two numbers and a result, each in a block of its own. -/
theorem keptF3 (w : World) (p0 p1 p2 p3 c0 c1 c2 c3 a b c d p q r s : Nat) :
    Kept w w.heap.size [⟨w.heap.size, 0, p0, p1, p2, p3⟩, ⟨w.heap.size, 4, c0, c1, c2, c3⟩, ⟨w.heap.size + 1, 0, a, b, c, d⟩, ⟨w.heap.size + 1 + 1, 0, p, q, r, s⟩, ⟨w.heap.size + 1 + 1 + 1, 0, 0, 0, 0, 0⟩]
      ((((w.alloc (.cells #[.int .u64 (p0 : Int), .int .u64 (p1 : Int), .int .u64 (p2 : Int), .int .u64 (p3 : Int), .int .u64 (c0 : Int), .int .u64 (c1 : Int), .int .u64 (c2 : Int), .int .u64 (c3 : Int)] 48)).alloc (.cells #[.int .u64 (a : Int), .int .u64 (b : Int), .int .u64 (c : Int), .int .u64 (d : Int)] 44)).alloc (.cells #[.int .u64 (p : Int), .int .u64 (q : Int), .int .u64 (r : Int), .int .u64 (s : Int)] 44)).alloc (.cells #[.int .u64 0, .int .u64 0, .int .u64 0, .int .u64 0] 44)) := by
  have F := (((At8.made w 48 p0 p1 p2 p3 c0 c1 c2 c3 rfl).alloc (.cells #[.int .u64 (a : Int), .int .u64 (b : Int), .int .u64 (c : Int), .int .u64 (d : Int)] 44)).alloc (.cells #[.int .u64 (p : Int), .int .u64 (q : Int), .int .u64 (r : Int), .int .u64 (s : Int)] 44)).alloc (.cells #[.int .u64 0, .int .u64 0, .int .u64 0, .int .u64 0] 44)
  refine (((((Kept.mk1 (below4 w _ _ _ _) (below4 w _ _ _ _).size).cons ?_).cons ?_).cons ?_).cons ?_).cons ?_
  · exact (At4.made _ 44 0 0 0 0 (by simp)).blk
  · exact ((At4.made _ 44 p q r s (by simp)).alloc _).blk
  · exact (((At4.made _ 44 a b c d (by simp)).alloc _).alloc _).blk
  · exact ⟨F.c4, F.c5, F.c6, F.c7, F.fz⟩
  · exact ⟨F.c0, F.c1, F.c2, F.c3, F.fz⟩
theorem keptF2 (w : World) (p0 p1 p2 p3 c0 c1 c2 c3 a b c d : Nat) :
    Kept w w.heap.size [⟨w.heap.size, 0, p0, p1, p2, p3⟩, ⟨w.heap.size, 4, c0, c1, c2, c3⟩, ⟨w.heap.size + 1, 0, a, b, c, d⟩, ⟨w.heap.size + 1 + 1, 0, 0, 0, 0, 0⟩]
      (((w.alloc (.cells #[.int .u64 (p0 : Int), .int .u64 (p1 : Int), .int .u64 (p2 : Int), .int .u64 (p3 : Int), .int .u64 (c0 : Int), .int .u64 (c1 : Int), .int .u64 (c2 : Int), .int .u64 (c3 : Int)] 48)).alloc (.cells #[.int .u64 (a : Int), .int .u64 (b : Int), .int .u64 (c : Int), .int .u64 (d : Int)] 44)).alloc (.cells #[.int .u64 0, .int .u64 0, .int .u64 0, .int .u64 0] 44)) := by
  have F := ((At8.made w 48 p0 p1 p2 p3 c0 c1 c2 c3 rfl).alloc (.cells #[.int .u64 (a : Int), .int .u64 (b : Int), .int .u64 (c : Int), .int .u64 (d : Int)] 44)).alloc (.cells #[.int .u64 0, .int .u64 0, .int .u64 0, .int .u64 0] 44)
  refine ((((Kept.mk1 (below3 w _ _ _) (below3 w _ _ _).size).cons ?_).cons ?_).cons ?_).cons ?_
  · exact (At4.made _ 44 0 0 0 0 (by simp)).blk
  · exact ((At4.made _ 44 a b c d (by simp)).alloc _).blk
  · exact ⟨F.c4, F.c5, F.c6, F.c7, F.fz⟩
  · exact ⟨F.c0, F.c1, F.c2, F.c3, F.fz⟩
theorem keptF1 (w : World) (p0 p1 p2 p3 c0 c1 c2 c3 : Nat) :
    Kept w w.heap.size [⟨w.heap.size, 0, p0, p1, p2, p3⟩, ⟨w.heap.size, 4, c0, c1, c2, c3⟩, ⟨w.heap.size + 1, 0, 0, 0, 0, 0⟩] ((w.alloc (.cells #[.int .u64 (p0 : Int), .int .u64 (p1 : Int), .int .u64 (p2 : Int), .int .u64 (p3 : Int), .int .u64 (c0 : Int), .int .u64 (c1 : Int), .int .u64 (c2 : Int), .int .u64 (c3 : Int)] 48)).alloc (.cells #[.int .u64 0, .int .u64 0, .int .u64 0, .int .u64 0] 44)) := by
  have F := (At8.made w 48 p0 p1 p2 p3 c0 c1 c2 c3 rfl).alloc (.cells #[.int .u64 0, .int .u64 0, .int .u64 0, .int .u64 0] 44)
  refine (((Kept.mk1 (below2 w _ _) (below2 w _ _).size).cons ?_).cons ?_).cons ?_
  · exact (At4.made _ 44 0 0 0 0 (by simp)).blk
  · exact ⟨F.c4, F.c5, F.c6, F.c7, F.fz⟩
  · exact ⟨F.c0, F.c1, F.c2, F.c3, F.fz⟩
set_option maxHeartbeats 2000000 in
set_option maxRecDepth 100000 in
theorem rNumber_any (p0 p1 p2 p3 c0 c1 c2 c3 P : Nat) (x : ByteArray) (hR : RefP p0 p1 p2 p3 c0 c1 c2 c3 P) (w : World) :
    Calls Try.prog 37 #[.agg #[.int .u64 (p0 : Int), .int .u64 (p1 : Int), .int .u64 (p2 : Int), .int .u64 (p3 : Int), .int .u64 (c0 : Int), .int .u64 (c1 : Int), .int .u64 (c2 : Int), .int .u64 (c3 : Int)], .string x] w (Ret fun e w' => Below w.heap.size w w' ∧ ∃ (a b c d : Nat) (ok : Bool), e = .tuple #[.agg #[.int .u64 (a : Int), .int .u64 (b : Int), .int .u64 (c : Int), .int .u64 (d : Int)], .bool ok] ∧ (ok = true → IsNum P x.data ∧ Four (.agg #[.int .u64 (a : Int), .int .u64 (b : Int), .int .u64 (c : Int), .int .u64 (d : Int)]) (beV x.data.toList)) ∧ (ok = false → ¬ IsNum P x.data) ∧ (x.size = 32 → Four (.agg #[.int .u64 (a : Int), .int .u64 (b : Int), .int .u64 (c : Int), .int .u64 (d : Int)]) (beV x.data.toList)) ∧ (¬ x.size = 32 → a = 0 ∧ b = 0 ∧ c = 0 ∧ d = 0)) := by
  have HR : Hid (RefP p0 p1 p2 p3 c0 c1 c2 c3 P) := hR
  clear hR
  by_cases hs : x.size = 32
  · have HS : Hid (x.size = 32) := hs
    have hs' : (x.size : Int) = 32 := by omega
    clear hs
    go_enter Try.func37, Try.ntmps37
    go_wp2_with fail
    have KP := keptF1 w p0 p1 p2 p3 c0 c1 c2 c3
    generalize World.alloc _ _ = W0 at KP ⊢
    refine (rOf_any x HS.out _).mono ?_
    rintro e w1 ⟨v, rfl, hb1, hF⟩
    obtain ⟨a, b, c, d, rfl, ha, hb, hc, hd, es⟩ := id hF
    have HF : Hid (Four _ _) := hF
    replace KP := KP.call hb1
    clear hF es hb1 ha hb hc hd
    obtain ⟨pc0, pc1, pc2, pc3, pf⟩ := KP.head.at4
    have z0 := KP.head.lt
    have n0 : w.heap.size ≠ w1.heap.size := Nat.ne_of_lt z0
    go_wp2_with fail
    refine (rBelow_any _ _ _ _ HF.out (Four.mk HR.out.hp0 HR.out.hp1 HR.out.hp2 HR.out.hp3 HR.out.eP) _).mono ?_
    rintro e w2 ⟨v, rfl, hb2, rfl⟩
    have KP2 := ((KP.alloc (.cells #[.int .u64 (a : Int), .int .u64 (b : Int), .int .u64 (c : Int), .int .u64 (d : Int)] 44)).cons (At4.made w1 44 a b c d rfl).blk).call hb2
    clear hb2 pc0 pc1 pc2 pc3 pf z0 n0
    have n4 : w.heap.size + 1 ≠ w1.heap.size := Nat.ne_of_lt KP.tail.tail.head.lt
    clear KP
    generalize w1.heap.size = k5 at KP2 n4 ⊢
    obtain ⟨nc0, nc1, nc2, nc3, nf⟩ := KP2.head.at4
    obtain ⟨rc0, rc1, rc2, rc3, rf⟩ := KP2.tail.tail.tail.head.at4
    have z5 := KP2.head.lt
    have z1 := KP2.tail.tail.tail.head.lt
    obtain ⟨ok, hok⟩ : ∃ ok, decide (beV x.data.toList < P) = ok := ⟨_, rfl⟩
    rw [hok]
    have HO : Hid (decide (beV x.data.toList < P) = ok) := hok
    clear hok
    go_wp2
    have RF := KP2.tail.tail.tail.head.at4.self4 a b c d
    unfold set4 at RF
    refine bodyPost_ret (v := ?v) ?hr rfl ?hR
    case hr => simp [results, Try.results37, go_sem, RF.c0, RF.c1, RF.c2, RF.c3]; rfl
    refine ⟨_, rfl, below_set4 KP2.bl (Nat.le_succ _) _ _ _ _, a, b, c, d, ok, rfl, fun h => ⟨⟨HS.out, ?_⟩, HF.out⟩, fun h hn => ?_, fun _ => HF.out, fun h => absurd HS.out h⟩
    · exact of_decide_eq_true (HO.out.trans h)
    · have := HO.out
      rw [h] at this
      exact of_decide_eq_false this hn.2
  · have hs' : ¬ (x.size : Int) = 32 := by omega
    go_enter Try.func37, Try.ntmps37
    go_wp2
    refine bodyPost_ret (v := ?v2) ?hr2 rfl ?hR2
    case hr2 => simp [results, Try.results37, go_sem]; rfl
    exact ⟨_, rfl, below2 _ _ _, 0, 0, 0, 0, false, rfl, fun h => Bool.noConfusion h, fun _ h => hs h.1, fun h => absurd h hs, fun _ => ⟨rfl, rfl, rfl, rfl⟩⟩
theorem rSmall_any (n : Nat) (_ : n < 18446744073709551616) (w : World) : Calls Try.prog 73 #[.int .u64 (n : Int)] w (Ret fun e w' => Below w.heap.size w w' ∧ e = .agg #[.int .u64 (n : Int), .int .u64 0, .int .u64 0, .int .u64 0]) := by
  go_enter Try.func73, Try.ntmps73
  go_wp2
  refine bodyPost_ret (v := ?v) ?hr rfl ?hR
  case hr => simp [results, Try.results73, go_sem]; rfl
  exact ⟨_, rfl, below1 _ _, rfl⟩
set_option maxHeartbeats 1000000 in
theorem rBit_any (x : Value) (m i : Nat) (hx : Four x m) (hi : i < 256) (w : World) : Calls Try.prog 53 #[x, .int .i64 (i : Int)] w (Ret fun e w' => Below w.heap.size w w' ∧ ∃ t : Nat, e = .int .u64 (t : Int) ∧ t = m / 2 ^ i % 2) := by
  obtain ⟨a, b, c, d, rfl, ha, hb, hc, hd, em⟩ := id hx
  have xw := (At4.made w 44 a b c d rfl).wd (i / 64) (by omega)
  have hwl : wd a b c d (i / 64) < 18446744073709551616 := wd_lt _ ha hb hc hd
  have hbit : wd a b c d (i / 64) / 2 ^ (i % 64) % 2 = m / 2 ^ i % 2 := by rw [em]; exact wd_bit i hi ha hb hc hd
  have i2 : (i : Int).tdiv 64 = ((i / 64 : Nat) : Int) := by rw [Int.tdiv_eq_ediv_of_nonneg (by omega)]; omega
  have i3 : (i : Int).tmod 64 = ((i % 64 : Nat) : Int) := by rw [Int.tmod_eq_emod_of_nonneg (by omega)]; omega
  have i4 : (i / 64 : Nat) < 4 := by omega
  generalize wd a b c d (i / 64) = v at xw hwl hbit
  have hvl : v / 2 ^ (i % 64) < 18446744073709551616 := Nat.lt_of_le_of_lt (Nat.div_le_self _ _) hwl
  have hand : bits .and .u64 ((v : Int) / 2 ^ (i % 64)) 1 = ((m / 2 ^ i % 2 : Nat) : Int) := by
    have := and_one (v / 2 ^ (i % 64)) hvl
    rw [hbit] at this
    rw [← this, Int.natCast_ediv, Int.natCast_pow]
    rfl
  obtain ⟨t, ht⟩ : ∃ t, m / 2 ^ i % 2 = t := ⟨_, rfl⟩
  rw [ht] at hand
  have HT : Hid (t = m / 2 ^ i % 2) := ht.symm
  clear hx em ha hb hc hd hbit ht hvl
  go_enter Try.func53, Try.ntmps53
  go_upto_region 1 with fail
  have zx : w.heap.size < (w.alloc (.cells #[.int .u64 (a : Int), .int .u64 (b : Int), .int .u64 (c : Int), .int .u64 (d : Int)] 44)).heap.size := by simp
  have BL := below1 w (.cells #[.int .u64 (a : Int), .int .u64 (b : Int), .int .u64 (c : Int), .int .u64 (d : Int)] 44)
  generalize World.alloc _ _ = W0 at xw zx BL ⊢
  go_wp2
  go_ret
  exact ⟨_, rfl, BL, t, rfl, HT.out⟩
theorem or_nat (a b : Nat) (ha : a < 18446744073709551616) (hb : b < 18446744073709551616) : ∃ x : Nat, bits .or .u64 (a : Int) (b : Int) = (x : Int) ∧ (x = 0 ↔ a = 0 ∧ b = 0) ∧ x < 18446744073709551616 :=
  ⟨a ||| b, bits_or_u64_nat a b ha hb, Nat.or_eq_zero_iff, Nat.or_lt_two_pow (n := 64) ha hb⟩
set_option maxHeartbeats 1000000 in
theorem rZero_any (x : Value) (m : Nat) (hx : Four x m) (w : World) : Calls Try.prog 51 #[x] w (Ret fun e w' => Below w.heap.size w w' ∧ e = .bool (decide (m = 0))) := by
  obtain ⟨a, b, c, d, rfl, ha, hb, hc, hd, em⟩ := id hx
  obtain ⟨y, o1, z1, l1⟩ := or_nat a b ha hb
  obtain ⟨z, o2, z2, l2⟩ := or_nat y c l1 hc
  obtain ⟨t, o3, z3, l3⟩ := or_nat z d l2 hd
  have hz : decide (m = 0) = decide (t = 0) := by
    rw [decide_eq_decide, z3, z2, z1, em]
    unfold val
    omega
  rw [hz]
  clear z1 z2 z3 hz em hx
  go_enter Try.func51, Try.ntmps51
  go_wp2
  go_ret
  exact ⟨_, rfl, below1 _ _, by by_cases h : t = 0 <;> simp [h]⟩
theorem neg_val {P m s k : Nat} (hm : m < P) (_ : P < top) (h0 : ¬ m = 0) (hs : s < top) (hk : k ≤ 1) (h : s + m = P + top * k) : s = (P - m) % P := by
  have : k = 0 ∨ k = 1 := by omega
  rw [Nat.mod_eq_of_lt (by omega)]
  rcases this with h' | h' <;> rw [h'] at h <;> omega
set_option maxHeartbeats 2000000 in
set_option maxRecDepth 100000 in
theorem rNeg_any (p0 p1 p2 p3 c0 c1 c2 c3 P : Nat) (x : Value) (m : Nat) (hR : RefP p0 p1 p2 p3 c0 c1 c2 c3 P) (hx : Four x m) (hm : m < P) (w : World) :
    Calls Try.prog 42 #[.agg #[.int .u64 (p0 : Int), .int .u64 (p1 : Int), .int .u64 (p2 : Int), .int .u64 (p3 : Int), .int .u64 (c0 : Int), .int .u64 (c1 : Int), .int .u64 (c2 : Int), .int .u64 (c3 : Int)], x] w (Ret fun e w' => Below w.heap.size w w' ∧ Four e ((P - m) % P)) := by
  have HR : Hid (RefP p0 p1 p2 p3 c0 c1 c2 c3 P) := hR
  have HX : Hid (Four x m) := hx
  have HM : Hid (m < P) := hm
  obtain ⟨a, b, c, d, rfl, ha, hb, hc, hd, em⟩ := id hx
  clear hR hx hm em ha hb hc hd
  go_enter Try.func42, Try.ntmps42
  go_wp2_with fail
  have KP := keptF2 w p0 p1 p2 p3 c0 c1 c2 c3 a b c d
  generalize World.alloc _ _ = W0 at KP ⊢
  generalize h2 : w.heap.size + 1 + 1 = k2 at KP ⊢
  generalize h1 : w.heap.size + 1 = k1 at KP ⊢
  have Q2 : Hid (w.heap.size ≤ k2) := by unfold Hid; omega
  generalize h0 : w.heap.size = k0 at KP Q2 ⊢
  have H0 : Hid (w.heap.size = k0) := h0
  clear h0 h1 h2
  refine (rZero_any _ _ HX.out _).mono ?_
  rintro e w1 ⟨v, rfl, hb1, rfl⟩
  replace KP := KP.call hb1
  clear hb1
  obtain ⟨xc0, xc1, xc2, xc3, xf⟩ := KP.tail.tail.head.at4
  have zx := KP.tail.tail.head.lt
  by_cases hz : m = 0
  · have hd : decide (m = 0) = true := decide_eq_true hz
    rw [hd]
    have HZ : Hid (m = 0) := hz
    clear hd hz
    obtain ⟨rc0, rc1, rc2, rc3, rf⟩ := KP.tail.tail.tail.head.at4
    have zr := KP.tail.tail.tail.head.lt
    go_wp2
    have RF := KP.tail.tail.tail.head.at4.self4 a b c d
    unfold set4 at RF
    refine bodyPost_ret (v := ?v) ?hr rfl ?hR
    case hr => simp [results, Try.results42, go_sem, RF.c0, RF.c1, RF.c2, RF.c3]; rfl
    refine ⟨_, rfl, by rw [H0.out]; exact below_set4 KP.bl Q2.out _ _ _ _, ?_⟩
    have h1 := HX.out
    rw [HZ.out] at h1 ⊢
    rw [Nat.sub_zero, Nat.mod_self]
    exact h1
  · have hd : decide (m = 0) = false := decide_eq_false hz
    rw [hd]
    have HZ : Hid (¬ m = 0) := hz
    clear hd hz
    obtain ⟨fc0, fc1, fc2, fc3, ff⟩ := KP.head.at4
    have zf := KP.head.lt
    go_wp2_with fail
    refine (rless_any _ _ _ _ (Four.mk HR.out.hp0 HR.out.hp1 HR.out.hp2 HR.out.hp3 HR.out.eP) HX.out _).mono ?_
    rintro e w2 ⟨v, rfl, hb2, v2, t, k, rfl, hF, hk, he⟩
    have HF : Hid (Four v2 ((P - m) % P)) := by
      have h1 := neg_val HM.out (by have h3 := HR.out.hP; have h4 := HR.out.hP2; have h5 := HM.out; have h6 : 0 < val c0 c1 c2 c3 ∨ val c0 c1 c2 c3 = 0 := by omega
                                    rcases h6 with h6 | h6
                                    · omega
                                    · have h7 : Four (.agg #[.int .u64 (p0 : Int), .int .u64 (p1 : Int), .int .u64 (p2 : Int), .int .u64 (p3 : Int)]) P := Four.mk HR.out.hp0 HR.out.hp1 HR.out.hp2 HR.out.hp3 HR.out.eP
                                      exact h7.lt) HZ.out hF.lt hk he
      rw [← h1]; exact hF
    obtain ⟨ra, rb, rc, rd, rfl, -⟩ := id hF
    replace KP := KP.call hb2
    clear hb2 xc0 xc1 xc2 xc3 xf zx fc0 fc1 fc2 fc3 ff zf hF he
    obtain ⟨rc0, rc1, rc2, rc3, rf⟩ := KP.tail.tail.tail.head.at4
    have zr := KP.tail.tail.tail.head.lt
    have nr : k2 ≠ w2.heap.size := Nat.ne_of_lt zr
    go_wp2
    have RF := (KP.tail.tail.tail.head.at4.self4 ra rb rc rd).alloc (.cells #[.int .u64 (ra : Int), .int .u64 (rb : Int), .int .u64 (rc : Int), .int .u64 (rd : Int)] 44)
    unfold set4 at RF
    refine bodyPost_ret (v := ?v2) ?hr2 rfl ?hR2
    case hr2 => simp [results, Try.results42, go_sem, RF.c0, RF.c1, RF.c2, RF.c3]; rfl
    refine ⟨_, rfl, ?_, HF.out⟩
    rw [H0.out]
    exact (below_set4 KP.bl Q2.out _ _ _ _).alloc (by simpa [set4] using KP.le) _
end Go.Proofs.Yticolhhalbbogae
namespace Go.Proofs.Yticolhhalbbogae
open Go.RowKit Go.Sort Go.Deep
theorem rAdd_R {p0 p1 p2 p3 c0 c1 c2 c3 P : Nat} {x y : Value} {m n : Nat} (hR : RefP p0 p1 p2 p3 c0 c1 c2 c3 P) (hx : Four x m) (hy : Four y n) (w : World) :
    Calls Try.prog 41 #[.agg #[.int .u64 (p0 : Int), .int .u64 (p1 : Int), .int .u64 (p2 : Int), .int .u64 (p3 : Int), .int .u64 (c0 : Int), .int .u64 (c1 : Int), .int .u64 (c2 : Int), .int .u64 (c3 : Int)], x, y] w (Ret fun e w' => Below w.heap.size w w' ∧ Four e ((m + n) % P)) :=
  rAdd_any p0 p1 p2 p3 c0 c1 c2 c3 P x y m n hR.hp0 hR.hp1 hR.hp2 hR.hp3 hR.hc0 hR.hc1 hR.hc2 hR.hc3 hR.eP hR.hP hR.hP2 hx hy w
theorem rMul_R {p0 p1 p2 p3 c0 c1 c2 c3 P : Nat} {x y : Value} {m n : Nat} (hR : RefP p0 p1 p2 p3 c0 c1 c2 c3 P) (hx : Four x m) (hy : Four y n) (w : World) :
    Calls Try.prog 19 #[.agg #[.int .u64 (p0 : Int), .int .u64 (p1 : Int), .int .u64 (p2 : Int), .int .u64 (p3 : Int), .int .u64 (c0 : Int), .int .u64 (c1 : Int), .int .u64 (c2 : Int), .int .u64 (c3 : Int)], x, y] w (Ret fun e w' => Below w.heap.size w w' ∧ Four e (m * n % P)) :=
  rMul_any p0 p1 p2 p3 c0 c1 c2 c3 P x y m n hR.hp0 hR.hp1 hR.hp2 hR.hp3 hR.hc0 hR.hc1 hR.hc2 hR.hc3 hR.eP hR.hP hR.hP2 hx hy w
theorem sub_val {P m n : Nat} (hn : n < P) : (m + (P - n) % P) % P = (m + P - n) % P := by
  rw [Nat.add_mod, Nat.mod_mod, ← Nat.add_mod, show m + P - n = m + (P - n) by omega]
set_option maxHeartbeats 4000000 in
set_option maxRecDepth 100000 in
theorem rSub_any (p0 p1 p2 p3 c0 c1 c2 c3 P : Nat) (x y : Value) (m n : Nat) (hR : RefP p0 p1 p2 p3 c0 c1 c2 c3 P) (hx : Four x m) (hy : Four y n) (hn : n < P) (w : World) :
    Calls Try.prog 20 #[.agg #[.int .u64 (p0 : Int), .int .u64 (p1 : Int), .int .u64 (p2 : Int), .int .u64 (p3 : Int), .int .u64 (c0 : Int), .int .u64 (c1 : Int), .int .u64 (c2 : Int), .int .u64 (c3 : Int)], x, y] w (Ret fun e w' => Below w.heap.size w w' ∧ Four e ((m + P - n) % P)) := by
  obtain ⟨a, b, c, d, rfl, ha, hb, hc, hd, em⟩ := id hx
  obtain ⟨p, q, r, s, rfl, hp, hq, hr, hs, en⟩ := id hy
  have HX : Hid (Four _ _) := hx
  have HY : Hid (Four _ _) := hy
  have HR : Hid (RefP p0 p1 p2 p3 c0 c1 c2 c3 P) := hR
  have HN : Hid (n < P) := hn
  clear em en hx hy ha hb hc hd hp hq hr hs hR hn
  go_enter Try.func20, Try.ntmps20
  go_wp2_with fail
  have FR := ((((At8.made w 48 p0 p1 p2 p3 c0 c1 c2 c3 rfl).alloc (.cells #[.int .u64 (a : Int), .int .u64 (b : Int), .int .u64 (c : Int), .int .u64 (d : Int)] 44)).alloc (.cells #[.int .u64 (p : Int), .int .u64 (q : Int), .int .u64 (r : Int), .int .u64 (s : Int)] 44)).alloc (.cells #[.int .u64 0, .int .u64 0, .int .u64 0, .int .u64 0] 44))
  have X := (((At4.made (w.alloc (.cells #[.int .u64 (p0 : Int), .int .u64 (p1 : Int), .int .u64 (p2 : Int), .int .u64 (p3 : Int), .int .u64 (c0 : Int), .int .u64 (c1 : Int), .int .u64 (c2 : Int), .int .u64 (c3 : Int)] 48)) 44 a b c d (World.size_alloc _ _)).alloc (.cells #[.int .u64 (p : Int), .int .u64 (q : Int), .int .u64 (r : Int), .int .u64 (s : Int)] 44)).alloc (.cells #[.int .u64 0, .int .u64 0, .int .u64 0, .int .u64 0] 44))
  have Y := ((At4.made ((w.alloc (.cells #[.int .u64 (p0 : Int), .int .u64 (p1 : Int), .int .u64 (p2 : Int), .int .u64 (p3 : Int), .int .u64 (c0 : Int), .int .u64 (c1 : Int), .int .u64 (c2 : Int), .int .u64 (c3 : Int)] 48)).alloc (.cells #[.int .u64 (a : Int), .int .u64 (b : Int), .int .u64 (c : Int), .int .u64 (d : Int)] 44)) 44 p q r s (k := w.heap.size + 1 + 1) (by simp)).alloc (.cells #[.int .u64 0, .int .u64 0, .int .u64 0, .int .u64 0] 44))
  have T3 := At4.made (((w.alloc (.cells #[.int .u64 (p0 : Int), .int .u64 (p1 : Int), .int .u64 (p2 : Int), .int .u64 (p3 : Int), .int .u64 (c0 : Int), .int .u64 (c1 : Int), .int .u64 (c2 : Int), .int .u64 (c3 : Int)] 48)).alloc (.cells #[.int .u64 (a : Int), .int .u64 (b : Int), .int .u64 (c : Int), .int .u64 (d : Int)] 44)).alloc (.cells #[.int .u64 (p : Int), .int .u64 (q : Int), .int .u64 (r : Int), .int .u64 (s : Int)] 44)) 44 0 0 0 0 (k := w.heap.size + 1 + 1 + 1) (by simp)
  have KP := ((((Kept.mk1 (below4 w (.cells #[.int .u64 (p0 : Int), .int .u64 (p1 : Int), .int .u64 (p2 : Int), .int .u64 (p3 : Int), .int .u64 (c0 : Int), .int .u64 (c1 : Int), .int .u64 (c2 : Int), .int .u64 (c3 : Int)] 48) (.cells #[.int .u64 (a : Int), .int .u64 (b : Int), .int .u64 (c : Int), .int .u64 (d : Int)] 44) (.cells #[.int .u64 (p : Int), .int .u64 (q : Int), .int .u64 (r : Int), .int .u64 (s : Int)] 44) (.cells #[.int .u64 0, .int .u64 0, .int .u64 0, .int .u64 0] 44)) (below4 w (.cells #[.int .u64 (p0 : Int), .int .u64 (p1 : Int), .int .u64 (p2 : Int), .int .u64 (p3 : Int), .int .u64 (c0 : Int), .int .u64 (c1 : Int), .int .u64 (c2 : Int), .int .u64 (c3 : Int)] 48) (.cells #[.int .u64 (a : Int), .int .u64 (b : Int), .int .u64 (c : Int), .int .u64 (d : Int)] 44) (.cells #[.int .u64 (p : Int), .int .u64 (q : Int), .int .u64 (r : Int), .int .u64 (s : Int)] 44) (.cells #[.int .u64 0, .int .u64 0, .int .u64 0, .int .u64 0] 44)).size).cons Y.blk).cons X.blk).cons (x := ⟨w.heap.size, 4, c0, c1, c2, c3⟩) ⟨FR.c4, FR.c5, FR.c6, FR.c7, FR.fz⟩).cons (x := ⟨w.heap.size, 0, p0, p1, p2, p3⟩) ⟨FR.c0, FR.c1, FR.c2, FR.c3, FR.fz⟩
  simp only [Int.natCast_zero] at T3
  clear FR X Y
  generalize World.alloc _ _ = W0 at KP T3 ⊢
  generalize h3 : w.heap.size + 1 + 1 + 1 = k3 at T3 ⊢
  generalize h2 : w.heap.size + 1 + 1 = k2 at KP ⊢
  generalize h1 : w.heap.size + 1 = k1 at KP ⊢
  have Q3 : Hid (w.heap.size ≤ k3) := by unfold Hid; omega
  generalize h0 : w.heap.size = k0 at KP Q3 ⊢
  have H0 : Hid (w.heap.size = k0) := h0
  have hl3 : ∀ x ∈ ([⟨k0, 0, p0, p1, p2, p3⟩, ⟨k0, 4, c0, c1, c2, c3⟩, ⟨k1, 0, a, b, c, d⟩, ⟨k2, 0, p, q, r, s⟩] : List Blk), k3 ≠ x.k := by simp only [List.mem_cons, List.not_mem_nil, or_false]; rintro x (rfl | rfl | rfl | rfl) <;> simp only <;> omega
  clear h0 h1 h2 h3
  obtain ⟨tc0, tc1, tc2, tc3, tf⟩ := id T3
  have zt := T3.lt
  go_region_held3 (fun w' => w'.cell? ⟨k0, 0, none⟩ = some (.int .u64 (p0 : Int)) ∧ w'.cell? ⟨k0, 1, none⟩ = some (.int .u64 (p1 : Int)) ∧ w'.cell? ⟨k0, 2, none⟩ = some (.int .u64 (p2 : Int)) ∧ w'.cell? ⟨k0, 3, none⟩ = some (.int .u64 (p3 : Int)) ∧ w'.cell? ⟨k0, 4, none⟩ = some (.int .u64 (c0 : Int)) ∧ w'.cell? ⟨k0, 5, none⟩ = some (.int .u64 (c1 : Int)) ∧ w'.cell? ⟨k0, 6, none⟩ = some (.int .u64 (c2 : Int)) ∧ w'.cell? ⟨k0, 7, none⟩ = some (.int .u64 (c3 : Int)) ∧ w'.cell? ⟨k1, 0, none⟩ = some (.int .u64 (a : Int)) ∧ w'.cell? ⟨k1, 1, none⟩ = some (.int .u64 (b : Int)) ∧ w'.cell? ⟨k1, 2, none⟩ = some (.int .u64 (c : Int)) ∧ w'.cell? ⟨k1, 3, none⟩ = some (.int .u64 (d : Int)) ∧ w'.cell? ⟨k2, 0, none⟩ = some (.int .u64 (p : Int)) ∧ w'.cell? ⟨k2, 1, none⟩ = some (.int .u64 (q : Int)) ∧ w'.cell? ⟨k2, 2, none⟩ = some (.int .u64 (r : Int)) ∧ w'.cell? ⟨k2, 3, none⟩ = some (.int .u64 (s : Int)) ∧ Kept w k0 [⟨k0, 0, p0, p1, p2, p3⟩, ⟨k0, 4, c0, c1, c2, c3⟩, ⟨k1, 0, a, b, c, d⟩, ⟨k2, 0, p, q, r, s⟩] w') (first | (with_reducible exact mulS_of KP) | (with_reducible exact mulS_of KP.drew) | (with_reducible exact mulS_of (KP.set4' Q3.out hl3 _ _ _ _)) | (with_reducible exact mulS_of (KP.set4' Q3.out hl3 _ _ _ _).drew) | fail) (first | (go_at_call 42; refine (rNeg_any p0 p1 p2 p3 c0 c1 c2 c3 P _ _ HR.out HY.out HN.out _).mono ?_; rintro e w1 ⟨v, rfl, hb1, hE1⟩; obtain ⟨x0, x1, x2, x3, rfl, -⟩ := id hE1; have HE1 : Hid (Four _ _) := hE1; clear hE1; have KP1 := KP.drew.call hb1; have T1 := T3.drew.call hb1; clear KP T3 hb1; have KP := KP1; have T3 := T1; clear KP1 T1; obtain ⟨tc0, tc1, tc2, tc3, tf⟩ := id T3; have zt := T3.lt) | (go_at_call 41; refine (rAdd_R HR.out HX.out HE1.out _).mono ?_; rintro e w2 ⟨v, rfl, hb2, hF3⟩; rw [sub_val HN.out] at hF3; obtain ⟨a', b', c', d', rfl, ha', hb', hc', hd', es3⟩ := id hF3; clear es3; have HF3 : Hid (Four _ _) := hF3; clear hF3; have KP1 := KP.call hb2; have T1 := T3.call hb2; clear KP T3 hb2; have KP := KP1; have T3 := T1; clear KP1 T1; obtain ⟨tc0, tc1, tc2, tc3, tf⟩ := id T3; have zt := T3.lt))
  go_wp2
  have RF := T3.self4 a' b' c' d'
  unfold set4 at RF
  refine bodyPost_ret (v := ?v) ?hr rfl ?hR
  case hr => simp [results, Try.results20, go_sem, RF.c0, RF.c1, RF.c2, RF.c3]; rfl
  refine ⟨_, rfl, ?_, HF3.out⟩
  rw [H0.out]
  exact below_set4 KP.bl Q3.out _ _ _ _
end Go.Proofs.Yticolhhalbbogae
namespace Go.Proofs.Yticolhhalbbogae
open Go.RowKit Go.Sort Go.Deep
set_option maxHeartbeats 4000000 in
set_option maxRecDepth 100000 in
theorem rPow_any (p0 p1 p2 p3 c0 c1 c2 c3 P : Nat) (x y : Value) (m n : Nat) (hR : RefP p0 p1 p2 p3 c0 c1 c2 c3 P) (hx : Four x m) (hy : Four y n) (w : World) :
    Calls Try.prog 44 #[.agg #[.int .u64 (p0 : Int), .int .u64 (p1 : Int), .int .u64 (p2 : Int), .int .u64 (p3 : Int), .int .u64 (c0 : Int), .int .u64 (c1 : Int), .int .u64 (c2 : Int), .int .u64 (c3 : Int)], x, y] w (Ret fun e w' => Below w.heap.size w w' ∧ Four e (m ^ n % P)) := by
  obtain ⟨a, b, c, d, rfl, ha, hb, hc, hd, em⟩ := id hx
  obtain ⟨p, q, r, s, rfl, hp, hq, hr, hs, en⟩ := id hy
  have HX : Hid (Four _ _) := hx
  have HY : Hid (Four _ _) := hy
  have HR : Hid (RefP p0 p1 p2 p3 c0 c1 c2 c3 P) := hR
  clear em en hx hy ha hb hc hd hp hq hr hs hR
  go_enter Try.func44, Try.ntmps44
  go_wp2_with fail
  have KP := keptF3 w p0 p1 p2 p3 c0 c1 c2 c3 a b c d p q r s
  generalize World.alloc _ _ = W0 at KP ⊢
  generalize h3 : w.heap.size + 1 + 1 + 1 = k3 at KP ⊢
  generalize h2 : w.heap.size + 1 + 1 = k2 at KP ⊢
  generalize h1 : w.heap.size + 1 = k1 at KP ⊢
  have Q3 : Hid (w.heap.size ≤ k3) := by unfold Hid; omega
  generalize h0 : w.heap.size = k0 at KP Q3 ⊢
  have H0 : Hid (w.heap.size = k0) := h0
  clear h0 h1 h2 h3
  refine (rSmall_any 1 (by decide) _).mono ?_
  rintro e w1 ⟨v, rfl, hb1, rfl⟩
  replace KP := KP.call hb1
  clear hb1
  go_wp2
  have KN : Kept w k0 (⟨w1.heap.size, 0, 1, 0, 0, 0⟩ :: [⟨k0, 0, p0, p1, p2, p3⟩, ⟨k0, 4, c0, c1, c2, c3⟩, ⟨k1, 0, a, b, c, d⟩, ⟨k2, 0, p, q, r, s⟩, ⟨k3, 0, 0, 0, 0, 0⟩]) _ := (KP.alloc (.cells #[.int .u64 1, .int .u64 0, .int .u64 0, .int .u64 0] 44)).cons (At4.made w1 44 1 0 0 0 rfl).blk
  have Q7 : Hid (k0 ≤ w1.heap.size) := KP.le
  have hlt := KP.lts
  clear KP
  generalize World.alloc _ _ = W1 at KN ⊢
  generalize w1.heap.size = k7 at KN hlt Q7 ⊢
  have hl7 : ∀ x ∈ ([⟨k0, 0, p0, p1, p2, p3⟩, ⟨k0, 4, c0, c1, c2, c3⟩, ⟨k1, 0, a, b, c, d⟩, ⟨k2, 0, p, q, r, s⟩, ⟨k3, 0, 0, 0, 0, 0⟩] : List Blk), k7 ≠ x.k := fun x hx => Nat.ne_of_gt (hlt x hx)
  have n70 : k7 ≠ k0 := hl7 _ (List.mem_cons_self)
  have n71 : k7 ≠ k1 := hl7 ⟨k1, 0, a, b, c, d⟩ (by simp)
  have n72 : k7 ≠ k2 := hl7 ⟨k2, 0, p, q, r, s⟩ (by simp)
  have n73 : k7 ≠ k3 := hl7 ⟨k3, 0, 0, 0, 0, 0⟩ (by simp)
  clear hlt
  go_loopg [8] 256 (fun gk s8 wr => gk ≤ 256 ∧ s8 = .int .i64 ((gk : Int) - 1) ∧ ∃ na nb nc nd : Nat, Kept w k0 (⟨k7, 0, na, nb, nc, nd⟩ :: [⟨k0, 0, p0, p1, p2, p3⟩, ⟨k0, 4, c0, c1, c2, c3⟩, ⟨k1, 0, a, b, c, d⟩, ⟨k2, 0, p, q, r, s⟩, ⟨k3, 0, 0, 0, 0, 0⟩]) wr ∧ Hid (Four (.agg #[.int .u64 (na : Int), .int .u64 (nb : Int), .int .u64 (nc : Int), .int .u64 (nd : Int)]) (m ^ (n / 2 ^ gk) % P)))
  case atStart =>
    refine ⟨Nat.le_refl _, rfl, 1, 0, 0, 0, KN, ?_⟩
    have h1 := HR.out.hP2
    have h2 : 3 < top := by decide
    rw [show n / 2 ^ 256 = 0 from Nat.div_eq_of_lt HY.out.lt, Nat.pow_zero, Nat.mod_eq_of_lt (by omega)]
    exact Four.mk (by decide) (by decide) (by decide) (by decide) rfl
  case round =>
    clear KN
    obtain ⟨hg, rfl, na, nb, nc, nd, KP, HF⟩ := hrel
    obtain ⟨tc0, tc1, tc2, tc3, tf⟩ := KP.head.at4
    have zt := KP.head.lt
    by_cases hz : gk = 0
    · subst hz
      have HF0 := HF.out
      rw [Nat.pow_zero, Nat.div_one] at HF0
      have HFE : Hid (Four _ _) := HF0
      clear HF0 HF
      obtain ⟨rc0, rc1, rc2, rc3, rf⟩ := KP.tail.tail.tail.tail.tail.head.at4
      have zr := KP.tail.tail.tail.tail.tail.head.lt
      go_wp2
      have RF := KP.tail.tail.tail.tail.tail.head.at4.self4 na nb nc nd
      unfold set4 at RF
      refine bodyPost_ret (v := ?v) ?hr rfl ?hR
      case hr => simp [results, Try.results44, go_sem, RF.c0, RF.c1, RF.c2, RF.c3]; rfl
      refine ⟨_, rfl, ?_, HFE.out⟩
      rw [H0.out]
      exact below_set4 KP.bl Q3.out _ _ _ _
    · obtain ⟨i, hi⟩ : ∃ i, gk = i + 1 := ⟨gk - 1, by omega⟩
      have e1 : (gk : Int) - 1 = (i : Int) := by omega
      rw [e1]
      have d1 : (0 : Int) ≤ (i : Int) := by omega
      have hi2 : i < 256 := by omega
      obtain ⟨E, hE⟩ : ∃ E, n / 2 ^ gk = E := ⟨_, rfl⟩
      rw [hE] at HF
      rw [hi] at hE
      have HE : Hid (n / 2 ^ (i + 1) = E) := hE
      have HI : Hid (gk = i + 1) := hi
      clear hE hi e1
      obtain ⟨fc0, fc1, fc2, fc3, ff⟩ := KP.tail.head.at4
      have fb := KP.tail.tail.head
      obtain ⟨fd0, fd1, fd2, fd3, fg⟩ := id fb
      replace fd0 : wr.cell? ⟨k0, 4, none⟩ = some (.int .u64 (c0 : Int)) := fd0
      replace fd1 : wr.cell? ⟨k0, 5, none⟩ = some (.int .u64 (c1 : Int)) := fd1
      replace fd2 : wr.cell? ⟨k0, 6, none⟩ = some (.int .u64 (c2 : Int)) := fd2
      replace fd3 : wr.cell? ⟨k0, 7, none⟩ = some (.int .u64 (c3 : Int)) := fd3
      have zf := KP.tail.head.lt
      go_wp2_with fail
      clear tc0 tc1 tc2 tc3 tf zt fc0 fc1 fc2 fc3 ff fb fd0 fd1 fd2 fd3 fg zf
      refine (rMul_R HR.out HF.out HF.out _).mono ?_
      rintro e w2 ⟨v, rfl, hb2, hF3⟩
      rw [pow_two_mod] at hF3
      obtain ⟨ya, yb, yc, yd, rfl, -⟩ := id hF3
      clear HF
      have HF : Hid (Four _ _) := hF3
      clear hF3
      replace KP := KP.call hb2
      clear hb2
      obtain ⟨tc0, tc1, tc2, tc3, tf⟩ := KP.head.at4
      have zt := KP.head.lt
      obtain ⟨ec0, ec1, ec2, ec3, ef⟩ := KP.tail.tail.tail.tail.head.at4
      have ze := KP.tail.tail.tail.tail.head.lt
      go_wp2_with fail
      clear tc0 tc1 tc2 tc3 tf zt ec0 ec1 ec2 ec3 ef ze
      have KP2 := KP.put Q7.out hl7 ya yb yc yd
      clear KP
      generalize World.setCell _ _ _ = WX at KP2 ⊢
      refine (rBit_any _ _ i HY.out hi2 _).mono ?_
      rintro e w3 ⟨v, rfl, hb3, t, rfl, ht⟩
      have KP := KP2.call hb3
      have HT : Hid (t = n / 2 ^ i % 2) := ht
      have ht2 : t = 0 ∨ t = 1 := by omega
      clear hb3 KP2 ht
      rcases ht2 with rfl | rfl
      · go_wp2
        go_roundg (gk - 1)
        case measure => omega
        case rel =>
          refine ⟨by omega, ?_, ya, yb, yc, yd, KP, ?_⟩
          · have := HI.out
            congr 1
            omega
          · have h1 := HF.out
            unfold Hid
            rw [HI.out, Nat.add_sub_cancel, div_bit n i, HE.out, ← HT.out, Nat.add_zero]
            exact h1
      · obtain ⟨tc0, tc1, tc2, tc3, tf⟩ := KP.head.at4
        have zt := KP.head.lt
        obtain ⟨ac0, ac1, ac2, ac3, af⟩ := KP.tail.tail.tail.head.at4
        have za := KP.tail.tail.tail.head.lt
        obtain ⟨fc0, fc1, fc2, fc3, ff⟩ := KP.tail.head.at4
        have fb := KP.tail.tail.head
        obtain ⟨fd0, fd1, fd2, fd3, fg⟩ := id fb
        replace fd0 : w3.cell? ⟨k0, 4, none⟩ = some (.int .u64 (c0 : Int)) := fd0
        replace fd1 : w3.cell? ⟨k0, 5, none⟩ = some (.int .u64 (c1 : Int)) := fd1
        replace fd2 : w3.cell? ⟨k0, 6, none⟩ = some (.int .u64 (c2 : Int)) := fd2
        replace fd3 : w3.cell? ⟨k0, 7, none⟩ = some (.int .u64 (c3 : Int)) := fd3
        have zf := KP.tail.head.lt
        go_wp2_with fail
        clear tc0 tc1 tc2 tc3 tf zt fc0 fc1 fc2 fc3 ff fb fd0 fd1 fd2 fd3 fg zf ac0 ac1 ac2 ac3 af za
        refine (rMul_R HR.out HF.out HX.out _).mono ?_
        rintro e w4 ⟨v, rfl, hb4, hF3⟩
        rw [pow_step_mod] at hF3
        obtain ⟨ua, ub, uc, ud, rfl, -⟩ := id hF3
        clear HF
        have HF : Hid (Four _ _) := hF3
        clear hF3
        replace KP := KP.call hb4
        clear hb4
        obtain ⟨tc0, tc1, tc2, tc3, tf⟩ := KP.head.at4
        have zt := KP.head.lt
        go_wp2
        go_roundg (gk - 1)
        case measure => omega
        case rel =>
          refine ⟨by omega, ?_, ua, ub, uc, ud, KP.put Q7.out hl7 ua ub uc ud, ?_⟩
          · have := HI.out
            congr 1
            omega
          · have h1 := HF.out
            unfold Hid
            rw [HI.out, Nat.add_sub_cancel, div_bit n i, HE.out, ← HT.out]
            exact h1
set_option maxHeartbeats 2000000 in
set_option maxRecDepth 100000 in
theorem rInv_any (p0 p1 p2 p3 c0 c1 c2 c3 P : Nat) (x : Value) (m : Nat) (hR : RefP p0 p1 p2 p3 c0 c1 c2 c3 P) (hx : Four x m) (w : World) :
    Calls Try.prog 21 #[.agg #[.int .u64 (p0 : Int), .int .u64 (p1 : Int), .int .u64 (p2 : Int), .int .u64 (p3 : Int), .int .u64 (c0 : Int), .int .u64 (c1 : Int), .int .u64 (c2 : Int), .int .u64 (c3 : Int)], x] w (Ret fun e w' => Below w.heap.size w w' ∧ Four e (m ^ (P - 2) % P)) := by
  have HR : Hid (RefP p0 p1 p2 p3 c0 c1 c2 c3 P) := hR
  have HX : Hid (Four x m) := hx
  obtain ⟨a, b, c, d, rfl, ha, hb, hc, hd, em⟩ := id hx
  clear hR hx em ha hb hc hd
  go_enter Try.func21, Try.ntmps21
  go_wp2_with fail
  have KP := keptF2 w p0 p1 p2 p3 c0 c1 c2 c3 a b c d
  generalize World.alloc _ _ = W0 at KP ⊢
  generalize h2 : w.heap.size + 1 + 1 = k2 at KP ⊢
  generalize h1 : w.heap.size + 1 = k1 at KP ⊢
  have Q2 : Hid (w.heap.size ≤ k2) := by unfold Hid; omega
  generalize h0 : w.heap.size = k0 at KP Q2 ⊢
  have H0 : Hid (w.heap.size = k0) := h0
  clear h0 h1 h2
  have hP4 : Four (.agg #[.int .u64 (p0 : Int), .int .u64 (p1 : Int), .int .u64 (p2 : Int), .int .u64 (p3 : Int)]) P := Four.mk HR.out.hp0 HR.out.hp1 HR.out.hp2 HR.out.hp3 HR.out.eP
  refine (rless_any _ _ P 2 hP4 (Four.mk (a := 2) (b := 0) (c := 0) (d := 0) (by decide) (by decide) (by decide) (by decide) rfl) _).mono ?_
  rintro e w1 ⟨v, rfl, hb1, v2, t, k, rfl, hF, hk, he⟩
  have ht : t = P - 2 := by
    have h1 := hF.lt
    have h2 := hP4.lt
    have h3 := HR.out.hP2
    have h4 : 3 < top := by decide
    have : k = 0 ∨ k = 1 := by omega
    rcases this with h | h <;> rw [h] at he <;> omega
  have HE : Hid (Four v2 (P - 2)) := by unfold Hid; rw [← ht]; exact hF
  obtain ⟨ea, eb, ec, ed, rfl, -⟩ := id hF
  replace KP := KP.call hb1
  clear hb1 hF ht he hP4
  obtain ⟨xc0, xc1, xc2, xc3, xf⟩ := KP.tail.tail.head.at4
  have zx := KP.tail.tail.head.lt
  obtain ⟨fc0, fc1, fc2, fc3, ff⟩ := KP.head.at4
  have fb := KP.tail.head
  obtain ⟨fd0, fd1, fd2, fd3, fg⟩ := id fb
  replace fd0 : w1.cell? ⟨k0, 4, none⟩ = some (.int .u64 (c0 : Int)) := fd0
  replace fd1 : w1.cell? ⟨k0, 5, none⟩ = some (.int .u64 (c1 : Int)) := fd1
  replace fd2 : w1.cell? ⟨k0, 6, none⟩ = some (.int .u64 (c2 : Int)) := fd2
  replace fd3 : w1.cell? ⟨k0, 7, none⟩ = some (.int .u64 (c3 : Int)) := fd3
  have zf := KP.head.lt
  have n0 : k0 ≠ w1.heap.size := Nat.ne_of_lt zf
  have n1 : k1 ≠ w1.heap.size := Nat.ne_of_lt zx
  go_wp2_with fail
  clear xc0 xc1 xc2 xc3 xf zx fc0 fc1 fc2 fc3 ff fb fd0 fd1 fd2 fd3 fg zf n0 n1
  refine (rPow_any p0 p1 p2 p3 c0 c1 c2 c3 P _ _ _ _ HR.out HX.out HE.out _).mono ?_
  rintro e w2 ⟨v, rfl, hb2, hF⟩
  replace KP := (KP.alloc _).call hb2
  clear hb2
  obtain ⟨qa, qb, qc, qd, rfl, -⟩ := id hF
  have HF : Hid (Four _ _) := hF
  clear hF
  obtain ⟨rc0, rc1, rc2, rc3, rf⟩ := KP.tail.tail.tail.head.at4
  have zr := KP.tail.tail.tail.head.lt
  go_wp2
  have RF := KP.tail.tail.tail.head.at4.self4 qa qb qc qd
  unfold set4 at RF
  refine bodyPost_ret (v := ?v) ?hr rfl ?hR
  case hr => simp [results, Try.results21, go_sem, RF.c0, RF.c1, RF.c2, RF.c3]; rfl
  refine ⟨_, rfl, ?_, HF.out⟩
  rw [H0.out]
  exact below_set4 KP.bl Q2.out _ _ _ _
end Go.Proofs.Yticolhhalbbogae
namespace Go.Proofs.Yticolhhalbbogae
open Go.RowKit Go.Sort Go.Deep
theorem or_high (v t r : Nat) (hr : r < 64) (hv : v < 2 ^ r) (ht : t < 2) : bits .or .u64 (v : Int) ((t * 2 ^ r : Nat) : Int) = ((v + t * 2 ^ r : Nat) : Int) ∧ v + t * 2 ^ r < 18446744073709551616 := by
  have h1 : 2 ^ r ≤ 2 ^ 63 := Nat.pow_le_pow_right (by decide) (by omega)
  have h2 : t * 2 ^ r ≤ 1 * 2 ^ r := Nat.mul_le_mul_right _ (by omega)
  have h3 : (2 : Nat) ^ 63 = 9223372036854775808 := by decide
  have e := Nat.two_pow_add_eq_or_of_lt hv t
  refine ⟨?_, by omega⟩
  rw [bits_or_u64_nat _ _ (by omega) (by omega), Nat.or_comm, Nat.mul_comm t, ← e, Nat.add_comm]
/-- The word that gets a bit of a quarter is empty from there on. -/
theorem quart_word {a b c d Q i : Nat} (ha : a < 18446744073709551616) (hb : b < 18446744073709551616) (hc : c < 18446744073709551616) (hd : d < 18446744073709551616) (hi : i < 256) (hv : val a b c d = Q % 2 ^ i) : wd a b c d (i / 64) < 2 ^ (i % 64) := by
  rw [wd_eq (i / 64) (by omega) ha hb hc hd, hv]
  refine Nat.lt_of_le_of_lt (Nat.mod_le _ _) ?_
  refine Nat.div_lt_of_lt_mul ?_
  rw [← Nat.pow_add, show 64 * (i / 64) + i % 64 = i by omega]
  exact Nat.mod_lt _ (Nat.pow_pos (by decide))
theorem quart_step {a b c d Q i t o : Nat} (hi : i < 256) (hv : val a b c d = Q % 2 ^ i) (ht : t = Q / 2 ^ i % 2) (ho : o = wd a b c d (i / 64) + t * 2 ^ (i % 64)) :
    val (if i / 64 = 0 then o else a) (if i / 64 = 1 then o else b) (if i / 64 = 2 then o else c) (if i / 64 = 3 then o else d) = Q % 2 ^ (i + 1) := by
  have h := val_set a b c d (i / 64) o (by omega)
  have e : (2 : Nat) ^ i = 2 ^ (64 * (i / 64)) * 2 ^ (i % 64) := by
    rw [← Nat.pow_add, show 64 * (i / 64) + i % 64 = i by omega]
  rw [ho, Nat.mul_add, ← Nat.mul_assoc, Nat.mul_comm (2 ^ (64 * (i / 64))) t, Nat.mul_assoc, ← e] at h
  rw [ho, Nat.pow_succ, Nat.mod_mul, ← ht, Nat.mul_comm (2 ^ i)]
  omega
theorem sqS_of {w W : World} {k0 k1 k2 k3 j v p0 p1 p2 p3 c0 c1 c2 c3 a b c d qa qb qc qd : Nat} (h : Kept w k0 (⟨k3, 0, qa, qb, qc, qd⟩ :: [⟨k0, 0, p0, p1, p2, p3⟩, ⟨k0, 4, c0, c1, c2, c3⟩, ⟨k1, 0, a, b, c, d⟩, ⟨k2, 0, 0, 0, 0, 0⟩]) W) (hx : W.cell? ⟨k3, j, none⟩ = some (.int .u64 (v : Int))) : W.cell? ⟨k0, 0, none⟩ = some (.int .u64 (p0 : Int)) ∧ W.cell? ⟨k0, 1, none⟩ = some (.int .u64 (p1 : Int)) ∧ W.cell? ⟨k0, 2, none⟩ = some (.int .u64 (p2 : Int)) ∧ W.cell? ⟨k0, 3, none⟩ = some (.int .u64 (p3 : Int)) ∧ W.cell? ⟨k3, j, none⟩ = some (.int .u64 (v : Int)) ∧ Kept w k0 (⟨k3, 0, qa, qb, qc, qd⟩ :: [⟨k0, 0, p0, p1, p2, p3⟩, ⟨k0, 4, c0, c1, c2, c3⟩, ⟨k1, 0, a, b, c, d⟩, ⟨k2, 0, 0, 0, 0, 0⟩]) W :=
  ⟨h.tail.head.c0, h.tail.head.c1, h.tail.head.c2, h.tail.head.c3, hx, h⟩
theorem sqrS_of {w W : World} {k0 k1 k2 k8 p0 p1 p2 p3 c0 c1 c2 c3 a b c d ra rb rc rd : Nat} (h : Kept w k0 (⟨k8, 0, ra, rb, rc, rd⟩ :: [⟨k0, 0, p0, p1, p2, p3⟩, ⟨k0, 4, c0, c1, c2, c3⟩, ⟨k1, 0, a, b, c, d⟩, ⟨k2, 0, 0, 0, 0, 0⟩]) W) : W.cell? ⟨k0, 0, none⟩ = some (.int .u64 (p0 : Int)) ∧ W.cell? ⟨k0, 1, none⟩ = some (.int .u64 (p1 : Int)) ∧ W.cell? ⟨k0, 2, none⟩ = some (.int .u64 (p2 : Int)) ∧ W.cell? ⟨k0, 3, none⟩ = some (.int .u64 (p3 : Int)) ∧ W.cell? ⟨k0, 4, none⟩ = some (.int .u64 (c0 : Int)) ∧ W.cell? ⟨k0, 5, none⟩ = some (.int .u64 (c1 : Int)) ∧ W.cell? ⟨k0, 6, none⟩ = some (.int .u64 (c2 : Int)) ∧ W.cell? ⟨k0, 7, none⟩ = some (.int .u64 (c3 : Int)) ∧ W.cell? ⟨k8, 0, none⟩ = some (.int .u64 (ra : Int)) ∧ W.cell? ⟨k8, 1, none⟩ = some (.int .u64 (rb : Int)) ∧ W.cell? ⟨k8, 2, none⟩ = some (.int .u64 (rc : Int)) ∧ W.cell? ⟨k8, 3, none⟩ = some (.int .u64 (rd : Int)) ∧ W.cell? ⟨k1, 0, none⟩ = some (.int .u64 (a : Int)) ∧ W.cell? ⟨k1, 1, none⟩ = some (.int .u64 (b : Int)) ∧ W.cell? ⟨k1, 2, none⟩ = some (.int .u64 (c : Int)) ∧ W.cell? ⟨k1, 3, none⟩ = some (.int .u64 (d : Int)) ∧ Kept w k0 (⟨k8, 0, ra, rb, rc, rd⟩ :: [⟨k0, 0, p0, p1, p2, p3⟩, ⟨k0, 4, c0, c1, c2, c3⟩, ⟨k1, 0, a, b, c, d⟩, ⟨k2, 0, 0, 0, 0, 0⟩]) W :=
  ⟨h.tail.head.c0, h.tail.head.c1, h.tail.head.c2, h.tail.head.c3, h.tail.tail.head.c0, h.tail.tail.head.c1, h.tail.tail.head.c2, h.tail.tail.head.c3, h.head.c0, h.head.c1, h.head.c2, h.head.c3, h.tail.tail.tail.head.c0, h.tail.tail.tail.head.c1, h.tail.tail.tail.head.c2, h.tail.tail.tail.head.c3, h⟩
set_option maxHeartbeats 8000000 in
set_option maxRecDepth 100000 in
theorem rSqrt_any (p0 p1 p2 p3 c0 c1 c2 c3 P : Nat) (x : Value) (m : Nat) (hR : RefP p0 p1 p2 p3 c0 c1 c2 c3 P) (hP1 : P / 4 % 18446744073709551616 < 18446744073709551615) (hx : Four x m) (w : World) :
    Calls Try.prog 74 #[.agg #[.int .u64 (p0 : Int), .int .u64 (p1 : Int), .int .u64 (p2 : Int), .int .u64 (p3 : Int), .int .u64 (c0 : Int), .int .u64 (c1 : Int), .int .u64 (c2 : Int), .int .u64 (c3 : Int)], x] w (Ret fun e w' => Below w.heap.size w w' ∧ RootR P m (m ^ (P / 4 + 1) % P) e) := by
  obtain ⟨a, b, c, d, rfl, ha, hb, hc, hd, em⟩ := id hx
  have HX : Hid (Four _ m) := hx
  have HR : Hid (RefP p0 p1 p2 p3 c0 c1 c2 c3 P) := hR
  have HP1 : Hid (P / 4 % 18446744073709551616 < 18446744073709551615) := hP1
  have HP4 : Hid (Four (.agg #[.int .u64 (p0 : Int), .int .u64 (p1 : Int), .int .u64 (p2 : Int), .int .u64 (p3 : Int)]) P) := Four.mk hR.hp0 hR.hp1 hR.hp2 hR.hp3 hR.eP
  obtain ⟨R, hRe⟩ : ∃ R, m ^ (P / 4 + 1) % P = R := ⟨_, rfl⟩
  have hRP : R < P := by
    rw [← hRe]
    refine Nat.mod_lt _ ?_
    have := hR.hP2
    omega
  rw [hRe]
  have HRE : Hid (m ^ (P / 4 + 1) % P = R) := hRe
  have HRP : Hid (R < P) := hRP
  clear em hx ha hb hc hd hR hRe hRP hP1
  go_enter Try.func74, Try.ntmps74
  go_wp2
  have K0 := keptF2 w p0 p1 p2 p3 c0 c1 c2 c3 a b c d
  have K1 := (K0.alloc (.cells #[.int .u64 0, .int .u64 0, .int .u64 0, .int .u64 0] 44)).cons (At4.made _ 44 0 0 0 0 rfl).blk
  have hz : (((w.alloc (.cells #[.int .u64 (p0 : Int), .int .u64 (p1 : Int), .int .u64 (p2 : Int), .int .u64 (p3 : Int), .int .u64 (c0 : Int), .int .u64 (c1 : Int), .int .u64 (c2 : Int), .int .u64 (c3 : Int)] 48)).alloc (.cells #[.int .u64 (a : Int), .int .u64 (b : Int), .int .u64 (c : Int), .int .u64 (d : Int)] 44)).alloc (.cells #[.int .u64 0, .int .u64 0, .int .u64 0, .int .u64 0] 44)).heap.size = w.heap.size + 1 + 1 + 1 := by simp
  rw [hz] at K1
  clear K0 hz
  generalize World.alloc _ _ = W0 at K1 ⊢
  generalize h3 : w.heap.size + 1 + 1 + 1 = k3 at K1 ⊢
  generalize h2 : w.heap.size + 1 + 1 = k2 at K1 ⊢
  generalize h1 : w.heap.size + 1 = k1 at K1 ⊢
  have Q2 : Hid (w.heap.size ≤ k2) := by unfold Hid; omega
  have Q3 : Hid (w.heap.size ≤ k3) := by unfold Hid; omega
  generalize h0 : w.heap.size = k0 at K1 Q2 Q3 ⊢
  have H0 : Hid (w.heap.size = k0) := h0
  have n30 : k3 ≠ k0 := by omega
  have n31 : k3 ≠ k1 := by omega
  have n32 : k3 ≠ k2 := by omega
  clear h0 h1 h2 h3
  have hl3 : ∀ x ∈ ([⟨k0, 0, p0, p1, p2, p3⟩, ⟨k0, 4, c0, c1, c2, c3⟩, ⟨k1, 0, a, b, c, d⟩, ⟨k2, 0, 0, 0, 0, 0⟩] : List Blk), k3 ≠ x.k := by simp only [List.mem_cons, List.not_mem_nil, or_false]; rintro x (rfl | rfl | rfl | rfl); exact n30; exact n30; exact n31; exact n32
  go_loopg [7] 254 (fun gk s7 wr => ∃ i qa qb qc qd : Nat, i + gk = 254 ∧ s7 = .int .i64 (i : Int) ∧ Kept w k0 (⟨k3, 0, qa, qb, qc, qd⟩ :: [⟨k0, 0, p0, p1, p2, p3⟩, ⟨k0, 4, c0, c1, c2, c3⟩, ⟨k1, 0, a, b, c, d⟩, ⟨k2, 0, 0, 0, 0, 0⟩]) wr ∧ Hid (Four (.agg #[.int .u64 (qa : Int), .int .u64 (qb : Int), .int .u64 (qc : Int), .int .u64 (qd : Int)]) (P / 4 % 2 ^ i)))
  case atStart =>
    refine ⟨0, 0, 0, 0, 0, rfl, rfl, K1, ?_⟩
    rw [Nat.pow_zero, Nat.mod_one]
    exact Four.mk (by decide) (by decide) (by decide) (by decide) rfl
  case round =>
    clear K1
    obtain ⟨i, qa, qb, qc, qd, hi, rfl, KP, HF⟩ := hrel
    by_cases hlt : i < 254
    · have hF : val qa qb qc qd = P / 4 % 2 ^ i ∧ qa < 18446744073709551616 ∧ qb < 18446744073709551616 ∧ qc < 18446744073709551616 ∧ qd < 18446744073709551616 := by
        obtain ⟨a', b', c', d', e', h1, h2, h3, h4, h5⟩ := HF.out
        obtain ⟨rfl, rfl, rfl, rfl⟩ : a' = qa ∧ b' = qb ∧ c' = qc ∧ d' = qd := by
          simp only [Value.agg.injEq, Array.mk.injEq, List.cons.injEq, Value.int.injEq, true_and, and_true, Int.ofNat_inj] at e'
          exact ⟨e'.1.symm, e'.2.1.symm, e'.2.2.1.symm, e'.2.2.2.symm⟩
        exact ⟨h5.symm, h1, h2, h3, h4⟩
      have hwl := quart_word hF.2.1 hF.2.2.1 hF.2.2.2.1 hF.2.2.2.2 (i := i) (by omega) hF.1
      have xw := KP.head.at4.wd (i / 64) (by omega)
      obtain ⟨t, ht⟩ : ∃ t, P / 2 ^ (i + 2) % 2 = t := ⟨_, rfl⟩
      have ht2 : t < 2 := by omega
      have htq : t = P / 4 / 2 ^ i % 2 := by rw [← ht, Nat.div_div_eq_div_mul, show 4 * 2 ^ i = 2 ^ (i + 2) by rw [Nat.pow_add, Nat.mul_comm]]
      obtain ⟨o, ho⟩ : ∃ o, wd qa qb qc qd (i / 64) + t * 2 ^ (i % 64) = o := ⟨_, rfl⟩
      have hst := quart_step (i := i) (by omega) hF.1 htq ho.symm
      obtain ⟨hor, hol⟩ := or_high _ t (i % 64) (by omega) hwl ht2
      rw [ho] at hor hol
      have HST : Hid (Four (.agg #[.int .u64 ((if i / 64 = 0 then o else qa : Nat) : Int), .int .u64 ((if i / 64 = 1 then o else qb : Nat) : Int), .int .u64 ((if i / 64 = 2 then o else qc : Nat) : Int), .int .u64 ((if i / 64 = 3 then o else qd : Nat) : Int)]) (P / 4 % 2 ^ (i + 1))) := by
        refine Four.mk ?_ ?_ ?_ ?_ hst.symm
        · split; exact hol; exact hF.2.1
        · split; exact hol; exact hF.2.2.1
        · split; exact hol; exact hF.2.2.2.1
        · split; exact hol; exact hF.2.2.2.2
      obtain ⟨y, hy⟩ : ∃ y, t * 2 ^ (i % 64) = y := ⟨_, rfl⟩
      have hyl : y < 18446744073709551616 := by omega
      rw [hy] at hor
      obtain ⟨v, hv⟩ : ∃ v, wd qa qb qc qd (i / 64) = v := ⟨_, rfl⟩
      rw [hv] at hor xw
      obtain ⟨j, hj⟩ : ∃ j, i / 64 = j := ⟨_, rfl⟩
      obtain ⟨r, hr⟩ : ∃ r, i % 64 = r := ⟨_, rfl⟩
      obtain ⟨i2, hi2⟩ : ∃ i2, i + 2 = i2 := ⟨_, rfl⟩
      rw [hj] at xw HST
      have hsh : IntKind.u64.wrap ((t : Int) * 2 ^ r) = (y : Int) := by
        rw [← hr, ← hy, Int.natCast_mul, Int.natCast_pow]
        have := wrapN (t * 2 ^ (i % 64)) (by omega)
        rw [Int.natCast_mul, Int.natCast_pow] at this
        exact this
      have HBT : Hid (∀ w, Calls Try.prog 53 #[.agg #[.int .u64 (p0 : Int), .int .u64 (p1 : Int), .int .u64 (p2 : Int), .int .u64 (p3 : Int)], .int .i64 (i2 : Int)] w (Ret fun e w' => Below w.heap.size w w' ∧ ∃ t : Nat, e = .int .u64 (t : Int) ∧ t = P / 2 ^ i2 % 2)) := fun w => rBit_any _ P i2 HP4.out (by omega) w
      have HT : Hid (P / 2 ^ i2 % 2 = t) := by unfold Hid; rw [← hi2]; exact ht
      have e1 : (i : Int).tdiv 64 = (j : Int) := by rw [Int.tdiv_eq_ediv_of_nonneg (by omega)]; omega
      have e2 : (i : Int).tmod 64 = (r : Int) := by rw [Int.tmod_eq_emod_of_nonneg (by omega)]; omega
      have e3 : (j : Int) < 4 := by omega
      have e4 : IntKind.i64.wrap (j : Int) = (j : Int) := wrap_i _ (by omega)
      have e5 : IntKind.i64.wrap (r : Int) = (r : Int) := wrap_i _ (by omega)
      have e6 : (i : Int) + 2 = (i2 : Int) := by omega
      have e7 : IntKind.i64.wrap (i2 : Int) = (i2 : Int) := wrap_i _ (by omega)
      have e8 : (r : Int) < 64 := by omega
      have e9 : r < 64 := by omega
      have hlt' : (i : Int) < 254 := by omega
      have T1 := fun W (h : At4 W k3 qa qb qc qd) => At4.setq h j o (by omega)
      have hj4 : j < 4 := by omega
      have XJ := fun W (h : At4 W k3 qa qb qc qd) => At4.wd h j hj4
      rw [← hj, hv, hj] at XJ
      have HJ : Hid (j < 4) := hj4
      clear hy hv hj hr ho hst hF ht htq hwl hi2 HF hj4
      go_upto_region 5 with fail
      refine anyTill.begin (fun w' => w'.cell? ⟨k0, 0, none⟩ = some (.int .u64 (p0 : Int)) ∧ w'.cell? ⟨k0, 1, none⟩ = some (.int .u64 (p1 : Int)) ∧ w'.cell? ⟨k0, 2, none⟩ = some (.int .u64 (p2 : Int)) ∧ w'.cell? ⟨k0, 3, none⟩ = some (.int .u64 (p3 : Int)) ∧ w'.cell? ⟨k3, j, none⟩ = some (.int .u64 (v : Int)) ∧ Kept w k0 (⟨k3, 0, qa, qb, qc, qd⟩ :: [⟨k0, 0, p0, p1, p2, p3⟩, ⟨k0, 4, c0, c1, c2, c3⟩, ⟨k1, 0, a, b, c, d⟩, ⟨k2, 0, 0, 0, 0, 0⟩]) w') 16 mixed (sqS_of KP.drew (XJ _ KP.head.at4.drew)) (fun hS => ?_)
      refine anyTill.take (i := 0) (v := ?_) rfl (by kernel_rfl) (by kernel_rfl) (by kernel_rfl) (by kernel_rfl) (by kernel_rfl) (fun _ _ _ h => h) (Or.inl ⟨by rfl, ?_⟩) hS ?_
      rotate_left
      · intro w hSw
        (try dsimp only at hSw)
        go_simp
        try (with_reducible rfl)
      simp only [Act.put, List.setIfInBounds_toArray]
      refine anyTill.take (i := 1) (v := ?_) rfl (by kernel_rfl) (by kernel_rfl) (by kernel_rfl) (by kernel_rfl) (by kernel_rfl) (fun _ _ _ h => h) (Or.inl ⟨by rfl, ?_⟩) hS ?_
      rotate_left
      · intro w hSw
        (try dsimp only at hSw)
        go_simp
        try (with_reducible rfl)
      simp only [Act.put]
      refine anyTill.take (i := 2) (v := ?_) rfl (by kernel_rfl) (by kernel_rfl) (by kernel_rfl) (by kernel_rfl) (by kernel_rfl) (fun _ _ _ h => h) (Or.inl ⟨by rfl, ?_⟩) hS ?_
      rotate_left
      · intro w hSw
        (try dsimp only at hSw)
        go_simp
        try (with_reducible rfl)
      simp only [Act.put]
      refine anyTill.take (i := 3) (v := ?_) rfl (by kernel_rfl) (by kernel_rfl) (by kernel_rfl) (by kernel_rfl) (by kernel_rfl) (fun _ _ _ h => h) (Or.inl ⟨by rfl, ?_⟩) hS ?_
      rotate_left
      · intro w hSw
        (try dsimp only at hSw)
        go_simp
        try (with_reducible rfl)
      simp only [Act.put]
      refine anyTill.take (i := 4) (v := ?_) rfl (by kernel_rfl) (by kernel_rfl) (by kernel_rfl) (by kernel_rfl) (by kernel_rfl) (fun _ _ _ h => h) (Or.inl ⟨by rfl, ?_⟩) hS ?_
      rotate_left
      · intro w hSw
        (try dsimp only at hSw)
        go_simp
        try (with_reducible rfl)
      simp only [Act.put]
      refine anyTill.take (i := 5) (v := ?_) rfl (by kernel_rfl) (by kernel_rfl) (by kernel_rfl) (by kernel_rfl) (by kernel_rfl) (fun _ _ _ h => h) (Or.inl ⟨by rfl, ?_⟩) hS ?_
      rotate_left
      · intro w hSw
        (try dsimp only at hSw)
        go_simp
        try (with_reducible rfl)
      simp only [Act.put]
      refine anyTill.take (i := 6) (v := ?_) rfl (by kernel_rfl) (by kernel_rfl) (by kernel_rfl) (by kernel_rfl) (by kernel_rfl) (fun _ _ _ h => h) (Or.inl ⟨by rfl, ?_⟩) hS ?_
      rotate_left
      · intro w hSw
        (try dsimp only at hSw)
        go_simp
        try (with_reducible rfl)
      simp only [Act.put]
      refine anyTill.take (i := 7) (v := ?_) rfl (by kernel_rfl) (by kernel_rfl) (by kernel_rfl) (by kernel_rfl) (by kernel_rfl) (fun _ _ _ h => h) (Or.inl ⟨by rfl, ?_⟩) hS ?_
      rotate_left
      · intro w hSw
        (try dsimp only at hSw)
        go_simp
        try (with_reducible rfl)
      simp only [Act.put]
      refine anyTill.take (i := 8) (v := ?_) rfl (by kernel_rfl) (by kernel_rfl) (by kernel_rfl) (by kernel_rfl) (by kernel_rfl) (fun _ _ _ h => h) (Or.inl ⟨by rfl, ?_⟩) hS ?_
      rotate_left
      · intro w hSw
        (try dsimp only at hSw)
        go_simp
        try (with_reducible rfl)
      simp only [Act.put]
      refine anyTill.take (i := 9) (v := ?_) rfl (by kernel_rfl) (by kernel_rfl) (by kernel_rfl) (by kernel_rfl) (by kernel_rfl) (fun _ _ _ h => h) (Or.inl ⟨by rfl, ?_⟩) hS ?_
      rotate_left
      · intro w hSw
        (try dsimp only at hSw)
        go_simp
        try (with_reducible rfl)
      simp only [Act.put]
      refine anyTill.take (i := 11) (v := ?_) rfl (by kernel_rfl) (by kernel_rfl) (by kernel_rfl) (by kernel_rfl) (by kernel_rfl) (fun _ _ _ h => h) (Or.inl ⟨by rfl, ?_⟩) hS ?_
      rotate_left
      · intro w hSw
        (try dsimp only at hSw)
        go_simp
        try (with_reducible rfl)
      simp only [Act.put]
      refine anyTill.take (i := 12) (v := ?_) rfl (by kernel_rfl) (by kernel_rfl) (by kernel_rfl) (by kernel_rfl) (by kernel_rfl) (fun _ _ _ h => h) (Or.inl ⟨by rfl, ?_⟩) hS ?_
      rotate_left
      · intro w hSw
        (try dsimp only at hSw)
        go_simp
        try (with_reducible rfl)
      simp only [Act.put]
      try simp only [List.set_cons_zero, List.set_cons_succ]
      refine anyTill.step (i := 10) rfl (by kernel_rfl) (fun K hK => ?_)
      go_simp
      refine (HBT.out _).mono ?_
      rintro e w1 ⟨v', rfl, hb1, t', rfl, ht'⟩
      rw [HT.out] at ht'
      subst ht'
      clear hS
      have KP1 := KP.drew.call hb1
      clear hb1 KP
      refine hK.out _ _ (fun _ => sqS_of KP1 (XJ _ KP1.head.at4)) ?_
      clear hK K
      try simp only [Act.put, List.setIfInBounds_toArray, List.set_cons_zero, List.set_cons_succ]
      have cj := XJ _ KP1.head.at4
      have cf := KP1.head.f
      have cz := KP1.head.lt
      refine anyTill.step (i := 13) rfl (by kernel_rfl) (fun K hK => ?_)
      go_simp
      refine hK.out _ _ (fun _ => sqS_of KP1 (XJ _ KP1.head.at4)) ?_
      clear hK K
      try simp only [Act.put, List.setIfInBounds_toArray, List.set_cons_zero, List.set_cons_succ]
      refine anyTill.step (i := 14) rfl (by kernel_rfl) (fun K hK => ?_)
      go_simp
      refine hK.out _ _ (fun _ => sqS_of KP1 (XJ _ KP1.head.at4)) ?_
      clear hK K
      try simp only [Act.put, List.setIfInBounds_toArray, List.set_cons_zero, List.set_cons_succ]
      refine anyTill.step (i := 15) rfl (by kernel_rfl) (fun K hK => ?_)
      go_simp
      refine hK.out _ _ (fun _ => sqS_of KP1 (XJ _ KP1.head.at4)) ?_
      clear hK K
      try simp only [Act.put, List.setIfInBounds_toArray, List.set_cons_zero, List.set_cons_succ]
      refine anyTill.step (i := 16) rfl (by kernel_rfl) (fun K hK => ?_)
      go_simp
      refine hK.out _ _ (fun h => Bool.noConfusion h) ?_
      clear hK K
      try simp only [Act.put, List.setIfInBounds_toArray, List.set_cons_zero, List.set_cons_succ]
      refine anyTill.done (by kernel_rfl) ?_ _
      clear cj cf cz
      go_wp2
      go_roundg (gk - 1)
      case measure => omega
      case rel =>
        refine ⟨i + 1, _, _, _, _, by omega, rfl, ?_, HST⟩
        exact (KP1.tail.set (j := k3) (i := j) Q3.out hl3 _).cons (T1 _ KP1.head.at4).blk
    · have hi254 : i = 254 := by omega
      subst hi254
      have hF := HF.out
      have hPt := HP4.out.lt
      rw [Nat.mod_eq_of_lt (show P / 4 < 2 ^ 254 by unfold top at hPt; omega)] at hF
      have hq : val qa qb qc qd = P / 4 ∧ qa < 18446744073709551615 ∧ qb < 18446744073709551616 ∧ qc < 18446744073709551616 ∧ qd < 18446744073709551616 := by
        obtain ⟨a', b', c', d', e', h1, h2, h3, h4, h5⟩ := hF
        obtain ⟨rfl, rfl, rfl, rfl⟩ : a' = qa ∧ b' = qb ∧ c' = qc ∧ d' = qd := by
          simp only [Value.agg.injEq, Array.mk.injEq, List.cons.injEq, Value.int.injEq, true_and, and_true, Int.ofNat_inj] at e'
          exact ⟨e'.1.symm, e'.2.1.symm, e'.2.2.1.symm, e'.2.2.2.symm⟩
        refine ⟨h5.symm, ?_, h2, h3, h4⟩
        have h6 := HP1.out
        rw [h5] at h6
        unfold val at h6
        omega
      obtain ⟨qe, hqe'⟩ : ∃ qe, qa + 1 = qe := ⟨_, rfl⟩
      have HE : Hid (Four (.agg #[.int .u64 (qe : Int), .int .u64 (qb : Int), .int .u64 (qc : Int), .int .u64 (qd : Int)]) (P / 4 + 1)) := by
        refine Four.mk (by omega) hq.2.2.1 hq.2.2.2.1 hq.2.2.2.2 ?_
        rw [← hq.1, ← hqe']; unfold val; omega
      have hadd : (qa : Int) + 1 = (qe : Int) := by omega
      have hw := wrapN qe (by omega)
      clear hq hF hPt HF hqe'
      obtain ⟨qc0, qc1, qc2, qc3, qf⟩ := KP.head.at4
      have zq := KP.head.lt
      obtain ⟨xc0, xc1, xc2, xc3, xf⟩ := KP.tail.tail.tail.head.at4
      have zx := KP.tail.tail.tail.head.lt
      obtain ⟨fc0, fc1, fc2, fc3, ff⟩ := KP.tail.head.at4
      have fb := KP.tail.tail.head
      have fd0 : wr.cell? ⟨k0, 4, none⟩ = some (.int .u64 (c0 : Int)) := fb.c0
      have fd1 : wr.cell? ⟨k0, 5, none⟩ = some (.int .u64 (c1 : Int)) := fb.c1
      have fd2 : wr.cell? ⟨k0, 6, none⟩ = some (.int .u64 (c2 : Int)) := fb.c2
      have fd3 : wr.cell? ⟨k0, 7, none⟩ = some (.int .u64 (c3 : Int)) := fb.c3
      have zf := KP.tail.head.lt
      go_wp2_with fail
      clear qc0 qc1 qc2 qc3 qf zq xc0 xc1 xc2 xc3 xf zx fc0 fc1 fc2 fc3 ff fb fd0 fd1 fd2 fd3 zf
      have KP2 := KP.tail.set (j := k3) (i := 0) Q3.out hl3 (.int .u64 (qe : Int))
      clear KP
      generalize World.setCell _ _ _ = WS at KP2 ⊢
      refine (rPow_any p0 p1 p2 p3 c0 c1 c2 c3 P _ _ _ _ HR.out HX.out HE.out _).mono ?_
      rintro e w3 ⟨v, rfl, hb3, hF⟩
      have K := KP2.call hb3
      clear hb3 KP2 HE hadd hw
      obtain ⟨ra, rb, rc, rd, rfl, -⟩ := id hF
      rw [HRE.out] at hF
      have HF : Hid (Four _ R) := hF
      clear hF
      go_upto_region 8 with fail
      have KP : Kept w k0 (⟨w3.heap.size, 0, ra, rb, rc, rd⟩ :: [⟨k0, 0, p0, p1, p2, p3⟩, ⟨k0, 4, c0, c1, c2, c3⟩, ⟨k1, 0, a, b, c, d⟩, ⟨k2, 0, 0, 0, 0, 0⟩]) _ := (K.alloc (.cells #[.int .u64 (ra : Int), .int .u64 (rb : Int), .int .u64 (rc : Int), .int .u64 (rd : Int)] 44)).cons (At4.made w3 44 ra rb rc rd rfl).blk
      have n80 : w3.heap.size ≠ k0 := Nat.ne_of_gt K.head.lt
      have n81 : w3.heap.size ≠ k1 := Nat.ne_of_gt K.tail.tail.head.lt
      have n82 : w3.heap.size ≠ k2 := Nat.ne_of_gt K.tail.tail.tail.head.lt
      have Q8 : Hid (k0 ≤ w3.heap.size) := K.le
      clear K
      generalize World.alloc _ _ = W4 at KP ⊢
      generalize w3.heap.size = k8 at KP n80 n81 n82 Q8 ⊢
      by_cases heq : R * R % P = m
      · have hsame := same_R a b c d
        go_region_held3 (fun w' => w'.cell? ⟨k0, 0, none⟩ = some (.int .u64 (p0 : Int)) ∧ w'.cell? ⟨k0, 1, none⟩ = some (.int .u64 (p1 : Int)) ∧ w'.cell? ⟨k0, 2, none⟩ = some (.int .u64 (p2 : Int)) ∧ w'.cell? ⟨k0, 3, none⟩ = some (.int .u64 (p3 : Int)) ∧ w'.cell? ⟨k0, 4, none⟩ = some (.int .u64 (c0 : Int)) ∧ w'.cell? ⟨k0, 5, none⟩ = some (.int .u64 (c1 : Int)) ∧ w'.cell? ⟨k0, 6, none⟩ = some (.int .u64 (c2 : Int)) ∧ w'.cell? ⟨k0, 7, none⟩ = some (.int .u64 (c3 : Int)) ∧ w'.cell? ⟨k8, 0, none⟩ = some (.int .u64 (ra : Int)) ∧ w'.cell? ⟨k8, 1, none⟩ = some (.int .u64 (rb : Int)) ∧ w'.cell? ⟨k8, 2, none⟩ = some (.int .u64 (rc : Int)) ∧ w'.cell? ⟨k8, 3, none⟩ = some (.int .u64 (rd : Int)) ∧ w'.cell? ⟨k1, 0, none⟩ = some (.int .u64 (a : Int)) ∧ w'.cell? ⟨k1, 1, none⟩ = some (.int .u64 (b : Int)) ∧ w'.cell? ⟨k1, 2, none⟩ = some (.int .u64 (c : Int)) ∧ w'.cell? ⟨k1, 3, none⟩ = some (.int .u64 (d : Int)) ∧ Kept w k0 (⟨k8, 0, ra, rb, rc, rd⟩ :: [⟨k0, 0, p0, p1, p2, p3⟩, ⟨k0, 4, c0, c1, c2, c3⟩, ⟨k1, 0, a, b, c, d⟩, ⟨k2, 0, 0, 0, 0, 0⟩]) w') (first | (with_reducible exact sqrS_of KP) | (with_reducible exact sqrS_of KP.drew) | fail) (first | (go_at_call 19; refine (rMul_R HR.out HF.out HF.out _).mono ?_; rintro e w5 ⟨v, rfl, hb1, hF3⟩; rw [heq] at hF3; obtain rfl := hF3.inj HX.out; clear hF3; (first | (with_reducible (have KP1 := KP.drew.call hb1)) | (with_reducible (have KP1 := KP.call hb1)) | fail); clear KP hb1; have KP := KP1; clear KP1))
        have HEQ : Hid (R * R % P = m) := heq
        clear heq
        rename_i hHeld
        clear hHeld
        obtain ⟨ra', rb', rc', rd', e', hra, -⟩ := id HF.out
        obtain ⟨rfl, -⟩ : ra' = ra ∧ True := by
          simp only [Value.agg.injEq, Array.mk.injEq, List.cons.injEq, Value.int.injEq, true_and, and_true, Int.ofNat_inj] at e'
          exact ⟨e'.1.symm, trivial⟩
        clear e'
        have hodd2 : R % 2 = ra' % 2 := by
          obtain ⟨x1, x2, x3, x4, e', -, -, -, -, h5⟩ := id HF.out
          simp only [Value.agg.injEq, Array.mk.injEq, List.cons.injEq, Value.int.injEq, true_and, and_true, Int.ofNat_inj] at e'
          rw [h5, ← e'.1]
          unfold val
          omega
        have hand := and_one ra' hra
        obtain ⟨tc0, tc1, tc2, tc3, tf⟩ := KP.head.at4
        have zt := KP.head.lt
        obtain ⟨uc0, uc1, uc2, uc3, uf⟩ := KP.tail.tail.tail.tail.head.at4
        have zu := KP.tail.tail.tail.tail.head.lt
        have h2 : ra' % 2 = 0 ∨ ra' % 2 = 1 := by omega
        rcases h2 with h | h
        · rw [h] at hand hodd2
          have HF8 : Hid (Four (.agg #[.int .u64 (ra' : Int), .int .u64 (rb : Int), .int .u64 (rc : Int), .int .u64 (rd : Int)]) (even P R)) := by
            have h1 : even P R = R := by unfold even; rw [if_neg (by omega)]
            unfold Hid
            rw [h1]
            exact HF.out
          clear h hodd2 hra
          go_wp2
          have RF := KP.tail.tail.tail.tail.head.at4.self4 ra' rb rc rd
          unfold set4 at RF
          refine bodyPost_ret (v := ?v) ?hr rfl ?hR
          case hr => simp [results, Try.results74, go_sem, RF.c0, RF.c1, RF.c2, RF.c3]; rfl
          refine ⟨_, rfl, ?_, RootR.yes HEQ.out HF8.out⟩
          rw [H0.out]
          exact below_set4 KP.bl Q2.out _ _ _ _
        · rw [h] at hand hodd2
          have HO : Hid (R % 2 = 1) := hodd2
          clear h hodd2 hra
          obtain ⟨fc0, fc1, fc2, fc3, ff⟩ := KP.tail.head.at4
          have fb := KP.tail.tail.head
          have fd0 : w5.cell? ⟨k0, 4, none⟩ = some (.int .u64 (c0 : Int)) := fb.c0
          have fd1 : w5.cell? ⟨k0, 5, none⟩ = some (.int .u64 (c1 : Int)) := fb.c1
          have fd2 : w5.cell? ⟨k0, 6, none⟩ = some (.int .u64 (c2 : Int)) := fb.c2
          have fd3 : w5.cell? ⟨k0, 7, none⟩ = some (.int .u64 (c3 : Int)) := fb.c3
          have zf := KP.tail.head.lt
          go_wp2_with fail
          clear tc0 tc1 tc2 tc3 tf zt uc0 uc1 uc2 uc3 uf zu fc0 fc1 fc2 fc3 ff fb fd0 fd1 fd2 fd3 zf hand
          refine (rNeg_any p0 p1 p2 p3 c0 c1 c2 c3 P _ _ HR.out HF.out HRP.out _).mono ?_
          rintro e w8 ⟨v, rfl, hb8, hF8⟩
          obtain ⟨sa, sb, sc, sd, rfl, -⟩ := id hF8
          have HF8 : Hid (Four (.agg #[.int .u64 (sa : Int), .int .u64 (sb : Int), .int .u64 (sc : Int), .int .u64 (sd : Int)]) (even P R)) := by
            have h1 : (P - R) % P = even P R := by
              unfold even
              rw [if_pos HO.out]
              exact Nat.mod_eq_of_lt (by have := HRP.out; have := HO.out; omega)
            unfold Hid
            rw [← h1]
            exact hF8
          replace KP := KP.call hb8
          clear hb8 hF8
          obtain ⟨tc0, tc1, tc2, tc3, tf⟩ := KP.head.at4
          have zt := KP.head.lt
          obtain ⟨uc0, uc1, uc2, uc3, uf⟩ := KP.tail.tail.tail.tail.head.at4
          have zu := KP.tail.tail.tail.tail.head.lt
          go_wp2
          have RF := (KP.tail.tail.tail.tail.head.at4.other4 n82 (.int .u64 (sa : Int)) (.int .u64 (sb : Int)) (.int .u64 (sc : Int)) (.int .u64 (sd : Int))).self4 sa sb sc sd
          unfold set4 at RF
          refine bodyPost_ret (v := ?v2) ?hr2 rfl ?hR2
          case hr2 => simp [results, Try.results74, go_sem, RF.c0, RF.c1, RF.c2, RF.c3]; rfl
          refine ⟨_, rfl, ?_, RootR.yes HEQ.out HF8.out⟩
          rw [H0.out]
          exact below_set4 (below_set4 KP.bl Q8.out _ _ _ _) Q2.out _ _ _ _
      · go_region_held3 (fun w' => w'.cell? ⟨k0, 0, none⟩ = some (.int .u64 (p0 : Int)) ∧ w'.cell? ⟨k0, 1, none⟩ = some (.int .u64 (p1 : Int)) ∧ w'.cell? ⟨k0, 2, none⟩ = some (.int .u64 (p2 : Int)) ∧ w'.cell? ⟨k0, 3, none⟩ = some (.int .u64 (p3 : Int)) ∧ w'.cell? ⟨k0, 4, none⟩ = some (.int .u64 (c0 : Int)) ∧ w'.cell? ⟨k0, 5, none⟩ = some (.int .u64 (c1 : Int)) ∧ w'.cell? ⟨k0, 6, none⟩ = some (.int .u64 (c2 : Int)) ∧ w'.cell? ⟨k0, 7, none⟩ = some (.int .u64 (c3 : Int)) ∧ w'.cell? ⟨k8, 0, none⟩ = some (.int .u64 (ra : Int)) ∧ w'.cell? ⟨k8, 1, none⟩ = some (.int .u64 (rb : Int)) ∧ w'.cell? ⟨k8, 2, none⟩ = some (.int .u64 (rc : Int)) ∧ w'.cell? ⟨k8, 3, none⟩ = some (.int .u64 (rd : Int)) ∧ w'.cell? ⟨k1, 0, none⟩ = some (.int .u64 (a : Int)) ∧ w'.cell? ⟨k1, 1, none⟩ = some (.int .u64 (b : Int)) ∧ w'.cell? ⟨k1, 2, none⟩ = some (.int .u64 (c : Int)) ∧ w'.cell? ⟨k1, 3, none⟩ = some (.int .u64 (d : Int)) ∧ Kept w k0 (⟨k8, 0, ra, rb, rc, rd⟩ :: [⟨k0, 0, p0, p1, p2, p3⟩, ⟨k0, 4, c0, c1, c2, c3⟩, ⟨k1, 0, a, b, c, d⟩, ⟨k2, 0, 0, 0, 0, 0⟩]) w') (first | (with_reducible exact sqrS_of KP) | (with_reducible exact sqrS_of KP.drew) | fail) (first | (go_at_call 19; refine (rMul_R HR.out HF.out HF.out _).mono ?_; rintro e w5 ⟨v, rfl, hb1, hF3⟩; obtain ⟨ta, tb, tc, td, rfl, hne⟩ := four_ne hF3 HX.out heq; have hoth := other_R hne; clear hF3; (first | (with_reducible (have KP1 := KP.drew.call hb1)) | (with_reducible (have KP1 := KP.call hb1)) | fail); clear KP hb1; have KP := KP1; clear KP1))
        have HEQ : Hid (¬ R * R % P = m) := heq
        clear heq
        rename_i hHeld
        clear hHeld
        obtain ⟨uc0, uc1, uc2, uc3, uf⟩ := KP.tail.tail.tail.tail.head.at4
        have zu := KP.tail.tail.tail.tail.head.lt
        go_wp2
        have RF : At4 (set4 w5 k2 (.int .u64 0) (.int .u64 0) (.int .u64 0) (.int .u64 0)) k2 0 0 0 0 := KP.tail.tail.tail.tail.head.at4.self4 0 0 0 0
        unfold set4 at RF
        refine bodyPost_ret (v := ?v3) ?hr3 rfl ?hR3
        case hr3 => simp [results, Try.results74, go_sem, RF.c0, RF.c1, RF.c2, RF.c3]; rfl
        refine ⟨_, rfl, ?_, RootR.no HEQ.out⟩
        rw [H0.out]
        exact below_set4 KP.bl Q2.out _ _ _ _
end Go.Proofs.Yticolhhalbbogae
set_option linter.unusedVariables false
set_option linter.unusedSimpArgs false
namespace Go.Proofs.Yticolhhalbbogae
open Go.RowKit Go.Sort
variable {P : Nat} [NeZero P]
def rl0 : List Value := [.int .u64 18446744069414583343, .int .u64 18446744073709551615, .int .u64 18446744073709551615, .int .u64 18446744073709551615, .int .u64 4294968273, .int .u64 0, .int .u64 0, .int .u64 0]
def rv0 : Value := .agg rl0.toArray
/-- The reference's prime, too. -/
structure Fl3 (P : Nat) [NeZero P] : Prop extends Fld P where
  ref : RefP 18446744069414583343 18446744073709551615 18446744073709551615 18446744073709551615 4294968273 0 0 0 P
theorem rMake_c : Gives 38 #[.int .i64 0] rv0 := fun w => (rMake0 w).mono (by rintro e w' ⟨v, rfl, hb, rfl⟩; exact ⟨_, rfl, hb, rfl⟩)
theorem rAdd_c (h : Fl3 P) (x y : Fin P) : Gives 41 #[rv0, fv x, fv y] (fv (x + y)) := fun w =>
  (rAdd_R h.ref (h.four x) (h.four y) w).mono (by rintro e w' ⟨v, rfl, hb, hF⟩; exact ⟨_, rfl, hb, hF.nv⟩)
theorem rMul_c (h : Fl3 P) (x y : Fin P) : Gives 19 #[rv0, fv x, fv y] (fv (x * y)) := fun w =>
  (rMul_R h.ref (h.four x) (h.four y) w).mono (by rintro e w' ⟨v, rfl, hb, hF⟩; exact ⟨_, rfl, hb, hF.nv⟩)
theorem rSub_c (h : Fl3 P) (x y : Fin P) : Gives 20 #[rv0, fv x, fv y] (fv (x - y)) := fun w =>
  (rSub_any _ _ _ _ _ _ _ _ P _ _ x.val y.val h.ref (h.four x) (h.four y) y.isLt w).mono (by rintro e w' ⟨v, rfl, hb, hF⟩; rw [sub_fin] at hF; exact ⟨_, rfl, hb, hF.nv⟩)
theorem rNeg_c (h : Fl3 P) (x : Fin P) : Gives 42 #[rv0, fv x] (fv (0 - x)) := fun w =>
  (rNeg_any _ _ _ _ _ _ _ _ P _ x.val h.ref (h.four x) x.isLt w).mono (by
    rintro e w' ⟨v, rfl, hb, hF⟩
    rw [show (P - x.val) % P = (0 - x : Fin P).val by rw [← sub_fin, EC.val_zero, Nat.zero_add]] at hF
    exact ⟨_, rfl, hb, hF.nv⟩)
theorem rInv_c (h : Fl3 P) (x : Fin P) : Gives 21 #[rv0, fv x] (fv (EC.inv x)) := fun w =>
  (rInv_any _ _ _ _ _ _ _ _ P _ x.val h.ref (h.four x) w).mono (by rintro e w' ⟨v, rfl, hb, hF⟩; exact ⟨_, rfl, hb, hF.nv⟩)
theorem rZero_t (h : Fl3 P) {x : Fin P} (e : x = 0) : Gives 51 #[fv x] (.bool true) := fun w =>
  (rZero_any _ _ (h.four x) w).mono (by
    rintro e w' ⟨v, rfl, hb, rfl⟩
    refine ⟨_, rfl, hb, ?_⟩
    rw [decide_eq_true (by rw [e, EC.val_zero])])
theorem rZero_f (h : Fl3 P) {x : Fin P} (e : ¬ x = 0) : Gives 51 #[fv x] (.bool false) := fun w =>
  (rZero_any _ _ (h.four x) w).mono (by
    rintro e w' ⟨v, rfl, hb, rfl⟩
    refine ⟨_, rfl, hb, ?_⟩
    rw [decide_eq_false (fun h => e (Fin.ext (by rw [EC.val_zero]; exact h)))])
theorem rSmall1_c (h : Fl3 P) : Gives 73 #[.int .u64 1] (fv (1 : Fin P)) := fun w =>
  (rSmall_any 1 (by decide) w).mono (by rintro e w' ⟨v, rfl, hb, rfl⟩; exact ⟨_, rfl, hb, one_fv h.toFld⟩)
theorem rSmall7_c (h : Fl3 P) : Gives 73 #[.int .u64 7] (fv (7 : Fin P)) := fun w =>
  (rSmall_any 7 (by decide) w).mono (by rintro e w' ⟨v, rfl, hb, rfl⟩; exact ⟨_, rfl, hb, seven_fv h.toFld⟩)
theorem eqR (h : Fld P) (x y : Fin P) (w : World) : (binOp .eql 44 (fv x) (fv y)).run Try.prog w = .ok (.bool (decide (x = y))) w := by
  have h1 : (binOp .eql 44 (fv x) (fv y)).run Try.prog w = .ok (.bool (decide (x.val % 18446744073709551616 = y.val % 18446744073709551616 ∧ x.val / 18446744073709551616 % 18446744073709551616 = y.val / 18446744073709551616 % 18446744073709551616 ∧ x.val / 340282366920938463463374607431768211456 % 18446744073709551616 = y.val / 340282366920938463463374607431768211456 % 18446744073709551616 ∧ x.val / 6277101735386680763835789423207666416102355444464034512896 % 18446744073709551616 = y.val / 6277101735386680763835789423207666416102355444464034512896 % 18446744073709551616))) w := by
    show (binOp .eql 44 (.agg _) (.agg _)).run Try.prog w = _
    rw [run_eql_struct]
    have h2 := eqR_d 9998 (x.val % 18446744073709551616) (x.val / 18446744073709551616 % 18446744073709551616) (x.val / 340282366920938463463374607431768211456 % 18446744073709551616) (x.val / 6277101735386680763835789423207666416102355444464034512896 % 18446744073709551616) (y.val % 18446744073709551616) (y.val / 18446744073709551616 % 18446744073709551616) (y.val / 340282366920938463463374607431768211456 % 18446744073709551616) (y.val / 6277101735386680763835789423207666416102355444464034512896 % 18446744073709551616) w
    unfold wn
    rw [h2, Result.andThen_ok]
  rw [h1]
  simp only [wn_inj (h.top x) (h.top y), ← Fin.ext_iff]
theorem eqR_t (h : Fld P) {x y : Fin P} (e : x = y) (w : World) : (binOp .eql 44 (fv x) (fv y)).run Try.prog w = .ok (.bool true) w := by rw [eqR h, decide_eq_true e]
theorem eqR_f (h : Fld P) {x y : Fin P} (e : ¬ x = y) (w : World) : (binOp .eql 44 (fv x) (fv y)).run Try.prog w = .ok (.bool false) w := by rw [eqR h, decide_eq_false e]
theorem neR (h : Fld P) (x y : Fin P) (w : World) : (binOp .neq 44 (fv x) (fv y)).run Try.prog w = .ok (.bool (!decide (x = y))) w := by
  have h1 : (binOp .neq 44 (fv x) (fv y)).run Try.prog w = .ok (.bool (!decide (x.val % 18446744073709551616 = y.val % 18446744073709551616 ∧ x.val / 18446744073709551616 % 18446744073709551616 = y.val / 18446744073709551616 % 18446744073709551616 ∧ x.val / 340282366920938463463374607431768211456 % 18446744073709551616 = y.val / 340282366920938463463374607431768211456 % 18446744073709551616 ∧ x.val / 6277101735386680763835789423207666416102355444464034512896 % 18446744073709551616 = y.val / 6277101735386680763835789423207666416102355444464034512896 % 18446744073709551616))) w := neqR _ _ _ _ _ _ _ _ w
  rw [h1]
  simp only [wn_inj (h.top x) (h.top y), ← Fin.ext_iff]
theorem neR_f (h : Fld P) {x y : Fin P} (e : x = y) (w : World) : (binOp .neq 44 (fv x) (fv y)).run Try.prog w = .ok (.bool false) w := by rw [neR h, decide_eq_true e]; rfl
theorem neR_t (h : Fld P) {x y : Fin P} (e : ¬ x = y) (w : World) : (binOp .neq 44 (fv x) (fv y)).run Try.prog w = .ok (.bool true) w := by rw [neR h, decide_eq_false e]; rfl
theorem ws_none : Value.agg #[.int .u64 0, .int .u64 0, .int .u64 0, .int .u64 0, .int .u64 1, .int .u64 0, .int .u64 0, .int .u64 0, .int .u64 0, .int .u64 0, .int .u64 0, .int .u64 0] = .agg (([.int .u64 0, .int .u64 0, .int .u64 0, .int .u64 0] : List Value) ++ (([.int .u64 1, .int .u64 0, .int .u64 0, .int .u64 0] : List Value) ++ ([.int .u64 0, .int .u64 0, .int .u64 0, .int .u64 0] : List Value))).toArray := rfl
theorem build_none (h : Fld P) (w : World) : (Instr.build 54 #[(1, fv (1 : Fin P))]).run Try.prog w = .ok (rv (0 : Fin P) 1 0) w := by
  unfold rv
  rw [← ws_zero, ← ws_one h, ← one_fv h, ← ws_none]
  kernel_rfl
theorem rSqrt_y (h : Fl3 P) {m y : Fin P} (e : rt m = some y) : Gives 74 #[rv0, fv m] (.tuple #[fv y, .bool true]) := fun w =>
  (rSqrt_any _ _ _ _ _ _ _ _ P _ m.val h.ref h.p4 (h.four m) w).mono (by rintro e' w' ⟨v, rfl, hb, hF⟩; exact ⟨_, rfl, hb, hF.val.1 y e⟩)
theorem rSqrt_n (h : Fl3 P) {m : Fin P} (e : rt m = none) : Gives 74 #[rv0, fv m] (.tuple #[fv (0 : Fin P), .bool false]) := fun w =>
  (rSqrt_any _ _ _ _ _ _ _ _ P _ m.val h.ref h.p4 (h.four m) w).mono (by rintro e' w' ⟨v, rfl, hb, hF⟩; exact ⟨_, rfl, hb, hF.val.2 e⟩)
end Go.Proofs.Yticolhhalbbogae
namespace Go.Proofs.Yticolhhalbbogae
open Go.RowKit Go.Sort
variable {P : Nat} [NeZero P]
theorem u33 : (Try.prog.underlying 44).map (·.isRow) = some true := by kernel_rfl
theorem i33 : (Try.prog.info? 44).map (·.size) = some 4 := by kernel_rfl
theorem u56 : (Try.prog.underlying 54).map (·.isRow) = some true := by kernel_rfl
theorem i56 : (Try.prog.info? 54).map (·.size) = some 12 := by kernel_rfl
theorem u35 : (Try.prog.underlying 48).map (·.isRow) = some true := by kernel_rfl
theorem i35 : (Try.prog.info? 48).map (·.size) = some 8 := by kernel_rfl
def F69_0 : List RG.It := [.m 0 [] 0]
def F69_1 : List RG.It := [.c 1 [] rv0, .u [(1, 0)] 0]
set_option maxHeartbeats 2000000 in
set_option maxRecDepth 100000 in
theorem F3_c  : Gives 46 #[] rv0 := by
  intro w
  go_enter Try.func46, Try.ntmps46
  refine RG.M.enter [] 2 (by kernel_rfl) ?_
  intro a0 M0
  repeat refine wp_seq ?_
  refine M0.tx F69_0 [(0, (RG.z 8))] [] [(RG.z 8)] [(0, (.p 0 0))] (by kernel_rfl) (by kernel_rfl) ⟨RG.mk 0 48 fun _ _ => by kernel_rfl, trivial⟩ ?_
  intro j1 a1 w1 M1
  repeat refine wp_seq ?_
  refine M1.tx F69_1 [] [(0, 1, rl0)] [rl0] [(0, (.p 0 0))] (by kernel_rfl) (by kernel_rfl) ⟨RG.cl (rMake_c) fun _ _ => by kernel_rfl, RG.pt i35 (by kernel_rfl), trivial⟩ ?_
  intro a2 w2 M2
  refine wp_ret ?_
  refine bodyPost_ret (v := rv0) (RG.results_row M2.st 0 48 rfl 0 _ rfl (M2.at (s := (.p 0 0)) (by kernel_rfl)) u35 i35) M2.sl.defers ?_
  exact ⟨_, rfl, M2.st.bel.below, rfl⟩
def F68_0 : List RG.It := [.m 0 [] 0]
def F68_1 : List RG.It := [.c 1 [] (fv (1 : Fin P)), .x 2 [(1, 0)] (rv (0 : Fin P) (1 : Fin P) (0 : Fin P)), .u [(2, 1)] 0]
set_option maxHeartbeats 2000000 in
set_option maxRecDepth 100000 in
theorem None_c (C : Fl3 P)  : Gives 45 #[] (rv (0 : Fin P) 1 0) := by
  intro w
  have hfin : ((rv (0 : Fin P) (1 : Fin P) (0 : Fin P)) : Value) = (rv (0 : Fin P) 1 0) := by
    subst_vars; rfl
  rw [← hfin]
  go_enter Try.func45, Try.ntmps45
  refine RG.M.enter [] 3 (by kernel_rfl) ?_
  intro a0 M0
  repeat refine wp_seq ?_
  refine M0.tx F68_0 [(0, (RG.z 12))] [] [(RG.z 12)] [(0, (.p 0 0))] (by kernel_rfl) (by kernel_rfl) ⟨RG.mk 0 54 fun _ _ => by kernel_rfl, trivial⟩ ?_
  intro j1 a1 w1 M1
  repeat refine wp_seq ?_
  refine M1.tx (F68_1 (P := P)) [] [(0, 2, (ws (0 : Fin P) ++ (ws (1 : Fin P) ++ (ws (0 : Fin P)))))] [(ws (0 : Fin P) ++ (ws (1 : Fin P) ++ (ws (0 : Fin P))))] [(0, (.p 0 0))] (by kernel_rfl) (by kernel_rfl) ⟨RG.cl (rSmall1_c C) fun _ _ => by kernel_rfl, RG.cert_build1 rfl 54 1 1 rfl (fv (1 : Fin P)) (rv (0 : Fin P) (1 : Fin P) (0 : Fin P)) rfl (RG.sx fun _ => by kernel_rfl) (build_none C.toFld), RG.pt i56 (by kernel_rfl), trivial⟩ ?_
  intro a2 w2 M2
  refine wp_ret ?_
  refine bodyPost_ret (v := (rv (0 : Fin P) (1 : Fin P) (0 : Fin P))) (RG.results_row M2.st 0 54 rfl 0 _ rfl (M2.at (s := (.p 0 0)) (by kernel_rfl)) u56 i56) M2.sl.defers ?_
  exact ⟨_, rfl, M2.st.bel.below, rfl⟩
def F78t_0 (x : Fin P) : List RG.It := [.m 1 [] 0, .x 2 [] (.bool false)]
def F78t_1 (x z : Fin P) : List RG.It := [.s 3 [] (.p 0 8), .x 4 [(3, 0)] (fv z), .c 5 [(4, 1)] (.bool true), .x 2 [(5, 2)] (.bool true)]
set_option maxHeartbeats 2000000 in
set_option maxRecDepth 100000 in
theorem Is_t_c (C : Fl3 P) (x y z : Fin P)(hz : z = 0)  : Gives 49 #[(rv x y z)] (.bool true) := by
  intro w
  go_enter Try.func49, Try.ntmps49
  refine RG.M.enter [(0, (.v (rv x y z)))] 6 (by kernel_rfl) ?_
  intro a0 M0
  repeat refine wp_seq ?_
  refine M0.tx (F78t_0 x) [(0, (ws x ++ (ws y ++ (ws z))))] [] [(ws x ++ (ws y ++ (ws z)))] [(1, (.p 0 0)), (2, (.v (.bool false)))] (by kernel_rfl) (by kernel_rfl) ⟨RG.mk 0 54 fun _ _ => by kernel_rfl, RG.st fun _ _ => by kernel_rfl, trivial⟩ ?_
  intro j1 a1 w1 M1
  repeat refine wp_seq ?_
  refine M1.tx0 (F78t_1 x z) [(2, (.v (.bool true)))] (by kernel_rfl) ⟨RG.st fun _ _ => by kernel_rfl, RG.ld u33 i33 (by kernel_rfl), RG.cl (rZero_t C hz) fun _ _ => by kernel_rfl, RG.st fun _ _ => by kernel_rfl, trivial⟩ ?_
  intro a2 w2 M2
  refine wp_ret ?_
  refine bodyPost_ret (v := (.bool true)) (RG.results_t 2 rfl _ (M2.at (s := (.v (.bool true))) (by kernel_rfl))) M2.sl.defers ?_
  exact ⟨_, rfl, M2.st.bel.below, rfl⟩
def F78f_0 (x : Fin P) : List RG.It := [.m 1 [] 0, .x 2 [] (.bool false)]
def F78f_1 (x z : Fin P) : List RG.It := [.s 3 [] (.p 0 8), .x 4 [(3, 0)] (fv z), .c 5 [(4, 1)] (.bool false), .x 2 [(5, 2)] (.bool false)]
set_option maxHeartbeats 2000000 in
set_option maxRecDepth 100000 in
theorem Is_f_c (C : Fl3 P) (x y z : Fin P)(hz : ¬ z = 0)  : Gives 49 #[(rv x y z)] (.bool false) := by
  intro w
  go_enter Try.func49, Try.ntmps49
  refine RG.M.enter [(0, (.v (rv x y z)))] 6 (by kernel_rfl) ?_
  intro a0 M0
  repeat refine wp_seq ?_
  refine M0.tx (F78f_0 x) [(0, (ws x ++ (ws y ++ (ws z))))] [] [(ws x ++ (ws y ++ (ws z)))] [(1, (.p 0 0)), (2, (.v (.bool false)))] (by kernel_rfl) (by kernel_rfl) ⟨RG.mk 0 54 fun _ _ => by kernel_rfl, RG.st fun _ _ => by kernel_rfl, trivial⟩ ?_
  intro j1 a1 w1 M1
  repeat refine wp_seq ?_
  refine M1.tx0 (F78f_1 x z) [(2, (.v (.bool false)))] (by kernel_rfl) ⟨RG.st fun _ _ => by kernel_rfl, RG.ld u33 i33 (by kernel_rfl), RG.cl (rZero_f C hz) fun _ _ => by kernel_rfl, RG.st fun _ _ => by kernel_rfl, trivial⟩ ?_
  intro a2 w2 M2
  refine wp_ret ?_
  refine bodyPost_ret (v := (.bool false)) (RG.results_t 2 rfl _ (M2.at (s := (.v (.bool false))) (by kernel_rfl))) M2.sl.defers ?_
  exact ⟨_, rfl, M2.st.bel.below, rfl⟩
def F80_0 : List RG.It := [.m 1 [] 0, .m 2 [] 1]
def F80_1 (x c1 : Fin P) : List RG.It := [.c 11 [] rv0, .s 12 [] (.p 0 0), .x 13 [(12, 1)] (fv x), .s 14 [] (.p 0 0), .x 15 [(14, 3)] (fv x), .c 16 [(11, 0), (13, 2), (15, 4)] (fv c1), .m 3 [] 2, .u [(3, 6), (16, 5)] 2]
def F80_2 (x c1 c2 c3 : Fin P) : List RG.It := [.c 17 [] rv0, .c 18 [] rv0, .x 19 [] (fv c1), .x 20 [] (fv c1), .c 21 [(18, 1), (19, 2), (20, 3)] (fv c2), .x 22 [] (fv c1), .c 23 [(17, 0), (21, 4), (22, 5)] (fv c3), .m 4 [] 3, .u [(4, 7), (23, 6)] 3]
def F80_3 (x y z c4 c5 : Fin P) : List RG.It := [.c 24 [] rv0, .c 25 [] rv0, .s 26 [] (.p 0 4), .x 27 [(26, 2)] (fv y), .s 28 [] (.p 0 4), .x 29 [(28, 4)] (fv y), .c 30 [(25, 1), (27, 3), (29, 5)] (fv c4), .s 31 [] (.p 0 8), .x 32 [(31, 7)] (fv z), .c 33 [(24, 0), (30, 6), (32, 8)] (fv c5), .m 5 [] 4, .u [(5, 10), (33, 9)] 4]
def F80_4 (x c5 c6 : Fin P) : List RG.It := [.c 34 [] rv0, .x 35 [] (fv c5), .x 36 [] (fv c5), .c 37 [(34, 0), (35, 1), (36, 2)] (fv c6), .m 6 [] 5, .u [(6, 4), (37, 3)] 5]
def F80_5 (x c5 c6 c7 : Fin P) : List RG.It := [.c 38 [] rv0, .x 39 [] (fv c6), .x 40 [] (fv c5), .c 41 [(38, 0), (39, 1), (40, 2)] (fv c7), .m 7 [] 6, .u [(7, 4), (41, 3)] 6]
def F80_6 (x z c3 c6 c8 c9 c10 c11 c12 : Fin P) : List RG.It := [.c 42 [] rv0, .c 43 [] rv0, .c 44 [] rv0, .x 45 [] (fv c3), .x 46 [] (fv c3), .c 47 [(44, 2), (45, 3), (46, 4)] (fv c8), .s 48 [] (.p 0 8), .x 49 [(48, 6)] (fv z), .c 50 [(43, 1), (47, 5), (49, 7)] (fv c9), .c 51 [] rv0, .c 52 [] rv0, .s 53 [] (.p 0 0), .x 54 [(53, 11)] (fv x), .s 55 [] (.p 0 0), .x 56 [(55, 13)] (fv x), .c 57 [(52, 10), (54, 12), (56, 14)] (fv c10), .x 58 [] (fv c6), .c 59 [(51, 9), (57, 15), (58, 16)] (fv c11), .c 60 [(42, 0), (50, 8), (59, 17)] (fv c12), .m 8 [] 7, .u [(8, 19), (60, 18)] 7]
def F80_7 (x c5 c12 c13 : Fin P) : List RG.It := [.c 61 [] rv0, .x 62 [] (fv c5), .x 63 [] (fv c12), .c 64 [(61, 0), (62, 1), (63, 2)] (fv c13), .m 9 [] 8, .u [(9, 4), (64, 3)] 8]
def F80_8 (x y c3 c6 c7 c12 c14 c15 c16 c17 c18 : Fin P) : List RG.It := [.c 65 [] rv0, .c 66 [] rv0, .x 67 [] (fv c3), .c 68 [] rv0, .c 69 [] rv0, .s 70 [] (.p 0 0), .x 71 [(70, 5)] (fv x), .x 72 [] (fv c6), .c 73 [(69, 4), (71, 6), (72, 7)] (fv c14), .x 74 [] (fv c12), .c 75 [(68, 3), (73, 8), (74, 9)] (fv c15), .c 76 [(66, 1), (67, 2), (75, 10)] (fv c16), .c 77 [] rv0, .s 78 [] (.p 0 4), .x 79 [(78, 13)] (fv y), .x 80 [] (fv c7), .c 81 [(77, 12), (79, 14), (80, 15)] (fv c17), .c 82 [(65, 0), (76, 11), (81, 16)] (fv c18), .m 10 [] 9, .u [(10, 18), (82, 17)] 9]
def F80_9 (x z c7 c13 c18 c19 : Fin P) : List RG.It := [.x 83 [] (fv c13), .x 84 [] (fv c18), .c 85 [] rv0, .x 86 [] (fv c7), .s 87 [] (.p 0 8), .x 88 [(87, 4)] (fv z), .c 89 [(85, 2), (86, 3), (88, 5)] (fv c19), .x 90 [(83, 0), (84, 1), (89, 6)] (rv c13 c18 c19), .u [(90, 7)] 1]
set_option maxHeartbeats 2000000 in
set_option maxRecDepth 100000 in
theorem rdouble_c (C : Fl3 P) (x y z : Fin P) : Gives 52 #[(rv x y z)] (rv ((EC.fdE y z) * (EC.fdT x y z)) ((EC.fdD x) * (x * ((EC.fdE y z) * (EC.fdE y z)) - (EC.fdT x y z)) - y * ((EC.fdE y z) * (EC.fdE y z) * (EC.fdE y z))) ((EC.fdE y z) * (EC.fdE y z) * (EC.fdE y z) * z)) := by
  intro w
  obtain ⟨c1, hc1⟩ : ∃ c, c = x * x := ⟨_, rfl⟩
  obtain ⟨c2, hc2⟩ : ∃ c, c = c1 + c1 := ⟨_, rfl⟩
  obtain ⟨c3, hc3⟩ : ∃ c, c = c2 + c1 := ⟨_, rfl⟩
  obtain ⟨c4, hc4⟩ : ∃ c, c = y + y := ⟨_, rfl⟩
  obtain ⟨c5, hc5⟩ : ∃ c, c = c4 * z := ⟨_, rfl⟩
  obtain ⟨c6, hc6⟩ : ∃ c, c = c5 * c5 := ⟨_, rfl⟩
  obtain ⟨c7, hc7⟩ : ∃ c, c = c6 * c5 := ⟨_, rfl⟩
  obtain ⟨c8, hc8⟩ : ∃ c, c = c3 * c3 := ⟨_, rfl⟩
  obtain ⟨c9, hc9⟩ : ∃ c, c = c8 * z := ⟨_, rfl⟩
  obtain ⟨c10, hc10⟩ : ∃ c, c = x + x := ⟨_, rfl⟩
  obtain ⟨c11, hc11⟩ : ∃ c, c = c10 * c6 := ⟨_, rfl⟩
  obtain ⟨c12, hc12⟩ : ∃ c, c = c9 - c11 := ⟨_, rfl⟩
  obtain ⟨c13, hc13⟩ : ∃ c, c = c5 * c12 := ⟨_, rfl⟩
  obtain ⟨c14, hc14⟩ : ∃ c, c = x * c6 := ⟨_, rfl⟩
  obtain ⟨c15, hc15⟩ : ∃ c, c = c14 - c12 := ⟨_, rfl⟩
  obtain ⟨c16, hc16⟩ : ∃ c, c = c3 * c15 := ⟨_, rfl⟩
  obtain ⟨c17, hc17⟩ : ∃ c, c = y * c7 := ⟨_, rfl⟩
  obtain ⟨c18, hc18⟩ : ∃ c, c = c16 - c17 := ⟨_, rfl⟩
  obtain ⟨c19, hc19⟩ : ∃ c, c = c7 * z := ⟨_, rfl⟩
  have hfin : ((rv c13 c18 c19) : Value) = (rv ((EC.fdE y z) * (EC.fdT x y z)) ((EC.fdD x) * (x * ((EC.fdE y z) * (EC.fdE y z)) - (EC.fdT x y z)) - y * ((EC.fdE y z) * (EC.fdE y z) * (EC.fdE y z))) ((EC.fdE y z) * (EC.fdE y z) * (EC.fdE y z) * z)) := by
    subst_vars; rfl
  rw [← hfin]
  go_enter Try.func52, Try.ntmps52
  refine RG.M.enter [(0, (.v (rv x y z)))] 91 (by kernel_rfl) ?_
  intro a0 M0
  repeat refine wp_seq ?_
  refine M0.tx F80_0 [(0, (ws x ++ (ws y ++ (ws z)))), (1, (RG.z 12))] [] [(ws x ++ (ws y ++ (ws z))), (RG.z 12)] [(1, (.p 0 0)), (2, (.p 1 0))] (by kernel_rfl) (by kernel_rfl) ⟨RG.mk 0 54 fun _ _ => by kernel_rfl, RG.mk 1 54 fun _ _ => by kernel_rfl, trivial⟩ ?_
  intro j1 i1 a1 w1 M1
  repeat refine wp_seq ?_
  refine M1.dr (by kernel_rfl) (F80_1 x c1) [(6, (RG.z 4))] [(2, 7, (ws c1))] [(ws x ++ (ws y ++ (ws z))), (RG.z 12), (ws c1)] [(1, (.p 0 0)), (2, (.p 1 0)), (3, (.p 2 0))] (by kernel_rfl) (by kernel_rfl) ⟨RG.cl (F3_c) fun _ _ => by kernel_rfl, RG.st fun _ _ => by kernel_rfl, RG.ld u33 i33 (by kernel_rfl), RG.st fun _ _ => by kernel_rfl, RG.ld u33 i33 (by kernel_rfl), RG.cl ((rMul_c C x x).e hc1) fun _ _ => by kernel_rfl, RG.mk 2 44 fun _ _ => by kernel_rfl, RG.pt i33 (by kernel_rfl), trivial⟩ ?_
  intro j2 a2 w2 M2
  repeat refine wp_seq ?_
  refine M2.dr (by kernel_rfl) (F80_2 x c1 c2 c3) [(7, (RG.z 4))] [(3, 8, (ws c3))] [(ws x ++ (ws y ++ (ws z))), (RG.z 12), (ws c1), (ws c3)] [(1, (.p 0 0)), (2, (.p 1 0)), (4, (.p 3 0))] (by kernel_rfl) (by kernel_rfl) ⟨RG.cl (F3_c) fun _ _ => by kernel_rfl, RG.cl (F3_c) fun _ _ => by kernel_rfl, RG.ld u33 i33 (by kernel_rfl), RG.ld u33 i33 (by kernel_rfl), RG.cl ((rAdd_c C c1 c1).e hc2) fun _ _ => by kernel_rfl, RG.ld u33 i33 (by kernel_rfl), RG.cl ((rAdd_c C c2 c1).e hc3) fun _ _ => by kernel_rfl, RG.mk 3 44 fun _ _ => by kernel_rfl, RG.pt i33 (by kernel_rfl), trivial⟩ ?_
  intro j3 a3 w3 M3
  repeat refine wp_seq ?_
  refine M3.dr (by kernel_rfl) (F80_3 x y z c4 c5) [(10, (RG.z 4))] [(4, 11, (ws c5))] [(ws x ++ (ws y ++ (ws z))), (RG.z 12), (ws c1), (ws c3), (ws c5)] [(1, (.p 0 0)), (2, (.p 1 0)), (4, (.p 3 0)), (5, (.p 4 0))] (by kernel_rfl) (by kernel_rfl) ⟨RG.cl (F3_c) fun _ _ => by kernel_rfl, RG.cl (F3_c) fun _ _ => by kernel_rfl, RG.st fun _ _ => by kernel_rfl, RG.ld u33 i33 (by kernel_rfl), RG.st fun _ _ => by kernel_rfl, RG.ld u33 i33 (by kernel_rfl), RG.cl ((rAdd_c C y y).e hc4) fun _ _ => by kernel_rfl, RG.st fun _ _ => by kernel_rfl, RG.ld u33 i33 (by kernel_rfl), RG.cl ((rMul_c C c4 z).e hc5) fun _ _ => by kernel_rfl, RG.mk 4 44 fun _ _ => by kernel_rfl, RG.pt i33 (by kernel_rfl), trivial⟩ ?_
  intro j4 a4 w4 M4
  repeat refine wp_seq ?_
  refine M4.dr (by kernel_rfl) (F80_4 x c5 c6) [(4, (RG.z 4))] [(5, 5, (ws c6))] [(ws x ++ (ws y ++ (ws z))), (RG.z 12), (ws c1), (ws c3), (ws c5), (ws c6)] [(1, (.p 0 0)), (2, (.p 1 0)), (4, (.p 3 0)), (5, (.p 4 0)), (6, (.p 5 0))] (by kernel_rfl) (by kernel_rfl) ⟨RG.cl (F3_c) fun _ _ => by kernel_rfl, RG.ld u33 i33 (by kernel_rfl), RG.ld u33 i33 (by kernel_rfl), RG.cl ((rMul_c C c5 c5).e hc6) fun _ _ => by kernel_rfl, RG.mk 5 44 fun _ _ => by kernel_rfl, RG.pt i33 (by kernel_rfl), trivial⟩ ?_
  intro j5 a5 w5 M5
  repeat refine wp_seq ?_
  refine M5.dr (by kernel_rfl) (F80_5 x c5 c6 c7) [(4, (RG.z 4))] [(6, 5, (ws c7))] [(ws x ++ (ws y ++ (ws z))), (RG.z 12), (ws c1), (ws c3), (ws c5), (ws c6), (ws c7)] [(1, (.p 0 0)), (2, (.p 1 0)), (4, (.p 3 0)), (5, (.p 4 0)), (6, (.p 5 0)), (7, (.p 6 0))] (by kernel_rfl) (by kernel_rfl) ⟨RG.cl (F3_c) fun _ _ => by kernel_rfl, RG.ld u33 i33 (by kernel_rfl), RG.ld u33 i33 (by kernel_rfl), RG.cl ((rMul_c C c6 c5).e hc7) fun _ _ => by kernel_rfl, RG.mk 6 44 fun _ _ => by kernel_rfl, RG.pt i33 (by kernel_rfl), trivial⟩ ?_
  intro j6 a6 w6 M6
  repeat refine wp_seq ?_
  refine M6.dr (by kernel_rfl) (F80_6 x z c3 c6 c8 c9 c10 c11 c12) [(19, (RG.z 4))] [(7, 20, (ws c12))] [(ws x ++ (ws y ++ (ws z))), (RG.z 12), (ws c1), (ws c3), (ws c5), (ws c6), (ws c7), (ws c12)] [(1, (.p 0 0)), (2, (.p 1 0)), (4, (.p 3 0)), (5, (.p 4 0)), (6, (.p 5 0)), (7, (.p 6 0)), (8, (.p 7 0))] (by kernel_rfl) (by kernel_rfl) ⟨RG.cl (F3_c) fun _ _ => by kernel_rfl, RG.cl (F3_c) fun _ _ => by kernel_rfl, RG.cl (F3_c) fun _ _ => by kernel_rfl, RG.ld u33 i33 (by kernel_rfl), RG.ld u33 i33 (by kernel_rfl), RG.cl ((rMul_c C c3 c3).e hc8) fun _ _ => by kernel_rfl, RG.st fun _ _ => by kernel_rfl, RG.ld u33 i33 (by kernel_rfl), RG.cl ((rMul_c C c8 z).e hc9) fun _ _ => by kernel_rfl, RG.cl (F3_c) fun _ _ => by kernel_rfl, RG.cl (F3_c) fun _ _ => by kernel_rfl, RG.st fun _ _ => by kernel_rfl, RG.ld u33 i33 (by kernel_rfl), RG.st fun _ _ => by kernel_rfl, RG.ld u33 i33 (by kernel_rfl), RG.cl ((rAdd_c C x x).e hc10) fun _ _ => by kernel_rfl, RG.ld u33 i33 (by kernel_rfl), RG.cl ((rMul_c C c10 c6).e hc11) fun _ _ => by kernel_rfl, RG.cl ((rSub_c C c9 c11).e hc12) fun _ _ => by kernel_rfl, RG.mk 7 44 fun _ _ => by kernel_rfl, RG.pt i33 (by kernel_rfl), trivial⟩ ?_
  intro j7 a7 w7 M7
  repeat refine wp_seq ?_
  refine M7.dr (by kernel_rfl) (F80_7 x c5 c12 c13) [(4, (RG.z 4))] [(8, 5, (ws c13))] [(ws x ++ (ws y ++ (ws z))), (RG.z 12), (ws c1), (ws c3), (ws c5), (ws c6), (ws c7), (ws c12), (ws c13)] [(1, (.p 0 0)), (2, (.p 1 0)), (4, (.p 3 0)), (6, (.p 5 0)), (7, (.p 6 0)), (8, (.p 7 0)), (9, (.p 8 0))] (by kernel_rfl) (by kernel_rfl) ⟨RG.cl (F3_c) fun _ _ => by kernel_rfl, RG.ld u33 i33 (by kernel_rfl), RG.ld u33 i33 (by kernel_rfl), RG.cl ((rMul_c C c5 c12).e hc13) fun _ _ => by kernel_rfl, RG.mk 8 44 fun _ _ => by kernel_rfl, RG.pt i33 (by kernel_rfl), trivial⟩ ?_
  intro j8 a8 w8 M8
  repeat refine wp_seq ?_
  refine M8.dr (by kernel_rfl) (F80_8 x y c3 c6 c7 c12 c14 c15 c16 c17 c18) [(18, (RG.z 4))] [(9, 19, (ws c18))] [(ws x ++ (ws y ++ (ws z))), (RG.z 12), (ws c1), (ws c3), (ws c5), (ws c6), (ws c7), (ws c12), (ws c13), (ws c18)] [(1, (.p 0 0)), (2, (.p 1 0)), (7, (.p 6 0)), (9, (.p 8 0)), (10, (.p 9 0))] (by kernel_rfl) (by kernel_rfl) ⟨RG.cl (F3_c) fun _ _ => by kernel_rfl, RG.cl (F3_c) fun _ _ => by kernel_rfl, RG.ld u33 i33 (by kernel_rfl), RG.cl (F3_c) fun _ _ => by kernel_rfl, RG.cl (F3_c) fun _ _ => by kernel_rfl, RG.st fun _ _ => by kernel_rfl, RG.ld u33 i33 (by kernel_rfl), RG.ld u33 i33 (by kernel_rfl), RG.cl ((rMul_c C x c6).e hc14) fun _ _ => by kernel_rfl, RG.ld u33 i33 (by kernel_rfl), RG.cl ((rSub_c C c14 c12).e hc15) fun _ _ => by kernel_rfl, RG.cl ((rMul_c C c3 c15).e hc16) fun _ _ => by kernel_rfl, RG.cl (F3_c) fun _ _ => by kernel_rfl, RG.st fun _ _ => by kernel_rfl, RG.ld u33 i33 (by kernel_rfl), RG.ld u33 i33 (by kernel_rfl), RG.cl ((rMul_c C y c7).e hc17) fun _ _ => by kernel_rfl, RG.cl ((rSub_c C c16 c17).e hc18) fun _ _ => by kernel_rfl, RG.mk 9 44 fun _ _ => by kernel_rfl, RG.pt i33 (by kernel_rfl), trivial⟩ ?_
  intro j9 a9 w9 M9
  repeat refine wp_seq ?_
  refine M9.dr (by kernel_rfl) (F80_9 x z c7 c13 c18 c19) [] [(1, 8, (ws c13 ++ (ws c18 ++ (ws c19))))] [(ws x ++ (ws y ++ (ws z))), (ws c13 ++ (ws c18 ++ (ws c19))), (ws c1), (ws c3), (ws c5), (ws c6), (ws c7), (ws c12), (ws c13), (ws c18)] [(2, (.p 1 0))] (by kernel_rfl) (by kernel_rfl) ⟨RG.ld u33 i33 (by kernel_rfl), RG.ld u33 i33 (by kernel_rfl), RG.cl (F3_c) fun _ _ => by kernel_rfl, RG.ld u33 i33 (by kernel_rfl), RG.st fun _ _ => by kernel_rfl, RG.ld u33 i33 (by kernel_rfl), RG.cl ((rMul_c C c7 z).e hc19) fun _ _ => by kernel_rfl, RG.st fun _ _ => by kernel_rfl, RG.pt i56 (by kernel_rfl), trivial⟩ ?_
  intro a10 w10 M10
  refine wp_ret ?_
  refine bodyPost_ret (v := (rv c13 c18 c19)) (RG.results_row M10.st 2 54 rfl 1 _ rfl (M10.at (s := (.p 1 0)) (by kernel_rfl)) u56 i56) M10.sl.defers ?_
  exact ⟨_, rfl, M10.st.bel.below, rfl⟩
def F37_0 : List RG.It := [.m 1 [] 0, .m 2 [] 1]
def F37_1 (x y z c1 : Fin P) : List RG.It := [.s 3 [] (.p 0 0), .x 4 [(3, 0)] (fv x), .c 5 [] rv0, .s 6 [] (.p 0 4), .x 7 [(6, 3)] (fv y), .c 8 [(5, 2), (7, 4)] (fv c1), .s 9 [] (.p 0 8), .x 10 [(9, 6)] (fv z), .x 11 [(4, 1), (8, 5), (10, 7)] (rv x c1 z), .u [(11, 8)] 1]
set_option maxHeartbeats 2000000 in
set_option maxRecDepth 100000 in
theorem rNeg3_c (C : Fl3 P) (x y z : Fin P) : Gives 48 #[(rv x y z)] (rv x (0 - y) z) := by
  intro w
  obtain ⟨c1, hc1⟩ : ∃ c, c = 0 - y := ⟨_, rfl⟩
  have hfin : ((rv x c1 z) : Value) = (rv x (0 - y) z) := by
    subst_vars; rfl
  rw [← hfin]
  go_enter Try.func48, Try.ntmps48
  refine RG.M.enter [(0, (.v (rv x y z)))] 12 (by kernel_rfl) ?_
  intro a0 M0
  repeat refine wp_seq ?_
  refine M0.tx F37_0 [(0, (ws x ++ (ws y ++ (ws z)))), (1, (RG.z 12))] [] [(ws x ++ (ws y ++ (ws z))), (RG.z 12)] [(1, (.p 0 0)), (2, (.p 1 0))] (by kernel_rfl) (by kernel_rfl) ⟨RG.mk 0 54 fun _ _ => by kernel_rfl, RG.mk 1 54 fun _ _ => by kernel_rfl, trivial⟩ ?_
  intro j1 i1 a1 w1 M1
  repeat refine wp_seq ?_
  refine M1.dr (by kernel_rfl) (F37_1 x y z c1) [] [(1, 9, (ws x ++ (ws c1 ++ (ws z))))] [(ws x ++ (ws y ++ (ws z))), (ws x ++ (ws c1 ++ (ws z)))] [(2, (.p 1 0))] (by kernel_rfl) (by kernel_rfl) ⟨RG.st fun _ _ => by kernel_rfl, RG.ld u33 i33 (by kernel_rfl), RG.cl (F3_c) fun _ _ => by kernel_rfl, RG.st fun _ _ => by kernel_rfl, RG.ld u33 i33 (by kernel_rfl), RG.cl ((rNeg_c C y).e hc1) fun _ _ => by kernel_rfl, RG.st fun _ _ => by kernel_rfl, RG.ld u33 i33 (by kernel_rfl), RG.st fun _ _ => by kernel_rfl, RG.pt i56 (by kernel_rfl), trivial⟩ ?_
  intro a2 w2 M2
  refine wp_ret ?_
  refine bodyPost_ret (v := (rv x c1 z)) (RG.results_row M2.st 2 54 rfl 1 _ rfl (M2.at (s := (.p 1 0)) (by kernel_rfl)) u56 i56) M2.sl.defers ?_
  exact ⟨_, rfl, M2.st.bel.below, rfl⟩
def F39a_0 : List RG.It := [.m 2 [] 0, .m 3 [] 1, .m 4 [] 2]
def F39a_1 (x1 y1 z1 : Fin P) : List RG.It := [.x 16 [] (rv x1 y1 z1), .c 17 [(16, 0)] (.bool true), .x 5 [(17, 1)] (.bool true)]
def F39a_2 : List RG.It := [.x 18 [] (.bool true)]
def F39a_3 (x2 y2 z2 : Fin P) : List RG.It := [.x 19 [] (rv x2 y2 z2), .u [(19, 0)] 2]
set_option maxHeartbeats 2000000 in
set_option maxRecDepth 100000 in
theorem rPlus_a_c (C : Fl3 P) (x1 y1 z1 x2 y2 z2 : Fin P)(hz1 : z1 = 0)  : Gives 26 #[(rv x1 y1 z1), (rv x2 y2 z2)] (rv x2 y2 z2) := by
  intro w
  go_enter Try.func26, Try.ntmps26
  refine RG.M.enter [(0, (.v (rv x1 y1 z1))), (1, (.v (rv x2 y2 z2)))] 127 (by kernel_rfl) ?_
  intro a0 M0
  repeat refine wp_seq ?_
  refine M0.tx F39a_0 [(0, (ws x1 ++ (ws y1 ++ (ws z1)))), (1, (ws x2 ++ (ws y2 ++ (ws z2)))), (2, (RG.z 12))] [] [(ws x1 ++ (ws y1 ++ (ws z1))), (ws x2 ++ (ws y2 ++ (ws z2))), (RG.z 12)] [(2, (.p 0 0)), (3, (.p 1 0)), (4, (.p 2 0))] (by kernel_rfl) (by kernel_rfl) ⟨RG.mk 0 54 fun _ _ => by kernel_rfl, RG.mk 1 54 fun _ _ => by kernel_rfl, RG.mk 2 54 fun _ _ => by kernel_rfl, trivial⟩ ?_
  intro j1 i1 m1 a1 w1 M1
  repeat refine wp_seq ?_
  refine M1.tx0 (F39a_1 x1 y1 z1) [(3, (.p 1 0)), (4, (.p 2 0)), (5, (.v (.bool true)))] (by kernel_rfl) ⟨RG.ld u56 i56 (by kernel_rfl), RG.cl (Is_t_c C x1 y1 z1 hz1) fun _ _ => by kernel_rfl, RG.st fun _ _ => by kernel_rfl, trivial⟩ ?_
  intro a2 w2 M2
  repeat refine wp_seq ?_
  refine M2.tx0 F39a_2 [(3, (.p 1 0)), (4, (.p 2 0)), (18, (.v (.bool true)))] (by kernel_rfl) ⟨RG.st fun _ _ => by kernel_rfl, trivial⟩ ?_
  intro a3 w3 M3
  repeat refine wp_seq ?_
  refine wp_cond_true (M3.ev (by kernel_rfl)) ?_
  repeat refine wp_seq ?_
  refine M3.tx (F39a_3 x2 y2 z2) [] [(2, 1, (ws x2 ++ (ws y2 ++ (ws z2))))] [(ws x1 ++ (ws y1 ++ (ws z1))), (ws x2 ++ (ws y2 ++ (ws z2))), (ws x2 ++ (ws y2 ++ (ws z2)))] [(4, (.p 2 0))] (by kernel_rfl) (by kernel_rfl) ⟨RG.ld u56 i56 (by kernel_rfl), RG.pt i56 (by kernel_rfl), trivial⟩ ?_
  intro a4 w4 M4
  refine wp_ret ?_
  refine bodyPost_ret (v := (rv x2 y2 z2)) (RG.results_row M4.st 4 54 rfl 2 _ rfl (M4.at (s := (.p 2 0)) (by kernel_rfl)) u56 i56) M4.sl.defers ?_
  exact ⟨_, rfl, M4.st.bel.below, rfl⟩
def F39b_0 : List RG.It := [.m 2 [] 0, .m 3 [] 1, .m 4 [] 2]
def F39b_1 (x1 y1 z1 : Fin P) : List RG.It := [.x 16 [] (rv x1 y1 z1), .c 17 [(16, 0)] (.bool false), .x 5 [(17, 1)] (.bool false)]
def F39b_2 : List RG.It := [.x 18 [] (.bool false)]
def F39b_4 (x2 y2 z2 : Fin P) : List RG.It := [.x 20 [] (rv x2 y2 z2), .c 21 [(20, 0)] (.bool true), .x 5 [(21, 1)] (.bool true)]
def F39b_5 : List RG.It := [.x 22 [] (.bool true)]
def F39b_6 (x1 y1 z1 : Fin P) : List RG.It := [.x 23 [] (rv x1 y1 z1), .u [(23, 0)] 2]
set_option maxHeartbeats 2000000 in
set_option maxRecDepth 100000 in
theorem rPlus_b_c (C : Fl3 P) (x1 y1 z1 x2 y2 z2 : Fin P)(hz1 : ¬ z1 = 0) (hz2 : z2 = 0)  : Gives 26 #[(rv x1 y1 z1), (rv x2 y2 z2)] (rv x1 y1 z1) := by
  intro w
  go_enter Try.func26, Try.ntmps26
  refine RG.M.enter [(0, (.v (rv x1 y1 z1))), (1, (.v (rv x2 y2 z2)))] 127 (by kernel_rfl) ?_
  intro a0 M0
  repeat refine wp_seq ?_
  refine M0.tx F39b_0 [(0, (ws x1 ++ (ws y1 ++ (ws z1)))), (1, (ws x2 ++ (ws y2 ++ (ws z2)))), (2, (RG.z 12))] [] [(ws x1 ++ (ws y1 ++ (ws z1))), (ws x2 ++ (ws y2 ++ (ws z2))), (RG.z 12)] [(2, (.p 0 0)), (3, (.p 1 0)), (4, (.p 2 0))] (by kernel_rfl) (by kernel_rfl) ⟨RG.mk 0 54 fun _ _ => by kernel_rfl, RG.mk 1 54 fun _ _ => by kernel_rfl, RG.mk 2 54 fun _ _ => by kernel_rfl, trivial⟩ ?_
  intro j1 i1 m1 a1 w1 M1
  repeat refine wp_seq ?_
  refine M1.tx0 (F39b_1 x1 y1 z1) [(2, (.p 0 0)), (3, (.p 1 0)), (4, (.p 2 0)), (5, (.v (.bool false)))] (by kernel_rfl) ⟨RG.ld u56 i56 (by kernel_rfl), RG.cl (Is_f_c C x1 y1 z1 hz1) fun _ _ => by kernel_rfl, RG.st fun _ _ => by kernel_rfl, trivial⟩ ?_
  intro a2 w2 M2
  repeat refine wp_seq ?_
  refine M2.tx0 F39b_2 [(2, (.p 0 0)), (3, (.p 1 0)), (4, (.p 2 0)), (5, (.v (.bool false))), (18, (.v (.bool false)))] (by kernel_rfl) ⟨RG.st fun _ _ => by kernel_rfl, trivial⟩ ?_
  intro a3 w3 M3
  repeat refine wp_seq ?_
  refine wp_cond_false (M3.ev (by kernel_rfl)) ?_
  refine wp_skip ?_
  repeat refine wp_seq ?_
  refine M3.tx0 (F39b_4 x2 y2 z2) [(2, (.p 0 0)), (4, (.p 2 0)), (5, (.v (.bool true)))] (by kernel_rfl) ⟨RG.ld u56 i56 (by kernel_rfl), RG.cl (Is_t_c C x2 y2 z2 hz2) fun _ _ => by kernel_rfl, RG.st fun _ _ => by kernel_rfl, trivial⟩ ?_
  intro a4 w4 M4
  repeat refine wp_seq ?_
  refine M4.tx0 F39b_5 [(2, (.p 0 0)), (4, (.p 2 0)), (22, (.v (.bool true)))] (by kernel_rfl) ⟨RG.st fun _ _ => by kernel_rfl, trivial⟩ ?_
  intro a5 w5 M5
  repeat refine wp_seq ?_
  refine wp_cond_true (M5.ev (by kernel_rfl)) ?_
  repeat refine wp_seq ?_
  refine M5.tx (F39b_6 x1 y1 z1) [] [(2, 1, (ws x1 ++ (ws y1 ++ (ws z1))))] [(ws x1 ++ (ws y1 ++ (ws z1))), (ws x2 ++ (ws y2 ++ (ws z2))), (ws x1 ++ (ws y1 ++ (ws z1)))] [(4, (.p 2 0))] (by kernel_rfl) (by kernel_rfl) ⟨RG.ld u56 i56 (by kernel_rfl), RG.pt i56 (by kernel_rfl), trivial⟩ ?_
  intro a6 w6 M6
  refine wp_ret ?_
  refine bodyPost_ret (v := (rv x1 y1 z1)) (RG.results_row M6.st 4 54 rfl 2 _ rfl (M6.at (s := (.p 2 0)) (by kernel_rfl)) u56 i56) M6.sl.defers ?_
  exact ⟨_, rfl, M6.st.bel.below, rfl⟩
def F39c_0 : List RG.It := [.m 2 [] 0, .m 3 [] 1, .m 4 [] 2]
def F39c_1 (x1 y1 z1 : Fin P) : List RG.It := [.x 16 [] (rv x1 y1 z1), .c 17 [(16, 0)] (.bool false), .x 5 [(17, 1)] (.bool false)]
def F39c_2 : List RG.It := [.x 18 [] (.bool false)]
def F39c_4 (x2 y2 z2 : Fin P) : List RG.It := [.x 20 [] (rv x2 y2 z2), .c 21 [(20, 0)] (.bool false), .x 5 [(21, 1)] (.bool false)]
def F39c_5 : List RG.It := [.x 22 [] (.bool false)]
def F39c_7 (z1 y2 c1 : Fin P) : List RG.It := [.c 24 [] rv0, .s 25 [] (.p 1 4), .x 26 [(25, 1)] (fv y2), .s 27 [] (.p 0 8), .x 28 [(27, 3)] (fv z1), .c 29 [(24, 0), (26, 2), (28, 4)] (fv c1), .m 6 [] 3, .u [(6, 6), (29, 5)] 3]
def F39c_8 (z1 x2 c2 : Fin P) : List RG.It := [.c 30 [] rv0, .s 31 [] (.p 1 0), .x 32 [(31, 1)] (fv x2), .s 33 [] (.p 0 8), .x 34 [(33, 3)] (fv z1), .c 35 [(30, 0), (32, 2), (34, 4)] (fv c2), .m 7 [] 4, .u [(7, 6), (35, 5)] 4]
def F39c_9 (y1 z2 c3 : Fin P) : List RG.It := [.c 36 [] rv0, .s 37 [] (.p 0 4), .x 38 [(37, 1)] (fv y1), .s 39 [] (.p 1 8), .x 40 [(39, 3)] (fv z2), .c 41 [(36, 0), (38, 2), (40, 4)] (fv c3), .m 8 [] 5, .u [(8, 6), (41, 5)] 5]
def F39c_10 (x1 z2 c4 : Fin P) : List RG.It := [.c 42 [] rv0, .s 43 [] (.p 0 0), .x 44 [(43, 1)] (fv x1), .s 45 [] (.p 1 8), .x 46 [(45, 3)] (fv z2), .c 47 [(42, 0), (44, 2), (46, 4)] (fv c4), .m 9 [] 6, .u [(9, 6), (47, 5)] 6]
def F39c_11 (c2 c4 : Fin P) : List RG.It := [.x 48 [] (fv c2), .x 49 [] (fv c4), .x 50 [(48, 0), (49, 1)] (.bool true)]
def F39c_12 (c1 c3 : Fin P) : List RG.It := [.x 51 [] (fv c1), .x 52 [] (fv c3), .x 53 [(51, 0), (52, 1)] (.bool true), .x 54 [(53, 2)] (.bool true), ⟨some 55, [], (.v undef), .pass⟩, ⟨some 56, [], (.v undef), .pass⟩, .x 57 [(54, 3), (56, 5)] (.bool true)]
def F39c_13 : List RG.It := [.c 58 [] (rv (0 : Fin P) (1 : Fin P) (0 : Fin P)), .u [(58, 0)] 2]
set_option maxHeartbeats 2000000 in
set_option maxRecDepth 100000 in
theorem rPlus_c_c (C : Fl3 P) (x1 y1 z1 x2 y2 z2 : Fin P)(hz1 : ¬ z1 = 0) (hz2 : ¬ z2 = 0) (hv : x2 * z1 = x1 * z2) (hu : ¬ y2 * z1 = y1 * z2)  : Gives 26 #[(rv x1 y1 z1), (rv x2 y2 z2)] (rv (0 : Fin P) 1 0) := by
  intro w
  obtain ⟨c1, hc1⟩ : ∃ c, c = y2 * z1 := ⟨_, rfl⟩
  obtain ⟨c2, hc2⟩ : ∃ c, c = x2 * z1 := ⟨_, rfl⟩
  obtain ⟨c3, hc3⟩ : ∃ c, c = y1 * z2 := ⟨_, rfl⟩
  obtain ⟨c4, hc4⟩ : ∃ c, c = x1 * z2 := ⟨_, rfl⟩
  have hfin : ((rv (0 : Fin P) (1 : Fin P) (0 : Fin P)) : Value) = (rv (0 : Fin P) 1 0) := by
    subst_vars; rfl
  rw [← hfin]
  go_enter Try.func26, Try.ntmps26
  refine RG.M.enter [(0, (.v (rv x1 y1 z1))), (1, (.v (rv x2 y2 z2)))] 127 (by kernel_rfl) ?_
  intro a0 M0
  repeat refine wp_seq ?_
  refine M0.tx F39c_0 [(0, (ws x1 ++ (ws y1 ++ (ws z1)))), (1, (ws x2 ++ (ws y2 ++ (ws z2)))), (2, (RG.z 12))] [] [(ws x1 ++ (ws y1 ++ (ws z1))), (ws x2 ++ (ws y2 ++ (ws z2))), (RG.z 12)] [(2, (.p 0 0)), (3, (.p 1 0)), (4, (.p 2 0))] (by kernel_rfl) (by kernel_rfl) ⟨RG.mk 0 54 fun _ _ => by kernel_rfl, RG.mk 1 54 fun _ _ => by kernel_rfl, RG.mk 2 54 fun _ _ => by kernel_rfl, trivial⟩ ?_
  intro j1 i1 m1 a1 w1 M1
  repeat refine wp_seq ?_
  refine M1.tx0 (F39c_1 x1 y1 z1) [(2, (.p 0 0)), (3, (.p 1 0)), (4, (.p 2 0)), (5, (.v (.bool false)))] (by kernel_rfl) ⟨RG.ld u56 i56 (by kernel_rfl), RG.cl (Is_f_c C x1 y1 z1 hz1) fun _ _ => by kernel_rfl, RG.st fun _ _ => by kernel_rfl, trivial⟩ ?_
  intro a2 w2 M2
  repeat refine wp_seq ?_
  refine M2.tx0 F39c_2 [(2, (.p 0 0)), (3, (.p 1 0)), (4, (.p 2 0)), (5, (.v (.bool false))), (18, (.v (.bool false)))] (by kernel_rfl) ⟨RG.st fun _ _ => by kernel_rfl, trivial⟩ ?_
  intro a3 w3 M3
  repeat refine wp_seq ?_
  refine wp_cond_false (M3.ev (by kernel_rfl)) ?_
  refine wp_skip ?_
  repeat refine wp_seq ?_
  refine M3.tx0 (F39c_4 x2 y2 z2) [(2, (.p 0 0)), (3, (.p 1 0)), (4, (.p 2 0)), (5, (.v (.bool false)))] (by kernel_rfl) ⟨RG.ld u56 i56 (by kernel_rfl), RG.cl (Is_f_c C x2 y2 z2 hz2) fun _ _ => by kernel_rfl, RG.st fun _ _ => by kernel_rfl, trivial⟩ ?_
  intro a4 w4 M4
  repeat refine wp_seq ?_
  refine M4.tx0 F39c_5 [(2, (.p 0 0)), (3, (.p 1 0)), (4, (.p 2 0)), (22, (.v (.bool false)))] (by kernel_rfl) ⟨RG.st fun _ _ => by kernel_rfl, trivial⟩ ?_
  intro a5 w5 M5
  repeat refine wp_seq ?_
  refine wp_cond_false (M5.ev (by kernel_rfl)) ?_
  refine wp_skip ?_
  repeat refine wp_seq ?_
  refine M5.dr (by kernel_rfl) (F39c_7 z1 y2 c1) [(6, (RG.z 4))] [(3, 7, (ws c1))] [(ws x1 ++ (ws y1 ++ (ws z1))), (ws x2 ++ (ws y2 ++ (ws z2))), (RG.z 12), (ws c1)] [(2, (.p 0 0)), (3, (.p 1 0)), (4, (.p 2 0)), (6, (.p 3 0))] (by kernel_rfl) (by kernel_rfl) ⟨RG.cl (F3_c) fun _ _ => by kernel_rfl, RG.st fun _ _ => by kernel_rfl, RG.ld u33 i33 (by kernel_rfl), RG.st fun _ _ => by kernel_rfl, RG.ld u33 i33 (by kernel_rfl), RG.cl ((rMul_c C y2 z1).e hc1) fun _ _ => by kernel_rfl, RG.mk 3 44 fun _ _ => by kernel_rfl, RG.pt i33 (by kernel_rfl), trivial⟩ ?_
  intro j6 a6 w6 M6
  repeat refine wp_seq ?_
  refine M6.dr (by kernel_rfl) (F39c_8 z1 x2 c2) [(6, (RG.z 4))] [(4, 7, (ws c2))] [(ws x1 ++ (ws y1 ++ (ws z1))), (ws x2 ++ (ws y2 ++ (ws z2))), (RG.z 12), (ws c1), (ws c2)] [(2, (.p 0 0)), (3, (.p 1 0)), (4, (.p 2 0)), (6, (.p 3 0)), (7, (.p 4 0))] (by kernel_rfl) (by kernel_rfl) ⟨RG.cl (F3_c) fun _ _ => by kernel_rfl, RG.st fun _ _ => by kernel_rfl, RG.ld u33 i33 (by kernel_rfl), RG.st fun _ _ => by kernel_rfl, RG.ld u33 i33 (by kernel_rfl), RG.cl ((rMul_c C x2 z1).e hc2) fun _ _ => by kernel_rfl, RG.mk 4 44 fun _ _ => by kernel_rfl, RG.pt i33 (by kernel_rfl), trivial⟩ ?_
  intro j7 a7 w7 M7
  repeat refine wp_seq ?_
  refine M7.dr (by kernel_rfl) (F39c_9 y1 z2 c3) [(6, (RG.z 4))] [(5, 7, (ws c3))] [(ws x1 ++ (ws y1 ++ (ws z1))), (ws x2 ++ (ws y2 ++ (ws z2))), (RG.z 12), (ws c1), (ws c2), (ws c3)] [(2, (.p 0 0)), (3, (.p 1 0)), (4, (.p 2 0)), (6, (.p 3 0)), (7, (.p 4 0)), (8, (.p 5 0))] (by kernel_rfl) (by kernel_rfl) ⟨RG.cl (F3_c) fun _ _ => by kernel_rfl, RG.st fun _ _ => by kernel_rfl, RG.ld u33 i33 (by kernel_rfl), RG.st fun _ _ => by kernel_rfl, RG.ld u33 i33 (by kernel_rfl), RG.cl ((rMul_c C y1 z2).e hc3) fun _ _ => by kernel_rfl, RG.mk 5 44 fun _ _ => by kernel_rfl, RG.pt i33 (by kernel_rfl), trivial⟩ ?_
  intro j8 a8 w8 M8
  repeat refine wp_seq ?_
  refine M8.dr (by kernel_rfl) (F39c_10 x1 z2 c4) [(6, (RG.z 4))] [(6, 7, (ws c4))] [(ws x1 ++ (ws y1 ++ (ws z1))), (ws x2 ++ (ws y2 ++ (ws z2))), (RG.z 12), (ws c1), (ws c2), (ws c3), (ws c4)] [(4, (.p 2 0)), (6, (.p 3 0)), (7, (.p 4 0)), (8, (.p 5 0)), (9, (.p 6 0))] (by kernel_rfl) (by kernel_rfl) ⟨RG.cl (F3_c) fun _ _ => by kernel_rfl, RG.st fun _ _ => by kernel_rfl, RG.ld u33 i33 (by kernel_rfl), RG.st fun _ _ => by kernel_rfl, RG.ld u33 i33 (by kernel_rfl), RG.cl ((rMul_c C x1 z2).e hc4) fun _ _ => by kernel_rfl, RG.mk 6 44 fun _ _ => by kernel_rfl, RG.pt i33 (by kernel_rfl), trivial⟩ ?_
  intro j9 a9 w9 M9
  repeat refine wp_seq ?_
  refine M9.tx0 (F39c_11 c2 c4) [(4, (.p 2 0)), (6, (.p 3 0)), (8, (.p 5 0)), (50, (.v (.bool true)))] (by kernel_rfl) ⟨RG.ld u33 i33 (by kernel_rfl), RG.ld u33 i33 (by kernel_rfl), RG.cert_bin rfl .eql 44 44 48 49 (fv c2) (fv c4) (.bool true) rfl rfl (RG.sx fun _ => by kernel_rfl) (RG.sx fun _ => by kernel_rfl) (fun w => by kernel_rfl) (eqR_t C.toFld (by subst_vars; exact hv)), trivial⟩ ?_
  intro a10 w10 M10
  repeat refine wp_seq ?_
  refine wp_cond_true (M10.ev (by kernel_rfl)) ?_
  repeat refine wp_seq ?_
  refine M10.tx0 (F39c_12 c1 c3) [(4, (.p 2 0)), (57, (.v (.bool true)))] (by kernel_rfl) ⟨RG.ld u33 i33 (by kernel_rfl), RG.ld u33 i33 (by kernel_rfl), RG.cert_bin rfl .neq 44 44 51 52 (fv c1) (fv c3) (.bool true) rfl rfl (RG.sx fun _ => by kernel_rfl) (RG.sx fun _ => by kernel_rfl) (fun w => by kernel_rfl) (neR_t C.toFld (by subst_vars; exact hu)), RG.st fun _ _ => by kernel_rfl, RG.cert_pass rfl rfl, RG.cert_pass rfl rfl, RG.st fun _ _ => by kernel_rfl, trivial⟩ ?_
  intro a11 w11 M11
  repeat refine wp_seq ?_
  refine wp_cond_true (M11.ev (by kernel_rfl)) ?_
  repeat refine wp_seq ?_
  refine M11.tx (F39c_13 (P := P)) [] [(2, 1, (ws (0 : Fin P) ++ (ws (1 : Fin P) ++ (ws (0 : Fin P)))))] [(ws x1 ++ (ws y1 ++ (ws z1))), (ws x2 ++ (ws y2 ++ (ws z2))), (ws (0 : Fin P) ++ (ws (1 : Fin P) ++ (ws (0 : Fin P)))), (ws c1), (ws c2), (ws c3), (ws c4)] [(4, (.p 2 0))] (by kernel_rfl) (by kernel_rfl) ⟨RG.cl (None_c C) fun _ _ => by kernel_rfl, RG.pt i56 (by kernel_rfl), trivial⟩ ?_
  intro a12 w12 M12
  refine wp_ret ?_
  refine bodyPost_ret (v := (rv (0 : Fin P) (1 : Fin P) (0 : Fin P))) (RG.results_row M12.st 4 54 rfl 2 _ rfl (M12.at (s := (.p 2 0)) (by kernel_rfl)) u56 i56) M12.sl.defers ?_
  exact ⟨_, rfl, M12.st.bel.below, rfl⟩
def F39d_0 : List RG.It := [.m 2 [] 0, .m 3 [] 1, .m 4 [] 2]
def F39d_1 (x1 y1 z1 : Fin P) : List RG.It := [.x 16 [] (rv x1 y1 z1), .c 17 [(16, 0)] (.bool false), .x 5 [(17, 1)] (.bool false)]
def F39d_2 : List RG.It := [.x 18 [] (.bool false)]
def F39d_4 (x2 y2 z2 : Fin P) : List RG.It := [.x 20 [] (rv x2 y2 z2), .c 21 [(20, 0)] (.bool false), .x 5 [(21, 1)] (.bool false)]
def F39d_5 : List RG.It := [.x 22 [] (.bool false)]
def F39d_7 (z1 y2 c1 : Fin P) : List RG.It := [.c 24 [] rv0, .s 25 [] (.p 1 4), .x 26 [(25, 1)] (fv y2), .s 27 [] (.p 0 8), .x 28 [(27, 3)] (fv z1), .c 29 [(24, 0), (26, 2), (28, 4)] (fv c1), .m 6 [] 3, .u [(6, 6), (29, 5)] 3]
def F39d_8 (z1 x2 c2 : Fin P) : List RG.It := [.c 30 [] rv0, .s 31 [] (.p 1 0), .x 32 [(31, 1)] (fv x2), .s 33 [] (.p 0 8), .x 34 [(33, 3)] (fv z1), .c 35 [(30, 0), (32, 2), (34, 4)] (fv c2), .m 7 [] 4, .u [(7, 6), (35, 5)] 4]
def F39d_9 (y1 z2 c3 : Fin P) : List RG.It := [.c 36 [] rv0, .s 37 [] (.p 0 4), .x 38 [(37, 1)] (fv y1), .s 39 [] (.p 1 8), .x 40 [(39, 3)] (fv z2), .c 41 [(36, 0), (38, 2), (40, 4)] (fv c3), .m 8 [] 5, .u [(8, 6), (41, 5)] 5]
def F39d_10 (x1 z2 c4 : Fin P) : List RG.It := [.c 42 [] rv0, .s 43 [] (.p 0 0), .x 44 [(43, 1)] (fv x1), .s 45 [] (.p 1 8), .x 46 [(45, 3)] (fv z2), .c 47 [(42, 0), (44, 2), (46, 4)] (fv c4), .m 9 [] 6, .u [(9, 6), (47, 5)] 6]
def F39d_11 (c2 c4 : Fin P) : List RG.It := [.x 48 [] (fv c2), .x 49 [] (fv c4), .x 50 [(48, 0), (49, 1)] (.bool true)]
def F39d_12 (c1 c3 : Fin P) : List RG.It := [.x 51 [] (fv c1), .x 52 [] (fv c3), .x 53 [(51, 0), (52, 1)] (.bool false), .x 54 [(53, 2)] (.bool false), .x 55 [] (fv c1), .c 56 [(55, 4)] (.bool false), .x 57 [(54, 3), (56, 5)] (.bool false)]
def F39d_14 (x1 y1 z1 c5 c6 c7 : Fin P) : List RG.It := [.x 59 [] (rv x1 y1 z1), .c 60 [(59, 0)] (rv c5 c6 c7), .u [(60, 1)] 2]
set_option maxHeartbeats 2000000 in
set_option maxRecDepth 100000 in
theorem rPlus_d_c (C : Fl3 P) (x1 y1 z1 x2 y2 z2 : Fin P)(hz1 : ¬ z1 = 0) (hz2 : ¬ z2 = 0) (hv : x2 * z1 = x1 * z2) (hu : y2 * z1 = y1 * z2) (hn : ¬ y2 * z1 = 0)  : Gives 26 #[(rv x1 y1 z1), (rv x2 y2 z2)] (rv ((EC.fdE y1 z1) * (EC.fdT x1 y1 z1)) ((EC.fdD x1) * (x1 * ((EC.fdE y1 z1) * (EC.fdE y1 z1)) - (EC.fdT x1 y1 z1)) - y1 * ((EC.fdE y1 z1) * (EC.fdE y1 z1) * (EC.fdE y1 z1))) ((EC.fdE y1 z1) * (EC.fdE y1 z1) * (EC.fdE y1 z1) * z1)) := by
  intro w
  obtain ⟨c1, hc1⟩ : ∃ c, c = y2 * z1 := ⟨_, rfl⟩
  obtain ⟨c2, hc2⟩ : ∃ c, c = x2 * z1 := ⟨_, rfl⟩
  obtain ⟨c3, hc3⟩ : ∃ c, c = y1 * z2 := ⟨_, rfl⟩
  obtain ⟨c4, hc4⟩ : ∃ c, c = x1 * z2 := ⟨_, rfl⟩
  obtain ⟨c5, hc5⟩ : ∃ c, c = (EC.fdE y1 z1) * (EC.fdT x1 y1 z1) := ⟨_, rfl⟩
  obtain ⟨c6, hc6⟩ : ∃ c, c = (EC.fdD x1) * (x1 * ((EC.fdE y1 z1) * (EC.fdE y1 z1)) - (EC.fdT x1 y1 z1)) - y1 * ((EC.fdE y1 z1) * (EC.fdE y1 z1) * (EC.fdE y1 z1)) := ⟨_, rfl⟩
  obtain ⟨c7, hc7⟩ : ∃ c, c = (EC.fdE y1 z1) * (EC.fdE y1 z1) * (EC.fdE y1 z1) * z1 := ⟨_, rfl⟩
  have hfin : ((rv c5 c6 c7) : Value) = (rv ((EC.fdE y1 z1) * (EC.fdT x1 y1 z1)) ((EC.fdD x1) * (x1 * ((EC.fdE y1 z1) * (EC.fdE y1 z1)) - (EC.fdT x1 y1 z1)) - y1 * ((EC.fdE y1 z1) * (EC.fdE y1 z1) * (EC.fdE y1 z1))) ((EC.fdE y1 z1) * (EC.fdE y1 z1) * (EC.fdE y1 z1) * z1)) := by
    subst_vars; rfl
  rw [← hfin]
  go_enter Try.func26, Try.ntmps26
  refine RG.M.enter [(0, (.v (rv x1 y1 z1))), (1, (.v (rv x2 y2 z2)))] 127 (by kernel_rfl) ?_
  intro a0 M0
  repeat refine wp_seq ?_
  refine M0.tx F39d_0 [(0, (ws x1 ++ (ws y1 ++ (ws z1)))), (1, (ws x2 ++ (ws y2 ++ (ws z2)))), (2, (RG.z 12))] [] [(ws x1 ++ (ws y1 ++ (ws z1))), (ws x2 ++ (ws y2 ++ (ws z2))), (RG.z 12)] [(2, (.p 0 0)), (3, (.p 1 0)), (4, (.p 2 0))] (by kernel_rfl) (by kernel_rfl) ⟨RG.mk 0 54 fun _ _ => by kernel_rfl, RG.mk 1 54 fun _ _ => by kernel_rfl, RG.mk 2 54 fun _ _ => by kernel_rfl, trivial⟩ ?_
  intro j1 i1 m1 a1 w1 M1
  repeat refine wp_seq ?_
  refine M1.tx0 (F39d_1 x1 y1 z1) [(2, (.p 0 0)), (3, (.p 1 0)), (4, (.p 2 0)), (5, (.v (.bool false)))] (by kernel_rfl) ⟨RG.ld u56 i56 (by kernel_rfl), RG.cl (Is_f_c C x1 y1 z1 hz1) fun _ _ => by kernel_rfl, RG.st fun _ _ => by kernel_rfl, trivial⟩ ?_
  intro a2 w2 M2
  repeat refine wp_seq ?_
  refine M2.tx0 F39d_2 [(2, (.p 0 0)), (3, (.p 1 0)), (4, (.p 2 0)), (5, (.v (.bool false))), (18, (.v (.bool false)))] (by kernel_rfl) ⟨RG.st fun _ _ => by kernel_rfl, trivial⟩ ?_
  intro a3 w3 M3
  repeat refine wp_seq ?_
  refine wp_cond_false (M3.ev (by kernel_rfl)) ?_
  refine wp_skip ?_
  repeat refine wp_seq ?_
  refine M3.tx0 (F39d_4 x2 y2 z2) [(2, (.p 0 0)), (3, (.p 1 0)), (4, (.p 2 0)), (5, (.v (.bool false)))] (by kernel_rfl) ⟨RG.ld u56 i56 (by kernel_rfl), RG.cl (Is_f_c C x2 y2 z2 hz2) fun _ _ => by kernel_rfl, RG.st fun _ _ => by kernel_rfl, trivial⟩ ?_
  intro a4 w4 M4
  repeat refine wp_seq ?_
  refine M4.tx0 F39d_5 [(2, (.p 0 0)), (3, (.p 1 0)), (4, (.p 2 0)), (22, (.v (.bool false)))] (by kernel_rfl) ⟨RG.st fun _ _ => by kernel_rfl, trivial⟩ ?_
  intro a5 w5 M5
  repeat refine wp_seq ?_
  refine wp_cond_false (M5.ev (by kernel_rfl)) ?_
  refine wp_skip ?_
  repeat refine wp_seq ?_
  refine M5.dr (by kernel_rfl) (F39d_7 z1 y2 c1) [(6, (RG.z 4))] [(3, 7, (ws c1))] [(ws x1 ++ (ws y1 ++ (ws z1))), (ws x2 ++ (ws y2 ++ (ws z2))), (RG.z 12), (ws c1)] [(2, (.p 0 0)), (3, (.p 1 0)), (4, (.p 2 0)), (6, (.p 3 0))] (by kernel_rfl) (by kernel_rfl) ⟨RG.cl (F3_c) fun _ _ => by kernel_rfl, RG.st fun _ _ => by kernel_rfl, RG.ld u33 i33 (by kernel_rfl), RG.st fun _ _ => by kernel_rfl, RG.ld u33 i33 (by kernel_rfl), RG.cl ((rMul_c C y2 z1).e hc1) fun _ _ => by kernel_rfl, RG.mk 3 44 fun _ _ => by kernel_rfl, RG.pt i33 (by kernel_rfl), trivial⟩ ?_
  intro j6 a6 w6 M6
  repeat refine wp_seq ?_
  refine M6.dr (by kernel_rfl) (F39d_8 z1 x2 c2) [(6, (RG.z 4))] [(4, 7, (ws c2))] [(ws x1 ++ (ws y1 ++ (ws z1))), (ws x2 ++ (ws y2 ++ (ws z2))), (RG.z 12), (ws c1), (ws c2)] [(2, (.p 0 0)), (3, (.p 1 0)), (4, (.p 2 0)), (6, (.p 3 0)), (7, (.p 4 0))] (by kernel_rfl) (by kernel_rfl) ⟨RG.cl (F3_c) fun _ _ => by kernel_rfl, RG.st fun _ _ => by kernel_rfl, RG.ld u33 i33 (by kernel_rfl), RG.st fun _ _ => by kernel_rfl, RG.ld u33 i33 (by kernel_rfl), RG.cl ((rMul_c C x2 z1).e hc2) fun _ _ => by kernel_rfl, RG.mk 4 44 fun _ _ => by kernel_rfl, RG.pt i33 (by kernel_rfl), trivial⟩ ?_
  intro j7 a7 w7 M7
  repeat refine wp_seq ?_
  refine M7.dr (by kernel_rfl) (F39d_9 y1 z2 c3) [(6, (RG.z 4))] [(5, 7, (ws c3))] [(ws x1 ++ (ws y1 ++ (ws z1))), (ws x2 ++ (ws y2 ++ (ws z2))), (RG.z 12), (ws c1), (ws c2), (ws c3)] [(2, (.p 0 0)), (3, (.p 1 0)), (4, (.p 2 0)), (6, (.p 3 0)), (7, (.p 4 0)), (8, (.p 5 0))] (by kernel_rfl) (by kernel_rfl) ⟨RG.cl (F3_c) fun _ _ => by kernel_rfl, RG.st fun _ _ => by kernel_rfl, RG.ld u33 i33 (by kernel_rfl), RG.st fun _ _ => by kernel_rfl, RG.ld u33 i33 (by kernel_rfl), RG.cl ((rMul_c C y1 z2).e hc3) fun _ _ => by kernel_rfl, RG.mk 5 44 fun _ _ => by kernel_rfl, RG.pt i33 (by kernel_rfl), trivial⟩ ?_
  intro j8 a8 w8 M8
  repeat refine wp_seq ?_
  refine M8.dr (by kernel_rfl) (F39d_10 x1 z2 c4) [(6, (RG.z 4))] [(6, 7, (ws c4))] [(ws x1 ++ (ws y1 ++ (ws z1))), (ws x2 ++ (ws y2 ++ (ws z2))), (RG.z 12), (ws c1), (ws c2), (ws c3), (ws c4)] [(2, (.p 0 0)), (4, (.p 2 0)), (6, (.p 3 0)), (7, (.p 4 0)), (8, (.p 5 0)), (9, (.p 6 0))] (by kernel_rfl) (by kernel_rfl) ⟨RG.cl (F3_c) fun _ _ => by kernel_rfl, RG.st fun _ _ => by kernel_rfl, RG.ld u33 i33 (by kernel_rfl), RG.st fun _ _ => by kernel_rfl, RG.ld u33 i33 (by kernel_rfl), RG.cl ((rMul_c C x1 z2).e hc4) fun _ _ => by kernel_rfl, RG.mk 6 44 fun _ _ => by kernel_rfl, RG.pt i33 (by kernel_rfl), trivial⟩ ?_
  intro j9 a9 w9 M9
  repeat refine wp_seq ?_
  refine M9.tx0 (F39d_11 c2 c4) [(2, (.p 0 0)), (4, (.p 2 0)), (6, (.p 3 0)), (8, (.p 5 0)), (50, (.v (.bool true)))] (by kernel_rfl) ⟨RG.ld u33 i33 (by kernel_rfl), RG.ld u33 i33 (by kernel_rfl), RG.cert_bin rfl .eql 44 44 48 49 (fv c2) (fv c4) (.bool true) rfl rfl (RG.sx fun _ => by kernel_rfl) (RG.sx fun _ => by kernel_rfl) (fun w => by kernel_rfl) (eqR_t C.toFld (by subst_vars; exact hv)), trivial⟩ ?_
  intro a10 w10 M10
  repeat refine wp_seq ?_
  refine wp_cond_true (M10.ev (by kernel_rfl)) ?_
  repeat refine wp_seq ?_
  refine M10.tx0 (F39d_12 c1 c3) [(2, (.p 0 0)), (4, (.p 2 0)), (57, (.v (.bool false)))] (by kernel_rfl) ⟨RG.ld u33 i33 (by kernel_rfl), RG.ld u33 i33 (by kernel_rfl), RG.cert_bin rfl .neq 44 44 51 52 (fv c1) (fv c3) (.bool false) rfl rfl (RG.sx fun _ => by kernel_rfl) (RG.sx fun _ => by kernel_rfl) (fun w => by kernel_rfl) (neR_f C.toFld (by subst_vars; exact hu)), RG.st fun _ _ => by kernel_rfl, RG.ld u33 i33 (by kernel_rfl), RG.cl (f := 51) (args := #[(fv c1)]) (v := (.bool false)) (rZero_f C (by subst_vars; exact hn)) fun _ _ => by kernel_rfl, RG.st fun _ _ => by kernel_rfl, trivial⟩ ?_
  intro a11 w11 M11
  repeat refine wp_seq ?_
  refine wp_cond_false (M11.ev (by kernel_rfl)) ?_
  refine wp_skip ?_
  repeat refine wp_seq ?_
  refine M11.tx (F39d_14 x1 y1 z1 c5 c6 c7) [] [(2, 2, (ws c5 ++ (ws c6 ++ (ws c7))))] [(ws x1 ++ (ws y1 ++ (ws z1))), (ws x2 ++ (ws y2 ++ (ws z2))), (ws c5 ++ (ws c6 ++ (ws c7))), (ws c1), (ws c2), (ws c3), (ws c4)] [(4, (.p 2 0))] (by kernel_rfl) (by kernel_rfl) ⟨RG.ld u56 i56 (by kernel_rfl), RG.cl ((rdouble_c C x1 y1 z1).e3 hc5 hc6 hc7) fun _ _ => by kernel_rfl, RG.pt i56 (by kernel_rfl), trivial⟩ ?_
  intro a12 w12 M12
  refine wp_ret ?_
  refine bodyPost_ret (v := (rv c5 c6 c7)) (RG.results_row M12.st 4 54 rfl 2 _ rfl (M12.at (s := (.p 2 0)) (by kernel_rfl)) u56 i56) M12.sl.defers ?_
  exact ⟨_, rfl, M12.st.bel.below, rfl⟩
def F39e_0 : List RG.It := [.m 2 [] 0, .m 3 [] 1, .m 4 [] 2]
def F39e_1 (x1 y1 z1 : Fin P) : List RG.It := [.x 16 [] (rv x1 y1 z1), .c 17 [(16, 0)] (.bool false), .x 5 [(17, 1)] (.bool false)]
def F39e_2 : List RG.It := [.x 18 [] (.bool false)]
def F39e_4 (x2 y2 z2 : Fin P) : List RG.It := [.x 20 [] (rv x2 y2 z2), .c 21 [(20, 0)] (.bool false), .x 5 [(21, 1)] (.bool false)]
def F39e_5 : List RG.It := [.x 22 [] (.bool false)]
def F39e_7 (z1 y2 c1 : Fin P) : List RG.It := [.c 24 [] rv0, .s 25 [] (.p 1 4), .x 26 [(25, 1)] (fv y2), .s 27 [] (.p 0 8), .x 28 [(27, 3)] (fv z1), .c 29 [(24, 0), (26, 2), (28, 4)] (fv c1), .m 6 [] 3, .u [(6, 6), (29, 5)] 3]
def F39e_8 (z1 x2 c2 : Fin P) : List RG.It := [.c 30 [] rv0, .s 31 [] (.p 1 0), .x 32 [(31, 1)] (fv x2), .s 33 [] (.p 0 8), .x 34 [(33, 3)] (fv z1), .c 35 [(30, 0), (32, 2), (34, 4)] (fv c2), .m 7 [] 4, .u [(7, 6), (35, 5)] 4]
def F39e_9 (y1 z2 c3 : Fin P) : List RG.It := [.c 36 [] rv0, .s 37 [] (.p 0 4), .x 38 [(37, 1)] (fv y1), .s 39 [] (.p 1 8), .x 40 [(39, 3)] (fv z2), .c 41 [(36, 0), (38, 2), (40, 4)] (fv c3), .m 8 [] 5, .u [(8, 6), (41, 5)] 5]
def F39e_10 (x1 z2 c4 : Fin P) : List RG.It := [.c 42 [] rv0, .s 43 [] (.p 0 0), .x 44 [(43, 1)] (fv x1), .s 45 [] (.p 1 8), .x 46 [(45, 3)] (fv z2), .c 47 [(42, 0), (44, 2), (46, 4)] (fv c4), .m 9 [] 6, .u [(9, 6), (47, 5)] 6]
def F39e_11 (c2 c4 : Fin P) : List RG.It := [.x 48 [] (fv c2), .x 49 [] (fv c4), .x 50 [(48, 0), (49, 1)] (.bool false)]
def F39e_15 (c1 c3 c5 : Fin P) : List RG.It := [.c 61 [] rv0, .x 62 [] (fv c1), .x 63 [] (fv c3), .c 64 [(61, 0), (62, 1), (63, 2)] (fv c5), .m 10 [] 7, .u [(10, 4), (64, 3)] 7]
def F39e_16 (c2 c4 c6 : Fin P) : List RG.It := [.c 65 [] rv0, .x 66 [] (fv c2), .x 67 [] (fv c4), .c 68 [(65, 0), (66, 1), (67, 2)] (fv c6), .m 11 [] 8, .u [(11, 4), (68, 3)] 8]
def F39e_17 (z1 z2 c7 : Fin P) : List RG.It := [.c 69 [] rv0, .s 70 [] (.p 0 8), .x 71 [(70, 1)] (fv z1), .s 72 [] (.p 1 8), .x 73 [(72, 3)] (fv z2), .c 74 [(69, 0), (71, 2), (73, 4)] (fv c7), .m 12 [] 9, .u [(12, 6), (74, 5)] 9]
def F39e_18 (c6 c8 : Fin P) : List RG.It := [.c 75 [] rv0, .x 76 [] (fv c6), .x 77 [] (fv c6), .c 78 [(75, 0), (76, 1), (77, 2)] (fv c8), .m 13 [] 10, .u [(13, 4), (78, 3)] 10]
def F39e_19 (c6 c8 c9 : Fin P) : List RG.It := [.c 79 [] rv0, .x 80 [] (fv c8), .x 81 [] (fv c6), .c 82 [(79, 0), (80, 1), (81, 2)] (fv c9), .m 14 [] 11, .u [(14, 4), (82, 3)] 11]
def F39e_20 (c4 c5 c7 c8 c9 c10 c11 c12 c13 c14 c15 : Fin P) : List RG.It := [.c 83 [] rv0, .c 84 [] rv0, .c 85 [] rv0, .c 86 [] rv0, .x 87 [] (fv c5), .x 88 [] (fv c5), .c 89 [(86, 3), (87, 4), (88, 5)] (fv c10), .x 90 [] (fv c7), .c 91 [(85, 2), (89, 6), (90, 7)] (fv c11), .x 92 [] (fv c9), .c 93 [(84, 1), (91, 8), (92, 9)] (fv c12), .c 94 [] rv0, .c 95 [] rv0, .x 96 [] (fv c4), .x 97 [] (fv c4), .c 98 [(95, 12), (96, 13), (97, 14)] (fv c13), .x 99 [] (fv c8), .c 100 [(94, 11), (98, 15), (99, 16)] (fv c14), .c 101 [(83, 0), (93, 10), (100, 17)] (fv c15), .m 15 [] 12, .u [(15, 19), (101, 18)] 12]
def F39e_21 (c3 c4 c5 c6 c7 c8 c9 c15 c16 c17 c18 c19 c20 c21 c22 : Fin P) : List RG.It := [.c 102 [] rv0, .x 103 [] (fv c6), .x 104 [] (fv c15), .c 105 [(102, 0), (103, 1), (104, 2)] (fv c16), .c 106 [] rv0, .c 107 [] rv0, .x 108 [] (fv c5), .c 109 [] rv0, .c 110 [] rv0, .x 111 [] (fv c4), .x 112 [] (fv c8), .c 113 [(110, 8), (111, 9), (112, 10)] (fv c17), .x 114 [] (fv c15), .c 115 [(109, 7), (113, 11), (114, 12)] (fv c18), .c 116 [(107, 5), (108, 6), (115, 13)] (fv c19), .c 117 [] rv0, .x 118 [] (fv c3), .x 119 [] (fv c9), .c 120 [(117, 15), (118, 16), (119, 17)] (fv c20), .c 121 [(106, 4), (116, 14), (120, 18)] (fv c21), .c 122 [] rv0, .x 123 [] (fv c9), .x 124 [] (fv c7), .c 125 [(122, 20), (123, 21), (124, 22)] (fv c22), .x 126 [(105, 3), (121, 19), (125, 23)] (rv c16 c21 c22), .u [(126, 24)] 2]
set_option maxHeartbeats 2000000 in
set_option maxRecDepth 100000 in
theorem rPlus_e_c (C : Fl3 P) (x1 y1 z1 x2 y2 z2 : Fin P)(hz1 : ¬ z1 = 0) (hz2 : ¬ z2 = 0) (hv : ¬ x2 * z1 = x1 * z2)  : Gives 26 #[(rv x1 y1 z1), (rv x2 y2 z2)] (rv ((x2 * z1 - x1 * z2) * EC.frT (y2 * z1 - y1 * z2) (x2 * z1 - x1 * z2) (z1 * z2) (x1 * z2)) ((y2 * z1 - y1 * z2) * (x1 * z2 * ((x2 * z1 - x1 * z2) * (x2 * z1 - x1 * z2)) - EC.frT (y2 * z1 - y1 * z2) (x2 * z1 - x1 * z2) (z1 * z2) (x1 * z2)) - y1 * z2 * ((x2 * z1 - x1 * z2) * (x2 * z1 - x1 * z2) * (x2 * z1 - x1 * z2))) ((x2 * z1 - x1 * z2) * (x2 * z1 - x1 * z2) * (x2 * z1 - x1 * z2) * (z1 * z2))) := by
  intro w
  obtain ⟨c1, hc1⟩ : ∃ c, c = y2 * z1 := ⟨_, rfl⟩
  obtain ⟨c2, hc2⟩ : ∃ c, c = x2 * z1 := ⟨_, rfl⟩
  obtain ⟨c3, hc3⟩ : ∃ c, c = y1 * z2 := ⟨_, rfl⟩
  obtain ⟨c4, hc4⟩ : ∃ c, c = x1 * z2 := ⟨_, rfl⟩
  obtain ⟨c5, hc5⟩ : ∃ c, c = c1 - c3 := ⟨_, rfl⟩
  obtain ⟨c6, hc6⟩ : ∃ c, c = c2 - c4 := ⟨_, rfl⟩
  obtain ⟨c7, hc7⟩ : ∃ c, c = z1 * z2 := ⟨_, rfl⟩
  obtain ⟨c8, hc8⟩ : ∃ c, c = c6 * c6 := ⟨_, rfl⟩
  obtain ⟨c9, hc9⟩ : ∃ c, c = c8 * c6 := ⟨_, rfl⟩
  obtain ⟨c10, hc10⟩ : ∃ c, c = c5 * c5 := ⟨_, rfl⟩
  obtain ⟨c11, hc11⟩ : ∃ c, c = c10 * c7 := ⟨_, rfl⟩
  obtain ⟨c12, hc12⟩ : ∃ c, c = c11 - c9 := ⟨_, rfl⟩
  obtain ⟨c13, hc13⟩ : ∃ c, c = c4 + c4 := ⟨_, rfl⟩
  obtain ⟨c14, hc14⟩ : ∃ c, c = c13 * c8 := ⟨_, rfl⟩
  obtain ⟨c15, hc15⟩ : ∃ c, c = c12 - c14 := ⟨_, rfl⟩
  obtain ⟨c16, hc16⟩ : ∃ c, c = c6 * c15 := ⟨_, rfl⟩
  obtain ⟨c17, hc17⟩ : ∃ c, c = c4 * c8 := ⟨_, rfl⟩
  obtain ⟨c18, hc18⟩ : ∃ c, c = c17 - c15 := ⟨_, rfl⟩
  obtain ⟨c19, hc19⟩ : ∃ c, c = c5 * c18 := ⟨_, rfl⟩
  obtain ⟨c20, hc20⟩ : ∃ c, c = c3 * c9 := ⟨_, rfl⟩
  obtain ⟨c21, hc21⟩ : ∃ c, c = c19 - c20 := ⟨_, rfl⟩
  obtain ⟨c22, hc22⟩ : ∃ c, c = c9 * c7 := ⟨_, rfl⟩
  have hfin : ((rv c16 c21 c22) : Value) = (rv ((x2 * z1 - x1 * z2) * EC.frT (y2 * z1 - y1 * z2) (x2 * z1 - x1 * z2) (z1 * z2) (x1 * z2)) ((y2 * z1 - y1 * z2) * (x1 * z2 * ((x2 * z1 - x1 * z2) * (x2 * z1 - x1 * z2)) - EC.frT (y2 * z1 - y1 * z2) (x2 * z1 - x1 * z2) (z1 * z2) (x1 * z2)) - y1 * z2 * ((x2 * z1 - x1 * z2) * (x2 * z1 - x1 * z2) * (x2 * z1 - x1 * z2))) ((x2 * z1 - x1 * z2) * (x2 * z1 - x1 * z2) * (x2 * z1 - x1 * z2) * (z1 * z2))) := by
    subst_vars; rfl
  rw [← hfin]
  go_enter Try.func26, Try.ntmps26
  refine RG.M.enter [(0, (.v (rv x1 y1 z1))), (1, (.v (rv x2 y2 z2)))] 127 (by kernel_rfl) ?_
  intro a0 M0
  repeat refine wp_seq ?_
  refine M0.tx F39e_0 [(0, (ws x1 ++ (ws y1 ++ (ws z1)))), (1, (ws x2 ++ (ws y2 ++ (ws z2)))), (2, (RG.z 12))] [] [(ws x1 ++ (ws y1 ++ (ws z1))), (ws x2 ++ (ws y2 ++ (ws z2))), (RG.z 12)] [(2, (.p 0 0)), (3, (.p 1 0)), (4, (.p 2 0))] (by kernel_rfl) (by kernel_rfl) ⟨RG.mk 0 54 fun _ _ => by kernel_rfl, RG.mk 1 54 fun _ _ => by kernel_rfl, RG.mk 2 54 fun _ _ => by kernel_rfl, trivial⟩ ?_
  intro j1 i1 m1 a1 w1 M1
  repeat refine wp_seq ?_
  refine M1.tx0 (F39e_1 x1 y1 z1) [(2, (.p 0 0)), (3, (.p 1 0)), (4, (.p 2 0)), (5, (.v (.bool false)))] (by kernel_rfl) ⟨RG.ld u56 i56 (by kernel_rfl), RG.cl (Is_f_c C x1 y1 z1 hz1) fun _ _ => by kernel_rfl, RG.st fun _ _ => by kernel_rfl, trivial⟩ ?_
  intro a2 w2 M2
  repeat refine wp_seq ?_
  refine M2.tx0 F39e_2 [(2, (.p 0 0)), (3, (.p 1 0)), (4, (.p 2 0)), (5, (.v (.bool false))), (18, (.v (.bool false)))] (by kernel_rfl) ⟨RG.st fun _ _ => by kernel_rfl, trivial⟩ ?_
  intro a3 w3 M3
  repeat refine wp_seq ?_
  refine wp_cond_false (M3.ev (by kernel_rfl)) ?_
  refine wp_skip ?_
  repeat refine wp_seq ?_
  refine M3.tx0 (F39e_4 x2 y2 z2) [(2, (.p 0 0)), (3, (.p 1 0)), (4, (.p 2 0)), (5, (.v (.bool false)))] (by kernel_rfl) ⟨RG.ld u56 i56 (by kernel_rfl), RG.cl (Is_f_c C x2 y2 z2 hz2) fun _ _ => by kernel_rfl, RG.st fun _ _ => by kernel_rfl, trivial⟩ ?_
  intro a4 w4 M4
  repeat refine wp_seq ?_
  refine M4.tx0 F39e_5 [(2, (.p 0 0)), (3, (.p 1 0)), (4, (.p 2 0)), (22, (.v (.bool false)))] (by kernel_rfl) ⟨RG.st fun _ _ => by kernel_rfl, trivial⟩ ?_
  intro a5 w5 M5
  repeat refine wp_seq ?_
  refine wp_cond_false (M5.ev (by kernel_rfl)) ?_
  refine wp_skip ?_
  repeat refine wp_seq ?_
  refine M5.dr (by kernel_rfl) (F39e_7 z1 y2 c1) [(6, (RG.z 4))] [(3, 7, (ws c1))] [(ws x1 ++ (ws y1 ++ (ws z1))), (ws x2 ++ (ws y2 ++ (ws z2))), (RG.z 12), (ws c1)] [(2, (.p 0 0)), (3, (.p 1 0)), (4, (.p 2 0)), (6, (.p 3 0))] (by kernel_rfl) (by kernel_rfl) ⟨RG.cl (F3_c) fun _ _ => by kernel_rfl, RG.st fun _ _ => by kernel_rfl, RG.ld u33 i33 (by kernel_rfl), RG.st fun _ _ => by kernel_rfl, RG.ld u33 i33 (by kernel_rfl), RG.cl ((rMul_c C y2 z1).e hc1) fun _ _ => by kernel_rfl, RG.mk 3 44 fun _ _ => by kernel_rfl, RG.pt i33 (by kernel_rfl), trivial⟩ ?_
  intro j6 a6 w6 M6
  repeat refine wp_seq ?_
  refine M6.dr (by kernel_rfl) (F39e_8 z1 x2 c2) [(6, (RG.z 4))] [(4, 7, (ws c2))] [(ws x1 ++ (ws y1 ++ (ws z1))), (ws x2 ++ (ws y2 ++ (ws z2))), (RG.z 12), (ws c1), (ws c2)] [(2, (.p 0 0)), (3, (.p 1 0)), (4, (.p 2 0)), (6, (.p 3 0)), (7, (.p 4 0))] (by kernel_rfl) (by kernel_rfl) ⟨RG.cl (F3_c) fun _ _ => by kernel_rfl, RG.st fun _ _ => by kernel_rfl, RG.ld u33 i33 (by kernel_rfl), RG.st fun _ _ => by kernel_rfl, RG.ld u33 i33 (by kernel_rfl), RG.cl ((rMul_c C x2 z1).e hc2) fun _ _ => by kernel_rfl, RG.mk 4 44 fun _ _ => by kernel_rfl, RG.pt i33 (by kernel_rfl), trivial⟩ ?_
  intro j7 a7 w7 M7
  repeat refine wp_seq ?_
  refine M7.dr (by kernel_rfl) (F39e_9 y1 z2 c3) [(6, (RG.z 4))] [(5, 7, (ws c3))] [(ws x1 ++ (ws y1 ++ (ws z1))), (ws x2 ++ (ws y2 ++ (ws z2))), (RG.z 12), (ws c1), (ws c2), (ws c3)] [(2, (.p 0 0)), (3, (.p 1 0)), (4, (.p 2 0)), (6, (.p 3 0)), (7, (.p 4 0)), (8, (.p 5 0))] (by kernel_rfl) (by kernel_rfl) ⟨RG.cl (F3_c) fun _ _ => by kernel_rfl, RG.st fun _ _ => by kernel_rfl, RG.ld u33 i33 (by kernel_rfl), RG.st fun _ _ => by kernel_rfl, RG.ld u33 i33 (by kernel_rfl), RG.cl ((rMul_c C y1 z2).e hc3) fun _ _ => by kernel_rfl, RG.mk 5 44 fun _ _ => by kernel_rfl, RG.pt i33 (by kernel_rfl), trivial⟩ ?_
  intro j8 a8 w8 M8
  repeat refine wp_seq ?_
  refine M8.dr (by kernel_rfl) (F39e_10 x1 z2 c4) [(6, (RG.z 4))] [(6, 7, (ws c4))] [(ws x1 ++ (ws y1 ++ (ws z1))), (ws x2 ++ (ws y2 ++ (ws z2))), (RG.z 12), (ws c1), (ws c2), (ws c3), (ws c4)] [(2, (.p 0 0)), (3, (.p 1 0)), (4, (.p 2 0)), (6, (.p 3 0)), (7, (.p 4 0)), (8, (.p 5 0)), (9, (.p 6 0))] (by kernel_rfl) (by kernel_rfl) ⟨RG.cl (F3_c) fun _ _ => by kernel_rfl, RG.st fun _ _ => by kernel_rfl, RG.ld u33 i33 (by kernel_rfl), RG.st fun _ _ => by kernel_rfl, RG.ld u33 i33 (by kernel_rfl), RG.cl ((rMul_c C x1 z2).e hc4) fun _ _ => by kernel_rfl, RG.mk 6 44 fun _ _ => by kernel_rfl, RG.pt i33 (by kernel_rfl), trivial⟩ ?_
  intro j9 a9 w9 M9
  repeat refine wp_seq ?_
  refine M9.tx0 (F39e_11 c2 c4) [(2, (.p 0 0)), (3, (.p 1 0)), (4, (.p 2 0)), (6, (.p 3 0)), (7, (.p 4 0)), (8, (.p 5 0)), (9, (.p 6 0)), (50, (.v (.bool false)))] (by kernel_rfl) ⟨RG.ld u33 i33 (by kernel_rfl), RG.ld u33 i33 (by kernel_rfl), RG.cert_bin rfl .eql 44 44 48 49 (fv c2) (fv c4) (.bool false) rfl rfl (RG.sx fun _ => by kernel_rfl) (RG.sx fun _ => by kernel_rfl) (fun w => by kernel_rfl) (eqR_f C.toFld (by subst_vars; exact hv)), trivial⟩ ?_
  intro a10 w10 M10
  repeat refine wp_seq ?_
  refine wp_cond_false (M10.ev (by kernel_rfl)) ?_
  refine wp_skip ?_
  repeat refine wp_seq ?_
  refine M10.dr (by kernel_rfl) (F39e_15 c1 c3 c5) [(4, (RG.z 4))] [(7, 5, (ws c5))] [(ws x1 ++ (ws y1 ++ (ws z1))), (ws x2 ++ (ws y2 ++ (ws z2))), (RG.z 12), (ws c1), (ws c2), (ws c3), (ws c4), (ws c5)] [(2, (.p 0 0)), (3, (.p 1 0)), (4, (.p 2 0)), (7, (.p 4 0)), (8, (.p 5 0)), (9, (.p 6 0)), (10, (.p 7 0))] (by kernel_rfl) (by kernel_rfl) ⟨RG.cl (F3_c) fun _ _ => by kernel_rfl, RG.ld u33 i33 (by kernel_rfl), RG.ld u33 i33 (by kernel_rfl), RG.cl ((rSub_c C c1 c3).e hc5) fun _ _ => by kernel_rfl, RG.mk 7 44 fun _ _ => by kernel_rfl, RG.pt i33 (by kernel_rfl), trivial⟩ ?_
  intro j11 a11 w11 M11
  repeat refine wp_seq ?_
  refine M11.dr (by kernel_rfl) (F39e_16 c2 c4 c6) [(4, (RG.z 4))] [(8, 5, (ws c6))] [(ws x1 ++ (ws y1 ++ (ws z1))), (ws x2 ++ (ws y2 ++ (ws z2))), (RG.z 12), (ws c1), (ws c2), (ws c3), (ws c4), (ws c5), (ws c6)] [(2, (.p 0 0)), (3, (.p 1 0)), (4, (.p 2 0)), (8, (.p 5 0)), (9, (.p 6 0)), (10, (.p 7 0)), (11, (.p 8 0))] (by kernel_rfl) (by kernel_rfl) ⟨RG.cl (F3_c) fun _ _ => by kernel_rfl, RG.ld u33 i33 (by kernel_rfl), RG.ld u33 i33 (by kernel_rfl), RG.cl ((rSub_c C c2 c4).e hc6) fun _ _ => by kernel_rfl, RG.mk 8 44 fun _ _ => by kernel_rfl, RG.pt i33 (by kernel_rfl), trivial⟩ ?_
  intro j12 a12 w12 M12
  repeat refine wp_seq ?_
  refine M12.dr (by kernel_rfl) (F39e_17 z1 z2 c7) [(6, (RG.z 4))] [(9, 7, (ws c7))] [(ws x1 ++ (ws y1 ++ (ws z1))), (ws x2 ++ (ws y2 ++ (ws z2))), (RG.z 12), (ws c1), (ws c2), (ws c3), (ws c4), (ws c5), (ws c6), (ws c7)] [(4, (.p 2 0)), (8, (.p 5 0)), (9, (.p 6 0)), (10, (.p 7 0)), (11, (.p 8 0)), (12, (.p 9 0))] (by kernel_rfl) (by kernel_rfl) ⟨RG.cl (F3_c) fun _ _ => by kernel_rfl, RG.st fun _ _ => by kernel_rfl, RG.ld u33 i33 (by kernel_rfl), RG.st fun _ _ => by kernel_rfl, RG.ld u33 i33 (by kernel_rfl), RG.cl ((rMul_c C z1 z2).e hc7) fun _ _ => by kernel_rfl, RG.mk 9 44 fun _ _ => by kernel_rfl, RG.pt i33 (by kernel_rfl), trivial⟩ ?_
  intro j13 a13 w13 M13
  repeat refine wp_seq ?_
  refine M13.dr (by kernel_rfl) (F39e_18 c6 c8) [(4, (RG.z 4))] [(10, 5, (ws c8))] [(ws x1 ++ (ws y1 ++ (ws z1))), (ws x2 ++ (ws y2 ++ (ws z2))), (RG.z 12), (ws c1), (ws c2), (ws c3), (ws c4), (ws c5), (ws c6), (ws c7), (ws c8)] [(4, (.p 2 0)), (8, (.p 5 0)), (9, (.p 6 0)), (10, (.p 7 0)), (11, (.p 8 0)), (12, (.p 9 0)), (13, (.p 10 0))] (by kernel_rfl) (by kernel_rfl) ⟨RG.cl (F3_c) fun _ _ => by kernel_rfl, RG.ld u33 i33 (by kernel_rfl), RG.ld u33 i33 (by kernel_rfl), RG.cl ((rMul_c C c6 c6).e hc8) fun _ _ => by kernel_rfl, RG.mk 10 44 fun _ _ => by kernel_rfl, RG.pt i33 (by kernel_rfl), trivial⟩ ?_
  intro j14 a14 w14 M14
  repeat refine wp_seq ?_
  refine M14.dr (by kernel_rfl) (F39e_19 c6 c8 c9) [(4, (RG.z 4))] [(11, 5, (ws c9))] [(ws x1 ++ (ws y1 ++ (ws z1))), (ws x2 ++ (ws y2 ++ (ws z2))), (RG.z 12), (ws c1), (ws c2), (ws c3), (ws c4), (ws c5), (ws c6), (ws c7), (ws c8), (ws c9)] [(4, (.p 2 0)), (8, (.p 5 0)), (9, (.p 6 0)), (10, (.p 7 0)), (11, (.p 8 0)), (12, (.p 9 0)), (13, (.p 10 0)), (14, (.p 11 0))] (by kernel_rfl) (by kernel_rfl) ⟨RG.cl (F3_c) fun _ _ => by kernel_rfl, RG.ld u33 i33 (by kernel_rfl), RG.ld u33 i33 (by kernel_rfl), RG.cl ((rMul_c C c8 c6).e hc9) fun _ _ => by kernel_rfl, RG.mk 11 44 fun _ _ => by kernel_rfl, RG.pt i33 (by kernel_rfl), trivial⟩ ?_
  intro j15 a15 w15 M15
  repeat refine wp_seq ?_
  refine M15.dr (by kernel_rfl) (F39e_20 c4 c5 c7 c8 c9 c10 c11 c12 c13 c14 c15) [(19, (RG.z 4))] [(12, 20, (ws c15))] [(ws x1 ++ (ws y1 ++ (ws z1))), (ws x2 ++ (ws y2 ++ (ws z2))), (RG.z 12), (ws c1), (ws c2), (ws c3), (ws c4), (ws c5), (ws c6), (ws c7), (ws c8), (ws c9), (ws c15)] [(4, (.p 2 0)), (8, (.p 5 0)), (9, (.p 6 0)), (10, (.p 7 0)), (11, (.p 8 0)), (12, (.p 9 0)), (13, (.p 10 0)), (14, (.p 11 0)), (15, (.p 12 0))] (by kernel_rfl) (by kernel_rfl) ⟨RG.cl (F3_c) fun _ _ => by kernel_rfl, RG.cl (F3_c) fun _ _ => by kernel_rfl, RG.cl (F3_c) fun _ _ => by kernel_rfl, RG.cl (F3_c) fun _ _ => by kernel_rfl, RG.ld u33 i33 (by kernel_rfl), RG.ld u33 i33 (by kernel_rfl), RG.cl ((rMul_c C c5 c5).e hc10) fun _ _ => by kernel_rfl, RG.ld u33 i33 (by kernel_rfl), RG.cl ((rMul_c C c10 c7).e hc11) fun _ _ => by kernel_rfl, RG.ld u33 i33 (by kernel_rfl), RG.cl ((rSub_c C c11 c9).e hc12) fun _ _ => by kernel_rfl, RG.cl (F3_c) fun _ _ => by kernel_rfl, RG.cl (F3_c) fun _ _ => by kernel_rfl, RG.ld u33 i33 (by kernel_rfl), RG.ld u33 i33 (by kernel_rfl), RG.cl ((rAdd_c C c4 c4).e hc13) fun _ _ => by kernel_rfl, RG.ld u33 i33 (by kernel_rfl), RG.cl ((rMul_c C c13 c8).e hc14) fun _ _ => by kernel_rfl, RG.cl ((rSub_c C c12 c14).e hc15) fun _ _ => by kernel_rfl, RG.mk 12 44 fun _ _ => by kernel_rfl, RG.pt i33 (by kernel_rfl), trivial⟩ ?_
  intro j16 a16 w16 M16
  repeat refine wp_seq ?_
  refine M16.dr (by kernel_rfl) (F39e_21 c3 c4 c5 c6 c7 c8 c9 c15 c16 c17 c18 c19 c20 c21 c22) [] [(2, 25, (ws c16 ++ (ws c21 ++ (ws c22))))] [(ws x1 ++ (ws y1 ++ (ws z1))), (ws x2 ++ (ws y2 ++ (ws z2))), (ws c16 ++ (ws c21 ++ (ws c22))), (ws c1), (ws c2), (ws c3), (ws c4), (ws c5), (ws c6), (ws c7), (ws c8), (ws c9), (ws c15)] [(4, (.p 2 0))] (by kernel_rfl) (by kernel_rfl) ⟨RG.cl (F3_c) fun _ _ => by kernel_rfl, RG.ld u33 i33 (by kernel_rfl), RG.ld u33 i33 (by kernel_rfl), RG.cl ((rMul_c C c6 c15).e hc16) fun _ _ => by kernel_rfl, RG.cl (F3_c) fun _ _ => by kernel_rfl, RG.cl (F3_c) fun _ _ => by kernel_rfl, RG.ld u33 i33 (by kernel_rfl), RG.cl (F3_c) fun _ _ => by kernel_rfl, RG.cl (F3_c) fun _ _ => by kernel_rfl, RG.ld u33 i33 (by kernel_rfl), RG.ld u33 i33 (by kernel_rfl), RG.cl ((rMul_c C c4 c8).e hc17) fun _ _ => by kernel_rfl, RG.ld u33 i33 (by kernel_rfl), RG.cl ((rSub_c C c17 c15).e hc18) fun _ _ => by kernel_rfl, RG.cl ((rMul_c C c5 c18).e hc19) fun _ _ => by kernel_rfl, RG.cl (F3_c) fun _ _ => by kernel_rfl, RG.ld u33 i33 (by kernel_rfl), RG.ld u33 i33 (by kernel_rfl), RG.cl ((rMul_c C c3 c9).e hc20) fun _ _ => by kernel_rfl, RG.cl ((rSub_c C c19 c20).e hc21) fun _ _ => by kernel_rfl, RG.cl (F3_c) fun _ _ => by kernel_rfl, RG.ld u33 i33 (by kernel_rfl), RG.ld u33 i33 (by kernel_rfl), RG.cl ((rMul_c C c9 c7).e hc22) fun _ _ => by kernel_rfl, RG.st fun _ _ => by kernel_rfl, RG.pt i56 (by kernel_rfl), trivial⟩ ?_
  intro a17 w17 M17
  refine wp_ret ?_
  refine bodyPost_ret (v := (rv c16 c21 c22)) (RG.results_row M17.st 4 54 rfl 2 _ rfl (M17.at (s := (.p 2 0)) (by kernel_rfl)) u56 i56) M17.sl.defers ?_
  exact ⟨_, rfl, M17.st.bel.below, rfl⟩
def F70y_0 (x : Fin P) : List RG.It := [.m 1 [] 0, .m 2 [] 1, .x 3 [] (.bool false)]
def F70y_1 (x y c1 c2 c3 : Fin P) : List RG.It := [.c 7 [] rv0, .c 8 [] rv0, .c 9 [] rv0, .c 10 [] rv0, .x 11 [] (fv x), .x 12 [] (fv x), .c 13 [(10, 3), (11, 4), (12, 5)] (fv c1), .x 14 [] (fv x), .c 15 [(9, 2), (13, 6), (14, 7)] (fv c2), .c 16 [] (fv (7 : Fin P)), .c 17 [(8, 1), (15, 8), (16, 9)] (fv c3), .c 18 [(7, 0), (17, 10)] (.tuple #[(fv y), (.bool true)]), .x 6 [(18, 11)] (.tuple #[(fv y), (.bool true)]), .x 19 [(6, 12)] (fv y), .x 20 [(6, 12)] (.bool true), .m 4 [] 2, .u [(4, 15), (19, 13)] 2, .x 5 [(20, 14)] (.bool true)]
def F70y_2 (x y : Fin P) : List RG.It := [.x 21 [] (fv x), .x 22 [] (fv y), .c 23 [] (fv (1 : Fin P)), .x 24 [(21, 0), (22, 1), (23, 2)] (rv x y (1 : Fin P)), .x 25 [] (.bool true), .u [(24, 3)] 1, .x 3 [(25, 4)] (.bool true)]
set_option maxHeartbeats 2000000 in
set_option maxRecDepth 100000 in
theorem rat_y_c (C : Fl3 P) (x y : Fin P)(hr : rt (x * x * x + 7) = some y)  : Gives 47 #[(fv x)] (.tuple #[rv x y 1, .bool true]) := by
  intro w
  obtain ⟨c1, hc1⟩ : ∃ c, c = x * x := ⟨_, rfl⟩
  obtain ⟨c2, hc2⟩ : ∃ c, c = c1 * x := ⟨_, rfl⟩
  obtain ⟨c3, hc3⟩ : ∃ c, c = c2 + (7 : Fin P) := ⟨_, rfl⟩
  have hfin : ((.tuple #[(rv x y (1 : Fin P)), (.bool true)]) : Value) = (.tuple #[rv x y 1, .bool true]) := by
    subst_vars; rfl
  rw [← hfin]
  go_enter Try.func47, Try.ntmps47
  refine RG.M.enter [(0, (.v (fv x)))] 26 (by kernel_rfl) ?_
  intro a0 M0
  repeat refine wp_seq ?_
  refine M0.tx (F70y_0 x) [(0, (ws x)), (1, (RG.z 12))] [] [(ws x), (RG.z 12)] [(1, (.p 0 0)), (2, (.p 1 0)), (3, (.v (.bool false)))] (by kernel_rfl) (by kernel_rfl) ⟨RG.mk 0 44 fun _ _ => by kernel_rfl, RG.mk 1 54 fun _ _ => by kernel_rfl, RG.st fun _ _ => by kernel_rfl, trivial⟩ ?_
  intro j1 i1 a1 w1 M1
  repeat refine wp_seq ?_
  refine M1.dr (by kernel_rfl) (F70y_1 x y c1 c2 c3) [(15, (RG.z 4))] [(2, 16, (ws y))] [(ws x), (RG.z 12), (ws y)] [(1, (.p 0 0)), (2, (.p 1 0)), (3, (.v (.bool false))), (4, (.p 2 0)), (5, (.v (.bool true)))] (by kernel_rfl) (by kernel_rfl) ⟨RG.cl (F3_c) fun _ _ => by kernel_rfl, RG.cl (F3_c) fun _ _ => by kernel_rfl, RG.cl (F3_c) fun _ _ => by kernel_rfl, RG.cl (F3_c) fun _ _ => by kernel_rfl, RG.ld u33 i33 (by kernel_rfl), RG.ld u33 i33 (by kernel_rfl), RG.cl ((rMul_c C x x).e hc1) fun _ _ => by kernel_rfl, RG.ld u33 i33 (by kernel_rfl), RG.cl ((rMul_c C c1 x).e hc2) fun _ _ => by kernel_rfl, RG.cl (rSmall7_c C) fun _ _ => by kernel_rfl, RG.cl ((rAdd_c C c2 (7 : Fin P)).e hc3) fun _ _ => by kernel_rfl, RG.cl (f := 74) (args := #[rv0, (fv c3)]) (v := (.tuple #[(fv y), (.bool true)])) (rSqrt_y C (by subst_vars; exact hr)) fun _ _ => by kernel_rfl, RG.st fun _ _ => by kernel_rfl, RG.st fun _ _ => by kernel_rfl, RG.st fun _ _ => by kernel_rfl, RG.mk 2 44 fun _ _ => by kernel_rfl, RG.pt i33 (by kernel_rfl), RG.st fun _ _ => by kernel_rfl, trivial⟩ ?_
  intro j2 a2 w2 M2
  repeat refine wp_seq ?_
  refine M2.dr (by kernel_rfl) (F70y_2 x y) [] [(1, 5, (ws x ++ (ws y ++ (ws (1 : Fin P)))))] [(ws x), (ws x ++ (ws y ++ (ws (1 : Fin P)))), (ws y)] [(2, (.p 1 0)), (3, (.v (.bool true)))] (by kernel_rfl) (by kernel_rfl) ⟨RG.ld u33 i33 (by kernel_rfl), RG.ld u33 i33 (by kernel_rfl), RG.cl (rSmall1_c C) fun _ _ => by kernel_rfl, RG.st fun _ _ => by kernel_rfl, RG.st fun _ _ => by kernel_rfl, RG.pt i56 (by kernel_rfl), RG.st fun _ _ => by kernel_rfl, trivial⟩ ?_
  intro a3 w3 M3
  refine wp_ret ?_
  refine bodyPost_ret (v := (.tuple #[(rv x y (1 : Fin P)), (.bool true)])) (RG.results_rt M3.st 2 3 54 rfl 1 _ rfl (M3.at (s := (.p 1 0)) (by kernel_rfl)) _ (M3.at (s := (.v (.bool true))) (by kernel_rfl)) u56 i56) M3.sl.defers ?_
  exact ⟨_, rfl, M3.st.bel.below, rfl⟩
def F70n_0 (x : Fin P) : List RG.It := [.m 1 [] 0, .m 2 [] 1, .x 3 [] (.bool false)]
def F70n_1 (x c1 c2 c3 : Fin P) : List RG.It := [.c 7 [] rv0, .c 8 [] rv0, .c 9 [] rv0, .c 10 [] rv0, .x 11 [] (fv x), .x 12 [] (fv x), .c 13 [(10, 3), (11, 4), (12, 5)] (fv c1), .x 14 [] (fv x), .c 15 [(9, 2), (13, 6), (14, 7)] (fv c2), .c 16 [] (fv (7 : Fin P)), .c 17 [(8, 1), (15, 8), (16, 9)] (fv c3), .c 18 [(7, 0), (17, 10)] (.tuple #[(fv (0 : Fin P)), (.bool false)]), .x 6 [(18, 11)] (.tuple #[(fv (0 : Fin P)), (.bool false)]), .x 19 [(6, 12)] (fv (0 : Fin P)), .x 20 [(6, 12)] (.bool false), .m 4 [] 2, .u [(4, 15), (19, 13)] 2, .x 5 [(20, 14)] (.bool false)]
def F70n_2 (x : Fin P) : List RG.It := [.x 21 [] (fv x), .x 22 [] (fv (0 : Fin P)), .c 23 [] (fv (1 : Fin P)), .x 24 [(21, 0), (22, 1), (23, 2)] (rv x (0 : Fin P) (1 : Fin P)), .x 25 [] (.bool false), .u [(24, 3)] 1, .x 3 [(25, 4)] (.bool false)]
set_option maxHeartbeats 2000000 in
set_option maxRecDepth 100000 in
theorem rat_n_c (C : Fl3 P) (x : Fin P)(hr : rt (x * x * x + 7) = none)  : Gives 47 #[(fv x)] (.tuple #[rv x 0 1, .bool false]) := by
  intro w
  obtain ⟨c1, hc1⟩ : ∃ c, c = x * x := ⟨_, rfl⟩
  obtain ⟨c2, hc2⟩ : ∃ c, c = c1 * x := ⟨_, rfl⟩
  obtain ⟨c3, hc3⟩ : ∃ c, c = c2 + (7 : Fin P) := ⟨_, rfl⟩
  have hfin : ((.tuple #[(rv x (0 : Fin P) (1 : Fin P)), (.bool false)]) : Value) = (.tuple #[rv x 0 1, .bool false]) := by
    subst_vars; rfl
  rw [← hfin]
  go_enter Try.func47, Try.ntmps47
  refine RG.M.enter [(0, (.v (fv x)))] 26 (by kernel_rfl) ?_
  intro a0 M0
  repeat refine wp_seq ?_
  refine M0.tx (F70n_0 x) [(0, (ws x)), (1, (RG.z 12))] [] [(ws x), (RG.z 12)] [(1, (.p 0 0)), (2, (.p 1 0)), (3, (.v (.bool false)))] (by kernel_rfl) (by kernel_rfl) ⟨RG.mk 0 44 fun _ _ => by kernel_rfl, RG.mk 1 54 fun _ _ => by kernel_rfl, RG.st fun _ _ => by kernel_rfl, trivial⟩ ?_
  intro j1 i1 a1 w1 M1
  repeat refine wp_seq ?_
  refine M1.dr (by kernel_rfl) (F70n_1 x c1 c2 c3) [(15, (RG.z 4))] [(2, 16, (ws (0 : Fin P)))] [(ws x), (RG.z 12), (ws (0 : Fin P))] [(1, (.p 0 0)), (2, (.p 1 0)), (3, (.v (.bool false))), (4, (.p 2 0)), (5, (.v (.bool false)))] (by kernel_rfl) (by kernel_rfl) ⟨RG.cl (F3_c) fun _ _ => by kernel_rfl, RG.cl (F3_c) fun _ _ => by kernel_rfl, RG.cl (F3_c) fun _ _ => by kernel_rfl, RG.cl (F3_c) fun _ _ => by kernel_rfl, RG.ld u33 i33 (by kernel_rfl), RG.ld u33 i33 (by kernel_rfl), RG.cl ((rMul_c C x x).e hc1) fun _ _ => by kernel_rfl, RG.ld u33 i33 (by kernel_rfl), RG.cl ((rMul_c C c1 x).e hc2) fun _ _ => by kernel_rfl, RG.cl (rSmall7_c C) fun _ _ => by kernel_rfl, RG.cl ((rAdd_c C c2 (7 : Fin P)).e hc3) fun _ _ => by kernel_rfl, RG.cl (f := 74) (args := #[rv0, (fv c3)]) (v := (.tuple #[(fv (0 : Fin P)), (.bool false)])) (rSqrt_n C (by subst_vars; exact hr)) fun _ _ => by kernel_rfl, RG.st fun _ _ => by kernel_rfl, RG.st fun _ _ => by kernel_rfl, RG.st fun _ _ => by kernel_rfl, RG.mk 2 44 fun _ _ => by kernel_rfl, RG.pt i33 (by kernel_rfl), RG.st fun _ _ => by kernel_rfl, trivial⟩ ?_
  intro j2 a2 w2 M2
  repeat refine wp_seq ?_
  refine M2.dr (by kernel_rfl) (F70n_2 x) [] [(1, 5, (ws x ++ (ws (0 : Fin P) ++ (ws (1 : Fin P)))))] [(ws x), (ws x ++ (ws (0 : Fin P) ++ (ws (1 : Fin P)))), (ws (0 : Fin P))] [(2, (.p 1 0)), (3, (.v (.bool false)))] (by kernel_rfl) (by kernel_rfl) ⟨RG.ld u33 i33 (by kernel_rfl), RG.ld u33 i33 (by kernel_rfl), RG.cl (rSmall1_c C) fun _ _ => by kernel_rfl, RG.st fun _ _ => by kernel_rfl, RG.st fun _ _ => by kernel_rfl, RG.pt i56 (by kernel_rfl), RG.st fun _ _ => by kernel_rfl, trivial⟩ ?_
  intro a3 w3 M3
  refine wp_ret ?_
  refine bodyPost_ret (v := (.tuple #[(rv x (0 : Fin P) (1 : Fin P)), (.bool false)])) (RG.results_rt M3.st 2 3 54 rfl 1 _ rfl (M3.at (s := (.p 1 0)) (by kernel_rfl)) _ (M3.at (s := (.v (.bool false))) (by kernel_rfl)) u56 i56) M3.sl.defers ?_
  exact ⟨_, rfl, M3.st.bel.below, rfl⟩
end Go.Proofs.Yticolhhalbbogae
