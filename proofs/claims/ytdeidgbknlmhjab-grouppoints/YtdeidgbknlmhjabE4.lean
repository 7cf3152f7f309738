import Derived.Test.YtdeidgbknlmhjabE3
import Derived.Test.YtdeidgbknlmhjabC3
import Derived.Test.YtdeidgbknlmhjabK1
import Derived.Test.YtdeidgbknlmhjabK2
import Derived.Deep.LoopGhost
import Derived.Deep.RegionHeld3
import Derived.Deep.CutRange
namespace Go.Proofs.Ytdeidgbknlmhjab
open Go.RowKit Go.Sort

structure LessI (w wr : World) (p0 p1 p2 p3 c0 c1 c2 c3 a b c d e f g h : Nat) : Prop where
  bl : Below w.heap.size w wr
  fr : At8 wr w.heap.size p0 p1 p2 p3 c0 c1 c2 c3
  wi : At8 wr (w.heap.size + 1) a b c d e f g h
  re : At4 wr (w.heap.size + 1 + 1) 0 0 0 0
  ha : a < 18446744073709551616
  hb : b < 18446744073709551616
  hc : c < 18446744073709551616
  hd : d < 18446744073709551616
  he : e < 18446744073709551616
  hf : f < 18446744073709551616
  hg : g < 18446744073709551616
  hh : h < 18446744073709551616

theorem blcall8 {k a b c d e f g h : Nat} {w W w1 : World} (H : Hid (Below k w W)) (pr : At8 W k a b c d e f g h) (hb : Below W.heap.size W w1) : Hid (Below k w w1) := H.out.trans (hb.mono (Nat.le_of_lt pr.lt))

theorem mul_lt_top {x y : Nat} (hx : x < top) (hy : y < top) : x * y + top ≤ top * top := by
  have h1 : x * y ≤ (top - 1) * (top - 1) := Nat.mul_le_mul (by omega) (by omega)
  have h2 : (top - 1) * (top - 1) + top ≤ top * top := by unfold top; decide
  omega

section
variable {w w0 : World} {k a b c d e f g h j B : Nat}
theorem below_set8x (H : Below B w0 w) (hj : B ≤ j) (x0 x1 x2 x3 x4 x5 x6 x7 : Value) : Below B w0 ((((((((w.setCell ⟨j, 0, none⟩ x0).setCell ⟨j, 1, none⟩ x1).setCell ⟨j, 2, none⟩ x2).setCell ⟨j, 3, none⟩ x3).setCell ⟨j, 4, none⟩ x4).setCell ⟨j, 5, none⟩ x5).setCell ⟨j, 6, none⟩ x6).setCell ⟨j, 7, none⟩ x7) := below_set8c H hj x0 x1 x2 x3 x4 x5 x6 x7
theorem At8.other8x (H : At8 w k a b c d e f g h) (hj : j ≠ k) (x0 x1 x2 x3 x4 x5 x6 x7 : Value) : At8 ((((((((w.setCell ⟨j, 0, none⟩ x0).setCell ⟨j, 1, none⟩ x1).setCell ⟨j, 2, none⟩ x2).setCell ⟨j, 3, none⟩ x3).setCell ⟨j, 4, none⟩ x4).setCell ⟨j, 5, none⟩ x5).setCell ⟨j, 6, none⟩ x6).setCell ⟨j, 7, none⟩ x7) k a b c d e f g h := H.other8 hj x0 x1 x2 x3 x4 x5 x6 x7
theorem At4.other8x (H : At4 w k a b c d) (hj : j ≠ k) (x0 x1 x2 x3 x4 x5 x6 x7 : Value) : At4 ((((((((w.setCell ⟨j, 0, none⟩ x0).setCell ⟨j, 1, none⟩ x1).setCell ⟨j, 2, none⟩ x2).setCell ⟨j, 3, none⟩ x3).setCell ⟨j, 4, none⟩ x4).setCell ⟨j, 5, none⟩ x5).setCell ⟨j, 6, none⟩ x6).setCell ⟨j, 7, none⟩ x7) k a b c d := H.other8 hj x0 x1 x2 x3 x4 x5 x6 x7
theorem At8.self8x (H : At8 w k a b c d e f g h) (x0 x1 x2 x3 x4 x5 x6 x7 : Nat) : At8 ((((((((w.setCell ⟨k, 0, none⟩ (.int .u64 (x0 : Int))).setCell ⟨k, 1, none⟩ (.int .u64 (x1 : Int))).setCell ⟨k, 2, none⟩ (.int .u64 (x2 : Int))).setCell ⟨k, 3, none⟩ (.int .u64 (x3 : Int))).setCell ⟨k, 4, none⟩ (.int .u64 (x4 : Int))).setCell ⟨k, 5, none⟩ (.int .u64 (x5 : Int))).setCell ⟨k, 6, none⟩ (.int .u64 (x6 : Int))).setCell ⟨k, 7, none⟩ (.int .u64 (x7 : Int))) k x0 x1 x2 x3 x4 x5 x6 x7 := H.self8 x0 x1 x2 x3 x4 x5 x6 x7
end

theorem lessS_of {w W : World} {k0 k1 k2 p0 p1 p2 p3 c0 c1 c2 c3 a b c d e f g h : Nat} (H : Kept w k0 [⟨k0, 0, p0, p1, p2, p3⟩, ⟨k0, 4, c0, c1, c2, c3⟩, ⟨k1, 0, a, b, c, d⟩, ⟨k1, 4, e, f, g, h⟩, ⟨k2, 0, 0, 0, 0, 0⟩] W) : W.cell? ⟨k0, 4, none⟩ = some (.int .u64 (c0 : Int)) ∧ W.cell? ⟨k0, 5, none⟩ = some (.int .u64 (c1 : Int)) ∧ W.cell? ⟨k0, 6, none⟩ = some (.int .u64 (c2 : Int)) ∧ W.cell? ⟨k0, 7, none⟩ = some (.int .u64 (c3 : Int)) ∧ W.cell? ⟨k1, 0, none⟩ = some (.int .u64 (a : Int)) ∧ W.cell? ⟨k1, 1, none⟩ = some (.int .u64 (b : Int)) ∧ W.cell? ⟨k1, 2, none⟩ = some (.int .u64 (c : Int)) ∧ W.cell? ⟨k1, 3, none⟩ = some (.int .u64 (d : Int)) ∧ W.cell? ⟨k1, 4, none⟩ = some (.int .u64 (e : Int)) ∧ W.cell? ⟨k1, 5, none⟩ = some (.int .u64 (f : Int)) ∧ W.cell? ⟨k1, 6, none⟩ = some (.int .u64 (g : Int)) ∧ W.cell? ⟨k1, 7, none⟩ = some (.int .u64 (h : Int)) ∧ Kept w k0 [⟨k0, 0, p0, p1, p2, p3⟩, ⟨k0, 4, c0, c1, c2, c3⟩, ⟨k1, 0, a, b, c, d⟩, ⟨k1, 4, e, f, g, h⟩, ⟨k2, 0, 0, 0, 0, 0⟩] W :=
  ⟨H.tail.head.c0, H.tail.head.c1, H.tail.head.c2, H.tail.head.c3, H.tail.tail.head.c0, H.tail.tail.head.c1, H.tail.tail.head.c2, H.tail.tail.head.c3, H.tail.tail.tail.head.c0, H.tail.tail.tail.head.c1, H.tail.tail.tail.head.c2, H.tail.tail.tail.head.c3, H⟩

theorem keep_call {W w1 : World} {p : Addr} {v : Value} (hb : Below W.heap.size W w1) (h : W.cell? p = some v) : w1.cell? p = some v := by
  rw [hb.cell (World.block_lt_of_cell? _ _ h)]; exact h

theorem or4 (a b c d : Nat) (ha : a < 18446744073709551616) (hb : b < 18446744073709551616) (hc : c < 18446744073709551616) (hd : d < 18446744073709551616) :
    ∃ o : Nat, bits .or .u64 (bits .or .u64 (bits .or .u64 (a : Int) (b : Int)) (c : Int)) (d : Int) = (o : Int) ∧ (o = 0 ↔ (a = 0 ∧ b = 0 ∧ c = 0 ∧ d = 0)) := by
  have lt : ∀ x y : Nat, x < 18446744073709551616 → y < 18446744073709551616 → x ||| y < 18446744073709551616 := fun x y hx hy => Nat.or_lt_two_pow (n := 64) hx hy
  refine ⟨a ||| b ||| c ||| d, ?_, ?_⟩
  · rw [bits_or_u64_nat a b ha hb, bits_or_u64_nat _ c (lt _ _ ha hb) hc, bits_or_u64_nat _ d (lt _ _ (lt _ _ ha hb) hc) hd]
  · constructor
    · intro h
      have h1 := Nat.left_le_or (n := a ||| b ||| c) (m := d)
      have h2 := Nat.right_le_or (n := a ||| b ||| c) (m := d)
      have h3 := Nat.left_le_or (n := a ||| b) (m := c)
      have h4 := Nat.right_le_or (n := a ||| b) (m := c)
      have h5 := Nat.left_le_or (n := a) (m := b)
      have h6 := Nat.right_le_or (n := a) (m := b)
      omega
    · rintro ⟨rfl, rfl, rfl, rfl⟩
      rfl

theorem less_step {lo hi cc P gk : Nat} (hP : P + cc = top) (hP2 : top < 2 * P) (hpos : 0 < hi) (hg : gk = lo + top * hi) : hi * cc + lo < gk ∧ (hi * cc + lo) % P = gk % P := by
  have e : gk = hi * cc + lo + P * hi := by rw [hg, ← hP, Nat.add_mul, Nat.mul_comm cc]; omega
  rw [e, Nat.add_mul_mod_self_left]
  have : 0 < P * hi := Nat.mul_pos (by omega) hpos
  exact ⟨by omega, rfl⟩

set_option maxHeartbeats 4000000 in
set_option maxRecDepth 100000 in
theorem rLess_any (p0 p1 p2 p3 c0 c1 c2 c3 P : Nat) (x : Value) (m : Nat) (hp0 : p0 < 18446744073709551616) (hp1 : p1 < 18446744073709551616) (hp2 : p2 < 18446744073709551616) (hp3 : p3 < 18446744073709551616)
    (hc0 : c0 < 18446744073709551616) (hc1 : c1 < 18446744073709551616) (hc2 : c2 < 18446744073709551616) (hc3 : c3 < 18446744073709551616) (eP : P = val p0 p1 p2 p3) (hP : P + val c0 c1 c2 c3 = top) (hP2 : top < 2 * P) (hx : Eight x m) (w : World) :
    Calls Try.prog 55 #[.agg #[.int .u64 (p0 : Int), .int .u64 (p1 : Int), .int .u64 (p2 : Int), .int .u64 (p3 : Int), .int .u64 (c0 : Int), .int .u64 (c1 : Int), .int .u64 (c2 : Int), .int .u64 (c3 : Int)], x] w (Ret fun e w' => Below w.heap.size w w' ∧ Four e (m % P)) := by
  obtain ⟨a, b, c, d, e, f, g, h, rfl, ha, hb, hc, hd, he, hf, hg, hh, em⟩ := hx
  go_enter Try.func55, Try.ntmps55
  go_wp2
  have HEP : Hid (P = val p0 p1 p2 p3) := eP
  clear eP
  go_loopg [] (val a b c d + top * val e f g h) (fun gk wr => ∃ (a b c d e f g h : Nat), LessI w wr p0 p1 p2 p3 c0 c1 c2 c3 a b c d e f g h ∧ gk = val a b c d + top * val e f g h ∧ Hid (gk % P = m % P))
  case atStart =>
    refine ⟨a, b, c, d, e, f, g, h, ⟨below3 _ _ _ _, ?_, ?_, ?_, ha, hb, hc, hd, he, hf, hg, hh⟩, rfl, ?_⟩
    · exact (((At8.made w 35 p0 p1 p2 p3 c0 c1 c2 c3 rfl).alloc _).alloc _)
    · exact (At8.made (w.alloc _) 94 a b c d e f g h (World.size_alloc _ _)).alloc _
    · exact At4.made ((w.alloc _).alloc _) 33 0 0 0 0 (by simp)
    · rw [em]; rfl
  case round =>
    obtain ⟨a, b, c, d, e, f, g, h, hI, hgk, HE⟩ := hrel
    clear em ha hb hc hd he hf hg hh
    obtain ⟨bl, fr, wi, re, ha, hb, hc, hd, he, hf, hg, hh⟩ := hI
    have HB : Hid (Below w.heap.size w wr) := bl
    clear bl
    generalize q2 : w.heap.size + 1 + 1 = k2 at re ⊢
    generalize q1 : w.heap.size + 1 = k1 at wi ⊢
    have H : Hid (w.heap.size + 1 = k1 ∧ w.heap.size + 1 + 1 = k2) := ⟨q1, q2⟩
    have Q1 : Hid (w.heap.size ≤ k1) := by unfold Hid; omega
    have Q2 : Hid (w.heap.size ≤ k2) := by unfold Hid; omega
    generalize q0 : w.heap.size = k0 at fr HB Q1 Q2 ⊢
    have H0 : Hid (w.heap.size = k0) := q0
    have n01 : k0 ≠ k1 := by omega
    have n02 : k0 ≠ k2 := by omega
    have n12 : k1 ≠ k2 := by omega
    have z0 := fr.lt
    have z1 := wi.lt
    have z2 := re.lt
    clear q0 q1 q2
    obtain ⟨o, ho, hoz⟩ := or4 e f g h he hf hg hh
    obtain ⟨fc0, fc1, fc2, fc3, fc4, fc5, fc6, fc7, ff⟩ := id fr
    obtain ⟨wc0, wc1, wc2, wc3, wc4, wc5, wc6, wc7, wf⟩ := id wi
    obtain ⟨rc0, rc1, rc2, rc3, rf⟩ := id re
    by_cases hz : o = 0
    · obtain ⟨rfl, rfl, rfl, rfl⟩ := hoz.1 hz
      have hlow : gk = val a b c d := by rw [hgk]; rfl
      have HE2 : Hid (val a b c d % P = m % P) := by unfold Hid; rw [← hlow]; exact HE.out
      clear hgk HE hoz hlow
      subst hz
      go_wp2
      have N := At4.made wr 33 a b c d rfl
      have M0 : k0 ≠ wr.heap.size := Nat.ne_of_lt z0
      have M2 : k2 ≠ wr.heap.size := Nat.ne_of_lt z2
      have M5 : Hid (k0 ≤ wr.heap.size) := Nat.le_of_lt z0
      have HB0 : Hid (Below k0 w _) := HB.out.alloc (Nat.le_of_lt z0) (.cells #[.int .u64 (a : Int), .int .u64 (b : Int), .int .u64 (c : Int), .int .u64 (d : Int)] 33)
      replace fr := fr.alloc (.cells #[.int .u64 (a : Int), .int .u64 (b : Int), .int .u64 (c : Int), .int .u64 (d : Int)] 33)
      replace re := re.alloc (.cells #[.int .u64 (a : Int), .int .u64 (b : Int), .int .u64 (c : Int), .int .u64 (d : Int)] 33)
      clear wi fc0 fc1 fc2 fc3 fc4 fc5 fc6 fc7 ff wc0 wc1 wc2 wc3 wc4 wc5 wc6 wc7 wf rc0 rc1 rc2 rc3 rf z0 z1 z2 HB ho
      generalize World.alloc _ _ = W0 at N fr re HB0 ⊢
      generalize wr.heap.size = k5 at N M0 M2 M5 ⊢
      have hB4 : Hid (a < 18446744073709551616 ∧ b < 18446744073709551616 ∧ c < 18446744073709551616 ∧ d < 18446744073709551616) := ⟨ha, hb, hc, hd⟩
      have HPP : Hid (0 < P) := by unfold Hid; have := hP2; omega
      clear ha hb hc hd hP hP2
      have KP : Kept w k0 [⟨k5, 0, a, b, c, d⟩, ⟨k0, 0, p0, p1, p2, p3⟩, ⟨k2, 0, 0, 0, 0, 0⟩] W0 :=
        (((Kept.mk1 HB0.out (Nat.le_of_lt fr.lt)).cons re.blk).cons (x := ⟨k0, 0, p0, p1, p2, p3⟩) ⟨fr.c0, fr.c1, fr.c2, fr.c3, fr.fz⟩).cons N.blk
      clear fr re N HB0
      go_loopg [] (val a b c d) (fun gk2 wr2 => ∃ (a b c d : Nat), gk2 = val a b c d ∧ Kept w k0 [⟨k5, 0, a, b, c, d⟩, ⟨k0, 0, p0, p1, p2, p3⟩, ⟨k2, 0, 0, 0, 0, 0⟩] wr2 ∧ Hid (a < 18446744073709551616 ∧ b < 18446744073709551616 ∧ c < 18446744073709551616 ∧ d < 18446744073709551616) ∧ Hid (val a b c d % P = m % P))
      case atStart => exact ⟨a, b, c, d, rfl, KP, hB4, HE2⟩
      case round =>
        clear KP hB4 HE2
        obtain ⟨a, b, c, d, hgk2, KP, hB4, HE2⟩ := hrel
        obtain ⟨xc0, xc1, xc2, xc3, xf⟩ := KP.head.at4
        obtain ⟨pc0, pc1, pc2, pc3, pf⟩ := KP.tail.head.at4
        have z5 := KP.head.lt
        have z0 := KP.tail.head.lt
        go_wp2_with fail
        refine (rless_any _ _ _ _ (Four.mk hB4.out.1 hB4.out.2.1 hB4.out.2.2.1 hB4.out.2.2.2 rfl) (Four.mk hp0 hp1 hp2 hp3 rfl) _).mono ?_
        rintro r w2 ⟨v, rfl, hb2, v2, t2, j, rfl, ⟨a2, b2, c2, d2, rfl, ha2, hb2', hc2, hd2, es2⟩, hj, he2⟩
        clear xc0 xc1 xc2 xc3 xf pc0 pc1 pc2 pc3 pf z5 z0
        replace KP := KP.call hb2
        clear hb2
        have HE3 : Hid (val a2 b2 c2 d2 + P = val a b c d + top * j) := by unfold Hid; rw [← es2, HEP.out]; exact he2
        clear he2 es2
        have hj' : j = 0 ∨ j = 1 := by omega
        rcases hj' with rfl | rfl
        · obtain ⟨xc0, xc1, xc2, xc3, xf⟩ := KP.head.at4
          have z5 := KP.head.lt
          go_wp2
          go_roundg (val a2 b2 c2 d2)
          case measure => have := HE3.out; have := HPP.out; omega
          case rel =>
            refine ⟨a2, b2, c2, d2, rfl, ?_, ⟨ha2, hb2', hc2, hd2⟩, ?_⟩
            · exact (KP.put M5.out (by simp only [List.mem_cons, List.not_mem_nil, or_false]; rintro x (rfl | rfl); exact M0.symm; exact M2.symm) a2 b2 c2 d2).alloc _
            · unfold Hid
              rw [← HE2.out, show val a b c d = val a2 b2 c2 d2 + P by have := HE3.out; omega, Nat.add_mod_right]
        · obtain ⟨xc0, xc1, xc2, xc3, xf⟩ := KP.head.at4
          obtain ⟨rc0, rc1, rc2, rc3, rf⟩ := KP.tail.tail.head.at4
          have z5 := KP.head.lt
          have z3 := KP.tail.tail.head.lt
          go_wp2
          have RF := (KP.tail.tail.head.at4.self4 a b c d).alloc (.cells #[.int .u64 (a2 : Int), .int .u64 (b2 : Int), .int .u64 (c2 : Int), .int .u64 (d2 : Int)] 33)
          unfold set4 at RF
          refine bodyPost_ret (v := ?v) ?hr rfl ?hR
          case hr => simp [results, Try.results55, go_sem, RF.c0, RF.c1, RF.c2, RF.c3]; rfl
          refine ⟨_, rfl, ?_, Four.mk hB4.out.1 hB4.out.2.1 hB4.out.2.2.1 hB4.out.2.2.2 ?_⟩
          · rw [H0.out]
            exact (below_set4 KP.bl Q2.out _ _ _ _).alloc (by rw [size_set4]; exact KP.le) _
          · rw [← HE2.out, Nat.mod_eq_of_lt (by have := HE3.out; have := val_lt ha2 hb2' hc2 hd2; omega)]
    · have hpos : 0 < val e f g h := by
        rcases Nat.eq_zero_or_pos (val e f g h) with h0 | h0
        · exact absurd (hoz.2 (by unfold val at h0; omega)) hz
        · exact h0
      have HL : Hid (_ ∧ _) := less_step hP hP2 hpos hgk
      clear hoz hgk hpos
      go_wp2
      have KP : Kept w k0 [⟨k0, 0, p0, p1, p2, p3⟩, ⟨k0, 4, c0, c1, c2, c3⟩, ⟨k1, 0, a, b, c, d⟩, ⟨k1, 4, e, f, g, h⟩, ⟨k2, 0, 0, 0, 0, 0⟩] wr :=
        (((((Kept.mk1 HB.out (Nat.le_of_lt z0)).cons re.blk).cons (x := ⟨k1, 4, e, f, g, h⟩) ⟨wi.c4, wi.c5, wi.c6, wi.c7, wi.fz⟩).cons (x := ⟨k1, 0, a, b, c, d⟩) ⟨wi.c0, wi.c1, wi.c2, wi.c3, wi.fz⟩).cons (x := ⟨k0, 4, c0, c1, c2, c3⟩) ⟨fr.c4, fr.c5, fr.c6, fr.c7, fr.fz⟩).cons (x := ⟨k0, 0, p0, p1, p2, p3⟩) ⟨fr.c0, fr.c1, fr.c2, fr.c3, fr.fz⟩
      clear HEP rc0 rc1 rc2 rc3 rf fc0 fc1 fc2 fc3 fr wi re HB
      refine anyTill.begin (fun w' => w'.cell? ⟨k0, 4, none⟩ = some (.int .u64 (c0 : Int)) ∧ w'.cell? ⟨k0, 5, none⟩ = some (.int .u64 (c1 : Int)) ∧ w'.cell? ⟨k0, 6, none⟩ = some (.int .u64 (c2 : Int)) ∧ w'.cell? ⟨k0, 7, none⟩ = some (.int .u64 (c3 : Int)) ∧ w'.cell? ⟨k1, 0, none⟩ = some (.int .u64 (a : Int)) ∧ w'.cell? ⟨k1, 1, none⟩ = some (.int .u64 (b : Int)) ∧ w'.cell? ⟨k1, 2, none⟩ = some (.int .u64 (c : Int)) ∧ w'.cell? ⟨k1, 3, none⟩ = some (.int .u64 (d : Int)) ∧ w'.cell? ⟨k1, 4, none⟩ = some (.int .u64 (e : Int)) ∧ w'.cell? ⟨k1, 5, none⟩ = some (.int .u64 (f : Int)) ∧ w'.cell? ⟨k1, 6, none⟩ = some (.int .u64 (g : Int)) ∧ w'.cell? ⟨k1, 7, none⟩ = some (.int .u64 (h : Int)) ∧ Kept w k0 [⟨k0, 0, p0, p1, p2, p3⟩, ⟨k0, 4, c0, c1, c2, c3⟩, ⟨k1, 0, a, b, c, d⟩, ⟨k1, 4, e, f, g, h⟩, ⟨k2, 0, 0, 0, 0, 0⟩] w') 22 mixed (lessS_of KP.drew) (fun hS => ?_)
      refine anyTill.take (i := 0) (v := ?_) rfl (by kernel_rfl) (by kernel_rfl) (by kernel_rfl) (by kernel_rfl) (by kernel_rfl) (fun _ _ _ h => h) (Or.inl ⟨by rfl, ?_⟩) hS ?_
      rotate_left
      · intro w hSw
        (try dsimp only at hSw)
        go_simp
        try (with_reducible rfl)
      simp only [Act.put, List.setIfInBounds_toArray]
      refine anyTill.take (i := 1) (v := ?_) rfl (by kernel_rfl) (by kernel_rfl) (by kernel_rfl) (by kernel_rfl) (by kernel_rfl) (fun _ _ _ h => h) (Or.inl ⟨by rfl, ?_⟩) hS ?_
      rotate_left
      · intro w hSw
        (try dsimp only at hSw)
        go_simp
        try (with_reducible rfl)
      simp only [Act.put]
      refine anyTill.take (i := 2) (v := ?_) rfl (by kernel_rfl) (by kernel_rfl) (by kernel_rfl) (by kernel_rfl) (by kernel_rfl) (fun _ _ _ h => h) (Or.inl ⟨by rfl, ?_⟩) hS ?_
      rotate_left
      · intro w hSw
        (try dsimp only at hSw)
        go_simp
        try (with_reducible rfl)
      simp only [Act.put]
      refine anyTill.take (i := 3) (v := ?_) rfl (by kernel_rfl) (by kernel_rfl) (by kernel_rfl) (by kernel_rfl) (by kernel_rfl) (fun _ _ _ h => h) (Or.inl ⟨by rfl, ?_⟩) hS ?_
      rotate_left
      · intro w hSw
        (try dsimp only at hSw)
        go_simp
        try (with_reducible rfl)
      simp only [Act.put]
      refine anyTill.take (i := 4) (v := ?_) rfl (by kernel_rfl) (by kernel_rfl) (by kernel_rfl) (by kernel_rfl) (by kernel_rfl) (fun _ _ _ h => h) (Or.inl ⟨by rfl, ?_⟩) hS ?_
      rotate_left
      · intro w hSw
        (try dsimp only at hSw)
        go_simp
        try (with_reducible rfl)
      simp only [Act.put]
      refine anyTill.take (i := 5) (v := ?_) rfl (by kernel_rfl) (by kernel_rfl) (by kernel_rfl) (by kernel_rfl) (by kernel_rfl) (fun _ _ _ h => h) (Or.inl ⟨by rfl, ?_⟩) hS ?_
      rotate_left
      · intro w hSw
        (try dsimp only at hSw)
        go_simp
        try (with_reducible rfl)
      simp only [Act.put]
      refine anyTill.take (i := 6) (v := ?_) rfl (by kernel_rfl) (by kernel_rfl) (by kernel_rfl) (by kernel_rfl) (by kernel_rfl) (fun _ _ _ h => h) (Or.inl ⟨by rfl, ?_⟩) hS ?_
      rotate_left
      · intro w hSw
        (try dsimp only at hSw)
        go_simp
        try (with_reducible rfl)
      simp only [Act.put]
      refine anyTill.take (i := 7) (v := ?_) rfl (by kernel_rfl) (by kernel_rfl) (by kernel_rfl) (by kernel_rfl) (by kernel_rfl) (fun _ _ _ h => h) (Or.inl ⟨by rfl, ?_⟩) hS ?_
      rotate_left
      · intro w hSw
        (try dsimp only at hSw)
        go_simp
        try (with_reducible rfl)
      simp only [Act.put]
      refine anyTill.take (i := 8) (v := ?_) rfl (by kernel_rfl) (by kernel_rfl) (by kernel_rfl) (by kernel_rfl) (by kernel_rfl) (fun _ _ _ h => h) (Or.inl ⟨by rfl, ?_⟩) hS ?_
      rotate_left
      · intro w hSw
        (try dsimp only at hSw)
        go_simp
        try (with_reducible rfl)
      simp only [Act.put]
      refine anyTill.take (i := 9) (v := ?_) rfl (by kernel_rfl) (by kernel_rfl) (by kernel_rfl) (by kernel_rfl) (by kernel_rfl) (fun _ _ _ h => h) (Or.inl ⟨by rfl, ?_⟩) hS ?_
      rotate_left
      · intro w hSw
        (try dsimp only at hSw)
        go_simp
        try (with_reducible rfl)
      simp only [Act.put]
      refine anyTill.take (i := 10) (v := ?_) rfl (by kernel_rfl) (by kernel_rfl) (by kernel_rfl) (by kernel_rfl) (by kernel_rfl) (fun _ _ _ h => h) (Or.inl ⟨by rfl, ?_⟩) hS ?_
      rotate_left
      · intro w hSw
        (try dsimp only at hSw)
        go_simp
        try (with_reducible rfl)
      simp only [Act.put]
      refine anyTill.take (i := 12) (v := ?_) rfl (by kernel_rfl) (by kernel_rfl) (by kernel_rfl) (by kernel_rfl) (by kernel_rfl) (fun _ _ _ h => h) (Or.inl ⟨by rfl, ?_⟩) hS ?_
      rotate_left
      · intro w hSw
        (try dsimp only at hSw)
        go_simp
        try (with_reducible rfl)
      simp only [Act.put]
      refine anyTill.take (i := 13) (v := ?_) rfl (by kernel_rfl) (by kernel_rfl) (by kernel_rfl) (by kernel_rfl) (by kernel_rfl) (fun _ _ _ h => h) (Or.inl ⟨by rfl, ?_⟩) hS ?_
      rotate_left
      · intro w hSw
        (try dsimp only at hSw)
        go_simp
        try (with_reducible rfl)
      simp only [Act.put]
      refine anyTill.take (i := 14) (v := ?_) rfl (by kernel_rfl) (by kernel_rfl) (by kernel_rfl) (by kernel_rfl) (by kernel_rfl) (fun _ _ _ h => h) (Or.inl ⟨by rfl, ?_⟩) hS ?_
      rotate_left
      · intro w hSw
        (try dsimp only at hSw)
        go_simp
        try (with_reducible rfl)
      simp only [Act.put]
      refine anyTill.take (i := 15) (v := ?_) rfl (by kernel_rfl) (by kernel_rfl) (by kernel_rfl) (by kernel_rfl) (by kernel_rfl) (fun _ _ _ h => h) (Or.inl ⟨by rfl, ?_⟩) hS ?_
      rotate_left
      · intro w hSw
        (try dsimp only at hSw)
        go_simp
        try (with_reducible rfl)
      simp only [Act.put]
      refine anyTill.take (i := 16) (v := ?_) rfl (by kernel_rfl) (by kernel_rfl) (by kernel_rfl) (by kernel_rfl) (by kernel_rfl) (fun _ _ _ h => h) (Or.inl ⟨by rfl, ?_⟩) hS ?_
      rotate_left
      · intro w hSw
        (try dsimp only at hSw)
        go_simp
        try (with_reducible rfl)
      simp only [Act.put]
      refine anyTill.take (i := 17) (v := ?_) rfl (by kernel_rfl) (by kernel_rfl) (by kernel_rfl) (by kernel_rfl) (by kernel_rfl) (fun _ _ _ h => h) (Or.inl ⟨by rfl, ?_⟩) hS ?_
      rotate_left
      · intro w hSw
        (try dsimp only at hSw)
        go_simp
        try (with_reducible rfl)
      simp only [Act.put]
      refine anyTill.take (i := 18) (v := ?_) rfl (by kernel_rfl) (by kernel_rfl) (by kernel_rfl) (by kernel_rfl) (by kernel_rfl) (fun _ _ _ h => h) (Or.inl ⟨by rfl, ?_⟩) hS ?_
      rotate_left
      · intro w hSw
        (try dsimp only at hSw)
        go_simp
        try (with_reducible rfl)
      simp only [Act.put]
      refine anyTill.take (i := 19) (v := ?_) rfl (by kernel_rfl) (by kernel_rfl) (by kernel_rfl) (by kernel_rfl) (by kernel_rfl) (fun _ _ _ h => h) (Or.inl ⟨by rfl, ?_⟩) hS ?_
      rotate_left
      · intro w hSw
        (try dsimp only at hSw)
        go_simp
        try (with_reducible rfl)
      simp only [Act.put]
      refine anyTill.take (i := 20) (v := ?_) rfl (by kernel_rfl) (by kernel_rfl) (by kernel_rfl) (by kernel_rfl) (by kernel_rfl) (fun _ _ _ h => h) (Or.inl ⟨by rfl, ?_⟩) hS ?_
      rotate_left
      · intro w hSw
        (try dsimp only at hSw)
        go_simp
        try (with_reducible rfl)
      simp only [Act.put]
      refine anyTill.step (i := 11) rfl (by kernel_rfl) (fun K hK => ?_)
      go_simp
      refine (rproduct_any _ _ _ _ (Four.mk he hf hg hh rfl) (Four.mk hc0 hc1 hc2 hc3 rfl) _).mono ?_
      rintro r w1 ⟨v, rfl, hb1, hE1⟩
      obtain ⟨x0, x1, x2, x3, x4, x5, x6, x7, rfl, hx0, hx1, hx2, hx3, hx4, hx5, hx6, hx7, hxe⟩ := id hE1
      clear hxe hS
      have KP1 := KP.drew.call hb1
      clear hb1 KP
      refine hK.out _ _ (fun _ => lessS_of KP1) ?_
      clear hK K
      try simp only [Act.put, List.setIfInBounds_toArray, List.set_cons_zero, List.set_cons_succ]
      refine anyTill.step (i := 21) rfl (by kernel_rfl) (fun K hK => ?_)
      go_simp
      refine (rplus_any _ _ _ _ hE1 ⟨a, b, c, d, 0, 0, 0, 0, rfl, ha, hb, hc, hd, by decide, by decide, by decide, by decide, rfl⟩ (by have h1 := mul_lt_top (val_lt he hf hg hh) (val_lt hc0 hc1 hc2 hc3); have h2 := val_lt ha hb hc hd; have e0 : val 0 0 0 0 = 0 := rfl; rw [e0, Nat.mul_zero, Nat.add_zero]; omega) _).mono ?_
      rintro r w2 ⟨v, rfl, hb2, hE2⟩
      obtain ⟨y0, y1, y2, y3, y4, y5, y6, y7, rfl, hy0, hy1, hy2, hy3, hy4, hy5, hy6, hy7, hye⟩ := id hE2
      rw [show val 0 0 0 0 = 0 from rfl, Nat.mul_zero, Nat.add_zero] at hye
      have HY : Hid (_ = _) := hye
      clear hye hE1 hE2
      have KP2 := KP1.call hb2
      clear hb2 KP1
      refine hK.out _ _ (fun _ => lessS_of KP2) ?_
      clear hK K
      try simp only [Act.put, List.setIfInBounds_toArray, List.set_cons_zero, List.set_cons_succ]
      have fr : At8 w2 k0 p0 p1 p2 p3 c0 c1 c2 c3 := ⟨KP2.head.c0, KP2.head.c1, KP2.head.c2, KP2.head.c3, KP2.tail.head.c0, KP2.tail.head.c1, KP2.tail.head.c2, KP2.tail.head.c3, KP2.head.f⟩
      have wi : At8 w2 k1 a b c d e f g h := ⟨KP2.tail.tail.head.c0, KP2.tail.tail.head.c1, KP2.tail.tail.head.c2, KP2.tail.tail.head.c3, KP2.tail.tail.tail.head.c0, KP2.tail.tail.tail.head.c1, KP2.tail.tail.tail.head.c2, KP2.tail.tail.tail.head.c3, KP2.tail.tail.head.f⟩
      have re : At4 w2 k2 0 0 0 0 := KP2.tail.tail.tail.tail.head.at4
      have HB : Hid (Below k0 w w2) := KP2.bl
      clear KP2 wc0 wc1 wc2 wc3 wc4 wc5 wc6 wc7 wf z0 z1 z2
      obtain ⟨wc0, wc1, wc2, wc3, wc4, wc5, wc6, wc7, wf⟩ := id wi
      have z1 := wi.lt
      refine anyTill.step (i := 22) rfl (by kernel_rfl) (fun K hK => ?_)
      go_simp
      refine hK.out _ _ (fun h => Bool.noConfusion h) ?_
      clear hK K
      try simp only [Act.put, List.setIfInBounds_toArray, List.set_cons_zero, List.set_cons_succ]
      refine anyTill.done (by kernel_rfl) ?_ _
      obtain ⟨q1, q2⟩ := H.out
      have q0 := H0.out
      subst q1 q2 q0
      go_wp2
      go_roundg (val y0 y1 y2 y3 + top * val y4 y5 y6 y7)
      case measure => rw [← HY.out]; exact HL.out.1
      case rel =>
        refine ⟨y0, y1, y2, y3, y4, y5, y6, y7, ⟨?_, ?_, ?_, ?_, hy0, hy1, hy2, hy3, hy4, hy5, hy6, hy7⟩, rfl, ?_⟩
        · exact below_set8x HB.out Q1.out _ _ _ _ _ _ _ _
        · exact At8.other8x fr n01.symm _ _ _ _ _ _ _ _
        · exact At8.self8x wi y0 y1 y2 y3 y4 y5 y6 y7
        · exact At4.other8x re n12 _ _ _ _ _ _ _ _
        · unfold Hid
          rw [← HY.out, ← HE.out]
          exact HL.out.2
end Go.Proofs.Ytdeidgbknlmhjab
