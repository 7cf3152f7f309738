import Derived.Test.YtdeidgbknlmhjabC3
import Derived.Test.YtdeidgbknlmhjabE1
namespace Go.Proofs.Ytdeidgbknlmhjab
open Go.RowKit Go.Sort

theorem four_rows {a b c d n r0 r1 r2 r3 s0 s1 s2 s3 t0 t1 t2 t3 u0 u1 u2 u3 h0 h1 h2 h3 : Nat}
    (e0 : r0 + 18446744073709551616 * val r1 r2 r3 h0 = a * n + val 0 0 0 0)
    (e1 : s0 + 18446744073709551616 * val s1 s2 s3 h1 = b * n + val r1 r2 r3 h0)
    (e2 : t0 + 18446744073709551616 * val t1 t2 t3 h2 = c * n + val s1 s2 s3 h1)
    (e3 : u0 + 18446744073709551616 * val u1 u2 u3 h3 = d * n + val t1 t2 t3 h2) :
    val a b c d * n = val r0 s0 t0 u0 + top * val u1 u2 u3 h3 := by
  have hm : val a b c d * n = val (a * n) (b * n) (c * n) (d * n) := by
    rw [Nat.mul_comm, mul_val, Nat.mul_comm n a, Nat.mul_comm n b, Nat.mul_comm n c, Nat.mul_comm n d]
  rw [hm]
  generalize a * n = x0 at *
  generalize b * n = x1 at *
  generalize c * n = x2 at *
  generalize d * n = x3 at *
  generalize val r1 r2 r3 h0 = y0 at *
  generalize val s1 s2 s3 h1 = y1 at *
  generalize val t1 t2 t3 h2 = y2 at *
  generalize val u1 u2 u3 h3 = y3 at *
  unfold val at *
  unfold top
  omega

set_option maxHeartbeats 16000000 in
set_option maxRecDepth 100000 in
theorem rproduct_any (x y : Value) (m n : Nat) (hx : Four x m) (hy : Four y n) (w : World) :
    Calls Try.prog 58 #[x, y] w (Ret fun e w' => Below w.heap.size w w' ∧ Eight e (m * n)) := by
  obtain ⟨a, b, c, d, rfl, ha, hb, hc, hd, em⟩ := hx
  obtain ⟨p, q, r, s, rfl, hp, hq, hr, hs, en⟩ := hy
  go_enter Try.func58, Try.ntmps58
  go_wp2
  refine wp_loop_rounds 5 ?_
  have X := (((At4.made w 33 a b c d rfl).alloc (.cells #[.int .u64 (p : Int), .int .u64 (q : Int), .int .u64 (r : Int), .int .u64 (s : Int)] 33)).alloc (.cells #[.int .u64 0, .int .u64 0, .int .u64 0, .int .u64 0, .int .u64 0, .int .u64 0, .int .u64 0, .int .u64 0] 94)).alloc (.cells #[.int .u64 0, .int .u64 0, .int .u64 0, .int .u64 0, .int .u64 0, .int .u64 0, .int .u64 0, .int .u64 0] 94)
  have Y := ((At4.made (w.alloc (.cells #[.int .u64 (a : Int), .int .u64 (b : Int), .int .u64 (c : Int), .int .u64 (d : Int)] 33)) 33 p q r s (World.size_alloc _ _)).alloc (.cells #[.int .u64 0, .int .u64 0, .int .u64 0, .int .u64 0, .int .u64 0, .int .u64 0, .int .u64 0, .int .u64 0] 94)).alloc (.cells #[.int .u64 0, .int .u64 0, .int .u64 0, .int .u64 0, .int .u64 0, .int .u64 0, .int .u64 0, .int .u64 0] 94)
  have R := (At8.made ((w.alloc (.cells #[.int .u64 (a : Int), .int .u64 (b : Int), .int .u64 (c : Int), .int .u64 (d : Int)] 33)).alloc (.cells #[.int .u64 (p : Int), .int .u64 (q : Int), .int .u64 (r : Int), .int .u64 (s : Int)] 33)) 94 0 0 0 0 0 0 0 0 (k := w.heap.size + 1 + 1) (by simp)).alloc (.cells #[.int .u64 0, .int .u64 0, .int .u64 0, .int .u64 0, .int .u64 0, .int .u64 0, .int .u64 0, .int .u64 0] 94)
  have O := At8.made (((w.alloc (.cells #[.int .u64 (a : Int), .int .u64 (b : Int), .int .u64 (c : Int), .int .u64 (d : Int)] 33)).alloc (.cells #[.int .u64 (p : Int), .int .u64 (q : Int), .int .u64 (r : Int), .int .u64 (s : Int)] 33)).alloc (.cells #[.int .u64 0, .int .u64 0, .int .u64 0, .int .u64 0, .int .u64 0, .int .u64 0, .int .u64 0, .int .u64 0] 94)) 94 0 0 0 0 0 0 0 0 (k := w.heap.size + 1 + 1 + 1) (by simp)
  have BL : Hid (Below w.heap.size w _) := below4 w (.cells #[.int .u64 (a : Int), .int .u64 (b : Int), .int .u64 (c : Int), .int .u64 (d : Int)] 33) (.cells #[.int .u64 (p : Int), .int .u64 (q : Int), .int .u64 (r : Int), .int .u64 (s : Int)] 33) (.cells #[.int .u64 0, .int .u64 0, .int .u64 0, .int .u64 0, .int .u64 0, .int .u64 0, .int .u64 0, .int .u64 0] 94) (.cells #[.int .u64 0, .int .u64 0, .int .u64 0, .int .u64 0, .int .u64 0, .int .u64 0, .int .u64 0, .int .u64 0] 94)
  simp only [Int.natCast_zero] at R O
  generalize World.alloc _ _ = W0 at X Y R O BL ⊢
  generalize h3 : w.heap.size + 1 + 1 + 1 = k3 at O ⊢
  generalize h2 : w.heap.size + 1 + 1 = k2 at R ⊢
  generalize h1 : w.heap.size + 1 = k1 at Y ⊢
  have Q3 : Hid (w.heap.size ≤ k3) := by unfold Hid; omega
  have Q2 : Hid (w.heap.size ≤ k2) := by unfold Hid; omega
  generalize h0 : w.heap.size = k0 at X BL Q2 Q3 ⊢
  have n03 : k0 ≠ k3 := by omega
  have n13 : k1 ≠ k3 := by omega
  have n23 : k2 ≠ k3 := by omega
  have H0 : Hid (w.heap.size = k0) := h0
  clear h0 h1 h2 h3
  obtain ⟨xc0, xc1, xc2, xc3, xf⟩ := id X
  obtain ⟨yc0, yc1, yc2, yc3, yf⟩ := id Y
  obtain ⟨oc0, oc1, oc2, oc3, oc4, oc5, oc6, oc7, of⟩ := id O
  simp only [Int.natCast_zero] at oc0 oc1 oc2 oc3 oc4 oc5 oc6 oc7
  rw [rounds_succ]; go_wp2
  refine wp_loop_rounds 5 ?_
  obtain ⟨h00, l00, s00, k00, o00, j00, g00, y00, m00, b00, d00, v00, z00, ho00, hy00, e00⟩ := mulstep a p 0 0 ha hp (by decide) (by decide)
  simp only [Int.natCast_zero] at b00
  simp only [Int.natCast_zero] at d00
  rw [rounds_succ]; go_wp2
  go_quiet ((go_at_call 94; exact Calls.quiet_of_same (m00 _)))
  revert nq; intro nq00
  go_wp2_with (first | simp only [b00] | simp only [d00])
  obtain ⟨h01, l01, s01, k01, o01, j01, g01, y01, m01, b01, d01, v01, z01, ho01, hy01, e01⟩ := mulstep a q 0 y00 ha hq (by decide) hy00
  simp only [Int.natCast_zero] at d01
  rw [rounds_succ]; go_wp2
  go_quiet ((go_at_call 94; exact Calls.quiet_of_same (m01 _)))
  revert nq; intro nq01
  go_wp2_with (first | simp only [b01] | simp only [d01])
  obtain ⟨h02, l02, s02, k02, o02, j02, g02, y02, m02, b02, d02, v02, z02, ho02, hy02, e02⟩ := mulstep a r 0 y01 ha hr (by decide) hy01
  simp only [Int.natCast_zero] at d02
  rw [rounds_succ]; go_wp2
  go_quiet ((go_at_call 94; exact Calls.quiet_of_same (m02 _)))
  revert nq; intro nq02
  go_wp2_with (first | simp only [b02] | simp only [d02])
  obtain ⟨h03, l03, s03, k03, o03, j03, g03, y03, m03, b03, d03, v03, z03, ho03, hy03, e03⟩ := mulstep a s 0 y02 ha hs (by decide) hy02
  simp only [Int.natCast_zero] at d03
  rw [rounds_succ]; go_wp2
  go_quiet ((go_at_call 94; exact Calls.quiet_of_same (m03 _)))
  revert nq; intro nq03
  go_wp2_with (first | simp only [b03] | simp only [d03])
  rw [rounds_succ]; go_wp2
  have R0 := row_sum (n := val 0 0 0 0) (p := 0) (q := 0) (r := 0) (s := 0) (x := a) (l0 := o00) (l1 := o01) (l2 := o02) (l3 := o03) en rfl e00 e01 e02 e03
  have HR0 : Hid _ := R0
  clear R0
  clear e00 e01 e02 e03 m00 b00 d00 v00 z00 m01 b01 d01 v01 z01 m02 b02 d02 v02 z02 m03 b03 d03 v03 z03
  clear xc0 xc1 xc2 xc3 xf yc0 yc1 yc2 yc3 yf oc0 oc1 oc2 oc3 oc4 oc5 oc6 oc7 of
  have X0 := (((((((((X).drewN nq00).other (o := 0) n03.symm (.int .u64 (o00 : Int))).drewN nq01).other (o := 1) n03.symm (.int .u64 (o01 : Int))).drewN nq02).other (o := 2) n03.symm (.int .u64 (o02 : Int))).drewN nq03).other (o := 3) n03.symm (.int .u64 (o03 : Int))).other (o := 4) n03.symm (.int .u64 (y03 : Int))
  have Y0 := (((((((((Y).drewN nq00).other (o := 0) n13.symm (.int .u64 (o00 : Int))).drewN nq01).other (o := 1) n13.symm (.int .u64 (o01 : Int))).drewN nq02).other (o := 2) n13.symm (.int .u64 (o02 : Int))).drewN nq03).other (o := 3) n13.symm (.int .u64 (o03 : Int))).other (o := 4) n13.symm (.int .u64 (y03 : Int))
  have RR0 := (((((((((R).drewN nq00).other (o := 0) n23.symm (.int .u64 (o00 : Int))).drewN nq01).other (o := 1) n23.symm (.int .u64 (o01 : Int))).drewN nq02).other (o := 2) n23.symm (.int .u64 (o02 : Int))).drewN nq03).other (o := 3) n23.symm (.int .u64 (o03 : Int))).other (o := 4) n23.symm (.int .u64 (y03 : Int))
  have O0 := (((((((((O).drewN nq00).set0 o00).drewN nq01).set1 o01).drewN nq02).set2 o02).drewN nq03).set3 o03).set4 y03
  have BL0 : Hid (Below k0 w _) := ((belowDrewN ((belowDrewN ((belowDrewN ((belowDrewN (BL.out) nq00).setCell (p := ⟨k3, 0, none⟩) Q3.out (.int .u64 (o00 : Int))) nq01).setCell (p := ⟨k3, 1, none⟩) Q3.out (.int .u64 (o01 : Int))) nq02).setCell (p := ⟨k3, 2, none⟩) Q3.out (.int .u64 (o02 : Int))) nq03).setCell (p := ⟨k3, 3, none⟩) Q3.out (.int .u64 (o03 : Int))).setCell (p := ⟨k3, 4, none⟩) Q3.out (.int .u64 (y03 : Int))
  generalize World.setCell _ _ _ = W1 at X0 Y0 RR0 O0 BL0 ⊢
  clear X Y R O BL
  have X := X0
  have Y := Y0
  have R := RR0
  have O := O0
  have BL := BL0
  clear X0 Y0 RR0 O0 BL0
  obtain ⟨xc0, xc1, xc2, xc3, xf⟩ := id X
  obtain ⟨yc0, yc1, yc2, yc3, yf⟩ := id Y
  obtain ⟨oc0, oc1, oc2, oc3, oc4, oc5, oc6, oc7, of⟩ := id O
  simp only [Int.natCast_zero] at oc5 oc6 oc7
  rw [rounds_succ]; go_wp2
  refine wp_loop_rounds 5 ?_
  obtain ⟨h10, l10, s10, k10, o10, j10, g10, y10, m10, b10, d10, v10, z10, ho10, hy10, e10⟩ := mulstep b p o01 0 hb hp ho01 (by decide)
  simp only [Int.natCast_zero] at b10
  rw [rounds_succ]; go_wp2
  go_quiet ((go_at_call 94; exact Calls.quiet_of_same (m10 _)))
  revert nq; intro nq10
  go_wp2_with (first | simp only [b10] | simp only [d10])
  obtain ⟨h11, l11, s11, k11, o11, j11, g11, y11, m11, b11, d11, v11, z11, ho11, hy11, e11⟩ := mulstep b q o02 y10 hb hq ho02 hy10
  rw [rounds_succ]; go_wp2
  go_quiet ((go_at_call 94; exact Calls.quiet_of_same (m11 _)))
  revert nq; intro nq11
  go_wp2_with (first | simp only [b11] | simp only [d11])
  obtain ⟨h12, l12, s12, k12, o12, j12, g12, y12, m12, b12, d12, v12, z12, ho12, hy12, e12⟩ := mulstep b r o03 y11 hb hr ho03 hy11
  rw [rounds_succ]; go_wp2
  go_quiet ((go_at_call 94; exact Calls.quiet_of_same (m12 _)))
  revert nq; intro nq12
  go_wp2_with (first | simp only [b12] | simp only [d12])
  obtain ⟨h13, l13, s13, k13, o13, j13, g13, y13, m13, b13, d13, v13, z13, ho13, hy13, e13⟩ := mulstep b s y03 y12 hb hs hy03 hy12
  rw [rounds_succ]; go_wp2
  go_quiet ((go_at_call 94; exact Calls.quiet_of_same (m13 _)))
  revert nq; intro nq13
  go_wp2_with (first | simp only [b13] | simp only [d13])
  rw [rounds_succ]; go_wp2
  have R1 := row_sum (n := val o01 o02 o03 y03) (p := o01) (q := o02) (r := o03) (s := y03) (x := b) (l0 := o10) (l1 := o11) (l2 := o12) (l3 := o13) en rfl e10 e11 e12 e13
  have HR1 : Hid _ := R1
  clear R1
  clear e10 e11 e12 e13 m10 b10 d10 v10 z10 m11 b11 d11 v11 z11 m12 b12 d12 v12 z12 m13 b13 d13 v13 z13
  clear xc0 xc1 xc2 xc3 xf yc0 yc1 yc2 yc3 yf oc0 oc1 oc2 oc3 oc4 oc5 oc6 oc7 of
  have X1 := (((((((((X).drewN nq10).other (o := 1) n03.symm (.int .u64 (o10 : Int))).drewN nq11).other (o := 2) n03.symm (.int .u64 (o11 : Int))).drewN nq12).other (o := 3) n03.symm (.int .u64 (o12 : Int))).drewN nq13).other (o := 4) n03.symm (.int .u64 (o13 : Int))).other (o := 5) n03.symm (.int .u64 (y13 : Int))
  have Y1 := (((((((((Y).drewN nq10).other (o := 1) n13.symm (.int .u64 (o10 : Int))).drewN nq11).other (o := 2) n13.symm (.int .u64 (o11 : Int))).drewN nq12).other (o := 3) n13.symm (.int .u64 (o12 : Int))).drewN nq13).other (o := 4) n13.symm (.int .u64 (o13 : Int))).other (o := 5) n13.symm (.int .u64 (y13 : Int))
  have RR1 := (((((((((R).drewN nq10).other (o := 1) n23.symm (.int .u64 (o10 : Int))).drewN nq11).other (o := 2) n23.symm (.int .u64 (o11 : Int))).drewN nq12).other (o := 3) n23.symm (.int .u64 (o12 : Int))).drewN nq13).other (o := 4) n23.symm (.int .u64 (o13 : Int))).other (o := 5) n23.symm (.int .u64 (y13 : Int))
  have O1 := (((((((((O).drewN nq10).set1 o10).drewN nq11).set2 o11).drewN nq12).set3 o12).drewN nq13).set4 o13).set5 y13
  have BL1 : Hid (Below k0 w _) := ((belowDrewN ((belowDrewN ((belowDrewN ((belowDrewN (BL.out) nq10).setCell (p := ⟨k3, 1, none⟩) Q3.out (.int .u64 (o10 : Int))) nq11).setCell (p := ⟨k3, 2, none⟩) Q3.out (.int .u64 (o11 : Int))) nq12).setCell (p := ⟨k3, 3, none⟩) Q3.out (.int .u64 (o12 : Int))) nq13).setCell (p := ⟨k3, 4, none⟩) Q3.out (.int .u64 (o13 : Int))).setCell (p := ⟨k3, 5, none⟩) Q3.out (.int .u64 (y13 : Int))
  generalize World.setCell _ _ _ = W2 at X1 Y1 RR1 O1 BL1 ⊢
  clear X Y R O BL
  have X := X1
  have Y := Y1
  have R := RR1
  have O := O1
  have BL := BL1
  clear X1 Y1 RR1 O1 BL1
  obtain ⟨xc0, xc1, xc2, xc3, xf⟩ := id X
  obtain ⟨yc0, yc1, yc2, yc3, yf⟩ := id Y
  obtain ⟨oc0, oc1, oc2, oc3, oc4, oc5, oc6, oc7, of⟩ := id O
  simp only [Int.natCast_zero] at oc6 oc7
  rw [rounds_succ]; go_wp2
  refine wp_loop_rounds 5 ?_
  obtain ⟨h20, l20, s20, k20, o20, j20, g20, y20, m20, b20, d20, v20, z20, ho20, hy20, e20⟩ := mulstep c p o11 0 hc hp ho11 (by decide)
  simp only [Int.natCast_zero] at b20
  rw [rounds_succ]; go_wp2
  go_quiet ((go_at_call 94; exact Calls.quiet_of_same (m20 _)))
  revert nq; intro nq20
  go_wp2_with (first | simp only [b20] | simp only [d20])
  obtain ⟨h21, l21, s21, k21, o21, j21, g21, y21, m21, b21, d21, v21, z21, ho21, hy21, e21⟩ := mulstep c q o12 y20 hc hq ho12 hy20
  rw [rounds_succ]; go_wp2
  go_quiet ((go_at_call 94; exact Calls.quiet_of_same (m21 _)))
  revert nq; intro nq21
  go_wp2_with (first | simp only [b21] | simp only [d21])
  obtain ⟨h22, l22, s22, k22, o22, j22, g22, y22, m22, b22, d22, v22, z22, ho22, hy22, e22⟩ := mulstep c r o13 y21 hc hr ho13 hy21
  rw [rounds_succ]; go_wp2
  go_quiet ((go_at_call 94; exact Calls.quiet_of_same (m22 _)))
  revert nq; intro nq22
  go_wp2_with (first | simp only [b22] | simp only [d22])
  obtain ⟨h23, l23, s23, k23, o23, j23, g23, y23, m23, b23, d23, v23, z23, ho23, hy23, e23⟩ := mulstep c s y13 y22 hc hs hy13 hy22
  rw [rounds_succ]; go_wp2
  go_quiet ((go_at_call 94; exact Calls.quiet_of_same (m23 _)))
  revert nq; intro nq23
  go_wp2_with (first | simp only [b23] | simp only [d23])
  rw [rounds_succ]; go_wp2
  have R2 := row_sum (n := val o11 o12 o13 y13) (p := o11) (q := o12) (r := o13) (s := y13) (x := c) (l0 := o20) (l1 := o21) (l2 := o22) (l3 := o23) en rfl e20 e21 e22 e23
  have HR2 : Hid _ := R2
  clear R2
  clear e20 e21 e22 e23 m20 b20 d20 v20 z20 m21 b21 d21 v21 z21 m22 b22 d22 v22 z22 m23 b23 d23 v23 z23
  clear xc0 xc1 xc2 xc3 xf yc0 yc1 yc2 yc3 yf oc0 oc1 oc2 oc3 oc4 oc5 oc6 oc7 of
  have X2 := (((((((((X).drewN nq20).other (o := 2) n03.symm (.int .u64 (o20 : Int))).drewN nq21).other (o := 3) n03.symm (.int .u64 (o21 : Int))).drewN nq22).other (o := 4) n03.symm (.int .u64 (o22 : Int))).drewN nq23).other (o := 5) n03.symm (.int .u64 (o23 : Int))).other (o := 6) n03.symm (.int .u64 (y23 : Int))
  have Y2 := (((((((((Y).drewN nq20).other (o := 2) n13.symm (.int .u64 (o20 : Int))).drewN nq21).other (o := 3) n13.symm (.int .u64 (o21 : Int))).drewN nq22).other (o := 4) n13.symm (.int .u64 (o22 : Int))).drewN nq23).other (o := 5) n13.symm (.int .u64 (o23 : Int))).other (o := 6) n13.symm (.int .u64 (y23 : Int))
  have RR2 := (((((((((R).drewN nq20).other (o := 2) n23.symm (.int .u64 (o20 : Int))).drewN nq21).other (o := 3) n23.symm (.int .u64 (o21 : Int))).drewN nq22).other (o := 4) n23.symm (.int .u64 (o22 : Int))).drewN nq23).other (o := 5) n23.symm (.int .u64 (o23 : Int))).other (o := 6) n23.symm (.int .u64 (y23 : Int))
  have O2 := (((((((((O).drewN nq20).set2 o20).drewN nq21).set3 o21).drewN nq22).set4 o22).drewN nq23).set5 o23).set6 y23
  have BL2 : Hid (Below k0 w _) := ((belowDrewN ((belowDrewN ((belowDrewN ((belowDrewN (BL.out) nq20).setCell (p := ⟨k3, 2, none⟩) Q3.out (.int .u64 (o20 : Int))) nq21).setCell (p := ⟨k3, 3, none⟩) Q3.out (.int .u64 (o21 : Int))) nq22).setCell (p := ⟨k3, 4, none⟩) Q3.out (.int .u64 (o22 : Int))) nq23).setCell (p := ⟨k3, 5, none⟩) Q3.out (.int .u64 (o23 : Int))).setCell (p := ⟨k3, 6, none⟩) Q3.out (.int .u64 (y23 : Int))
  generalize World.setCell _ _ _ = W3 at X2 Y2 RR2 O2 BL2 ⊢
  clear X Y R O BL
  have X := X2
  have Y := Y2
  have R := RR2
  have O := O2
  have BL := BL2
  clear X2 Y2 RR2 O2 BL2
  obtain ⟨xc0, xc1, xc2, xc3, xf⟩ := id X
  obtain ⟨yc0, yc1, yc2, yc3, yf⟩ := id Y
  obtain ⟨oc0, oc1, oc2, oc3, oc4, oc5, oc6, oc7, of⟩ := id O
  simp only [Int.natCast_zero] at oc7
  rw [rounds_succ]; go_wp2
  refine wp_loop_rounds 5 ?_
  obtain ⟨h30, l30, s30, k30, o30, j30, g30, y30, m30, b30, d30, v30, z30, ho30, hy30, e30⟩ := mulstep d p o21 0 hd hp ho21 (by decide)
  simp only [Int.natCast_zero] at b30
  rw [rounds_succ]; go_wp2
  go_quiet ((go_at_call 94; exact Calls.quiet_of_same (m30 _)))
  revert nq; intro nq30
  go_wp2_with (first | simp only [b30] | simp only [d30])
  obtain ⟨h31, l31, s31, k31, o31, j31, g31, y31, m31, b31, d31, v31, z31, ho31, hy31, e31⟩ := mulstep d q o22 y30 hd hq ho22 hy30
  rw [rounds_succ]; go_wp2
  go_quiet ((go_at_call 94; exact Calls.quiet_of_same (m31 _)))
  revert nq; intro nq31
  go_wp2_with (first | simp only [b31] | simp only [d31])
  obtain ⟨h32, l32, s32, k32, o32, j32, g32, y32, m32, b32, d32, v32, z32, ho32, hy32, e32⟩ := mulstep d r o23 y31 hd hr ho23 hy31
  rw [rounds_succ]; go_wp2
  go_quiet ((go_at_call 94; exact Calls.quiet_of_same (m32 _)))
  revert nq; intro nq32
  go_wp2_with (first | simp only [b32] | simp only [d32])
  obtain ⟨h33, l33, s33, k33, o33, j33, g33, y33, m33, b33, d33, v33, z33, ho33, hy33, e33⟩ := mulstep d s y23 y32 hd hs hy23 hy32
  rw [rounds_succ]; go_wp2
  go_quiet ((go_at_call 94; exact Calls.quiet_of_same (m33 _)))
  revert nq; intro nq33
  go_wp2_with (first | simp only [b33] | simp only [d33])
  rw [rounds_succ]; go_wp2
  have R3 := row_sum (n := val o21 o22 o23 y23) (p := o21) (q := o22) (r := o23) (s := y23) (x := d) (l0 := o30) (l1 := o31) (l2 := o32) (l3 := o33) en rfl e30 e31 e32 e33
  have HR3 : Hid _ := R3
  clear R3
  clear e30 e31 e32 e33 m30 b30 d30 v30 z30 m31 b31 d31 v31 z31 m32 b32 d32 v32 z32 m33 b33 d33 v33 z33
  clear xc0 xc1 xc2 xc3 xf yc0 yc1 yc2 yc3 yf oc0 oc1 oc2 oc3 oc4 oc5 oc6 oc7 of
  have X3 := (((((((((X).drewN nq30).other (o := 3) n03.symm (.int .u64 (o30 : Int))).drewN nq31).other (o := 4) n03.symm (.int .u64 (o31 : Int))).drewN nq32).other (o := 5) n03.symm (.int .u64 (o32 : Int))).drewN nq33).other (o := 6) n03.symm (.int .u64 (o33 : Int))).other (o := 7) n03.symm (.int .u64 (y33 : Int))
  have Y3 := (((((((((Y).drewN nq30).other (o := 3) n13.symm (.int .u64 (o30 : Int))).drewN nq31).other (o := 4) n13.symm (.int .u64 (o31 : Int))).drewN nq32).other (o := 5) n13.symm (.int .u64 (o32 : Int))).drewN nq33).other (o := 6) n13.symm (.int .u64 (o33 : Int))).other (o := 7) n13.symm (.int .u64 (y33 : Int))
  have RR3 := (((((((((R).drewN nq30).other (o := 3) n23.symm (.int .u64 (o30 : Int))).drewN nq31).other (o := 4) n23.symm (.int .u64 (o31 : Int))).drewN nq32).other (o := 5) n23.symm (.int .u64 (o32 : Int))).drewN nq33).other (o := 6) n23.symm (.int .u64 (o33 : Int))).other (o := 7) n23.symm (.int .u64 (y33 : Int))
  have O3 := (((((((((O).drewN nq30).set3 o30).drewN nq31).set4 o31).drewN nq32).set5 o32).drewN nq33).set6 o33).set7 y33
  have BL3 : Hid (Below k0 w _) := ((belowDrewN ((belowDrewN ((belowDrewN ((belowDrewN (BL.out) nq30).setCell (p := ⟨k3, 3, none⟩) Q3.out (.int .u64 (o30 : Int))) nq31).setCell (p := ⟨k3, 4, none⟩) Q3.out (.int .u64 (o31 : Int))) nq32).setCell (p := ⟨k3, 5, none⟩) Q3.out (.int .u64 (o32 : Int))) nq33).setCell (p := ⟨k3, 6, none⟩) Q3.out (.int .u64 (o33 : Int))).setCell (p := ⟨k3, 7, none⟩) Q3.out (.int .u64 (y33 : Int))
  generalize World.setCell _ _ _ = W4 at X3 Y3 RR3 O3 BL3 ⊢
  clear X Y R O BL
  have X := X3
  have Y := Y3
  have R := RR3
  have O := O3
  have BL := BL3
  clear X3 Y3 RR3 O3 BL3
  obtain ⟨oc0, oc1, oc2, oc3, oc4, oc5, oc6, oc7, of⟩ := id O
  obtain ⟨rc0, rc1, rc2, rc3, rc4, rc5, rc6, rc7, rf⟩ := id R
  have z3 := O.lt
  have z2 := R.lt
  rw [rounds_succ]; go_wp2
  have RF := R.self8 o00 o10 o20 o30 o31 o32 o33 y33
  unfold set8c at RF
  refine bodyPost_ret (v := ?v) ?hr rfl ?hR
  case hr => simp [results, Try.results58, go_sem, RF.c0, RF.c1, RF.c2, RF.c3, RF.c4, RF.c5, RF.c6, RF.c7]; rfl
  refine ⟨_, rfl, ?_, o00, o10, o20, o30, o31, o32, o33, y33, rfl, ho00, ho10, ho20, ho30, ho31, ho32, ho33, hy33, ?_⟩
  · rw [H0.out]; exact below_set8c BL.out Q2.out _ _ _ _ _ _ _ _
  · rw [em]; exact four_rows HR0.out HR1.out HR2.out HR3.out
end Go.Proofs.Ytdeidgbknlmhjab
