import Derived.Deep.RegionHeld3
import Derived.Deep.LoopGhost
import Derived.BigQuiet
import Derived.Test.YtmepmoalhgehhaaGreatDoorks9
set_option linter.unusedVariables false
set_option linter.unusedSimpArgs false
namespace Go.Proofs.YtmepmoalhgehhaaGreatDoor
open Go.RowKit Go.Sort
theorem mulS_of {w W : World} {k0 k1 k2 p0 p1 p2 p3 c0 c1 c2 c3 a b c d p q r s : Nat} (h : Kept w k0 [⟨k0, 0, p0, p1, p2, p3⟩, ⟨k0, 4, c0, c1, c2, c3⟩, ⟨k1, 0, a, b, c, d⟩, ⟨k2, 0, p, q, r, s⟩] W) : W.cell? ⟨k0, 0, none⟩ = some (.int .u64 (p0 : Int)) ∧ W.cell? ⟨k0, 1, none⟩ = some (.int .u64 (p1 : Int)) ∧ W.cell? ⟨k0, 2, none⟩ = some (.int .u64 (p2 : Int)) ∧ W.cell? ⟨k0, 3, none⟩ = some (.int .u64 (p3 : Int)) ∧ W.cell? ⟨k0, 4, none⟩ = some (.int .u64 (c0 : Int)) ∧ W.cell? ⟨k0, 5, none⟩ = some (.int .u64 (c1 : Int)) ∧ W.cell? ⟨k0, 6, none⟩ = some (.int .u64 (c2 : Int)) ∧ W.cell? ⟨k0, 7, none⟩ = some (.int .u64 (c3 : Int)) ∧ W.cell? ⟨k1, 0, none⟩ = some (.int .u64 (a : Int)) ∧ W.cell? ⟨k1, 1, none⟩ = some (.int .u64 (b : Int)) ∧ W.cell? ⟨k1, 2, none⟩ = some (.int .u64 (c : Int)) ∧ W.cell? ⟨k1, 3, none⟩ = some (.int .u64 (d : Int)) ∧ W.cell? ⟨k2, 0, none⟩ = some (.int .u64 (p : Int)) ∧ W.cell? ⟨k2, 1, none⟩ = some (.int .u64 (q : Int)) ∧ W.cell? ⟨k2, 2, none⟩ = some (.int .u64 (r : Int)) ∧ W.cell? ⟨k2, 3, none⟩ = some (.int .u64 (s : Int)) ∧ Kept w k0 [⟨k0, 0, p0, p1, p2, p3⟩, ⟨k0, 4, c0, c1, c2, c3⟩, ⟨k1, 0, a, b, c, d⟩, ⟨k2, 0, p, q, r, s⟩] W :=
  ⟨h.head.c0, h.head.c1, h.head.c2, h.head.c3, h.tail.head.c0, h.tail.head.c1, h.tail.head.c2, h.tail.head.c3, h.tail.tail.head.c0, h.tail.tail.head.c1, h.tail.tail.head.c2, h.tail.tail.head.c3, h.tail.tail.tail.head.c0, h.tail.tail.tail.head.c1, h.tail.tail.tail.head.c2, h.tail.tail.tail.head.c3, h⟩
set_option maxHeartbeats 4000000 in
set_option maxRecDepth 100000 in
theorem rMul_any (p0 p1 p2 p3 c0 c1 c2 c3 P : Nat) (x y : Value) (m n : Nat) (hp0 : p0 < 18446744073709551616) (hp1 : p1 < 18446744073709551616) (hp2 : p2 < 18446744073709551616) (hp3 : p3 < 18446744073709551616)
    (hc0 : c0 < 18446744073709551616) (hc1 : c1 < 18446744073709551616) (hc2 : c2 < 18446744073709551616) (hc3 : c3 < 18446744073709551616) (eP : P = val p0 p1 p2 p3) (hP : P + val c0 c1 c2 c3 = top) (hP2 : top < 2 * P) (hx : Four x m) (hy : Four y n) (w : World) :
    Calls Tryz.prog 47 #[.agg #[.int .u64 (p0 : Int), .int .u64 (p1 : Int), .int .u64 (p2 : Int), .int .u64 (p3 : Int), .int .u64 (c0 : Int), .int .u64 (c1 : Int), .int .u64 (c2 : Int), .int .u64 (c3 : Int)], x, y] w (Ret fun e w' => Below w.heap.size w w' ∧ Four e (m * n % P)) := by
  obtain ⟨a, b, c, d, rfl, ha, hb, hc, hd, em⟩ := id hx
  obtain ⟨p, q, r, s, rfl, hp, hq, hr, hs, en⟩ := id hy
  have HX : Hid (Four _ _) := hx
  have HY : Hid (Four _ _) := hy
  have HL : Hid (∀ (v : Value) (k : Nat) (w : World), Eight v k → Calls Tryz.prog 57 #[.agg #[.int .u64 (p0 : Int), .int .u64 (p1 : Int), .int .u64 (p2 : Int), .int .u64 (p3 : Int), .int .u64 (c0 : Int), .int .u64 (c1 : Int), .int .u64 (c2 : Int), .int .u64 (c3 : Int)], v] w (Ret fun e w' => Below w.heap.size w w' ∧ Four e (k % P))) :=
    fun v k w hv => rLess_any p0 p1 p2 p3 c0 c1 c2 c3 P v k hp0 hp1 hp2 hp3 hc0 hc1 hc2 hc3 eP hP hP2 hv w
  clear em en hx hy ha hb hc hd hp hq hr hs hp0 hp1 hp2 hp3 hc0 hc1 hc2 hc3 eP hP hP2
  go_enter Tryz.func47, Tryz.ntmps47
  go_wp2_with fail
  have FR := ((((At8.made w 70 p0 p1 p2 p3 c0 c1 c2 c3 rfl).alloc (.cells #[.int .u64 (a : Int), .int .u64 (b : Int), .int .u64 (c : Int), .int .u64 (d : Int)] 58)).alloc (.cells #[.int .u64 (p : Int), .int .u64 (q : Int), .int .u64 (r : Int), .int .u64 (s : Int)] 58)).alloc (.cells #[.int .u64 0, .int .u64 0, .int .u64 0, .int .u64 0] 58))
  have X := (((At4.made (w.alloc (.cells #[.int .u64 (p0 : Int), .int .u64 (p1 : Int), .int .u64 (p2 : Int), .int .u64 (p3 : Int), .int .u64 (c0 : Int), .int .u64 (c1 : Int), .int .u64 (c2 : Int), .int .u64 (c3 : Int)] 70)) 58 a b c d (World.size_alloc _ _)).alloc (.cells #[.int .u64 (p : Int), .int .u64 (q : Int), .int .u64 (r : Int), .int .u64 (s : Int)] 58)).alloc (.cells #[.int .u64 0, .int .u64 0, .int .u64 0, .int .u64 0] 58))
  have Y := ((At4.made ((w.alloc (.cells #[.int .u64 (p0 : Int), .int .u64 (p1 : Int), .int .u64 (p2 : Int), .int .u64 (p3 : Int), .int .u64 (c0 : Int), .int .u64 (c1 : Int), .int .u64 (c2 : Int), .int .u64 (c3 : Int)] 70)).alloc (.cells #[.int .u64 (a : Int), .int .u64 (b : Int), .int .u64 (c : Int), .int .u64 (d : Int)] 58)) 58 p q r s (k := w.heap.size + 1 + 1) (by simp)).alloc (.cells #[.int .u64 0, .int .u64 0, .int .u64 0, .int .u64 0] 58))
  have T3 := At4.made (((w.alloc (.cells #[.int .u64 (p0 : Int), .int .u64 (p1 : Int), .int .u64 (p2 : Int), .int .u64 (p3 : Int), .int .u64 (c0 : Int), .int .u64 (c1 : Int), .int .u64 (c2 : Int), .int .u64 (c3 : Int)] 70)).alloc (.cells #[.int .u64 (a : Int), .int .u64 (b : Int), .int .u64 (c : Int), .int .u64 (d : Int)] 58)).alloc (.cells #[.int .u64 (p : Int), .int .u64 (q : Int), .int .u64 (r : Int), .int .u64 (s : Int)] 58)) 58 0 0 0 0 (k := w.heap.size + 1 + 1 + 1) (by simp)
  have KP := ((((Kept.mk1 (below4 w (.cells #[.int .u64 (p0 : Int), .int .u64 (p1 : Int), .int .u64 (p2 : Int), .int .u64 (p3 : Int), .int .u64 (c0 : Int), .int .u64 (c1 : Int), .int .u64 (c2 : Int), .int .u64 (c3 : Int)] 70) (.cells #[.int .u64 (a : Int), .int .u64 (b : Int), .int .u64 (c : Int), .int .u64 (d : Int)] 58) (.cells #[.int .u64 (p : Int), .int .u64 (q : Int), .int .u64 (r : Int), .int .u64 (s : Int)] 58) (.cells #[.int .u64 0, .int .u64 0, .int .u64 0, .int .u64 0] 58)) (below4 w (.cells #[.int .u64 (p0 : Int), .int .u64 (p1 : Int), .int .u64 (p2 : Int), .int .u64 (p3 : Int), .int .u64 (c0 : Int), .int .u64 (c1 : Int), .int .u64 (c2 : Int), .int .u64 (c3 : Int)] 70) (.cells #[.int .u64 (a : Int), .int .u64 (b : Int), .int .u64 (c : Int), .int .u64 (d : Int)] 58) (.cells #[.int .u64 (p : Int), .int .u64 (q : Int), .int .u64 (r : Int), .int .u64 (s : Int)] 58) (.cells #[.int .u64 0, .int .u64 0, .int .u64 0, .int .u64 0] 58)).size).cons Y.blk).cons X.blk).cons (x := ⟨w.heap.size, 4, c0, c1, c2, c3⟩) ⟨FR.c4, FR.c5, FR.c6, FR.c7, FR.fz⟩).cons (x := ⟨w.heap.size, 0, p0, p1, p2, p3⟩) ⟨FR.c0, FR.c1, FR.c2, FR.c3, FR.fz⟩
  simp only [Int.natCast_zero] at T3
  clear FR X Y
  generalize World.alloc _ _ = W0 at KP T3 ⊢
  generalize h3 : w.heap.size + 1 + 1 + 1 = k3 at T3 ⊢
  generalize h2 : w.heap.size + 1 + 1 = k2 at KP ⊢
  generalize h1 : w.heap.size + 1 = k1 at KP ⊢
  have Q3 : Hid (w.heap.size ≤ k3) := by unfold Hid; omega
  generalize h0 : w.heap.size = k0 at KP Q3 ⊢
  have H0 : Hid (w.heap.size = k0) := h0
  have hl3 : ∀ x ∈ ([⟨k0, 0, p0, p1, p2, p3⟩, ⟨k0, 4, c0, c1, c2, c3⟩, ⟨k1, 0, a, b, c, d⟩, ⟨k2, 0, p, q, r, s⟩] : List Blk), k3 ≠ x.k := by simp only [List.mem_cons, List.not_mem_nil, or_false]; rintro x (rfl | rfl | rfl | rfl) <;> simp only <;> omega
  clear h0 h1 h2 h3
  obtain ⟨tc0, tc1, tc2, tc3, tf⟩ := id T3
  have zt := T3.lt
  go_region_held3 (fun w' => w'.cell? ⟨k0, 0, none⟩ = some (.int .u64 (p0 : Int)) ∧ w'.cell? ⟨k0, 1, none⟩ = some (.int .u64 (p1 : Int)) ∧ w'.cell? ⟨k0, 2, none⟩ = some (.int .u64 (p2 : Int)) ∧ w'.cell? ⟨k0, 3, none⟩ = some (.int .u64 (p3 : Int)) ∧ w'.cell? ⟨k0, 4, none⟩ = some (.int .u64 (c0 : Int)) ∧ w'.cell? ⟨k0, 5, none⟩ = some (.int .u64 (c1 : Int)) ∧ w'.cell? ⟨k0, 6, none⟩ = some (.int .u64 (c2 : Int)) ∧ w'.cell? ⟨k0, 7, none⟩ = some (.int .u64 (c3 : Int)) ∧ w'.cell? ⟨k1, 0, none⟩ = some (.int .u64 (a : Int)) ∧ w'.cell? ⟨k1, 1, none⟩ = some (.int .u64 (b : Int)) ∧ w'.cell? ⟨k1, 2, none⟩ = some (.int .u64 (c : Int)) ∧ w'.cell? ⟨k1, 3, none⟩ = some (.int .u64 (d : Int)) ∧ w'.cell? ⟨k2, 0, none⟩ = some (.int .u64 (p : Int)) ∧ w'.cell? ⟨k2, 1, none⟩ = some (.int .u64 (q : Int)) ∧ w'.cell? ⟨k2, 2, none⟩ = some (.int .u64 (r : Int)) ∧ w'.cell? ⟨k2, 3, none⟩ = some (.int .u64 (s : Int)) ∧ Kept w k0 [⟨k0, 0, p0, p1, p2, p3⟩, ⟨k0, 4, c0, c1, c2, c3⟩, ⟨k1, 0, a, b, c, d⟩, ⟨k2, 0, p, q, r, s⟩] w') (first | (with_reducible exact mulS_of KP) | (with_reducible exact mulS_of KP.drew) | (with_reducible exact mulS_of (KP.set4' Q3.out hl3 _ _ _ _)) | (with_reducible exact mulS_of (KP.set4' Q3.out hl3 _ _ _ _).drew) | fail) (first | (go_at_call 56; refine (rproduct_any _ _ _ _ HX.out HY.out _).mono ?_; rintro e w1 ⟨v, rfl, hb1, hE1⟩; obtain ⟨x0, x1, x2, x3, x4, x5, x6, x7, rfl, hx0, hx1, hx2, hx3, hx4, hx5, hx6, hx7, hxe⟩ := id hE1; clear hxe; have HE1 : Hid (Eight _ _) := hE1; clear hE1; have KP1 := KP.drew.call hb1; have T1 := T3.drew.call hb1; clear KP T3 hb1; have KP := KP1; have T3 := T1; clear KP1 T1; obtain ⟨tc0, tc1, tc2, tc3, tf⟩ := id T3; have zt := T3.lt) | (go_at_call 57; refine (HL.out _ _ _ HE1.out).mono ?_; rintro e w2 ⟨v, rfl, hb2, hF3⟩; obtain ⟨a', b', c', d', rfl, ha', hb', hc', hd', es3⟩ := id hF3; clear es3; have HF3 : Hid (Four _ _) := hF3; clear hF3; have KP1 := KP.call hb2; have T1 := T3.call hb2; clear KP T3 hb2; have KP := KP1; have T3 := T1; clear KP1 T1; obtain ⟨tc0, tc1, tc2, tc3, tf⟩ := id T3; have zt := T3.lt))
  go_wp2
  have RF := T3.self4 a' b' c' d'
  unfold set4 at RF
  refine bodyPost_ret (v := ?v) ?hr rfl ?hR
  case hr => simp [results, Tryz.results47, go_sem, RF.c0, RF.c1, RF.c2, RF.c3]; rfl
  refine ⟨_, rfl, ?_, HF3.out⟩
  rw [H0.out]
  exact below_set4 KP.bl Q3.out _ _ _ _
end Go.Proofs.YtmepmoalhgehhaaGreatDoor
namespace Go.Proofs.YtmepmoalhgehhaaGreatDoor
open Go.RowKit Go.Sort
theorem Four.eight {a b c d m : Nat} (h : Four (.agg #[.int .u64 (a : Int), .int .u64 (b : Int), .int .u64 (c : Int), .int .u64 (d : Int)]) m) :
    Eight (.agg #[.int .u64 (a : Int), .int .u64 (b : Int), .int .u64 (c : Int), .int .u64 (d : Int), .int .u64 0, .int .u64 0, .int .u64 0, .int .u64 0]) m := by
  obtain ⟨p, q, r, s, e, hp, hq, hr, hs, rfl⟩ := h
  simp only [Value.agg.injEq, Array.mk.injEq, List.cons.injEq, Value.int.injEq, true_and, and_true, Int.ofNat_inj] at e
  obtain ⟨rfl, rfl, rfl, rfl⟩ := e
  exact ⟨a, b, c, d, 0, 0, 0, 0, rfl, hp, hq, hr, hs, by decide, by decide, by decide, by decide, rfl⟩
theorem add_bound {v u : Value} {m n : Nat} (hx : Four v m) (hy : Four u n) : m + n < top * top := by
  have h1 := hx.lt
  have h2 := hy.lt
  have h3 : top + top ≤ top * top := by unfold top; decide
  omega
set_option maxHeartbeats 4000000 in
set_option maxRecDepth 100000 in
theorem rAdd_any (p0 p1 p2 p3 c0 c1 c2 c3 P : Nat) (x y : Value) (m n : Nat) (hp0 : p0 < 18446744073709551616) (hp1 : p1 < 18446744073709551616) (hp2 : p2 < 18446744073709551616) (hp3 : p3 < 18446744073709551616)
    (hc0 : c0 < 18446744073709551616) (hc1 : c1 < 18446744073709551616) (hc2 : c2 < 18446744073709551616) (hc3 : c3 < 18446744073709551616) (eP : P = val p0 p1 p2 p3) (hP : P + val c0 c1 c2 c3 = top) (hP2 : top < 2 * P) (hx : Four x m) (hy : Four y n) (w : World) :
    Calls Tryz.prog 101 #[.agg #[.int .u64 (p0 : Int), .int .u64 (p1 : Int), .int .u64 (p2 : Int), .int .u64 (p3 : Int), .int .u64 (c0 : Int), .int .u64 (c1 : Int), .int .u64 (c2 : Int), .int .u64 (c3 : Int)], x, y] w (Ret fun e w' => Below w.heap.size w w' ∧ Four e ((m + n) % P)) := by
  obtain ⟨a, b, c, d, rfl, ha, hb, hc, hd, em⟩ := id hx
  obtain ⟨p, q, r, s, rfl, hp, hq, hr, hs, en⟩ := id hy
  have HX : Hid (Four _ _) := hx
  have HY : Hid (Four _ _) := hy
  have HL : Hid (∀ (v : Value) (k : Nat) (w : World), Eight v k → Calls Tryz.prog 57 #[.agg #[.int .u64 (p0 : Int), .int .u64 (p1 : Int), .int .u64 (p2 : Int), .int .u64 (p3 : Int), .int .u64 (c0 : Int), .int .u64 (c1 : Int), .int .u64 (c2 : Int), .int .u64 (c3 : Int)], v] w (Ret fun e w' => Below w.heap.size w w' ∧ Four e (k % P))) :=
    fun v k w hv => rLess_any p0 p1 p2 p3 c0 c1 c2 c3 P v k hp0 hp1 hp2 hp3 hc0 hc1 hc2 hc3 eP hP hP2 hv w
  clear em en hx hy ha hb hc hd hp hq hr hs hp0 hp1 hp2 hp3 hc0 hc1 hc2 hc3 eP hP hP2
  go_enter Tryz.func101, Tryz.ntmps101
  go_wp2_with fail
  have FR := ((((At8.made w 70 p0 p1 p2 p3 c0 c1 c2 c3 rfl).alloc (.cells #[.int .u64 (a : Int), .int .u64 (b : Int), .int .u64 (c : Int), .int .u64 (d : Int)] 58)).alloc (.cells #[.int .u64 (p : Int), .int .u64 (q : Int), .int .u64 (r : Int), .int .u64 (s : Int)] 58)).alloc (.cells #[.int .u64 0, .int .u64 0, .int .u64 0, .int .u64 0] 58))
  have X := (((At4.made (w.alloc (.cells #[.int .u64 (p0 : Int), .int .u64 (p1 : Int), .int .u64 (p2 : Int), .int .u64 (p3 : Int), .int .u64 (c0 : Int), .int .u64 (c1 : Int), .int .u64 (c2 : Int), .int .u64 (c3 : Int)] 70)) 58 a b c d (World.size_alloc _ _)).alloc (.cells #[.int .u64 (p : Int), .int .u64 (q : Int), .int .u64 (r : Int), .int .u64 (s : Int)] 58)).alloc (.cells #[.int .u64 0, .int .u64 0, .int .u64 0, .int .u64 0] 58))
  have Y := ((At4.made ((w.alloc (.cells #[.int .u64 (p0 : Int), .int .u64 (p1 : Int), .int .u64 (p2 : Int), .int .u64 (p3 : Int), .int .u64 (c0 : Int), .int .u64 (c1 : Int), .int .u64 (c2 : Int), .int .u64 (c3 : Int)] 70)).alloc (.cells #[.int .u64 (a : Int), .int .u64 (b : Int), .int .u64 (c : Int), .int .u64 (d : Int)] 58)) 58 p q r s (k := w.heap.size + 1 + 1) (by simp)).alloc (.cells #[.int .u64 0, .int .u64 0, .int .u64 0, .int .u64 0] 58))
  have T3 := At4.made (((w.alloc (.cells #[.int .u64 (p0 : Int), .int .u64 (p1 : Int), .int .u64 (p2 : Int), .int .u64 (p3 : Int), .int .u64 (c0 : Int), .int .u64 (c1 : Int), .int .u64 (c2 : Int), .int .u64 (c3 : Int)] 70)).alloc (.cells #[.int .u64 (a : Int), .int .u64 (b : Int), .int .u64 (c : Int), .int .u64 (d : Int)] 58)).alloc (.cells #[.int .u64 (p : Int), .int .u64 (q : Int), .int .u64 (r : Int), .int .u64 (s : Int)] 58)) 58 0 0 0 0 (k := w.heap.size + 1 + 1 + 1) (by simp)
  have KP := ((((Kept.mk1 (below4 w (.cells #[.int .u64 (p0 : Int), .int .u64 (p1 : Int), .int .u64 (p2 : Int), .int .u64 (p3 : Int), .int .u64 (c0 : Int), .int .u64 (c1 : Int), .int .u64 (c2 : Int), .int .u64 (c3 : Int)] 70) (.cells #[.int .u64 (a : Int), .int .u64 (b : Int), .int .u64 (c : Int), .int .u64 (d : Int)] 58) (.cells #[.int .u64 (p : Int), .int .u64 (q : Int), .int .u64 (r : Int), .int .u64 (s : Int)] 58) (.cells #[.int .u64 0, .int .u64 0, .int .u64 0, .int .u64 0] 58)) (below4 w (.cells #[.int .u64 (p0 : Int), .int .u64 (p1 : Int), .int .u64 (p2 : Int), .int .u64 (p3 : Int), .int .u64 (c0 : Int), .int .u64 (c1 : Int), .int .u64 (c2 : Int), .int .u64 (c3 : Int)] 70) (.cells #[.int .u64 (a : Int), .int .u64 (b : Int), .int .u64 (c : Int), .int .u64 (d : Int)] 58) (.cells #[.int .u64 (p : Int), .int .u64 (q : Int), .int .u64 (r : Int), .int .u64 (s : Int)] 58) (.cells #[.int .u64 0, .int .u64 0, .int .u64 0, .int .u64 0] 58)).size).cons Y.blk).cons X.blk).cons (x := ⟨w.heap.size, 4, c0, c1, c2, c3⟩) ⟨FR.c4, FR.c5, FR.c6, FR.c7, FR.fz⟩).cons (x := ⟨w.heap.size, 0, p0, p1, p2, p3⟩) ⟨FR.c0, FR.c1, FR.c2, FR.c3, FR.fz⟩
  simp only [Int.natCast_zero] at T3
  clear FR X Y
  generalize World.alloc _ _ = W0 at KP T3 ⊢
  generalize h3 : w.heap.size + 1 + 1 + 1 = k3 at T3 ⊢
  generalize h2 : w.heap.size + 1 + 1 = k2 at KP ⊢
  generalize h1 : w.heap.size + 1 = k1 at KP ⊢
  have Q3 : Hid (w.heap.size ≤ k3) := by unfold Hid; omega
  generalize h0 : w.heap.size = k0 at KP Q3 ⊢
  have H0 : Hid (w.heap.size = k0) := h0
  have hl3 : ∀ x ∈ ([⟨k0, 0, p0, p1, p2, p3⟩, ⟨k0, 4, c0, c1, c2, c3⟩, ⟨k1, 0, a, b, c, d⟩, ⟨k2, 0, p, q, r, s⟩] : List Blk), k3 ≠ x.k := by simp only [List.mem_cons, List.not_mem_nil, or_false]; rintro x (rfl | rfl | rfl | rfl) <;> simp only <;> omega
  clear h0 h1 h2 h3
  obtain ⟨tc0, tc1, tc2, tc3, tf⟩ := id T3
  have zt := T3.lt
  go_region_held3 (fun w' => w'.cell? ⟨k0, 0, none⟩ = some (.int .u64 (p0 : Int)) ∧ w'.cell? ⟨k0, 1, none⟩ = some (.int .u64 (p1 : Int)) ∧ w'.cell? ⟨k0, 2, none⟩ = some (.int .u64 (p2 : Int)) ∧ w'.cell? ⟨k0, 3, none⟩ = some (.int .u64 (p3 : Int)) ∧ w'.cell? ⟨k0, 4, none⟩ = some (.int .u64 (c0 : Int)) ∧ w'.cell? ⟨k0, 5, none⟩ = some (.int .u64 (c1 : Int)) ∧ w'.cell? ⟨k0, 6, none⟩ = some (.int .u64 (c2 : Int)) ∧ w'.cell? ⟨k0, 7, none⟩ = some (.int .u64 (c3 : Int)) ∧ w'.cell? ⟨k1, 0, none⟩ = some (.int .u64 (a : Int)) ∧ w'.cell? ⟨k1, 1, none⟩ = some (.int .u64 (b : Int)) ∧ w'.cell? ⟨k1, 2, none⟩ = some (.int .u64 (c : Int)) ∧ w'.cell? ⟨k1, 3, none⟩ = some (.int .u64 (d : Int)) ∧ w'.cell? ⟨k2, 0, none⟩ = some (.int .u64 (p : Int)) ∧ w'.cell? ⟨k2, 1, none⟩ = some (.int .u64 (q : Int)) ∧ w'.cell? ⟨k2, 2, none⟩ = some (.int .u64 (r : Int)) ∧ w'.cell? ⟨k2, 3, none⟩ = some (.int .u64 (s : Int)) ∧ Kept w k0 [⟨k0, 0, p0, p1, p2, p3⟩, ⟨k0, 4, c0, c1, c2, c3⟩, ⟨k1, 0, a, b, c, d⟩, ⟨k2, 0, p, q, r, s⟩] w') (first | (with_reducible exact mulS_of KP) | (with_reducible exact mulS_of KP.drew) | (with_reducible exact mulS_of (KP.set4' Q3.out hl3 _ _ _ _)) | (with_reducible exact mulS_of (KP.set4' Q3.out hl3 _ _ _ _).drew) | fail) (first | (go_at_call 58; refine (rplus_any _ _ _ _ (Four.eight HX.out) (Four.eight HY.out) (add_bound HX.out HY.out) _).mono ?_; rintro e w1 ⟨v, rfl, hb1, hE1⟩; obtain ⟨x0, x1, x2, x3, x4, x5, x6, x7, rfl, hx0, hx1, hx2, hx3, hx4, hx5, hx6, hx7, hxe⟩ := id hE1; clear hxe; have HE1 : Hid (Eight _ _) := hE1; clear hE1; have KP1 := KP.drew.call hb1; have T1 := T3.drew.call hb1; clear KP T3 hb1; have KP := KP1; have T3 := T1; clear KP1 T1; obtain ⟨tc0, tc1, tc2, tc3, tf⟩ := id T3; have zt := T3.lt) | (go_at_call 57; refine (HL.out _ _ _ HE1.out).mono ?_; rintro e w2 ⟨v, rfl, hb2, hF3⟩; obtain ⟨a', b', c', d', rfl, ha', hb', hc', hd', es3⟩ := id hF3; clear es3; have HF3 : Hid (Four _ _) := hF3; clear hF3; have KP1 := KP.call hb2; have T1 := T3.call hb2; clear KP T3 hb2; have KP := KP1; have T3 := T1; clear KP1 T1; obtain ⟨tc0, tc1, tc2, tc3, tf⟩ := id T3; have zt := T3.lt))
  go_wp2
  have RF := T3.self4 a' b' c' d'
  unfold set4 at RF
  refine bodyPost_ret (v := ?v) ?hr rfl ?hR
  case hr => simp [results, Tryz.results101, go_sem, RF.c0, RF.c1, RF.c2, RF.c3]; rfl
  refine ⟨_, rfl, ?_, HF3.out⟩
  rw [H0.out]
  exact below_set4 KP.bl Q3.out _ _ _ _
end Go.Proofs.YtmepmoalhgehhaaGreatDoor
namespace Go.Proofs.YtmepmoalhgehhaaGreatDoor
open Go.RowKit Go.Sort
set_option maxHeartbeats 1000000 in
theorem rBelow_any (x y : Value) (m n : Nat) (hx : Four x m) (hy : Four y n) (w : World) :
    Calls Tryz.prog 71 #[x, y] w (Ret fun e w' => Below w.heap.size w w' ∧ e = .bool (decide (m < n))) := by
  obtain ⟨a, b, c, d, rfl, ha, hb, hc, hd, em⟩ := id hx
  obtain ⟨p, q, r, s, rfl, hp, hq, hr, hs, en⟩ := id hy
  have HX : Hid (Four _ _) := hx
  have HY : Hid (Four _ _) := hy
  clear em en hx hy ha hb hc hd hp hq hr hs
  go_enter Tryz.func71, Tryz.ntmps71
  go_wp2_with fail
  refine (rless_any _ _ _ _ HX.out HY.out _).mono ?_
  rintro e w1 ⟨v, rfl, hb1, v2, t, k, rfl, hF, hk, he⟩
  have HB : Hid (Below w.heap.size w w1) := (below2 w _ _).trans (hb1.mono (below2 w _ _).size)
  have hd : decide (m < n) = decide (k = 1) := by
    have h1 := hF.lt
    have h2 := HX.out.lt
    have h3 := HY.out.lt
    have : k = 0 ∨ k = 1 := by omega
    rcases this with rfl | rfl
    · rw [decide_eq_false (by omega), decide_eq_false (by omega)]
    · rw [decide_eq_true (by omega), decide_eq_true rfl]
  have HD : Hid (decide (m < n) = decide (k = 1)) := hd
  obtain ⟨a', b', c', d', rfl, ha', hb', hc', hd', es⟩ := id hF
  clear es hF he hd hb1
  have : k = 0 ∨ k = 1 := by omega
  rcases this with rfl | rfl
  · go_wp2
    go_ret
    exact ⟨_, rfl, HB.out.alloc HB.out.size _, by rw [HD.out]; rfl⟩
  · go_wp2
    go_ret
    exact ⟨_, rfl, HB.out.alloc HB.out.size _, by rw [HD.out]; rfl⟩
end Go.Proofs.YtmepmoalhgehhaaGreatDoor
namespace Go.Proofs.YtmepmoalhgehhaaGreatDoor
open Go.RowKit Go.Sort Go.Deep
theorem At4.setq {w : World} {k a b c d : Nat} (h : At4 w k a b c d) (q o : Nat) (hq : q < 4) :
    At4 (w.setCell ⟨k, q, none⟩ (.int .u64 (o : Int))) k (if q = 0 then o else a) (if q = 1 then o else b) (if q = 2 then o else c) (if q = 3 then o else d) := by
  have h' : q = 0 ∨ q = 1 ∨ q = 2 ∨ q = 3 := by omega
  rcases h' with rfl | rfl | rfl | rfl
  · exact h.set0 o
  · exact h.set1 o
  · exact h.set2 o
  · exact h.set3 o
theorem of_word {a b c d M k B : Nat} (ha : a < 18446744073709551616) (hb : b < 18446744073709551616) (hc : c < 18446744073709551616) (hd : d < 18446744073709551616) (hk : k < 32) (hB : B < 256) (hv : val a b c d = M * 256 ^ (k + 1)) :
    bits .or .u64 (wd a b c d (k / 8) : Int) ((B * 2 ^ (8 * (k % 8)) : Nat) : Int) = ((wd a b c d (k / 8) + B * 2 ^ (8 * (k % 8)) : Nat) : Int) ∧ wd a b c d (k / 8) + B * 2 ^ (8 * (k % 8)) < 18446744073709551616 := by
  have h1 : wd a b c d (k / 8) = 256 ^ (k % 8 + 1) * (M % 256 ^ (7 - k % 8)) := by
    rw [wd_eq (k / 8) (by omega) ha hb hc hd, hv, of_div rfl rfl]
  obtain ⟨h2, h3⟩ := of_or (y := M % 256 ^ (7 - k % 8)) (x := B) (r := k % 8) (by omega) hB (Nat.mod_lt _ (Nat.pow_pos (by decide)))
  rw [h1]
  refine ⟨?_, h3⟩
  rw [bits_or_u64_nat _ _ (by omega) (by omega), h2]
theorem of_step {a b c d k B o : Nat} (hk : k < 32) (ho : o = wd a b c d (k / 8) + B * 2 ^ (8 * (k % 8))) :
    val (if k / 8 = 0 then o else a) (if k / 8 = 1 then o else b) (if k / 8 = 2 then o else c) (if k / 8 = 3 then o else d) = val a b c d + B * 256 ^ k := by
  have h := val_set a b c d (k / 8) o (by omega)
  have e : (256 : Nat) ^ k = 2 ^ (64 * (k / 8)) * 2 ^ (8 * (k % 8)) := by
    rw [← Nat.pow_add, show 64 * (k / 8) + 8 * (k % 8) = 8 * k by omega, Nat.pow_mul]
  rw [ho, Nat.mul_add, ← Nat.mul_assoc, Nat.mul_comm (2 ^ (64 * (k / 8))) B, Nat.mul_assoc, ← e] at h
  rw [ho]
  omega
theorem beV_next (s : ByteArray) (i : Nat) (hi : i < s.size) : beV (s.data.extract 0 (i + 1)).toList = beV (s.data.extract 0 i).toList * 256 + s[i].toNat := by
  have e : (s.data.extract 0 (i + 1)).toList = (s.data.extract 0 i).toList ++ [s[i]] := by
    rw [Array.extract_succ_right (by omega) hi, Array.toList_push]
    rfl
  rw [e, beV_append]
  simp [beV]
set_option maxHeartbeats 4000000 in
set_option maxRecDepth 100000 in
theorem rOf_any (s : ByteArray) (hs : s.size = 32) (w : World) :
    Calls Tryz.prog 70 #[.string s] w (Ret fun e w' => Below w.heap.size w w' ∧ Four e (beV s.data.toList)) := by
  go_enter Tryz.func70, Tryz.ntmps70
  go_wp2
  have KP := ((Kept.mk1 (below2 w (.cells #[.int .u64 0, .int .u64 0, .int .u64 0, .int .u64 0] 58) (.cells #[.int .u64 0, .int .u64 0, .int .u64 0, .int .u64 0] 58)) (below2 w _ _).size).cons ((At4.made w 58 0 0 0 0 rfl).alloc (.cells #[.int .u64 0, .int .u64 0, .int .u64 0, .int .u64 0] 58)).blk).cons (At4.made (w.alloc (.cells #[.int .u64 0, .int .u64 0, .int .u64 0, .int .u64 0] 58)) 58 0 0 0 0 (World.size_alloc _ _)).blk
  generalize World.alloc _ _ = W0 at KP ⊢
  generalize h1 : w.heap.size + 1 = k1 at KP ⊢
  have n10 : k1 ≠ w.heap.size := by omega
  have Q1 : Hid (w.heap.size ≤ k1) := by unfold Hid; omega
  clear h1
  go_loopg [4] 32 (fun gk s4 wr => ∃ i a b c d : Nat, i + gk = 32 ∧ s4 = .int .i64 (i : Int) ∧ Kept w w.heap.size [⟨k1, 0, a, b, c, d⟩, ⟨w.heap.size, 0, 0, 0, 0, 0⟩] wr ∧ Hid (Four (.agg #[.int .u64 (a : Int), .int .u64 (b : Int), .int .u64 (c : Int), .int .u64 (d : Int)]) (beV (s.data.extract 0 i).toList * 256 ^ (32 - i))))
  case atStart =>
    refine ⟨0, 0, 0, 0, 0, rfl, rfl, KP, ?_⟩
    have : beV (s.data.extract 0 0).toList = 0 := by simp [beV]
    rw [this, Nat.zero_mul]
    exact Four.mk (by decide) (by decide) (by decide) (by decide) rfl
  case round =>
    clear KP
    obtain ⟨i, a, b, c, d, hi, rfl, KP, HF⟩ := hrel
    by_cases hlt : i < 32
    · obtain ⟨k, hk⟩ : ∃ k, 31 - i = k := ⟨_, rfl⟩
      have hk32 : k < 32 := by omega
      have hi32 : i < s.size := by omega
      have hF : val a b c d = beV (s.data.extract 0 i).toList * 256 ^ (k + 1) ∧ a < 18446744073709551616 ∧ b < 18446744073709551616 ∧ c < 18446744073709551616 ∧ d < 18446744073709551616 := by
        obtain ⟨a', b', c', d', e', h1, h2, h3, h4, h5⟩ := HF.out
        obtain ⟨rfl, rfl, rfl, rfl⟩ : a' = a ∧ b' = b ∧ c' = c ∧ d' = d := by
          simp only [Value.agg.injEq, Array.mk.injEq, List.cons.injEq, Value.int.injEq, true_and, and_true, Int.ofNat_inj] at e'
          exact ⟨e'.1.symm, e'.2.1.symm, e'.2.2.1.symm, e'.2.2.2.symm⟩
        exact ⟨by rw [← h5, show 32 - i = k + 1 by omega], h1, h2, h3, h4⟩
      obtain ⟨B, hB⟩ : ∃ B, s[i].toNat = B := ⟨_, rfl⟩
      have hB256 : B < 256 := hB ▸ s[i].toNat_lt
      have hsb : IntKind.u64.wrap (s[i].toNat : Int) = (B : Int) := by rw [hB]; exact wrapN _ (by omega)
      obtain ⟨hor, hol⟩ := of_word hF.2.1 hF.2.2.1 hF.2.2.2.1 hF.2.2.2.2 hk32 hB256 hF.1
      have xw := KP.head.at4.wd (k / 8) (by omega)
      obtain ⟨o, ho⟩ : ∃ o, wd a b c d (k / 8) + B * 2 ^ (8 * (k % 8)) = o := ⟨_, rfl⟩
      rw [ho] at hor hol
      have hst := of_step (a := a) (b := b) (c := c) (d := d) hk32 ho.symm
      have HST : Hid (Four (.agg #[.int .u64 ((if k / 8 = 0 then o else a : Nat) : Int), .int .u64 ((if k / 8 = 1 then o else b : Nat) : Int), .int .u64 ((if k / 8 = 2 then o else c : Nat) : Int), .int .u64 ((if k / 8 = 3 then o else d : Nat) : Int)]) (beV (s.data.extract 0 (i + 1)).toList * 256 ^ (32 - (i + 1)))) := by
        refine Four.mk ?_ ?_ ?_ ?_ ?_
        · split; exact hol; exact hF.2.1
        · split; exact hol; exact hF.2.2.1
        · split; exact hol; exact hF.2.2.2.1
        · split; exact hol; exact hF.2.2.2.2
        · rw [hst, hF.1, beV_next s i hi32, hB, show 32 - (i + 1) = k by omega, Nat.add_mul, Nat.pow_succ, Nat.mul_assoc, Nat.mul_comm (256 ^ k) 256]
      obtain ⟨y, hy⟩ : ∃ y, B * 2 ^ (8 * (k % 8)) = y := ⟨_, rfl⟩
      have hyl : y < 18446744073709551616 := by omega
      rw [hy] at hor
      obtain ⟨v, hv⟩ : ∃ v, wd a b c d (k / 8) = v := ⟨_, rfl⟩
      rw [hv] at hor xw
      obtain ⟨q, hq⟩ : ∃ q, k / 8 = q := ⟨_, rfl⟩
      obtain ⟨r, hr⟩ : ∃ r, k % 8 = r := ⟨_, rfl⟩
      obtain ⟨t, ht⟩ : ∃ t, 8 * r = t := ⟨_, rfl⟩
      have hq4 : q < 4 := by omega
      have PT := fun (v : Value) => KP.tail.set (j := k1) (i := q) Q1.out (by simp only [List.mem_cons, List.not_mem_nil, or_false]; rintro x rfl; exact n10) v
      rw [hq] at xw HST
      have hsh : IntKind.u64.wrap ((B : Int) * 2 ^ t) = (y : Int) := by
        rw [← ht, ← hr, ← hy, Int.natCast_mul, Int.natCast_pow]
        have := wrapN (B * 2 ^ (8 * (k % 8))) (by omega)
        rw [Int.natCast_mul, Int.natCast_pow] at this
        exact this
      have i1 : (31 : Int) - (i : Int) = (k : Int) := by omega
      have i2 : (k : Int).tdiv 8 = (q : Int) := by rw [Int.tdiv_eq_ediv_of_nonneg (by omega)]; omega
      have i3 : (k : Int).tmod 8 = (r : Int) := by rw [Int.tmod_eq_emod_of_nonneg (by omega)]; omega
      have i4 : (q : Int) < 4 := by omega
      have i5 : IntKind.i64.wrap (q : Int) = (q : Int) := wrap_i _ (by omega)
      have i6 : IntKind.i64.wrap (r : Int) = (r : Int) := wrap_i _ (by omega)
      have i7 : (8 : Int) * (r : Int) = (t : Int) := by omega
      have i8 : IntKind.i64.wrap (t : Int) = (t : Int) := wrap_i _ (by omega)
      have i9 : t < 64 := by omega
      have i10 : (t : Int) < 64 := by omega
      have hlt' : (i : Int) < 32 := by omega
      have T1 := KP.head.at4.setq q o hq4
      have z1 := KP.head.lt
      have xf := KP.head.f
      have HSB : Hid (s[i].toNat = B) := hB
      have H4 : Hid (q < 4) := hq4
      clear hy hv hq hr ht ho hst hF hB HF
      go_wp2
      go_region
      go_wp2
      go_roundg (gk - 1)
      case measure => omega
      case rel =>
        refine ⟨i + 1, _, _, _, _, by omega, rfl, ?_, HST⟩
        exact ((PT _).cons T1.blk).drew
    · have hi32 : i = 32 := by omega
      subst hi32
      have hse : s.data.extract 0 32 = s.data := by
        have h2 : s.data.size = 32 := hs
        rw [← h2]
        exact Array.extract_size
      have h1 := HF.out
      rw [Nat.sub_self, Nat.pow_zero, Nat.mul_one, hse] at h1
      have HFE : Hid (Four _ _) := h1
      clear h1 hse
      obtain ⟨nc0, nc1, nc2, nc3, nf⟩ := KP.head.at4
      obtain ⟨rc0, rc1, rc2, rc3, rf⟩ := KP.tail.head.at4
      have z1 := KP.head.lt
      have z0 := KP.tail.head.lt
      clear HF
      go_wp2
      have RF := KP.tail.head.at4.self4 a b c d
      unfold set4 at RF
      refine bodyPost_ret (v := ?v) ?hr rfl ?hR
      case hr => simp [results, Tryz.results70, go_sem, RF.c0, RF.c1, RF.c2, RF.c3]; rfl
      exact ⟨_, rfl, below_set4 KP.bl (Nat.le_refl _) _ _ _ _, HFE.out⟩
end Go.Proofs.YtmepmoalhgehhaaGreatDoor
namespace Go.Proofs.YtmepmoalhgehhaaGreatDoor
open Go.RowKit Go.Sort Go.Deep
/-- A prime of the reference, two numbers and a result, each in a block of its own. -/
theorem keptF3 (w : World) (p0 p1 p2 p3 c0 c1 c2 c3 a b c d p q r s : Nat) :
    Kept w w.heap.size [⟨w.heap.size, 0, p0, p1, p2, p3⟩, ⟨w.heap.size, 4, c0, c1, c2, c3⟩, ⟨w.heap.size + 1, 0, a, b, c, d⟩, ⟨w.heap.size + 1 + 1, 0, p, q, r, s⟩, ⟨w.heap.size + 1 + 1 + 1, 0, 0, 0, 0, 0⟩]
      ((((w.alloc (.cells #[.int .u64 (p0 : Int), .int .u64 (p1 : Int), .int .u64 (p2 : Int), .int .u64 (p3 : Int), .int .u64 (c0 : Int), .int .u64 (c1 : Int), .int .u64 (c2 : Int), .int .u64 (c3 : Int)] 70)).alloc (.cells #[.int .u64 (a : Int), .int .u64 (b : Int), .int .u64 (c : Int), .int .u64 (d : Int)] 58)).alloc (.cells #[.int .u64 (p : Int), .int .u64 (q : Int), .int .u64 (r : Int), .int .u64 (s : Int)] 58)).alloc (.cells #[.int .u64 0, .int .u64 0, .int .u64 0, .int .u64 0] 58)) := by
  have F := (((At8.made w 70 p0 p1 p2 p3 c0 c1 c2 c3 rfl).alloc (.cells #[.int .u64 (a : Int), .int .u64 (b : Int), .int .u64 (c : Int), .int .u64 (d : Int)] 58)).alloc (.cells #[.int .u64 (p : Int), .int .u64 (q : Int), .int .u64 (r : Int), .int .u64 (s : Int)] 58)).alloc (.cells #[.int .u64 0, .int .u64 0, .int .u64 0, .int .u64 0] 58)
  refine (((((Kept.mk1 (below4 w _ _ _ _) (below4 w _ _ _ _).size).cons ?_).cons ?_).cons ?_).cons ?_).cons ?_
  · exact (At4.made _ 58 0 0 0 0 (by simp)).blk
  · exact ((At4.made _ 58 p q r s (by simp)).alloc _).blk
  · exact (((At4.made _ 58 a b c d (by simp)).alloc _).alloc _).blk
  · exact ⟨F.c4, F.c5, F.c6, F.c7, F.fz⟩
  · exact ⟨F.c0, F.c1, F.c2, F.c3, F.fz⟩
theorem keptF2 (w : World) (p0 p1 p2 p3 c0 c1 c2 c3 a b c d : Nat) :
    Kept w w.heap.size [⟨w.heap.size, 0, p0, p1, p2, p3⟩, ⟨w.heap.size, 4, c0, c1, c2, c3⟩, ⟨w.heap.size + 1, 0, a, b, c, d⟩, ⟨w.heap.size + 1 + 1, 0, 0, 0, 0, 0⟩]
      (((w.alloc (.cells #[.int .u64 (p0 : Int), .int .u64 (p1 : Int), .int .u64 (p2 : Int), .int .u64 (p3 : Int), .int .u64 (c0 : Int), .int .u64 (c1 : Int), .int .u64 (c2 : Int), .int .u64 (c3 : Int)] 70)).alloc (.cells #[.int .u64 (a : Int), .int .u64 (b : Int), .int .u64 (c : Int), .int .u64 (d : Int)] 58)).alloc (.cells #[.int .u64 0, .int .u64 0, .int .u64 0, .int .u64 0] 58)) := by
  have F := ((At8.made w 70 p0 p1 p2 p3 c0 c1 c2 c3 rfl).alloc (.cells #[.int .u64 (a : Int), .int .u64 (b : Int), .int .u64 (c : Int), .int .u64 (d : Int)] 58)).alloc (.cells #[.int .u64 0, .int .u64 0, .int .u64 0, .int .u64 0] 58)
  refine ((((Kept.mk1 (below3 w _ _ _) (below3 w _ _ _).size).cons ?_).cons ?_).cons ?_).cons ?_
  · exact (At4.made _ 58 0 0 0 0 (by simp)).blk
  · exact ((At4.made _ 58 a b c d (by simp)).alloc _).blk
  · exact ⟨F.c4, F.c5, F.c6, F.c7, F.fz⟩
  · exact ⟨F.c0, F.c1, F.c2, F.c3, F.fz⟩
theorem keptF1 (w : World) (p0 p1 p2 p3 c0 c1 c2 c3 : Nat) :
    Kept w w.heap.size [⟨w.heap.size, 0, p0, p1, p2, p3⟩, ⟨w.heap.size, 4, c0, c1, c2, c3⟩, ⟨w.heap.size + 1, 0, 0, 0, 0, 0⟩] ((w.alloc (.cells #[.int .u64 (p0 : Int), .int .u64 (p1 : Int), .int .u64 (p2 : Int), .int .u64 (p3 : Int), .int .u64 (c0 : Int), .int .u64 (c1 : Int), .int .u64 (c2 : Int), .int .u64 (c3 : Int)] 70)).alloc (.cells #[.int .u64 0, .int .u64 0, .int .u64 0, .int .u64 0] 58)) := by
  have F := (At8.made w 70 p0 p1 p2 p3 c0 c1 c2 c3 rfl).alloc (.cells #[.int .u64 0, .int .u64 0, .int .u64 0, .int .u64 0] 58)
  refine (((Kept.mk1 (below2 w _ _) (below2 w _ _).size).cons ?_).cons ?_).cons ?_
  · exact (At4.made _ 58 0 0 0 0 (by simp)).blk
  · exact ⟨F.c4, F.c5, F.c6, F.c7, F.fz⟩
  · exact ⟨F.c0, F.c1, F.c2, F.c3, F.fz⟩
set_option maxHeartbeats 2000000 in
set_option maxRecDepth 100000 in
theorem rNumber_any (p0 p1 p2 p3 c0 c1 c2 c3 P : Nat) (x : ByteArray) (hR : RefP p0 p1 p2 p3 c0 c1 c2 c3 P) (w : World) :
    Calls Tryz.prog 41 #[.agg #[.int .u64 (p0 : Int), .int .u64 (p1 : Int), .int .u64 (p2 : Int), .int .u64 (p3 : Int), .int .u64 (c0 : Int), .int .u64 (c1 : Int), .int .u64 (c2 : Int), .int .u64 (c3 : Int)], .string x] w (Ret fun e w' => Below w.heap.size w w' ∧ ∃ (a b c d : Nat) (ok : Bool), e = .tuple #[.agg #[.int .u64 (a : Int), .int .u64 (b : Int), .int .u64 (c : Int), .int .u64 (d : Int)], .bool ok] ∧ (ok = true → IsNum P x.data ∧ Four (.agg #[.int .u64 (a : Int), .int .u64 (b : Int), .int .u64 (c : Int), .int .u64 (d : Int)]) (beV x.data.toList)) ∧ (ok = false → ¬ IsNum P x.data) ∧ (x.size = 32 → Four (.agg #[.int .u64 (a : Int), .int .u64 (b : Int), .int .u64 (c : Int), .int .u64 (d : Int)]) (beV x.data.toList)) ∧ (¬ x.size = 32 → a = 0 ∧ b = 0 ∧ c = 0 ∧ d = 0)) := by
  have HR : Hid (RefP p0 p1 p2 p3 c0 c1 c2 c3 P) := hR
  clear hR
  by_cases hs : x.size = 32
  · have HS : Hid (x.size = 32) := hs
    have hs' : (x.size : Int) = 32 := by omega
    clear hs
    go_enter Tryz.func41, Tryz.ntmps41
    go_wp2_with fail
    have KP := keptF1 w p0 p1 p2 p3 c0 c1 c2 c3
    generalize World.alloc _ _ = W0 at KP ⊢
    refine (rOf_any x HS.out _).mono ?_
    rintro e w1 ⟨v, rfl, hb1, hF⟩
    obtain ⟨a, b, c, d, rfl, ha, hb, hc, hd, es⟩ := id hF
    have HF : Hid (Four _ _) := hF
    replace KP := KP.call hb1
    clear hF es hb1 ha hb hc hd
    obtain ⟨pc0, pc1, pc2, pc3, pf⟩ := KP.head.at4
    have z0 := KP.head.lt
    have n0 : w.heap.size ≠ w1.heap.size := Nat.ne_of_lt z0
    go_wp2_with fail
    refine (rBelow_any _ _ _ _ HF.out (Four.mk HR.out.hp0 HR.out.hp1 HR.out.hp2 HR.out.hp3 HR.out.eP) _).mono ?_
    rintro e w2 ⟨v, rfl, hb2, rfl⟩
    have KP2 := ((KP.alloc (.cells #[.int .u64 (a : Int), .int .u64 (b : Int), .int .u64 (c : Int), .int .u64 (d : Int)] 58)).cons (At4.made w1 58 a b c d rfl).blk).call hb2
    clear hb2 pc0 pc1 pc2 pc3 pf z0 n0
    have n4 : w.heap.size + 1 ≠ w1.heap.size := Nat.ne_of_lt KP.tail.tail.head.lt
    clear KP
    generalize w1.heap.size = k5 at KP2 n4 ⊢
    obtain ⟨nc0, nc1, nc2, nc3, nf⟩ := KP2.head.at4
    obtain ⟨rc0, rc1, rc2, rc3, rf⟩ := KP2.tail.tail.tail.head.at4
    have z5 := KP2.head.lt
    have z1 := KP2.tail.tail.tail.head.lt
    obtain ⟨ok, hok⟩ : ∃ ok, decide (beV x.data.toList < P) = ok := ⟨_, rfl⟩
    rw [hok]
    have HO : Hid (decide (beV x.data.toList < P) = ok) := hok
    clear hok
    go_wp2
    have RF := KP2.tail.tail.tail.head.at4.self4 a b c d
    unfold set4 at RF
    refine bodyPost_ret (v := ?v) ?hr rfl ?hR
    case hr => simp [results, Tryz.results41, go_sem, RF.c0, RF.c1, RF.c2, RF.c3]; rfl
    refine ⟨_, rfl, below_set4 KP2.bl (Nat.le_succ _) _ _ _ _, a, b, c, d, ok, rfl, fun h => ⟨⟨HS.out, ?_⟩, HF.out⟩, fun h hn => ?_, fun _ => HF.out, fun h => absurd HS.out h⟩
    · exact of_decide_eq_true (HO.out.trans h)
    · have := HO.out
      rw [h] at this
      exact of_decide_eq_false this hn.2
  · have hs' : ¬ (x.size : Int) = 32 := by omega
    go_enter Tryz.func41, Tryz.ntmps41
    go_wp2
    refine bodyPost_ret (v := ?v2) ?hr2 rfl ?hR2
    case hr2 => simp [results, Tryz.results41, go_sem]; rfl
    exact ⟨_, rfl, below2 _ _ _, 0, 0, 0, 0, false, rfl, fun h => Bool.noConfusion h, fun _ h => hs h.1, fun h => absurd h hs, fun _ => ⟨rfl, rfl, rfl, rfl⟩⟩
theorem rSmall_any (n : Nat) (_ : n < 18446744073709551616) (w : World) : Calls Tryz.prog 98 #[.int .u64 (n : Int)] w (Ret fun e w' => Below w.heap.size w w' ∧ e = .agg #[.int .u64 (n : Int), .int .u64 0, .int .u64 0, .int .u64 0]) := by
  go_enter Tryz.func98, Tryz.ntmps98
  go_wp2
  refine bodyPost_ret (v := ?v) ?hr rfl ?hR
  case hr => simp [results, Tryz.results98, go_sem]; rfl
  exact ⟨_, rfl, below1 _ _, rfl⟩
set_option maxHeartbeats 1000000 in
theorem rBit_any (x : Value) (m i : Nat) (hx : Four x m) (hi : i < 256) (w : World) : Calls Tryz.prog 74 #[x, .int .i64 (i : Int)] w (Ret fun e w' => Below w.heap.size w w' ∧ ∃ t : Nat, e = .int .u64 (t : Int) ∧ t = m / 2 ^ i % 2) := by
  obtain ⟨a, b, c, d, rfl, ha, hb, hc, hd, em⟩ := id hx
  have xw := (At4.made w 58 a b c d rfl).wd (i / 64) (by omega)
  have hwl : wd a b c d (i / 64) < 18446744073709551616 := wd_lt _ ha hb hc hd
  have hbit : wd a b c d (i / 64) / 2 ^ (i % 64) % 2 = m / 2 ^ i % 2 := by rw [em]; exact wd_bit i hi ha hb hc hd
  have i2 : (i : Int).tdiv 64 = ((i / 64 : Nat) : Int) := by rw [Int.tdiv_eq_ediv_of_nonneg (by omega)]; omega
  have i3 : (i : Int).tmod 64 = ((i % 64 : Nat) : Int) := by rw [Int.tmod_eq_emod_of_nonneg (by omega)]; omega
  have i4 : (i / 64 : Nat) < 4 := by omega
  generalize wd a b c d (i / 64) = v at xw hwl hbit
  have hvl : v / 2 ^ (i % 64) < 18446744073709551616 := Nat.lt_of_le_of_lt (Nat.div_le_self _ _) hwl
  have hand : bits .and .u64 ((v : Int) / 2 ^ (i % 64)) 1 = ((m / 2 ^ i % 2 : Nat) : Int) := by
    have := and_one (v / 2 ^ (i % 64)) hvl
    rw [hbit] at this
    rw [← this, Int.natCast_ediv, Int.natCast_pow]
    rfl
  obtain ⟨t, ht⟩ : ∃ t, m / 2 ^ i % 2 = t := ⟨_, rfl⟩
  rw [ht] at hand
  have HT : Hid (t = m / 2 ^ i % 2) := ht.symm
  clear hx em ha hb hc hd hbit ht hvl
  go_enter Tryz.func74, Tryz.ntmps74
  go_upto_region 1 with fail
  have zx : w.heap.size < (w.alloc (.cells #[.int .u64 (a : Int), .int .u64 (b : Int), .int .u64 (c : Int), .int .u64 (d : Int)] 58)).heap.size := by simp
  have BL := below1 w (.cells #[.int .u64 (a : Int), .int .u64 (b : Int), .int .u64 (c : Int), .int .u64 (d : Int)] 58)
  generalize World.alloc _ _ = W0 at xw zx BL ⊢
  go_wp2
  go_ret
  exact ⟨_, rfl, BL, t, rfl, HT.out⟩
theorem or_nat (a b : Nat) (ha : a < 18446744073709551616) (hb : b < 18446744073709551616) : ∃ x : Nat, bits .or .u64 (a : Int) (b : Int) = (x : Int) ∧ (x = 0 ↔ a = 0 ∧ b = 0) ∧ x < 18446744073709551616 :=
  ⟨a ||| b, bits_or_u64_nat a b ha hb, Nat.or_eq_zero_iff, Nat.or_lt_two_pow (n := 64) ha hb⟩
set_option maxHeartbeats 1000000 in
theorem rZero_any (x : Value) (m : Nat) (hx : Four x m) (w : World) : Calls Tryz.prog 33 #[x] w (Ret fun e w' => Below w.heap.size w w' ∧ e = .bool (decide (m = 0))) := by
  obtain ⟨a, b, c, d, rfl, ha, hb, hc, hd, em⟩ := id hx
  obtain ⟨y, o1, z1, l1⟩ := or_nat a b ha hb
  obtain ⟨z, o2, z2, l2⟩ := or_nat y c l1 hc
  obtain ⟨t, o3, z3, l3⟩ := or_nat z d l2 hd
  have hz : decide (m = 0) = decide (t = 0) := by
    rw [decide_eq_decide, z3, z2, z1, em]
    unfold val
    omega
  rw [hz]
  clear z1 z2 z3 hz em hx
  go_enter Tryz.func33, Tryz.ntmps33
  go_wp2
  go_ret
  exact ⟨_, rfl, below1 _ _, by by_cases h : t = 0 <;> simp [h]⟩
theorem neg_val {P m s k : Nat} (hm : m < P) (_ : P < top) (h0 : ¬ m = 0) (hs : s < top) (hk : k ≤ 1) (h : s + m = P + top * k) : s = (P - m) % P := by
  have : k = 0 ∨ k = 1 := by omega
  rw [Nat.mod_eq_of_lt (by omega)]
  rcases this with h' | h' <;> rw [h'] at h <;> omega
set_option maxHeartbeats 2000000 in
set_option maxRecDepth 100000 in
theorem rNeg_any (p0 p1 p2 p3 c0 c1 c2 c3 P : Nat) (x : Value) (m : Nat) (hR : RefP p0 p1 p2 p3 c0 c1 c2 c3 P) (hx : Four x m) (hm : m < P) (w : World) :
    Calls Tryz.prog 132 #[.agg #[.int .u64 (p0 : Int), .int .u64 (p1 : Int), .int .u64 (p2 : Int), .int .u64 (p3 : Int), .int .u64 (c0 : Int), .int .u64 (c1 : Int), .int .u64 (c2 : Int), .int .u64 (c3 : Int)], x] w (Ret fun e w' => Below w.heap.size w w' ∧ Four e ((P - m) % P)) := by
  have HR : Hid (RefP p0 p1 p2 p3 c0 c1 c2 c3 P) := hR
  have HX : Hid (Four x m) := hx
  have HM : Hid (m < P) := hm
  obtain ⟨a, b, c, d, rfl, ha, hb, hc, hd, em⟩ := id hx
  clear hR hx hm em ha hb hc hd
  go_enter Tryz.func132, Tryz.ntmps132
  go_wp2_with fail
  have KP := keptF2 w p0 p1 p2 p3 c0 c1 c2 c3 a b c d
  generalize World.alloc _ _ = W0 at KP ⊢
  generalize h2 : w.heap.size + 1 + 1 = k2 at KP ⊢
  generalize h1 : w.heap.size + 1 = k1 at KP ⊢
  have Q2 : Hid (w.heap.size ≤ k2) := by unfold Hid; omega
  generalize h0 : w.heap.size = k0 at KP Q2 ⊢
  have H0 : Hid (w.heap.size = k0) := h0
  clear h0 h1 h2
  refine (rZero_any _ _ HX.out _).mono ?_
  rintro e w1 ⟨v, rfl, hb1, rfl⟩
  replace KP := KP.call hb1
  clear hb1
  obtain ⟨xc0, xc1, xc2, xc3, xf⟩ := KP.tail.tail.head.at4
  have zx := KP.tail.tail.head.lt
  by_cases hz : m = 0
  · have hd : decide (m = 0) = true := decide_eq_true hz
    rw [hd]
    have HZ : Hid (m = 0) := hz
    clear hd hz
    obtain ⟨rc0, rc1, rc2, rc3, rf⟩ := KP.tail.tail.tail.head.at4
    have zr := KP.tail.tail.tail.head.lt
    go_wp2
    have RF := KP.tail.tail.tail.head.at4.self4 a b c d
    unfold set4 at RF
    refine bodyPost_ret (v := ?v) ?hr rfl ?hR
    case hr => simp [results, Tryz.results132, go_sem, RF.c0, RF.c1, RF.c2, RF.c3]; rfl
    refine ⟨_, rfl, by rw [H0.out]; exact below_set4 KP.bl Q2.out _ _ _ _, ?_⟩
    have h1 := HX.out
    rw [HZ.out] at h1 ⊢
    rw [Nat.sub_zero, Nat.mod_self]
    exact h1
  · have hd : decide (m = 0) = false := decide_eq_false hz
    rw [hd]
    have HZ : Hid (¬ m = 0) := hz
    clear hd hz
    obtain ⟨fc0, fc1, fc2, fc3, ff⟩ := KP.head.at4
    have zf := KP.head.lt
    go_wp2_with fail
    refine (rless_any _ _ _ _ (Four.mk HR.out.hp0 HR.out.hp1 HR.out.hp2 HR.out.hp3 HR.out.eP) HX.out _).mono ?_
    rintro e w2 ⟨v, rfl, hb2, v2, t, k, rfl, hF, hk, he⟩
    have HF : Hid (Four v2 ((P - m) % P)) := by
      have h1 := neg_val HM.out (by have h3 := HR.out.hP; have h4 := HR.out.hP2; have h5 := HM.out; have h6 : 0 < val c0 c1 c2 c3 ∨ val c0 c1 c2 c3 = 0 := by omega
                                    rcases h6 with h6 | h6
                                    · omega
                                    · have h7 : Four (.agg #[.int .u64 (p0 : Int), .int .u64 (p1 : Int), .int .u64 (p2 : Int), .int .u64 (p3 : Int)]) P := Four.mk HR.out.hp0 HR.out.hp1 HR.out.hp2 HR.out.hp3 HR.out.eP
                                      exact h7.lt) HZ.out hF.lt hk he
      rw [← h1]; exact hF
    obtain ⟨ra, rb, rc, rd, rfl, -⟩ := id hF
    replace KP := KP.call hb2
    clear hb2 xc0 xc1 xc2 xc3 xf zx fc0 fc1 fc2 fc3 ff zf hF he
    obtain ⟨rc0, rc1, rc2, rc3, rf⟩ := KP.tail.tail.tail.head.at4
    have zr := KP.tail.tail.tail.head.lt
    have nr : k2 ≠ w2.heap.size := Nat.ne_of_lt zr
    go_wp2
    have RF := (KP.tail.tail.tail.head.at4.self4 ra rb rc rd).alloc (.cells #[.int .u64 (ra : Int), .int .u64 (rb : Int), .int .u64 (rc : Int), .int .u64 (rd : Int)] 58)
    unfold set4 at RF
    refine bodyPost_ret (v := ?v2) ?hr2 rfl ?hR2
    case hr2 => simp [results, Tryz.results132, go_sem, RF.c0, RF.c1, RF.c2, RF.c3]; rfl
    refine ⟨_, rfl, ?_, HF.out⟩
    rw [H0.out]
    exact (below_set4 KP.bl Q2.out _ _ _ _).alloc (by simpa [set4] using KP.le) _
end Go.Proofs.YtmepmoalhgehhaaGreatDoor
namespace Go.Proofs.YtmepmoalhgehhaaGreatDoor
open Go.RowKit Go.Sort Go.Deep
theorem uFq : (Tryz.prog.underlying 70).map (·.isRow) = some true := by kernel_rfl
theorem iFq : (Tryz.prog.info? 70).map (·.size) = some 8 := by kernel_rfl
def rl1 : List Value := [.int .u64 13822214165235122497, .int .u64 13451932020343611451, .int .u64 18446744073709551614, .int .u64 18446744073709551615, .int .u64 4624529908474429119, .int .u64 4994812053365940164, .int .u64 1, .int .u64 0]
def rv1 : Value := .agg rl1.toArray
theorem rMake1_c : Gives 55 #[.int .i64 1] rv1 := fun w => (rMake1 w).mono (by rintro e w' ⟨v, rfl, hb, rfl⟩; exact ⟨_, rfl, hb, rfl⟩)
set_option maxHeartbeats 2000000 in
set_option maxRecDepth 100000 in
theorem Q3_c  : Gives 30 #[] rv1 := by
  intro w
  go_enter Tryz.func30, Tryz.ntmps30
  refine RG.M.enter [] 2 (by kernel_rfl) ?_
  intro a0 M0
  repeat refine wp_seq ?_
  refine M0.t [.m 0 [] 0] [(0, (RG.z 8))] [] [(RG.z 8)] [(0, (.p 0 0))] ⟨RG.mk 0 70, trivial⟩ ?_
  intro j1 a1 w1 M1
  repeat refine wp_seq ?_
  refine M1.t [.c 1 [] rv1, .u [(1, 0)] 0] [] [(0, 1, rl1)] [rl1] [(0, (.p 0 0))] ⟨RG.cl (rMake1_c), RG.pt iFq, trivial⟩ ?_
  intro a2 w2 M2
  refine wp_ret ?_
  refine bodyPost_ret (v := rv1) (RG.results_row M2.st 0 70 rfl 0 _ rfl (M2.at (s := (.p 0 0))) uFq iFq) M2.sl.defers ?_
  exact ⟨_, rfl, M2.st.bel.below, rfl⟩
/-- What the reference's Number answers, modulo the order. -/
def nuV (bs : Bs) : Nat := if bs.size = 32 then beV bs.toList else 0
theorem rNum_v {N : Nat} (hR : RefP 13822214165235122497 13451932020343611451 18446744073709551614 18446744073709551615 4624529908474429119 4994812053365940164 1 0 N) (s : ByteArray) : Gives 41 #[rv1, .string s] (.tuple #[nv (nuV s.data), .bool (rq N s.data).isSome]) := fun w =>
  (rNumber_any _ _ _ _ _ _ _ _ N s hR w).mono (by
    rintro e w' ⟨v, rfl, hb, a, b, c, d, ok, rfl, h1, h2, h3, h4⟩
    refine ⟨_, rfl, hb, ?_⟩
    unfold nuV rq
    cases ok with
    | true =>
      obtain ⟨hi, hF⟩ := h1 rfl
      rw [if_pos (show s.data.size = 32 ∧ beV s.data.toList < N from hi), if_pos (show s.data.size = 32 from hi.1), hF.nv]
      rfl
    | false =>
      rw [if_neg (show ¬ (s.data.size = 32 ∧ beV s.data.toList < N) from h2 rfl)]
      by_cases hs : s.data.size = 32
      · rw [if_pos hs, (h3 hs).nv]
        rfl
      · rw [if_neg hs]
        obtain ⟨rfl, rfl, rfl, rfl⟩ := h4 hs
        rfl)
theorem rq_nu {N : Nat} {bs : Bs} {n : Nat} (h : rq N bs = some n) : n = nuV bs := by
  unfold rq at h
  split at h
  · rename_i hc
    unfold nuV
    rw [if_pos hc.1]
    exact (Option.some.inj h).symm
  · cases h
end Go.Proofs.YtmepmoalhgehhaaGreatDoor
namespace Go.Proofs.YtmepmoalhgehhaaGreatDoor
open Go.RowKit Go.Sort Go.Deep
theorem rAdd_R {p0 p1 p2 p3 c0 c1 c2 c3 P : Nat} {x y : Value} {m n : Nat} (hR : RefP p0 p1 p2 p3 c0 c1 c2 c3 P) (hx : Four x m) (hy : Four y n) (w : World) :
    Calls Tryz.prog 101 #[.agg #[.int .u64 (p0 : Int), .int .u64 (p1 : Int), .int .u64 (p2 : Int), .int .u64 (p3 : Int), .int .u64 (c0 : Int), .int .u64 (c1 : Int), .int .u64 (c2 : Int), .int .u64 (c3 : Int)], x, y] w (Ret fun e w' => Below w.heap.size w w' ∧ Four e ((m + n) % P)) :=
  rAdd_any p0 p1 p2 p3 c0 c1 c2 c3 P x y m n hR.hp0 hR.hp1 hR.hp2 hR.hp3 hR.hc0 hR.hc1 hR.hc2 hR.hc3 hR.eP hR.hP hR.hP2 hx hy w
theorem rMul_R {p0 p1 p2 p3 c0 c1 c2 c3 P : Nat} {x y : Value} {m n : Nat} (hR : RefP p0 p1 p2 p3 c0 c1 c2 c3 P) (hx : Four x m) (hy : Four y n) (w : World) :
    Calls Tryz.prog 47 #[.agg #[.int .u64 (p0 : Int), .int .u64 (p1 : Int), .int .u64 (p2 : Int), .int .u64 (p3 : Int), .int .u64 (c0 : Int), .int .u64 (c1 : Int), .int .u64 (c2 : Int), .int .u64 (c3 : Int)], x, y] w (Ret fun e w' => Below w.heap.size w w' ∧ Four e (m * n % P)) :=
  rMul_any p0 p1 p2 p3 c0 c1 c2 c3 P x y m n hR.hp0 hR.hp1 hR.hp2 hR.hp3 hR.hc0 hR.hc1 hR.hc2 hR.hc3 hR.eP hR.hP hR.hP2 hx hy w
theorem sub_val {P m n : Nat} (hn : n < P) : (m + (P - n) % P) % P = (m + P - n) % P := by
  rw [Nat.add_mod, Nat.mod_mod, ← Nat.add_mod, show m + P - n = m + (P - n) by omega]
set_option maxHeartbeats 4000000 in
set_option maxRecDepth 100000 in
theorem rSub_any (p0 p1 p2 p3 c0 c1 c2 c3 P : Nat) (x y : Value) (m n : Nat) (hR : RefP p0 p1 p2 p3 c0 c1 c2 c3 P) (hx : Four x m) (hy : Four y n) (hn : n < P) (w : World) :
    Calls Tryz.prog 100 #[.agg #[.int .u64 (p0 : Int), .int .u64 (p1 : Int), .int .u64 (p2 : Int), .int .u64 (p3 : Int), .int .u64 (c0 : Int), .int .u64 (c1 : Int), .int .u64 (c2 : Int), .int .u64 (c3 : Int)], x, y] w (Ret fun e w' => Below w.heap.size w w' ∧ Four e ((m + P - n) % P)) := by
  obtain ⟨a, b, c, d, rfl, ha, hb, hc, hd, em⟩ := id hx
  obtain ⟨p, q, r, s, rfl, hp, hq, hr, hs, en⟩ := id hy
  have HX : Hid (Four _ _) := hx
  have HY : Hid (Four _ _) := hy
  have HR : Hid (RefP p0 p1 p2 p3 c0 c1 c2 c3 P) := hR
  have HN : Hid (n < P) := hn
  clear em en hx hy ha hb hc hd hp hq hr hs hR hn
  go_enter Tryz.func100, Tryz.ntmps100
  go_wp2_with fail
  have FR := ((((At8.made w 70 p0 p1 p2 p3 c0 c1 c2 c3 rfl).alloc (.cells #[.int .u64 (a : Int), .int .u64 (b : Int), .int .u64 (c : Int), .int .u64 (d : Int)] 58)).alloc (.cells #[.int .u64 (p : Int), .int .u64 (q : Int), .int .u64 (r : Int), .int .u64 (s : Int)] 58)).alloc (.cells #[.int .u64 0, .int .u64 0, .int .u64 0, .int .u64 0] 58))
  have X := (((At4.made (w.alloc (.cells #[.int .u64 (p0 : Int), .int .u64 (p1 : Int), .int .u64 (p2 : Int), .int .u64 (p3 : Int), .int .u64 (c0 : Int), .int .u64 (c1 : Int), .int .u64 (c2 : Int), .int .u64 (c3 : Int)] 70)) 58 a b c d (World.size_alloc _ _)).alloc (.cells #[.int .u64 (p : Int), .int .u64 (q : Int), .int .u64 (r : Int), .int .u64 (s : Int)] 58)).alloc (.cells #[.int .u64 0, .int .u64 0, .int .u64 0, .int .u64 0] 58))
  have Y := ((At4.made ((w.alloc (.cells #[.int .u64 (p0 : Int), .int .u64 (p1 : Int), .int .u64 (p2 : Int), .int .u64 (p3 : Int), .int .u64 (c0 : Int), .int .u64 (c1 : Int), .int .u64 (c2 : Int), .int .u64 (c3 : Int)] 70)).alloc (.cells #[.int .u64 (a : Int), .int .u64 (b : Int), .int .u64 (c : Int), .int .u64 (d : Int)] 58)) 58 p q r s (k := w.heap.size + 1 + 1) (by simp)).alloc (.cells #[.int .u64 0, .int .u64 0, .int .u64 0, .int .u64 0] 58))
  have T3 := At4.made (((w.alloc (.cells #[.int .u64 (p0 : Int), .int .u64 (p1 : Int), .int .u64 (p2 : Int), .int .u64 (p3 : Int), .int .u64 (c0 : Int), .int .u64 (c1 : Int), .int .u64 (c2 : Int), .int .u64 (c3 : Int)] 70)).alloc (.cells #[.int .u64 (a : Int), .int .u64 (b : Int), .int .u64 (c : Int), .int .u64 (d : Int)] 58)).alloc (.cells #[.int .u64 (p : Int), .int .u64 (q : Int), .int .u64 (r : Int), .int .u64 (s : Int)] 58)) 58 0 0 0 0 (k := w.heap.size + 1 + 1 + 1) (by simp)
  have KP := ((((Kept.mk1 (below4 w (.cells #[.int .u64 (p0 : Int), .int .u64 (p1 : Int), .int .u64 (p2 : Int), .int .u64 (p3 : Int), .int .u64 (c0 : Int), .int .u64 (c1 : Int), .int .u64 (c2 : Int), .int .u64 (c3 : Int)] 70) (.cells #[.int .u64 (a : Int), .int .u64 (b : Int), .int .u64 (c : Int), .int .u64 (d : Int)] 58) (.cells #[.int .u64 (p : Int), .int .u64 (q : Int), .int .u64 (r : Int), .int .u64 (s : Int)] 58) (.cells #[.int .u64 0, .int .u64 0, .int .u64 0, .int .u64 0] 58)) (below4 w (.cells #[.int .u64 (p0 : Int), .int .u64 (p1 : Int), .int .u64 (p2 : Int), .int .u64 (p3 : Int), .int .u64 (c0 : Int), .int .u64 (c1 : Int), .int .u64 (c2 : Int), .int .u64 (c3 : Int)] 70) (.cells #[.int .u64 (a : Int), .int .u64 (b : Int), .int .u64 (c : Int), .int .u64 (d : Int)] 58) (.cells #[.int .u64 (p : Int), .int .u64 (q : Int), .int .u64 (r : Int), .int .u64 (s : Int)] 58) (.cells #[.int .u64 0, .int .u64 0, .int .u64 0, .int .u64 0] 58)).size).cons Y.blk).cons X.blk).cons (x := ⟨w.heap.size, 4, c0, c1, c2, c3⟩) ⟨FR.c4, FR.c5, FR.c6, FR.c7, FR.fz⟩).cons (x := ⟨w.heap.size, 0, p0, p1, p2, p3⟩) ⟨FR.c0, FR.c1, FR.c2, FR.c3, FR.fz⟩
  simp only [Int.natCast_zero] at T3
  clear FR X Y
  generalize World.alloc _ _ = W0 at KP T3 ⊢
  generalize h3 : w.heap.size + 1 + 1 + 1 = k3 at T3 ⊢
  generalize h2 : w.heap.size + 1 + 1 = k2 at KP ⊢
  generalize h1 : w.heap.size + 1 = k1 at KP ⊢
  have Q3 : Hid (w.heap.size ≤ k3) := by unfold Hid; omega
  generalize h0 : w.heap.size = k0 at KP Q3 ⊢
  have H0 : Hid (w.heap.size = k0) := h0
  have hl3 : ∀ x ∈ ([⟨k0, 0, p0, p1, p2, p3⟩, ⟨k0, 4, c0, c1, c2, c3⟩, ⟨k1, 0, a, b, c, d⟩, ⟨k2, 0, p, q, r, s⟩] : List Blk), k3 ≠ x.k := by simp only [List.mem_cons, List.not_mem_nil, or_false]; rintro x (rfl | rfl | rfl | rfl) <;> simp only <;> omega
  clear h0 h1 h2 h3
  obtain ⟨tc0, tc1, tc2, tc3, tf⟩ := id T3
  have zt := T3.lt
  go_region_held3 (fun w' => w'.cell? ⟨k0, 0, none⟩ = some (.int .u64 (p0 : Int)) ∧ w'.cell? ⟨k0, 1, none⟩ = some (.int .u64 (p1 : Int)) ∧ w'.cell? ⟨k0, 2, none⟩ = some (.int .u64 (p2 : Int)) ∧ w'.cell? ⟨k0, 3, none⟩ = some (.int .u64 (p3 : Int)) ∧ w'.cell? ⟨k0, 4, none⟩ = some (.int .u64 (c0 : Int)) ∧ w'.cell? ⟨k0, 5, none⟩ = some (.int .u64 (c1 : Int)) ∧ w'.cell? ⟨k0, 6, none⟩ = some (.int .u64 (c2 : Int)) ∧ w'.cell? ⟨k0, 7, none⟩ = some (.int .u64 (c3 : Int)) ∧ w'.cell? ⟨k1, 0, none⟩ = some (.int .u64 (a : Int)) ∧ w'.cell? ⟨k1, 1, none⟩ = some (.int .u64 (b : Int)) ∧ w'.cell? ⟨k1, 2, none⟩ = some (.int .u64 (c : Int)) ∧ w'.cell? ⟨k1, 3, none⟩ = some (.int .u64 (d : Int)) ∧ w'.cell? ⟨k2, 0, none⟩ = some (.int .u64 (p : Int)) ∧ w'.cell? ⟨k2, 1, none⟩ = some (.int .u64 (q : Int)) ∧ w'.cell? ⟨k2, 2, none⟩ = some (.int .u64 (r : Int)) ∧ w'.cell? ⟨k2, 3, none⟩ = some (.int .u64 (s : Int)) ∧ Kept w k0 [⟨k0, 0, p0, p1, p2, p3⟩, ⟨k0, 4, c0, c1, c2, c3⟩, ⟨k1, 0, a, b, c, d⟩, ⟨k2, 0, p, q, r, s⟩] w') (first | (with_reducible exact mulS_of KP) | (with_reducible exact mulS_of KP.drew) | (with_reducible exact mulS_of (KP.set4' Q3.out hl3 _ _ _ _)) | (with_reducible exact mulS_of (KP.set4' Q3.out hl3 _ _ _ _).drew) | fail) (first | (go_at_call 132; refine (rNeg_any p0 p1 p2 p3 c0 c1 c2 c3 P _ _ HR.out HY.out HN.out _).mono ?_; rintro e w1 ⟨v, rfl, hb1, hE1⟩; obtain ⟨x0, x1, x2, x3, rfl, -⟩ := id hE1; have HE1 : Hid (Four _ _) := hE1; clear hE1; have KP1 := KP.drew.call hb1; have T1 := T3.drew.call hb1; clear KP T3 hb1; have KP := KP1; have T3 := T1; clear KP1 T1; obtain ⟨tc0, tc1, tc2, tc3, tf⟩ := id T3; have zt := T3.lt) | (go_at_call 101; refine (rAdd_R HR.out HX.out HE1.out _).mono ?_; rintro e w2 ⟨v, rfl, hb2, hF3⟩; rw [sub_val HN.out] at hF3; obtain ⟨a', b', c', d', rfl, ha', hb', hc', hd', es3⟩ := id hF3; clear es3; have HF3 : Hid (Four _ _) := hF3; clear hF3; have KP1 := KP.call hb2; have T1 := T3.call hb2; clear KP T3 hb2; have KP := KP1; have T3 := T1; clear KP1 T1; obtain ⟨tc0, tc1, tc2, tc3, tf⟩ := id T3; have zt := T3.lt))
  go_wp2
  have RF := T3.self4 a' b' c' d'
  unfold set4 at RF
  refine bodyPost_ret (v := ?v) ?hr rfl ?hR
  case hr => simp [results, Tryz.results100, go_sem, RF.c0, RF.c1, RF.c2, RF.c3]; rfl
  refine ⟨_, rfl, ?_, HF3.out⟩
  rw [H0.out]
  exact below_set4 KP.bl Q3.out _ _ _ _
end Go.Proofs.YtmepmoalhgehhaaGreatDoor
namespace Go.Proofs.YtmepmoalhgehhaaGreatDoor
open Go.RowKit Go.Sort Go.Deep
set_option maxHeartbeats 4000000 in
set_option maxRecDepth 100000 in
theorem rPow_any (p0 p1 p2 p3 c0 c1 c2 c3 P : Nat) (x y : Value) (m n : Nat) (hR : RefP p0 p1 p2 p3 c0 c1 c2 c3 P) (hx : Four x m) (hy : Four y n) (w : World) :
    Calls Tryz.prog 77 #[.agg #[.int .u64 (p0 : Int), .int .u64 (p1 : Int), .int .u64 (p2 : Int), .int .u64 (p3 : Int), .int .u64 (c0 : Int), .int .u64 (c1 : Int), .int .u64 (c2 : Int), .int .u64 (c3 : Int)], x, y] w (Ret fun e w' => Below w.heap.size w w' ∧ Four e (m ^ n % P)) := by
  obtain ⟨a, b, c, d, rfl, ha, hb, hc, hd, em⟩ := id hx
  obtain ⟨p, q, r, s, rfl, hp, hq, hr, hs, en⟩ := id hy
  have HX : Hid (Four _ _) := hx
  have HY : Hid (Four _ _) := hy
  have HR : Hid (RefP p0 p1 p2 p3 c0 c1 c2 c3 P) := hR
  clear em en hx hy ha hb hc hd hp hq hr hs hR
  go_enter Tryz.func77, Tryz.ntmps77
  go_wp2_with fail
  have KP := keptF3 w p0 p1 p2 p3 c0 c1 c2 c3 a b c d p q r s
  generalize World.alloc _ _ = W0 at KP ⊢
  generalize h3 : w.heap.size + 1 + 1 + 1 = k3 at KP ⊢
  generalize h2 : w.heap.size + 1 + 1 = k2 at KP ⊢
  generalize h1 : w.heap.size + 1 = k1 at KP ⊢
  have Q3 : Hid (w.heap.size ≤ k3) := by unfold Hid; omega
  generalize h0 : w.heap.size = k0 at KP Q3 ⊢
  have H0 : Hid (w.heap.size = k0) := h0
  clear h0 h1 h2 h3
  refine (rSmall_any 1 (by decide) _).mono ?_
  rintro e w1 ⟨v, rfl, hb1, rfl⟩
  replace KP := KP.call hb1
  clear hb1
  go_wp2
  have KN : Kept w k0 (⟨w1.heap.size, 0, 1, 0, 0, 0⟩ :: [⟨k0, 0, p0, p1, p2, p3⟩, ⟨k0, 4, c0, c1, c2, c3⟩, ⟨k1, 0, a, b, c, d⟩, ⟨k2, 0, p, q, r, s⟩, ⟨k3, 0, 0, 0, 0, 0⟩]) _ := (KP.alloc (.cells #[.int .u64 1, .int .u64 0, .int .u64 0, .int .u64 0] 58)).cons (At4.made w1 58 1 0 0 0 rfl).blk
  have Q7 : Hid (k0 ≤ w1.heap.size) := KP.le
  have hlt := KP.lts
  clear KP
  generalize World.alloc _ _ = W1 at KN ⊢
  generalize w1.heap.size = k7 at KN hlt Q7 ⊢
  have hl7 : ∀ x ∈ ([⟨k0, 0, p0, p1, p2, p3⟩, ⟨k0, 4, c0, c1, c2, c3⟩, ⟨k1, 0, a, b, c, d⟩, ⟨k2, 0, p, q, r, s⟩, ⟨k3, 0, 0, 0, 0, 0⟩] : List Blk), k7 ≠ x.k := fun x hx => Nat.ne_of_gt (hlt x hx)
  have n70 : k7 ≠ k0 := hl7 _ (List.mem_cons_self)
  have n71 : k7 ≠ k1 := hl7 ⟨k1, 0, a, b, c, d⟩ (by simp)
  have n72 : k7 ≠ k2 := hl7 ⟨k2, 0, p, q, r, s⟩ (by simp)
  have n73 : k7 ≠ k3 := hl7 ⟨k3, 0, 0, 0, 0, 0⟩ (by simp)
  clear hlt
  go_loopg [8] 256 (fun gk s8 wr => gk ≤ 256 ∧ s8 = .int .i64 ((gk : Int) - 1) ∧ ∃ na nb nc nd : Nat, Kept w k0 (⟨k7, 0, na, nb, nc, nd⟩ :: [⟨k0, 0, p0, p1, p2, p3⟩, ⟨k0, 4, c0, c1, c2, c3⟩, ⟨k1, 0, a, b, c, d⟩, ⟨k2, 0, p, q, r, s⟩, ⟨k3, 0, 0, 0, 0, 0⟩]) wr ∧ Hid (Four (.agg #[.int .u64 (na : Int), .int .u64 (nb : Int), .int .u64 (nc : Int), .int .u64 (nd : Int)]) (m ^ (n / 2 ^ gk) % P)))
  case atStart =>
    refine ⟨Nat.le_refl _, rfl, 1, 0, 0, 0, KN, ?_⟩
    have h1 := HR.out.hP2
    have h2 : 3 < top := by decide
    rw [show n / 2 ^ 256 = 0 from Nat.div_eq_of_lt HY.out.lt, Nat.pow_zero, Nat.mod_eq_of_lt (by omega)]
    exact Four.mk (by decide) (by decide) (by decide) (by decide) rfl
  case round =>
    clear KN
    obtain ⟨hg, rfl, na, nb, nc, nd, KP, HF⟩ := hrel
    obtain ⟨tc0, tc1, tc2, tc3, tf⟩ := KP.head.at4
    have zt := KP.head.lt
    by_cases hz : gk = 0
    · subst hz
      have HF0 := HF.out
      rw [Nat.pow_zero, Nat.div_one] at HF0
      have HFE : Hid (Four _ _) := HF0
      clear HF0 HF
      obtain ⟨rc0, rc1, rc2, rc3, rf⟩ := KP.tail.tail.tail.tail.tail.head.at4
      have zr := KP.tail.tail.tail.tail.tail.head.lt
      go_wp2
      have RF := KP.tail.tail.tail.tail.tail.head.at4.self4 na nb nc nd
      unfold set4 at RF
      refine bodyPost_ret (v := ?v) ?hr rfl ?hR
      case hr => simp [results, Tryz.results77, go_sem, RF.c0, RF.c1, RF.c2, RF.c3]; rfl
      refine ⟨_, rfl, ?_, HFE.out⟩
      rw [H0.out]
      exact below_set4 KP.bl Q3.out _ _ _ _
    · obtain ⟨i, hi⟩ : ∃ i, gk = i + 1 := ⟨gk - 1, by omega⟩
      have e1 : (gk : Int) - 1 = (i : Int) := by omega
      rw [e1]
      have d1 : (0 : Int) ≤ (i : Int) := by omega
      have hi2 : i < 256 := by omega
      obtain ⟨E, hE⟩ : ∃ E, n / 2 ^ gk = E := ⟨_, rfl⟩
      rw [hE] at HF
      rw [hi] at hE
      have HE : Hid (n / 2 ^ (i + 1) = E) := hE
      have HI : Hid (gk = i + 1) := hi
      clear hE hi e1
      obtain ⟨fc0, fc1, fc2, fc3, ff⟩ := KP.tail.head.at4
      have fb := KP.tail.tail.head
      obtain ⟨fd0, fd1, fd2, fd3, fg⟩ := id fb
      replace fd0 : wr.cell? ⟨k0, 4, none⟩ = some (.int .u64 (c0 : Int)) := fd0
      replace fd1 : wr.cell? ⟨k0, 5, none⟩ = some (.int .u64 (c1 : Int)) := fd1
      replace fd2 : wr.cell? ⟨k0, 6, none⟩ = some (.int .u64 (c2 : Int)) := fd2
      replace fd3 : wr.cell? ⟨k0, 7, none⟩ = some (.int .u64 (c3 : Int)) := fd3
      have zf := KP.tail.head.lt
      go_wp2_with fail
      clear tc0 tc1 tc2 tc3 tf zt fc0 fc1 fc2 fc3 ff fb fd0 fd1 fd2 fd3 fg zf
      refine (rMul_R HR.out HF.out HF.out _).mono ?_
      rintro e w2 ⟨v, rfl, hb2, hF3⟩
      rw [pow_two_mod] at hF3
      obtain ⟨ya, yb, yc, yd, rfl, -⟩ := id hF3
      clear HF
      have HF : Hid (Four _ _) := hF3
      clear hF3
      replace KP := KP.call hb2
      clear hb2
      obtain ⟨tc0, tc1, tc2, tc3, tf⟩ := KP.head.at4
      have zt := KP.head.lt
      obtain ⟨ec0, ec1, ec2, ec3, ef⟩ := KP.tail.tail.tail.tail.head.at4
      have ze := KP.tail.tail.tail.tail.head.lt
      go_wp2_with fail
      clear tc0 tc1 tc2 tc3 tf zt ec0 ec1 ec2 ec3 ef ze
      have KP2 := KP.put Q7.out hl7 ya yb yc yd
      clear KP
      generalize World.setCell _ _ _ = WX at KP2 ⊢
      refine (rBit_any _ _ i HY.out hi2 _).mono ?_
      rintro e w3 ⟨v, rfl, hb3, t, rfl, ht⟩
      have KP := KP2.call hb3
      have HT : Hid (t = n / 2 ^ i % 2) := ht
      have ht2 : t = 0 ∨ t = 1 := by omega
      clear hb3 KP2 ht
      rcases ht2 with rfl | rfl
      · go_wp2
        go_roundg (gk - 1)
        case measure => omega
        case rel =>
          refine ⟨by omega, ?_, ya, yb, yc, yd, KP, ?_⟩
          · have := HI.out
            congr 1
            omega
          · have h1 := HF.out
            unfold Hid
            rw [HI.out, Nat.add_sub_cancel, div_bit n i, HE.out, ← HT.out, Nat.add_zero]
            exact h1
      · obtain ⟨tc0, tc1, tc2, tc3, tf⟩ := KP.head.at4
        have zt := KP.head.lt
        obtain ⟨ac0, ac1, ac2, ac3, af⟩ := KP.tail.tail.tail.head.at4
        have za := KP.tail.tail.tail.head.lt
        obtain ⟨fc0, fc1, fc2, fc3, ff⟩ := KP.tail.head.at4
        have fb := KP.tail.tail.head
        obtain ⟨fd0, fd1, fd2, fd3, fg⟩ := id fb
        replace fd0 : w3.cell? ⟨k0, 4, none⟩ = some (.int .u64 (c0 : Int)) := fd0
        replace fd1 : w3.cell? ⟨k0, 5, none⟩ = some (.int .u64 (c1 : Int)) := fd1
        replace fd2 : w3.cell? ⟨k0, 6, none⟩ = some (.int .u64 (c2 : Int)) := fd2
        replace fd3 : w3.cell? ⟨k0, 7, none⟩ = some (.int .u64 (c3 : Int)) := fd3
        have zf := KP.tail.head.lt
        go_wp2_with fail
        clear tc0 tc1 tc2 tc3 tf zt fc0 fc1 fc2 fc3 ff fb fd0 fd1 fd2 fd3 fg zf ac0 ac1 ac2 ac3 af za
        refine (rMul_R HR.out HF.out HX.out _).mono ?_
        rintro e w4 ⟨v, rfl, hb4, hF3⟩
        rw [pow_step_mod] at hF3
        obtain ⟨ua, ub, uc, ud, rfl, -⟩ := id hF3
        clear HF
        have HF : Hid (Four _ _) := hF3
        clear hF3
        replace KP := KP.call hb4
        clear hb4
        obtain ⟨tc0, tc1, tc2, tc3, tf⟩ := KP.head.at4
        have zt := KP.head.lt
        go_wp2
        go_roundg (gk - 1)
        case measure => omega
        case rel =>
          refine ⟨by omega, ?_, ua, ub, uc, ud, KP.put Q7.out hl7 ua ub uc ud, ?_⟩
          · have := HI.out
            congr 1
            omega
          · have h1 := HF.out
            unfold Hid
            rw [HI.out, Nat.add_sub_cancel, div_bit n i, HE.out, ← HT.out]
            exact h1
set_option maxHeartbeats 2000000 in
set_option maxRecDepth 100000 in
theorem rInv_any (p0 p1 p2 p3 c0 c1 c2 c3 P : Nat) (x : Value) (m : Nat) (hR : RefP p0 p1 p2 p3 c0 c1 c2 c3 P) (hx : Four x m) (w : World) :
    Calls Tryz.prog 46 #[.agg #[.int .u64 (p0 : Int), .int .u64 (p1 : Int), .int .u64 (p2 : Int), .int .u64 (p3 : Int), .int .u64 (c0 : Int), .int .u64 (c1 : Int), .int .u64 (c2 : Int), .int .u64 (c3 : Int)], x] w (Ret fun e w' => Below w.heap.size w w' ∧ Four e (m ^ (P - 2) % P)) := by
  have HR : Hid (RefP p0 p1 p2 p3 c0 c1 c2 c3 P) := hR
  have HX : Hid (Four x m) := hx
  obtain ⟨a, b, c, d, rfl, ha, hb, hc, hd, em⟩ := id hx
  clear hR hx em ha hb hc hd
  go_enter Tryz.func46, Tryz.ntmps46
  go_wp2_with fail
  have KP := keptF2 w p0 p1 p2 p3 c0 c1 c2 c3 a b c d
  generalize World.alloc _ _ = W0 at KP ⊢
  generalize h2 : w.heap.size + 1 + 1 = k2 at KP ⊢
  generalize h1 : w.heap.size + 1 = k1 at KP ⊢
  have Q2 : Hid (w.heap.size ≤ k2) := by unfold Hid; omega
  generalize h0 : w.heap.size = k0 at KP Q2 ⊢
  have H0 : Hid (w.heap.size = k0) := h0
  clear h0 h1 h2
  have hP4 : Four (.agg #[.int .u64 (p0 : Int), .int .u64 (p1 : Int), .int .u64 (p2 : Int), .int .u64 (p3 : Int)]) P := Four.mk HR.out.hp0 HR.out.hp1 HR.out.hp2 HR.out.hp3 HR.out.eP
  refine (rless_any _ _ P 2 hP4 (Four.mk (a := 2) (b := 0) (c := 0) (d := 0) (by decide) (by decide) (by decide) (by decide) rfl) _).mono ?_
  rintro e w1 ⟨v, rfl, hb1, v2, t, k, rfl, hF, hk, he⟩
  have ht : t = P - 2 := by
    have h1 := hF.lt
    have h2 := hP4.lt
    have h3 := HR.out.hP2
    have h4 : 3 < top := by decide
    have : k = 0 ∨ k = 1 := by omega
    rcases this with h | h <;> rw [h] at he <;> omega
  have HE : Hid (Four v2 (P - 2)) := by unfold Hid; rw [← ht]; exact hF
  obtain ⟨ea, eb, ec, ed, rfl, -⟩ := id hF
  replace KP := KP.call hb1
  clear hb1 hF ht he hP4
  obtain ⟨xc0, xc1, xc2, xc3, xf⟩ := KP.tail.tail.head.at4
  have zx := KP.tail.tail.head.lt
  obtain ⟨fc0, fc1, fc2, fc3, ff⟩ := KP.head.at4
  have fb := KP.tail.head
  obtain ⟨fd0, fd1, fd2, fd3, fg⟩ := id fb
  replace fd0 : w1.cell? ⟨k0, 4, none⟩ = some (.int .u64 (c0 : Int)) := fd0
  replace fd1 : w1.cell? ⟨k0, 5, none⟩ = some (.int .u64 (c1 : Int)) := fd1
  replace fd2 : w1.cell? ⟨k0, 6, none⟩ = some (.int .u64 (c2 : Int)) := fd2
  replace fd3 : w1.cell? ⟨k0, 7, none⟩ = some (.int .u64 (c3 : Int)) := fd3
  have zf := KP.head.lt
  have n0 : k0 ≠ w1.heap.size := Nat.ne_of_lt zf
  have n1 : k1 ≠ w1.heap.size := Nat.ne_of_lt zx
  go_wp2_with fail
  clear xc0 xc1 xc2 xc3 xf zx fc0 fc1 fc2 fc3 ff fb fd0 fd1 fd2 fd3 fg zf n0 n1
  refine (rPow_any p0 p1 p2 p3 c0 c1 c2 c3 P _ _ _ _ HR.out HX.out HE.out _).mono ?_
  rintro e w2 ⟨v, rfl, hb2, hF⟩
  replace KP := (KP.alloc _).call hb2
  clear hb2
  obtain ⟨qa, qb, qc, qd, rfl, -⟩ := id hF
  have HF : Hid (Four _ _) := hF
  clear hF
  obtain ⟨rc0, rc1, rc2, rc3, rf⟩ := KP.tail.tail.tail.head.at4
  have zr := KP.tail.tail.tail.head.lt
  go_wp2
  have RF := KP.tail.tail.tail.head.at4.self4 qa qb qc qd
  unfold set4 at RF
  refine bodyPost_ret (v := ?v) ?hr rfl ?hR
  case hr => simp [results, Tryz.results46, go_sem, RF.c0, RF.c1, RF.c2, RF.c3]; rfl
  refine ⟨_, rfl, ?_, HF.out⟩
  rw [H0.out]
  exact below_set4 KP.bl Q2.out _ _ _ _
end Go.Proofs.YtmepmoalhgehhaaGreatDoor
namespace Go.Proofs.YtmepmoalhgehhaaGreatDoor
open Go.RowKit Go.Sort Go.Deep
theorem or_high (v t r : Nat) (hr : r < 64) (hv : v < 2 ^ r) (ht : t < 2) : bits .or .u64 (v : Int) ((t * 2 ^ r : Nat) : Int) = ((v + t * 2 ^ r : Nat) : Int) ∧ v + t * 2 ^ r < 18446744073709551616 := by
  have h1 : 2 ^ r ≤ 2 ^ 63 := Nat.pow_le_pow_right (by decide) (by omega)
  have h2 : t * 2 ^ r ≤ 1 * 2 ^ r := Nat.mul_le_mul_right _ (by omega)
  have h3 : (2 : Nat) ^ 63 = 9223372036854775808 := by decide
  have e := Nat.two_pow_add_eq_or_of_lt hv t
  refine ⟨?_, by omega⟩
  rw [bits_or_u64_nat _ _ (by omega) (by omega), Nat.or_comm, Nat.mul_comm t, ← e, Nat.add_comm]
/-- The word that gets a bit of a quarter is empty from there on. -/
theorem quart_word {a b c d Q i : Nat} (ha : a < 18446744073709551616) (hb : b < 18446744073709551616) (hc : c < 18446744073709551616) (hd : d < 18446744073709551616) (hi : i < 256) (hv : val a b c d = Q % 2 ^ i) : wd a b c d (i / 64) < 2 ^ (i % 64) := by
  rw [wd_eq (i / 64) (by omega) ha hb hc hd, hv]
  refine Nat.lt_of_le_of_lt (Nat.mod_le _ _) ?_
  refine Nat.div_lt_of_lt_mul ?_
  rw [← Nat.pow_add, show 64 * (i / 64) + i % 64 = i by omega]
  exact Nat.mod_lt _ (Nat.pow_pos (by decide))
theorem quart_step {a b c d Q i t o : Nat} (hi : i < 256) (hv : val a b c d = Q % 2 ^ i) (ht : t = Q / 2 ^ i % 2) (ho : o = wd a b c d (i / 64) + t * 2 ^ (i % 64)) :
    val (if i / 64 = 0 then o else a) (if i / 64 = 1 then o else b) (if i / 64 = 2 then o else c) (if i / 64 = 3 then o else d) = Q % 2 ^ (i + 1) := by
  have h := val_set a b c d (i / 64) o (by omega)
  have e : (2 : Nat) ^ i = 2 ^ (64 * (i / 64)) * 2 ^ (i % 64) := by
    rw [← Nat.pow_add, show 64 * (i / 64) + i % 64 = i by omega]
  rw [ho, Nat.mul_add, ← Nat.mul_assoc, Nat.mul_comm (2 ^ (64 * (i / 64))) t, Nat.mul_assoc, ← e] at h
  rw [ho, Nat.pow_succ, Nat.mod_mul, ← ht, Nat.mul_comm (2 ^ i)]
  omega
theorem sqS_of {w W : World} {k0 k1 k2 k3 j v p0 p1 p2 p3 c0 c1 c2 c3 a b c d qa qb qc qd : Nat} (h : Kept w k0 (⟨k3, 0, qa, qb, qc, qd⟩ :: [⟨k0, 0, p0, p1, p2, p3⟩, ⟨k0, 4, c0, c1, c2, c3⟩, ⟨k1, 0, a, b, c, d⟩, ⟨k2, 0, 0, 0, 0, 0⟩]) W) (hx : W.cell? ⟨k3, j, none⟩ = some (.int .u64 (v : Int))) : W.cell? ⟨k0, 0, none⟩ = some (.int .u64 (p0 : Int)) ∧ W.cell? ⟨k0, 1, none⟩ = some (.int .u64 (p1 : Int)) ∧ W.cell? ⟨k0, 2, none⟩ = some (.int .u64 (p2 : Int)) ∧ W.cell? ⟨k0, 3, none⟩ = some (.int .u64 (p3 : Int)) ∧ W.cell? ⟨k3, j, none⟩ = some (.int .u64 (v : Int)) ∧ Kept w k0 (⟨k3, 0, qa, qb, qc, qd⟩ :: [⟨k0, 0, p0, p1, p2, p3⟩, ⟨k0, 4, c0, c1, c2, c3⟩, ⟨k1, 0, a, b, c, d⟩, ⟨k2, 0, 0, 0, 0, 0⟩]) W :=
  ⟨h.tail.head.c0, h.tail.head.c1, h.tail.head.c2, h.tail.head.c3, hx, h⟩
theorem sqrS_of {w W : World} {k0 k1 k2 k8 p0 p1 p2 p3 c0 c1 c2 c3 a b c d ra rb rc rd : Nat} (h : Kept w k0 (⟨k8, 0, ra, rb, rc, rd⟩ :: [⟨k0, 0, p0, p1, p2, p3⟩, ⟨k0, 4, c0, c1, c2, c3⟩, ⟨k1, 0, a, b, c, d⟩, ⟨k2, 0, 0, 0, 0, 0⟩]) W) : W.cell? ⟨k0, 0, none⟩ = some (.int .u64 (p0 : Int)) ∧ W.cell? ⟨k0, 1, none⟩ = some (.int .u64 (p1 : Int)) ∧ W.cell? ⟨k0, 2, none⟩ = some (.int .u64 (p2 : Int)) ∧ W.cell? ⟨k0, 3, none⟩ = some (.int .u64 (p3 : Int)) ∧ W.cell? ⟨k0, 4, none⟩ = some (.int .u64 (c0 : Int)) ∧ W.cell? ⟨k0, 5, none⟩ = some (.int .u64 (c1 : Int)) ∧ W.cell? ⟨k0, 6, none⟩ = some (.int .u64 (c2 : Int)) ∧ W.cell? ⟨k0, 7, none⟩ = some (.int .u64 (c3 : Int)) ∧ W.cell? ⟨k8, 0, none⟩ = some (.int .u64 (ra : Int)) ∧ W.cell? ⟨k8, 1, none⟩ = some (.int .u64 (rb : Int)) ∧ W.cell? ⟨k8, 2, none⟩ = some (.int .u64 (rc : Int)) ∧ W.cell? ⟨k8, 3, none⟩ = some (.int .u64 (rd : Int)) ∧ W.cell? ⟨k1, 0, none⟩ = some (.int .u64 (a : Int)) ∧ W.cell? ⟨k1, 1, none⟩ = some (.int .u64 (b : Int)) ∧ W.cell? ⟨k1, 2, none⟩ = some (.int .u64 (c : Int)) ∧ W.cell? ⟨k1, 3, none⟩ = some (.int .u64 (d : Int)) ∧ Kept w k0 (⟨k8, 0, ra, rb, rc, rd⟩ :: [⟨k0, 0, p0, p1, p2, p3⟩, ⟨k0, 4, c0, c1, c2, c3⟩, ⟨k1, 0, a, b, c, d⟩, ⟨k2, 0, 0, 0, 0, 0⟩]) W :=
  ⟨h.tail.head.c0, h.tail.head.c1, h.tail.head.c2, h.tail.head.c3, h.tail.tail.head.c0, h.tail.tail.head.c1, h.tail.tail.head.c2, h.tail.tail.head.c3, h.head.c0, h.head.c1, h.head.c2, h.head.c3, h.tail.tail.tail.head.c0, h.tail.tail.tail.head.c1, h.tail.tail.tail.head.c2, h.tail.tail.tail.head.c3, h⟩
set_option maxHeartbeats 8000000 in
set_option maxRecDepth 100000 in
theorem rSqrt_any (p0 p1 p2 p3 c0 c1 c2 c3 P : Nat) (x : Value) (m : Nat) (hR : RefP p0 p1 p2 p3 c0 c1 c2 c3 P) (hP1 : P / 4 % 18446744073709551616 < 18446744073709551615) (hx : Four x m) (w : World) :
    Calls Tryz.prog 102 #[.agg #[.int .u64 (p0 : Int), .int .u64 (p1 : Int), .int .u64 (p2 : Int), .int .u64 (p3 : Int), .int .u64 (c0 : Int), .int .u64 (c1 : Int), .int .u64 (c2 : Int), .int .u64 (c3 : Int)], x] w (Ret fun e w' => Below w.heap.size w w' ∧ RootR P m (m ^ (P / 4 + 1) % P) e) := by
  obtain ⟨a, b, c, d, rfl, ha, hb, hc, hd, em⟩ := id hx
  have HX : Hid (Four _ m) := hx
  have HR : Hid (RefP p0 p1 p2 p3 c0 c1 c2 c3 P) := hR
  have HP1 : Hid (P / 4 % 18446744073709551616 < 18446744073709551615) := hP1
  have HP4 : Hid (Four (.agg #[.int .u64 (p0 : Int), .int .u64 (p1 : Int), .int .u64 (p2 : Int), .int .u64 (p3 : Int)]) P) := Four.mk hR.hp0 hR.hp1 hR.hp2 hR.hp3 hR.eP
  obtain ⟨R, hRe⟩ : ∃ R, m ^ (P / 4 + 1) % P = R := ⟨_, rfl⟩
  have hRP : R < P := by
    rw [← hRe]
    refine Nat.mod_lt _ ?_
    have := hR.hP2
    omega
  rw [hRe]
  have HRE : Hid (m ^ (P / 4 + 1) % P = R) := hRe
  have HRP : Hid (R < P) := hRP
  clear em hx ha hb hc hd hR hRe hRP hP1
  go_enter Tryz.func102, Tryz.ntmps102
  go_wp2
  have K0 := keptF2 w p0 p1 p2 p3 c0 c1 c2 c3 a b c d
  have K1 := (K0.alloc (.cells #[.int .u64 0, .int .u64 0, .int .u64 0, .int .u64 0] 58)).cons (At4.made _ 58 0 0 0 0 rfl).blk
  have hz : (((w.alloc (.cells #[.int .u64 (p0 : Int), .int .u64 (p1 : Int), .int .u64 (p2 : Int), .int .u64 (p3 : Int), .int .u64 (c0 : Int), .int .u64 (c1 : Int), .int .u64 (c2 : Int), .int .u64 (c3 : Int)] 70)).alloc (.cells #[.int .u64 (a : Int), .int .u64 (b : Int), .int .u64 (c : Int), .int .u64 (d : Int)] 58)).alloc (.cells #[.int .u64 0, .int .u64 0, .int .u64 0, .int .u64 0] 58)).heap.size = w.heap.size + 1 + 1 + 1 := by simp
  rw [hz] at K1
  clear K0 hz
  generalize World.alloc _ _ = W0 at K1 ⊢
  generalize h3 : w.heap.size + 1 + 1 + 1 = k3 at K1 ⊢
  generalize h2 : w.heap.size + 1 + 1 = k2 at K1 ⊢
  generalize h1 : w.heap.size + 1 = k1 at K1 ⊢
  have Q2 : Hid (w.heap.size ≤ k2) := by unfold Hid; omega
  have Q3 : Hid (w.heap.size ≤ k3) := by unfold Hid; omega
  generalize h0 : w.heap.size = k0 at K1 Q2 Q3 ⊢
  have H0 : Hid (w.heap.size = k0) := h0
  have n30 : k3 ≠ k0 := by omega
  have n31 : k3 ≠ k1 := by omega
  have n32 : k3 ≠ k2 := by omega
  clear h0 h1 h2 h3
  have hl3 : ∀ x ∈ ([⟨k0, 0, p0, p1, p2, p3⟩, ⟨k0, 4, c0, c1, c2, c3⟩, ⟨k1, 0, a, b, c, d⟩, ⟨k2, 0, 0, 0, 0, 0⟩] : List Blk), k3 ≠ x.k := by simp only [List.mem_cons, List.not_mem_nil, or_false]; rintro x (rfl | rfl | rfl | rfl); exact n30; exact n30; exact n31; exact n32
  go_loopg [7] 254 (fun gk s7 wr => ∃ i qa qb qc qd : Nat, i + gk = 254 ∧ s7 = .int .i64 (i : Int) ∧ Kept w k0 (⟨k3, 0, qa, qb, qc, qd⟩ :: [⟨k0, 0, p0, p1, p2, p3⟩, ⟨k0, 4, c0, c1, c2, c3⟩, ⟨k1, 0, a, b, c, d⟩, ⟨k2, 0, 0, 0, 0, 0⟩]) wr ∧ Hid (Four (.agg #[.int .u64 (qa : Int), .int .u64 (qb : Int), .int .u64 (qc : Int), .int .u64 (qd : Int)]) (P / 4 % 2 ^ i)))
  case atStart =>
    refine ⟨0, 0, 0, 0, 0, rfl, rfl, K1, ?_⟩
    rw [Nat.pow_zero, Nat.mod_one]
    exact Four.mk (by decide) (by decide) (by decide) (by decide) rfl
  case round =>
    clear K1
    obtain ⟨i, qa, qb, qc, qd, hi, rfl, KP, HF⟩ := hrel
    by_cases hlt : i < 254
    · have hF : val qa qb qc qd = P / 4 % 2 ^ i ∧ qa < 18446744073709551616 ∧ qb < 18446744073709551616 ∧ qc < 18446744073709551616 ∧ qd < 18446744073709551616 := by
        obtain ⟨a', b', c', d', e', h1, h2, h3, h4, h5⟩ := HF.out
        obtain ⟨rfl, rfl, rfl, rfl⟩ : a' = qa ∧ b' = qb ∧ c' = qc ∧ d' = qd := by
          simp only [Value.agg.injEq, Array.mk.injEq, List.cons.injEq, Value.int.injEq, true_and, and_true, Int.ofNat_inj] at e'
          exact ⟨e'.1.symm, e'.2.1.symm, e'.2.2.1.symm, e'.2.2.2.symm⟩
        exact ⟨h5.symm, h1, h2, h3, h4⟩
      have hwl := quart_word hF.2.1 hF.2.2.1 hF.2.2.2.1 hF.2.2.2.2 (i := i) (by omega) hF.1
      have xw := KP.head.at4.wd (i / 64) (by omega)
      obtain ⟨t, ht⟩ : ∃ t, P / 2 ^ (i + 2) % 2 = t := ⟨_, rfl⟩
      have ht2 : t < 2 := by omega
      have htq : t = P / 4 / 2 ^ i % 2 := by rw [← ht, Nat.div_div_eq_div_mul, show 4 * 2 ^ i = 2 ^ (i + 2) by rw [Nat.pow_add, Nat.mul_comm]]
      obtain ⟨o, ho⟩ : ∃ o, wd qa qb qc qd (i / 64) + t * 2 ^ (i % 64) = o := ⟨_, rfl⟩
      have hst := quart_step (i := i) (by omega) hF.1 htq ho.symm
      obtain ⟨hor, hol⟩ := or_high _ t (i % 64) (by omega) hwl ht2
      rw [ho] at hor hol
      have HST : Hid (Four (.agg #[.int .u64 ((if i / 64 = 0 then o else qa : Nat) : Int), .int .u64 ((if i / 64 = 1 then o else qb : Nat) : Int), .int .u64 ((if i / 64 = 2 then o else qc : Nat) : Int), .int .u64 ((if i / 64 = 3 then o else qd : Nat) : Int)]) (P / 4 % 2 ^ (i + 1))) := by
        refine Four.mk ?_ ?_ ?_ ?_ hst.symm
        · split; exact hol; exact hF.2.1
        · split; exact hol; exact hF.2.2.1
        · split; exact hol; exact hF.2.2.2.1
        · split; exact hol; exact hF.2.2.2.2
      obtain ⟨y, hy⟩ : ∃ y, t * 2 ^ (i % 64) = y := ⟨_, rfl⟩
      have hyl : y < 18446744073709551616 := by omega
      rw [hy] at hor
      obtain ⟨v, hv⟩ : ∃ v, wd qa qb qc qd (i / 64) = v := ⟨_, rfl⟩
      rw [hv] at hor xw
      obtain ⟨j, hj⟩ : ∃ j, i / 64 = j := ⟨_, rfl⟩
      obtain ⟨r, hr⟩ : ∃ r, i % 64 = r := ⟨_, rfl⟩
      obtain ⟨i2, hi2⟩ : ∃ i2, i + 2 = i2 := ⟨_, rfl⟩
      rw [hj] at xw HST
      have hsh : IntKind.u64.wrap ((t : Int) * 2 ^ r) = (y : Int) := by
        rw [← hr, ← hy, Int.natCast_mul, Int.natCast_pow]
        have := wrapN (t * 2 ^ (i % 64)) (by omega)
        rw [Int.natCast_mul, Int.natCast_pow] at this
        exact this
      have HBT : Hid (∀ w, Calls Tryz.prog 74 #[.agg #[.int .u64 (p0 : Int), .int .u64 (p1 : Int), .int .u64 (p2 : Int), .int .u64 (p3 : Int)], .int .i64 (i2 : Int)] w (Ret fun e w' => Below w.heap.size w w' ∧ ∃ t : Nat, e = .int .u64 (t : Int) ∧ t = P / 2 ^ i2 % 2)) := fun w => rBit_any _ P i2 HP4.out (by omega) w
      have HT : Hid (P / 2 ^ i2 % 2 = t) := by unfold Hid; rw [← hi2]; exact ht
      have e1 : (i : Int).tdiv 64 = (j : Int) := by rw [Int.tdiv_eq_ediv_of_nonneg (by omega)]; omega
      have e2 : (i : Int).tmod 64 = (r : Int) := by rw [Int.tmod_eq_emod_of_nonneg (by omega)]; omega
      have e3 : (j : Int) < 4 := by omega
      have e4 : IntKind.i64.wrap (j : Int) = (j : Int) := wrap_i _ (by omega)
      have e5 : IntKind.i64.wrap (r : Int) = (r : Int) := wrap_i _ (by omega)
      have e6 : (i : Int) + 2 = (i2 : Int) := by omega
      have e7 : IntKind.i64.wrap (i2 : Int) = (i2 : Int) := wrap_i _ (by omega)
      have e8 : (r : Int) < 64 := by omega
      have e9 : r < 64 := by omega
      have hlt' : (i : Int) < 254 := by omega
      have T1 := fun W (h : At4 W k3 qa qb qc qd) => At4.setq h j o (by omega)
      have hj4 : j < 4 := by omega
      have XJ := fun W (h : At4 W k3 qa qb qc qd) => At4.wd h j hj4
      rw [← hj, hv, hj] at XJ
      have HJ : Hid (j < 4) := hj4
      clear hy hv hj hr ho hst hF ht htq hwl hi2 HF hj4
      go_upto_region 5 with fail
      refine anyTill.begin (fun w' => w'.cell? ⟨k0, 0, none⟩ = some (.int .u64 (p0 : Int)) ∧ w'.cell? ⟨k0, 1, none⟩ = some (.int .u64 (p1 : Int)) ∧ w'.cell? ⟨k0, 2, none⟩ = some (.int .u64 (p2 : Int)) ∧ w'.cell? ⟨k0, 3, none⟩ = some (.int .u64 (p3 : Int)) ∧ w'.cell? ⟨k3, j, none⟩ = some (.int .u64 (v : Int)) ∧ Kept w k0 (⟨k3, 0, qa, qb, qc, qd⟩ :: [⟨k0, 0, p0, p1, p2, p3⟩, ⟨k0, 4, c0, c1, c2, c3⟩, ⟨k1, 0, a, b, c, d⟩, ⟨k2, 0, 0, 0, 0, 0⟩]) w') 16 mixed (sqS_of KP.drew (XJ _ KP.head.at4.drew)) (fun hS => ?_)
      refine anyTill.tk (i := 0) (v := ?_) rfl (Or.inl ⟨by rfl, ?_⟩) hS ?_
      rotate_left
      · intro w hSw
        (try dsimp only at hSw)
        go_simp
        try (with_reducible rfl)
      simp only [Act.put, List.setIfInBounds_toArray]
      refine anyTill.tk (i := 1) (v := ?_) rfl (Or.inl ⟨by rfl, ?_⟩) hS ?_
      rotate_left
      · intro w hSw
        (try dsimp only at hSw)
        go_simp
        try (with_reducible rfl)
      simp only [Act.put]
      refine anyTill.tk (i := 2) (v := ?_) rfl (Or.inl ⟨by rfl, ?_⟩) hS ?_
      rotate_left
      · intro w hSw
        (try dsimp only at hSw)
        go_simp
        try (with_reducible rfl)
      simp only [Act.put]
      refine anyTill.tk (i := 3) (v := ?_) rfl (Or.inl ⟨by rfl, ?_⟩) hS ?_
      rotate_left
      · intro w hSw
        (try dsimp only at hSw)
        go_simp
        try (with_reducible rfl)
      simp only [Act.put]
      refine anyTill.tk (i := 4) (v := ?_) rfl (Or.inl ⟨by rfl, ?_⟩) hS ?_
      rotate_left
      · intro w hSw
        (try dsimp only at hSw)
        go_simp
        try (with_reducible rfl)
      simp only [Act.put]
      refine anyTill.tk (i := 5) (v := ?_) rfl (Or.inl ⟨by rfl, ?_⟩) hS ?_
      rotate_left
      · intro w hSw
        (try dsimp only at hSw)
        go_simp
        try (with_reducible rfl)
      simp only [Act.put]
      refine anyTill.tk (i := 6) (v := ?_) rfl (Or.inl ⟨by rfl, ?_⟩) hS ?_
      rotate_left
      · intro w hSw
        (try dsimp only at hSw)
        go_simp
        try (with_reducible rfl)
      simp only [Act.put]
      refine anyTill.tk (i := 7) (v := ?_) rfl (Or.inl ⟨by rfl, ?_⟩) hS ?_
      rotate_left
      · intro w hSw
        (try dsimp only at hSw)
        go_simp
        try (with_reducible rfl)
      simp only [Act.put]
      refine anyTill.tk (i := 8) (v := ?_) rfl (Or.inl ⟨by rfl, ?_⟩) hS ?_
      rotate_left
      · intro w hSw
        (try dsimp only at hSw)
        go_simp
        try (with_reducible rfl)
      simp only [Act.put]
      refine anyTill.tk (i := 9) (v := ?_) rfl (Or.inl ⟨by rfl, ?_⟩) hS ?_
      rotate_left
      · intro w hSw
        (try dsimp only at hSw)
        go_simp
        try (with_reducible rfl)
      simp only [Act.put]
      refine anyTill.tk (i := 11) (v := ?_) rfl (Or.inl ⟨by rfl, ?_⟩) hS ?_
      rotate_left
      · intro w hSw
        (try dsimp only at hSw)
        go_simp
        try (with_reducible rfl)
      simp only [Act.put]
      refine anyTill.tk (i := 12) (v := ?_) rfl (Or.inl ⟨by rfl, ?_⟩) hS ?_
      rotate_left
      · intro w hSw
        (try dsimp only at hSw)
        go_simp
        try (with_reducible rfl)
      simp only [Act.put]
      try simp only [List.set_cons_zero, List.set_cons_succ]
      refine anyTill.step (i := 10) rfl (by kernel_rfl) (fun K hK => ?_)
      go_simp
      refine (HBT.out _).mono ?_
      rintro e w1 ⟨v', rfl, hb1, t', rfl, ht'⟩
      rw [HT.out] at ht'
      subst ht'
      clear hS
      have KP1 := KP.drew.call hb1
      clear hb1 KP
      refine hK.out _ _ (fun _ => sqS_of KP1 (XJ _ KP1.head.at4)) ?_
      clear hK K
      try simp only [Act.put, List.setIfInBounds_toArray, List.set_cons_zero, List.set_cons_succ]
      have cj := XJ _ KP1.head.at4
      have cf := KP1.head.f
      have cz := KP1.head.lt
      refine anyTill.step (i := 13) rfl (by kernel_rfl) (fun K hK => ?_)
      go_simp
      refine hK.out _ _ (fun _ => sqS_of KP1 (XJ _ KP1.head.at4)) ?_
      clear hK K
      try simp only [Act.put, List.setIfInBounds_toArray, List.set_cons_zero, List.set_cons_succ]
      refine anyTill.step (i := 14) rfl (by kernel_rfl) (fun K hK => ?_)
      go_simp
      refine hK.out _ _ (fun _ => sqS_of KP1 (XJ _ KP1.head.at4)) ?_
      clear hK K
      try simp only [Act.put, List.setIfInBounds_toArray, List.set_cons_zero, List.set_cons_succ]
      refine anyTill.step (i := 15) rfl (by kernel_rfl) (fun K hK => ?_)
      go_simp
      refine hK.out _ _ (fun _ => sqS_of KP1 (XJ _ KP1.head.at4)) ?_
      clear hK K
      try simp only [Act.put, List.setIfInBounds_toArray, List.set_cons_zero, List.set_cons_succ]
      refine anyTill.step (i := 16) rfl (by kernel_rfl) (fun K hK => ?_)
      go_simp
      refine hK.out _ _ (fun h => Bool.noConfusion h) ?_
      clear hK K
      try simp only [Act.put, List.setIfInBounds_toArray, List.set_cons_zero, List.set_cons_succ]
      refine anyTill.done (by kernel_rfl) ?_ _
      clear cj cf cz
      go_wp2
      go_roundg (gk - 1)
      case measure => omega
      case rel =>
        refine ⟨i + 1, _, _, _, _, by omega, rfl, ?_, HST⟩
        exact (KP1.tail.set (j := k3) (i := j) Q3.out hl3 _).cons (T1 _ KP1.head.at4).blk
    · have hi254 : i = 254 := by omega
      subst hi254
      have hF := HF.out
      have hPt := HP4.out.lt
      rw [Nat.mod_eq_of_lt (show P / 4 < 2 ^ 254 by unfold top at hPt; omega)] at hF
      have hq : val qa qb qc qd = P / 4 ∧ qa < 18446744073709551615 ∧ qb < 18446744073709551616 ∧ qc < 18446744073709551616 ∧ qd < 18446744073709551616 := by
        obtain ⟨a', b', c', d', e', h1, h2, h3, h4, h5⟩ := hF
        obtain ⟨rfl, rfl, rfl, rfl⟩ : a' = qa ∧ b' = qb ∧ c' = qc ∧ d' = qd := by
          simp only [Value.agg.injEq, Array.mk.injEq, List.cons.injEq, Value.int.injEq, true_and, and_true, Int.ofNat_inj] at e'
          exact ⟨e'.1.symm, e'.2.1.symm, e'.2.2.1.symm, e'.2.2.2.symm⟩
        refine ⟨h5.symm, ?_, h2, h3, h4⟩
        have h6 := HP1.out
        rw [h5] at h6
        unfold val at h6
        omega
      obtain ⟨qe, hqe'⟩ : ∃ qe, qa + 1 = qe := ⟨_, rfl⟩
      have HE : Hid (Four (.agg #[.int .u64 (qe : Int), .int .u64 (qb : Int), .int .u64 (qc : Int), .int .u64 (qd : Int)]) (P / 4 + 1)) := by
        refine Four.mk (by omega) hq.2.2.1 hq.2.2.2.1 hq.2.2.2.2 ?_
        rw [← hq.1, ← hqe']; unfold val; omega
      have hadd : (qa : Int) + 1 = (qe : Int) := by omega
      have hw := wrapN qe (by omega)
      clear hq hF hPt HF hqe'
      obtain ⟨qc0, qc1, qc2, qc3, qf⟩ := KP.head.at4
      have zq := KP.head.lt
      obtain ⟨xc0, xc1, xc2, xc3, xf⟩ := KP.tail.tail.tail.head.at4
      have zx := KP.tail.tail.tail.head.lt
      obtain ⟨fc0, fc1, fc2, fc3, ff⟩ := KP.tail.head.at4
      have fb := KP.tail.tail.head
      have fd0 : wr.cell? ⟨k0, 4, none⟩ = some (.int .u64 (c0 : Int)) := fb.c0
      have fd1 : wr.cell? ⟨k0, 5, none⟩ = some (.int .u64 (c1 : Int)) := fb.c1
      have fd2 : wr.cell? ⟨k0, 6, none⟩ = some (.int .u64 (c2 : Int)) := fb.c2
      have fd3 : wr.cell? ⟨k0, 7, none⟩ = some (.int .u64 (c3 : Int)) := fb.c3
      have zf := KP.tail.head.lt
      go_wp2_with fail
      clear qc0 qc1 qc2 qc3 qf zq xc0 xc1 xc2 xc3 xf zx fc0 fc1 fc2 fc3 ff fb fd0 fd1 fd2 fd3 zf
      have KP2 := KP.tail.set (j := k3) (i := 0) Q3.out hl3 (.int .u64 (qe : Int))
      clear KP
      generalize World.setCell _ _ _ = WS at KP2 ⊢
      refine (rPow_any p0 p1 p2 p3 c0 c1 c2 c3 P _ _ _ _ HR.out HX.out HE.out _).mono ?_
      rintro e w3 ⟨v, rfl, hb3, hF⟩
      have K := KP2.call hb3
      clear hb3 KP2 HE hadd hw
      obtain ⟨ra, rb, rc, rd, rfl, -⟩ := id hF
      rw [HRE.out] at hF
      have HF : Hid (Four _ R) := hF
      clear hF
      go_upto_region 8 with fail
      have KP : Kept w k0 (⟨w3.heap.size, 0, ra, rb, rc, rd⟩ :: [⟨k0, 0, p0, p1, p2, p3⟩, ⟨k0, 4, c0, c1, c2, c3⟩, ⟨k1, 0, a, b, c, d⟩, ⟨k2, 0, 0, 0, 0, 0⟩]) _ := (K.alloc (.cells #[.int .u64 (ra : Int), .int .u64 (rb : Int), .int .u64 (rc : Int), .int .u64 (rd : Int)] 58)).cons (At4.made w3 58 ra rb rc rd rfl).blk
      have n80 : w3.heap.size ≠ k0 := Nat.ne_of_gt K.head.lt
      have n81 : w3.heap.size ≠ k1 := Nat.ne_of_gt K.tail.tail.head.lt
      have n82 : w3.heap.size ≠ k2 := Nat.ne_of_gt K.tail.tail.tail.head.lt
      have Q8 : Hid (k0 ≤ w3.heap.size) := K.le
      clear K
      generalize World.alloc _ _ = W4 at KP ⊢
      generalize w3.heap.size = k8 at KP n80 n81 n82 Q8 ⊢
      by_cases heq : R * R % P = m
      · have hsame := same_R a b c d
        go_region_held3 (fun w' => w'.cell? ⟨k0, 0, none⟩ = some (.int .u64 (p0 : Int)) ∧ w'.cell? ⟨k0, 1, none⟩ = some (.int .u64 (p1 : Int)) ∧ w'.cell? ⟨k0, 2, none⟩ = some (.int .u64 (p2 : Int)) ∧ w'.cell? ⟨k0, 3, none⟩ = some (.int .u64 (p3 : Int)) ∧ w'.cell? ⟨k0, 4, none⟩ = some (.int .u64 (c0 : Int)) ∧ w'.cell? ⟨k0, 5, none⟩ = some (.int .u64 (c1 : Int)) ∧ w'.cell? ⟨k0, 6, none⟩ = some (.int .u64 (c2 : Int)) ∧ w'.cell? ⟨k0, 7, none⟩ = some (.int .u64 (c3 : Int)) ∧ w'.cell? ⟨k8, 0, none⟩ = some (.int .u64 (ra : Int)) ∧ w'.cell? ⟨k8, 1, none⟩ = some (.int .u64 (rb : Int)) ∧ w'.cell? ⟨k8, 2, none⟩ = some (.int .u64 (rc : Int)) ∧ w'.cell? ⟨k8, 3, none⟩ = some (.int .u64 (rd : Int)) ∧ w'.cell? ⟨k1, 0, none⟩ = some (.int .u64 (a : Int)) ∧ w'.cell? ⟨k1, 1, none⟩ = some (.int .u64 (b : Int)) ∧ w'.cell? ⟨k1, 2, none⟩ = some (.int .u64 (c : Int)) ∧ w'.cell? ⟨k1, 3, none⟩ = some (.int .u64 (d : Int)) ∧ Kept w k0 (⟨k8, 0, ra, rb, rc, rd⟩ :: [⟨k0, 0, p0, p1, p2, p3⟩, ⟨k0, 4, c0, c1, c2, c3⟩, ⟨k1, 0, a, b, c, d⟩, ⟨k2, 0, 0, 0, 0, 0⟩]) w') (first | (with_reducible exact sqrS_of KP) | (with_reducible exact sqrS_of KP.drew) | fail) (first | (go_at_call 47; refine (rMul_R HR.out HF.out HF.out _).mono ?_; rintro e w5 ⟨v, rfl, hb1, hF3⟩; rw [heq] at hF3; obtain rfl := hF3.inj HX.out; clear hF3; (first | (with_reducible (have KP1 := KP.drew.call hb1)) | (with_reducible (have KP1 := KP.call hb1)) | fail); clear KP hb1; have KP := KP1; clear KP1))
        have HEQ : Hid (R * R % P = m) := heq
        clear heq
        rename_i hHeld
        clear hHeld
        obtain ⟨ra', rb', rc', rd', e', hra, -⟩ := id HF.out
        obtain ⟨rfl, -⟩ : ra' = ra ∧ True := by
          simp only [Value.agg.injEq, Array.mk.injEq, List.cons.injEq, Value.int.injEq, true_and, and_true, Int.ofNat_inj] at e'
          exact ⟨e'.1.symm, trivial⟩
        clear e'
        have hodd2 : R % 2 = ra' % 2 := by
          obtain ⟨x1, x2, x3, x4, e', -, -, -, -, h5⟩ := id HF.out
          simp only [Value.agg.injEq, Array.mk.injEq, List.cons.injEq, Value.int.injEq, true_and, and_true, Int.ofNat_inj] at e'
          rw [h5, ← e'.1]
          unfold val
          omega
        have hand := and_one ra' hra
        obtain ⟨tc0, tc1, tc2, tc3, tf⟩ := KP.head.at4
        have zt := KP.head.lt
        obtain ⟨uc0, uc1, uc2, uc3, uf⟩ := KP.tail.tail.tail.tail.head.at4
        have zu := KP.tail.tail.tail.tail.head.lt
        have h2 : ra' % 2 = 0 ∨ ra' % 2 = 1 := by omega
        rcases h2 with h | h
        · rw [h] at hand hodd2
          have HF8 : Hid (Four (.agg #[.int .u64 (ra' : Int), .int .u64 (rb : Int), .int .u64 (rc : Int), .int .u64 (rd : Int)]) (even P R)) := by
            have h1 : even P R = R := by unfold even; rw [if_neg (by omega)]
            unfold Hid
            rw [h1]
            exact HF.out
          clear h hodd2 hra
          go_wp2
          have RF := KP.tail.tail.tail.tail.head.at4.self4 ra' rb rc rd
          unfold set4 at RF
          refine bodyPost_ret (v := ?v) ?hr rfl ?hR
          case hr => simp [results, Tryz.results102, go_sem, RF.c0, RF.c1, RF.c2, RF.c3]; rfl
          refine ⟨_, rfl, ?_, RootR.yes HEQ.out HF8.out⟩
          rw [H0.out]
          exact below_set4 KP.bl Q2.out _ _ _ _
        · rw [h] at hand hodd2
          have HO : Hid (R % 2 = 1) := hodd2
          clear h hodd2 hra
          obtain ⟨fc0, fc1, fc2, fc3, ff⟩ := KP.tail.head.at4
          have fb := KP.tail.tail.head
          have fd0 : w5.cell? ⟨k0, 4, none⟩ = some (.int .u64 (c0 : Int)) := fb.c0
          have fd1 : w5.cell? ⟨k0, 5, none⟩ = some (.int .u64 (c1 : Int)) := fb.c1
          have fd2 : w5.cell? ⟨k0, 6, none⟩ = some (.int .u64 (c2 : Int)) := fb.c2
          have fd3 : w5.cell? ⟨k0, 7, none⟩ = some (.int .u64 (c3 : Int)) := fb.c3
          have zf := KP.tail.head.lt
          go_wp2_with fail
          clear tc0 tc1 tc2 tc3 tf zt uc0 uc1 uc2 uc3 uf zu fc0 fc1 fc2 fc3 ff fb fd0 fd1 fd2 fd3 zf hand
          refine (rNeg_any p0 p1 p2 p3 c0 c1 c2 c3 P _ _ HR.out HF.out HRP.out _).mono ?_
          rintro e w8 ⟨v, rfl, hb8, hF8⟩
          obtain ⟨sa, sb, sc, sd, rfl, -⟩ := id hF8
          have HF8 : Hid (Four (.agg #[.int .u64 (sa : Int), .int .u64 (sb : Int), .int .u64 (sc : Int), .int .u64 (sd : Int)]) (even P R)) := by
            have h1 : (P - R) % P = even P R := by
              unfold even
              rw [if_pos HO.out]
              exact Nat.mod_eq_of_lt (by have := HRP.out; have := HO.out; omega)
            unfold Hid
            rw [← h1]
            exact hF8
          replace KP := KP.call hb8
          clear hb8 hF8
          obtain ⟨tc0, tc1, tc2, tc3, tf⟩ := KP.head.at4
          have zt := KP.head.lt
          obtain ⟨uc0, uc1, uc2, uc3, uf⟩ := KP.tail.tail.tail.tail.head.at4
          have zu := KP.tail.tail.tail.tail.head.lt
          go_wp2
          have RF := (KP.tail.tail.tail.tail.head.at4.other4 n82 (.int .u64 (sa : Int)) (.int .u64 (sb : Int)) (.int .u64 (sc : Int)) (.int .u64 (sd : Int))).self4 sa sb sc sd
          unfold set4 at RF
          refine bodyPost_ret (v := ?v2) ?hr2 rfl ?hR2
          case hr2 => simp [results, Tryz.results102, go_sem, RF.c0, RF.c1, RF.c2, RF.c3]; rfl
          refine ⟨_, rfl, ?_, RootR.yes HEQ.out HF8.out⟩
          rw [H0.out]
          exact below_set4 (below_set4 KP.bl Q8.out _ _ _ _) Q2.out _ _ _ _
      · go_region_held3 (fun w' => w'.cell? ⟨k0, 0, none⟩ = some (.int .u64 (p0 : Int)) ∧ w'.cell? ⟨k0, 1, none⟩ = some (.int .u64 (p1 : Int)) ∧ w'.cell? ⟨k0, 2, none⟩ = some (.int .u64 (p2 : Int)) ∧ w'.cell? ⟨k0, 3, none⟩ = some (.int .u64 (p3 : Int)) ∧ w'.cell? ⟨k0, 4, none⟩ = some (.int .u64 (c0 : Int)) ∧ w'.cell? ⟨k0, 5, none⟩ = some (.int .u64 (c1 : Int)) ∧ w'.cell? ⟨k0, 6, none⟩ = some (.int .u64 (c2 : Int)) ∧ w'.cell? ⟨k0, 7, none⟩ = some (.int .u64 (c3 : Int)) ∧ w'.cell? ⟨k8, 0, none⟩ = some (.int .u64 (ra : Int)) ∧ w'.cell? ⟨k8, 1, none⟩ = some (.int .u64 (rb : Int)) ∧ w'.cell? ⟨k8, 2, none⟩ = some (.int .u64 (rc : Int)) ∧ w'.cell? ⟨k8, 3, none⟩ = some (.int .u64 (rd : Int)) ∧ w'.cell? ⟨k1, 0, none⟩ = some (.int .u64 (a : Int)) ∧ w'.cell? ⟨k1, 1, none⟩ = some (.int .u64 (b : Int)) ∧ w'.cell? ⟨k1, 2, none⟩ = some (.int .u64 (c : Int)) ∧ w'.cell? ⟨k1, 3, none⟩ = some (.int .u64 (d : Int)) ∧ Kept w k0 (⟨k8, 0, ra, rb, rc, rd⟩ :: [⟨k0, 0, p0, p1, p2, p3⟩, ⟨k0, 4, c0, c1, c2, c3⟩, ⟨k1, 0, a, b, c, d⟩, ⟨k2, 0, 0, 0, 0, 0⟩]) w') (first | (with_reducible exact sqrS_of KP) | (with_reducible exact sqrS_of KP.drew) | fail) (first | (go_at_call 47; refine (rMul_R HR.out HF.out HF.out _).mono ?_; rintro e w5 ⟨v, rfl, hb1, hF3⟩; obtain ⟨ta, tb, tc, td, rfl, hne⟩ := four_ne hF3 HX.out heq; have hoth := other_R hne; clear hF3; (first | (with_reducible (have KP1 := KP.drew.call hb1)) | (with_reducible (have KP1 := KP.call hb1)) | fail); clear KP hb1; have KP := KP1; clear KP1))
        have HEQ : Hid (¬ R * R % P = m) := heq
        clear heq
        rename_i hHeld
        clear hHeld
        obtain ⟨uc0, uc1, uc2, uc3, uf⟩ := KP.tail.tail.tail.tail.head.at4
        have zu := KP.tail.tail.tail.tail.head.lt
        go_wp2
        have RF : At4 (set4 w5 k2 (.int .u64 0) (.int .u64 0) (.int .u64 0) (.int .u64 0)) k2 0 0 0 0 := KP.tail.tail.tail.tail.head.at4.self4 0 0 0 0
        unfold set4 at RF
        refine bodyPost_ret (v := ?v3) ?hr3 rfl ?hR3
        case hr3 => simp [results, Tryz.results102, go_sem, RF.c0, RF.c1, RF.c2, RF.c3]; rfl
        refine ⟨_, rfl, ?_, RootR.no HEQ.out⟩
        rw [H0.out]
        exact below_set4 KP.bl Q2.out _ _ _ _
end Go.Proofs.YtmepmoalhgehhaaGreatDoor
namespace Go.Proofs.YtmepmoalhgehhaaGreatDoor
open Go.RowKit Go.Sort Go.Deep
/-- Bytes of a number, one by one, as the reference lays them. -/
def bytesTo (T : Bs) : Nat → Bs
  | 0 => Array.replicate 32 0
  | k + 1 => (bytesTo T k).setIfInBounds k T[k]!
theorem bytesTo_size (T : Bs) (k : Nat) : (bytesTo T k).size = 32 := by
  induction k with
  | zero => simp [bytesTo]
  | succ k ih => simp [bytesTo, ih]
theorem bytesTo_at (T : Bs) (k j : Nat) (hk : k ≤ 32) (hj : j < k) : (bytesTo T k)[j]! = T[j]! := by
  induction k with
  | zero => omega
  | succ k ih =>
    by_cases h : j = k
    · subst h
      exact getElem!_set_same _ _ _ (by rw [bytesTo_size]; omega)
    · rw [bytesTo, getElem!_set_other _ _ _ _ h]
      exact ih (by omega) (by omega)
theorem bytesTo_all {w : World} {g : Nat} {T : Bs} (hT : T.size = 32) (h : Holds encB w g 0 (bytesTo T 32)) : Holds encB w g 0 T := by
  intro j hj
  rw [← bytesTo_at T 32 j (Nat.le_refl _) (by omega)]
  exact h j (by rw [bytesTo_size]; omega)
/-- The word in which a byte lies. -/
def wordOf (a b c d k : Nat) : Nat := if k < 8 then a else if k < 16 then b else if k < 24 then c else d
theorem be8_at (x j : Nat) (hj : j < 8) : (be8 x)[j]! = UInt8.ofNat (x / 2 ^ (8 * (7 - j))) := by
  match j, hj with
  | 0, _ => rfl
  | 1, _ => rfl
  | 2, _ => rfl
  | 3, _ => rfl
  | 4, _ => rfl
  | 5, _ => rfl
  | 6, _ => rfl
  | 7, _ =>
    show UInt8.ofNat x = UInt8.ofNat (x / 2 ^ (8 * (7 - 7)))
    rw [Nat.sub_self, Nat.mul_zero, Nat.pow_zero, Nat.div_one]
theorem be32_at (a b c d i : Nat) (hi : i < 32) : (be32 a b c d)[i]! = UInt8.ofNat (wordOf a b c d (31 - i) / 2 ^ (8 * ((31 - i) % 8))) := by
  have e : be32 a b c d = be8 d ++ be8 c ++ be8 b ++ be8 a := rfl
  have s1 : (be8 d ++ be8 c).size = 16 := by simp only [Array.size_append, be8_size]
  have s2 : (be8 d ++ be8 c ++ be8 b).size = 24 := by simp only [Array.size_append, be8_size]
  unfold wordOf
  by_cases k1 : i < 8
  · rw [if_neg (by omega), if_neg (by omega), if_neg (by omega), show (31 - i) % 8 = 7 - i by omega, ← be8_at d i k1,
      e, app_front _ _ i (by omega), ← getElem!_pos (be8 d ++ be8 c ++ be8 b) i (by omega), app_front _ _ i (by omega), ← getElem!_pos (be8 d ++ be8 c) i (by omega), app_front _ _ i (by rw [be8_size]; exact k1), ← getElem!_pos (be8 d) i (by rw [be8_size]; exact k1)]
  · by_cases k2 : i < 16
    · rw [if_neg (by omega), if_neg (by omega), if_pos (by omega), show (31 - i) % 8 = 7 - (i - 8) by omega, ← be8_at c (i - 8) (by omega),
        e, app_front _ _ i (by omega), ← getElem!_pos (be8 d ++ be8 c ++ be8 b) i (by omega), app_front _ _ i (by omega), ← getElem!_pos (be8 d ++ be8 c) i (by omega), app_back _ _ i (by rw [be8_size]; omega) (by rw [be8_size, be8_size]; omega), be8_size]
    · by_cases k3 : i < 24
      · rw [if_neg (by omega), if_pos (by omega), show (31 - i) % 8 = 7 - (i - 16) by omega, ← be8_at b (i - 16) (by omega),
          e, app_front _ _ i (by omega), ← getElem!_pos (be8 d ++ be8 c ++ be8 b) i (by omega), app_back _ _ i (by omega) (by rw [s1, be8_size]; omega), s1]
      · rw [if_pos (by omega), show (31 - i) % 8 = 7 - (i - 24) by omega, ← be8_at a (i - 24) (by omega),
          e, app_back _ _ i (by omega) (by rw [s2, be8_size]; omega), s2]
theorem wordOf_lt {a b c d : Nat} (k : Nat) (ha : a < 18446744073709551616) (hb : b < 18446744073709551616) (hc : c < 18446744073709551616) (hd : d < 18446744073709551616) : wordOf a b c d k < 18446744073709551616 := by
  unfold wordOf; split; exact ha; split; exact hb; split; exact hc; exact hd
theorem At4.word {w : World} {k a b c d : Nat} (h : At4 w k a b c d) (i : Nat) (hi : i < 32) : w.cell? ⟨k, i / 8, none⟩ = some (.int .u64 (wordOf a b c d i : Int)) := by
  unfold wordOf
  by_cases h1 : i < 8
  · rw [if_pos h1, show i / 8 = 0 by omega]; exact h.c0
  · rw [if_neg h1]
    by_cases h2 : i < 16
    · rw [if_pos h2, show i / 8 = 1 by omega]; exact h.c1
    · rw [if_neg h2]
      by_cases h3 : i < 24
      · rw [if_pos h3, show i / 8 = 2 by omega]; exact h.c2
      · rw [if_neg h3, show i / 8 = 3 by omega]; exact h.c3
set_option maxHeartbeats 2000000 in
set_option maxRecDepth 100000 in
theorem rBytes_any (x : Value) (m : Nat) (w : World) (hx : Four x m) :
    Calls Tryz.prog 34 #[x] w (Ret fun e w' => Below w.heap.size w w' ∧ ∃ a b c d : Nat, x = .agg #[.int .u64 (a : Int), .int .u64 (b : Int), .int .u64 (c : Int), .int .u64 (d : Int)] ∧ e = .string ⟨be32 a b c d⟩) := by
  obtain ⟨a, b, c, d, rfl, ha, hb, hc, hd, em⟩ := hx
  clear em
  have hmk : ∀ w : World, (Instr.makeSlice 24 (.int .i64 32) (.int .i64 32)).run Tryz.prog w = .ok (.slice (some ⟨w.heap.size, 0, none⟩) 32 32) (w.alloc (.cells (madeCells #[.int .u8 0] 32) 5)) :=
    run_make_row' (P := Tryz.prog) 24 5 (.int .u8 0) 1 slice22 info5 rfl .i64 .i64 32 (by omega) (by omega)
  go_enter Tryz.func34, Tryz.ntmps34
  go_wp2
  have hH0 : Holds encB (((w.alloc (.cells #[.int .u64 (a : Int), .int .u64 (b : Int), .int .u64 (c : Int), .int .u64 (d : Int)] 58)).alloc (.cells (madeCells #[.int .u8 0] 32) 5))) (w.heap.size + 1) 0 (Array.replicate 32 0) := by
    have := Holds.made (enc := encB) (w.alloc (.cells #[.int .u64 (a : Int), .int .u64 (b : Int), .int .u64 (c : Int), .int .u64 (d : Int)] 58)) 5 32 0
    rw [World.size_alloc] at this
    exact this
  have hb0 := below2 w (.cells #[.int .u64 (a : Int), .int .u64 (b : Int), .int .u64 (c : Int), .int .u64 (d : Int)] 58) (.cells (madeCells #[.int .u8 0] 32) 5)
  have X := (At4.made w 58 a b c d rfl).alloc (.cells (madeCells #[.int .u8 0] 32) 5)
  generalize World.alloc _ _ = W at hH0 hb0 X ⊢
  have HBW : Hid (Below w.heap.size w W) := hb0
  clear hb0 hmk
  go_loopg [4] 32 (fun gk s4 wr => ∃ (k : Nat), k + gk = 32 ∧ s4 = .int .i64 (k : Int) ∧ Holds encB wr (w.heap.size + 1) 0 (bytesTo (be32 a b c d) k) ∧ At4 wr w.heap.size a b c d ∧ Hid (Below w.heap.size w wr))
  case atStart => exact ⟨0, rfl, rfl, hH0, X, HBW⟩
  case round =>
    obtain ⟨k, hk, rfl, hB, X', HB⟩ := hrel
    by_cases hlt : k < 32
    · obtain ⟨c0, f0⟩ := hB k (by rw [bytesTo_size]; omega)
      rw [Nat.zero_add] at c0 f0
      have xw := X'.word (31 - k) (by omega)
      have hwl := wordOf_lt (31 - k) ha hb hc hd
      have hbyte := be32_at a b c d k hlt
      obtain ⟨q, hq⟩ : ∃ q, 31 - k = q := ⟨_, rfl⟩
      rw [hq] at xw hwl hbyte
      generalize wordOf a b c d q = v at xw hwl hbyte
      have i1 : (31 : Int) - (k : Int) = (q : Int) := by omega
      have i2 : (q : Int).tdiv 8 = ((q / 8 : Nat) : Int) := by rw [Int.tdiv_eq_ediv_of_nonneg (by omega)]; omega
      have i3 : (q : Int).tmod 8 = ((q % 8 : Nat) : Int) := by rw [Int.tmod_eq_emod_of_nonneg (by omega)]; omega
      have i4 : (q / 8 : Nat) < 4 := by omega
      have hlt' : (k : Int) < 32 := by omega
      have hs1 : (8 : Int) * ((q % 8 : Nat) : Int) = ((8 * (q % 8) : Nat) : Int) := by omega
      have hv : (Value.int .u8 ((v : Int) / 2 ^ (8 * (q % 8)) % 256)) = encB (be32 a b c d)[k]! := by
        rw [hbyte, ← byte_at v (2 ^ (8 * (q % 8))), Int.natCast_pow]
        rfl
      have Hv : Hid (_ = _) := hv
      clear hv hbyte hq
      go_wp2
      rw [Hv.out]
      go_roundg (gk - 1)
      case measure => omega
      case rel =>
        refine ⟨k + 1, by omega, rfl, ?_, X'.other (by omega) _, HB.out.setCell (p := ⟨w.heap.size + 1, k, none⟩) (Nat.le_succ _) _⟩
        have := Holds.set hB (i := k) (by rw [bytesTo_size]; omega) (be32 a b c d)[k]!
        rw [Nat.zero_add] at this
        exact this
    · have hk32 : k = 32 := by omega
      subst hk32
      have hT := bytesTo_all (be32_size a b c d) hB
      have kc := conv_str Tryz.prog 24 9 5 slice22 int5 str9 wr (w.heap.size + 1) 0 32 32 _ hT (be32_size a b c d)
      clear hB hT
      go_wp2
      go_ret
      exact ⟨_, rfl, HB.out, a, b, c, d, rfl, rfl⟩
end Go.Proofs.YtmepmoalhgehhaaGreatDoor
namespace Go.Proofs.YtmepmoalhgehhaaGreatDoor
open Go.RowKit Go.Sort Go.Deep
/-- The order. -/
structure Ord (N : Nat) : Prop where
  gap : Gap 4624529908474429119 4994812053365940164 1 N
  ref : RefP 13822214165235122497 13451932020343611451 18446744073709551614 18446744073709551615 4624529908474429119 4994812053365940164 1 0 N
  le : N ≤ top
  n2 : 2 ≤ N % 18446744073709551616
variable {N : Nat}
theorem Ord.pos (O : Ord N) : 0 < N := by have := O.n2; omega
theorem Ord.four (O : Ord N) {a : Nat} (h : a < N) : Four (nv a) a := four_nv (Nat.lt_of_lt_of_le h O.le)
def sMi (N a b : Nat) : Nat := (a + N - b) % N
def sTi (N a b : Nat) : Nat := a * b % N
def sIn (N a : Nat) : Nat := a ^ (N - 2) % N
theorem Ord.mi (O : Ord N) (a b : Nat) : sMi N a b < N := Nat.mod_lt _ O.pos
theorem Ord.ti (O : Ord N) (a b : Nat) : sTi N a b < N := Nat.mod_lt _ O.pos
theorem Ord.inv (O : Ord N) (a : Nat) : sIn N a < N := Nat.mod_lt _ O.pos
theorem sMinus_c (O : Ord N) {a b : Nat} (ha : a < N) (hb : b < N) : Gives 140 #[gv1, nv a, nv b] (nv (sMi N a b)) := fun w =>
  (Minus_any _ _ _ N _ _ a b O.gap (O.four ha) (O.four hb) ha hb w).mono (by rintro e w' ⟨v, rfl, hb, hF⟩; exact ⟨_, rfl, hb, hF.nv⟩)
theorem sTimes_c (O : Ord N) {a b : Nat} (ha : a < N) (hb : b < N) : Gives 138 #[gv1, nv a, nv b] (nv (sTi N a b)) := fun w =>
  (Times_any _ _ _ N _ _ a b O.gap (O.four ha) (O.four hb) w).mono (by rintro e w' ⟨v, rfl, hb, hF⟩; exact ⟨_, rfl, hb, hF.nv⟩)
theorem sInv_c (O : Ord N) {a : Nat} (ha : a < N) : Gives 124 #[gv1, nv a] (nv (sIn N a)) := fun w =>
  (Inverse_any _ _ _ N _ a O.gap O.n2 (O.four ha) w).mono (by rintro e w' ⟨v, rfl, hb, hF⟩; exact ⟨_, rfl, hb, hF.nv⟩)
theorem qSub_c (O : Ord N) {a b : Nat} (ha : a < N) (hb : b < N) : Gives 100 #[rv1, nv a, nv b] (nv (sMi N a b)) := fun w =>
  (rSub_any _ _ _ _ _ _ _ _ N _ _ a b O.ref (O.four ha) (O.four hb) hb w).mono (by rintro e w' ⟨v, rfl, hb, hF⟩; exact ⟨_, rfl, hb, hF.nv⟩)
theorem qMul_c (O : Ord N) {a b : Nat} (ha : a < N) (hb : b < N) : Gives 47 #[rv1, nv a, nv b] (nv (sTi N a b)) := fun w =>
  (rMul_R O.ref (O.four ha) (O.four hb) w).mono (by rintro e w' ⟨v, rfl, hb, hF⟩; exact ⟨_, rfl, hb, hF.nv⟩)
theorem qInv_c (O : Ord N) {a : Nat} (ha : a < N) : Gives 46 #[rv1, nv a] (nv (sIn N a)) := fun w =>
  (rInv_any _ _ _ _ _ _ _ _ N _ a O.ref (O.four ha) w).mono (by rintro e w' ⟨v, rfl, hb, hF⟩; exact ⟨_, rfl, hb, hF.nv⟩)
theorem nv_words {a x y z u : Nat} (h : nv a = .agg #[.int .u64 (x : Int), .int .u64 (y : Int), .int .u64 (z : Int), .int .u64 (u : Int)]) : be32 x y z u = bx a := by
  have h1 : wn a = [.int .u64 (x : Int), .int .u64 (y : Int), .int .u64 (z : Int), .int .u64 (u : Int)] := by
    unfold nv at h
    injection h with h
    exact congrArg Array.toList h
  unfold wn at h1
  simp only [List.cons.injEq, Value.int.injEq, true_and, and_true, Int.natCast_inj] at h1
  obtain ⟨rfl, rfl, rfl, rfl⟩ := h1
  rfl
theorem qBytes_c (O : Ord N) {a : Nat} (ha : a < N) : Gives 34 #[nv a] (.string ⟨bx a⟩) := fun w =>
  (rBytes_any _ a w (O.four ha)).mono (by
    rintro e w' ⟨v, rfl, hb, x, y, z, u, he, rfl⟩
    exact ⟨_, rfl, hb, by rw [nv_words he]⟩)
/-- Bytes as cells. -/
def cb (b : Bs) : List Value := b.toList.map encB
theorem cb_length (b : Bs) : (cb b).length = b.size := by unfold cb; rw [List.length_map, Array.length_toList]
theorem cb_range {w : World} {g : Nat} {b : Bs} (h : Holds encB w g 0 b) : w.rangeAt g 0 (cb b) ∧ w.there g 0 (cb b).length := by
  refine ⟨fun j v hv => ?_, fun j hj => ?_⟩
  · have hj : j < b.size := by rw [← cb_length]; exact (List.getElem?_eq_some_iff.1 hv).1
    rw [(h j hj).1]
    unfold cb at hv
    rw [List.getElem?_map, Array.getElem?_toList, Array.getElem?_eq_getElem hj] at hv
    rw [getElem!_pos b j hj]
    exact hv
  · rw [cb_length] at hj
    exact ⟨by rw [(h j hj).1]; rfl, (h j hj).2⟩
theorem cb_holds {w : World} {g : Nat} {b : Bs} (h1 : w.rangeAt g 0 (cb b)) (h2 : w.there g 0 (cb b).length) : Holds encB w g 0 b := fun j hj => by
  refine ⟨h1 j _ ?_, (h2 j (by rw [cb_length]; exact hj)).2⟩
  unfold cb
  rw [List.getElem?_map, Array.getElem?_toList, Array.getElem?_eq_getElem hj, getElem!_pos b j hj]
  rfl
/-- A call answers new memory: n bytes. -/
def GivesB (f : FuncId) (args : Array Value) (b : Bs) (n : Nat) : Prop := ∀ w, Calls Tryz.prog f args w (Ret fun e w' => ∃ k, RG.Made w k (cb b) w' ∧ e = .slice (some ⟨k, 0, none⟩) n n)
theorem sBytes_c (O : Ord N) {a : Nat} (ha : a < N) : GivesB 28 #[nv a] (bx a) 32 := fun w =>
  (Bytes_any _ a w (O.four ha)).mono (by
    rintro e w' ⟨v, rfl, hb, g, x, y, z, u, rfl, hle, he, hH⟩
    rw [nv_words he] at hH
    obtain ⟨h1, h2⟩ := cb_range hH
    exact ⟨_, rfl, g, ⟨hb, hle, Holds.lt hH (by rw [bx_size]; omega), h1, h2⟩, rfl⟩)
/-- Two numbers are one? -/
theorem nv_inj {a b : Nat} (ha : a < top) (hb : b < top) : (nv a = nv b) ↔ a = b := ⟨fun h => (four_nv ha).num (h ▸ four_nv hb), fun h => h ▸ rfl⟩
end Go.Proofs.YtmepmoalhgehhaaGreatDoor
namespace Go.Proofs.YtmepmoalhgehhaaGreatDoor
open Go.RowKit Go.Sort Go.Deep
theorem eqN {a b : Nat} (ha : a < top) (hb : b < top) (w : World) : (binOp .eql 58 (nv a) (nv b)).run Tryz.prog w = .ok (.bool (decide (a = b))) w := by
  have h1 : (binOp .eql 58 (nv a) (nv b)).run Tryz.prog w = .ok (.bool (decide (a % 18446744073709551616 = b % 18446744073709551616 ∧ a / 18446744073709551616 % 18446744073709551616 = b / 18446744073709551616 % 18446744073709551616 ∧ a / 340282366920938463463374607431768211456 % 18446744073709551616 = b / 340282366920938463463374607431768211456 % 18446744073709551616 ∧ a / 6277101735386680763835789423207666416102355444464034512896 % 18446744073709551616 = b / 6277101735386680763835789423207666416102355444464034512896 % 18446744073709551616))) w := by
    show (binOp .eql 58 (.agg _) (.agg _)).run Tryz.prog w = _
    rw [run_eql_struct]
    have h2 := eqR_d 9998 (a % 18446744073709551616) (a / 18446744073709551616 % 18446744073709551616) (a / 340282366920938463463374607431768211456 % 18446744073709551616) (a / 6277101735386680763835789423207666416102355444464034512896 % 18446744073709551616) (b % 18446744073709551616) (b / 18446744073709551616 % 18446744073709551616) (b / 340282366920938463463374607431768211456 % 18446744073709551616) (b / 6277101735386680763835789423207666416102355444464034512896 % 18446744073709551616) w
    unfold wn
    rw [h2, Result.andThen_ok]
  rw [h1]
  simp only [wn_inj ha hb]
theorem eqS2 (a b c d p q r s : Nat) (w : World) : (binOp .eql 47 (.agg #[.int .u64 (a : Int), .int .u64 (b : Int), .int .u64 (c : Int), .int .u64 (d : Int)]) (.agg #[.int .u64 (p : Int), .int .u64 (q : Int), .int .u64 (r : Int), .int .u64 (s : Int)])).run Tryz.prog w = .ok (.bool (decide (a = p ∧ b = q ∧ c = r ∧ d = s))) w := by
  go_simp
  rw [eqP_d 9997, Result.andThen_ok]
  by_cases h1 : a = p ∧ b = q ∧ c = r ∧ d = s
  · rw [decide_eq_true h1]
    obtain ⟨rfl, rfl, rfl, rfl⟩ := h1
    simp
  · have h2 : (decide (a = p) && (decide (b = q) && (decide (c = r) && decide (d = s)))) = false := by
      rw [← Bool.not_eq_true, Bool.and_eq_true, Bool.and_eq_true, Bool.and_eq_true]
      simpa using h1
    rw [decide_eq_false h1, h2]
    simp
theorem eqS {a b : Nat} (ha : a < top) (hb : b < top) (w : World) : (binOp .eql 47 (nv a) (nv b)).run Tryz.prog w = .ok (.bool (decide (a = b))) w := by
  refine (eqS2 (a % 18446744073709551616) (a / 18446744073709551616 % 18446744073709551616) (a / 340282366920938463463374607431768211456 % 18446744073709551616) (a / 6277101735386680763835789423207666416102355444464034512896 % 18446744073709551616) (b % 18446744073709551616) (b / 18446744073709551616 % 18446744073709551616) (b / 340282366920938463463374607431768211456 % 18446744073709551616) (b / 6277101735386680763835789423207666416102355444464034512896 % 18446744073709551616) w).trans ?_
  simp only [wn_inj ha hb]
end Go.Proofs.YtmepmoalhgehhaaGreatDoor
set_option linter.unusedVariables false
namespace Go.Proofs.YtmepmoalhgehhaaGreatDoor
open Go.RowKit Go.Sort Go.Deep
variable {N : Nat}
theorem u40 : (Tryz.prog.underlying 47).map (·.isRow) = some true := by kernel_rfl
theorem i40 : (Tryz.prog.info? 47).map (·.size) = some 4 := by kernel_rfl
theorem u38 : (Tryz.prog.underlying 45).map (·.isRow) = some true := by kernel_rfl
theorem i38 : (Tryz.prog.info? 45).map (·.size) = some 4 := by kernel_rfl
theorem u44 : (Tryz.prog.underlying 58).map (·.isRow) = some true := by kernel_rfl
theorem i44 : (Tryz.prog.info? 58).map (·.size) = some 4 := by kernel_rfl
theorem u48 : (Tryz.prog.underlying 70).map (·.isRow) = some true := by kernel_rfl
theorem i48 : (Tryz.prog.info? 70).map (·.size) = some 8 := by kernel_rfl
set_option maxHeartbeats 2000000 in
set_option maxRecDepth 100000 in
theorem sbytes_c (O : Ord N) {a : Nat} (ha : a < N) : GivesB 13 #[nv a] (bx a) 32 := by
  intro w
  go_enter Tryz.func13, Tryz.ntmps13
  refine RG.M.enter [(0, .v (nv a))] 6 (by kernel_rfl) ?_
  intro a0 M0
  repeat refine wp_seq ?_
  refine M0.t [.m 1 [] 0, .x 2 [] (.slice none 0 0)] [(0, (wn a))] [] [(wn a)] [(1, (.p 0 0)), (2, (.v (.slice none 0 0)))] ⟨RG.mk 0 47, RG.st, trivial⟩ ?_
  intro j1 a1 w1 M1
  repeat refine wp_seq ?_
  refine M1.t [.s 3 [] (.p 0 0), .x 4 [(3, 0)] (nv a), ⟨some 5, [(4, 1)], (.s 1 32 32), .make 1⟩, .s 2 [(5, 2)] (.s 1 32 32)] [(2, (cb (bx a)))] [] [(wn a), (cb (bx a))] [(2, (.s 1 32 32))] ⟨RG.st, RG.ld u38 i38, RG.cm 1 (fun w _ => sBytes_c O ha w) fun _ _ => by kernel_rfl, RG.st, trivial⟩ ?_
  intro j2 a2 w2 M2
  refine wp_ret ?_
  refine bodyPost_ret (v := _) (RG.results_t 2 rfl _ (M2.at (s := .s 1 32 32))) M2.sl.defers ?_
  exact ⟨_, rfl, _, M2.st.made (b := 1) rfl, rfl⟩
set_option maxHeartbeats 2000000 in
set_option maxRecDepth 100000 in
theorem qscal_c (O : Ord N) (s : ByteArray) : Gives 22 #[.string s] (.tuple #[nv (nuV s.data), .bool (rq N s.data).isSome]) := by
  intro w
  have hnum := rNum_v O.ref s
  obtain ⟨m, hm⟩ : ∃ m, m = nuV s.data := ⟨_, rfl⟩
  obtain ⟨ok, hok⟩ : ∃ b, b = (rq N s.data).isSome := ⟨_, rfl⟩
  rw [← hm, ← hok] at hnum ⊢
  go_enter Tryz.func22, Tryz.ntmps22
  refine RG.M.enter [(0, .v (.string s))] 9 (by kernel_rfl) ?_
  intro a0 M0
  repeat refine wp_seq ?_
  refine M0.t [.m 2 [] 0, .x 3 [] (.bool false)] [(0, (RG.z 4))] [] [(RG.z 4)] [(0, (.v (.string s))), (2, (.p 0 0)), (3, (.v (.bool false)))] ⟨RG.mk 0 58, RG.st, trivial⟩ ?_
  intro j1 a1 w1 M1
  repeat refine wp_seq ?_
  refine M1.t [.c 4 [] rv1, .x 5 [] (.string s), .c 6 [(4, 0), (5, 1)] (.tuple #[(nv m), (.bool ok)]), .x 7 [(6, 2)] (nv m), .x 8 [(6, 2)] (.bool ok), .u [(7, 3)] 0, .x 3 [(8, 4)] (.bool ok)] [] [(0, 5, (wn m))] [(wn m)] [(2, (.p 0 0)), (3, (.v (.bool ok)))] ⟨RG.cl (Q3_c), RG.st, RG.cl (hnum), RG.st, RG.st, RG.pt i44, RG.st, trivial⟩ ?_
  intro a2 w2 M2
  refine wp_ret ?_
  refine bodyPost_ret (v := .tuple #[nv m, .bool ok]) (RG.results_rt M2.st 2 3 58 rfl 0 _ rfl (M2.at (s := .p 0 0)) _ (M2.av (v := .bool ok) (by kernel_rfl)) u44 i44) M2.sl.defers ?_
  exact ⟨_, rfl, M2.st.bel.below, rfl⟩
end Go.Proofs.YtmepmoalhgehhaaGreatDoor
namespace Go.Proofs.YtmepmoalhgehhaaGreatDoor.SP
open Go.RowKit Go.Sort Go.Deep
theorem copy_log {w : World} {b r : Nat} {L T : Bs} (hL : Holds encB w b 0 L) (hl : L.size = 32) (hT : Holds encB w r 0 T) (ht : T.size = 32) :
    (Builtin.copy_ #[24, 24] 3 #[.slice (some ⟨b, 0, none⟩) 32 32, .slice (some ⟨r, 0, none⟩) 32 32]).run Tryz.prog w = .ok (goInt 32) (w.setCells b 0 (T.toList.map encB)) := by
  have hlen : (T.toList.map encB).length = 32 := by rw [List.length_map, Array.length_toList, ht]
  have := run_copy_cells (P := Tryz.prog) w 24 24 3 5 b 0 32 32 ⟨r, 0, none⟩ 32 32 (T.toList.map encB) slice22 ints5 (by rw [hlen]; rfl)
    (fun j u hj => by
      obtain ⟨h1, h2⟩ := List.getElem?_eq_some_iff.1 hj
      rw [hlen] at h1
      have hc := (hT j (by omega)).1
      rw [getElem!_pos T j (by omega)] at hc
      rw [List.getElem_map, Array.getElem_toList] at h2
      have e1 : (⟨r, 0, none⟩ : Addr).add j = ⟨r, 0 + j, none⟩ := by
        unfold Addr.add
        by_cases h0 : j = 0
        · subst h0; rw [if_pos rfl]
        · rw [if_neg h0]
      rw [e1, hc, h2])
    (fun j hj => by rw [(hL j (by omega)).1]; rfl) (fun j hj => (hL j (by omega)).2)
    (fun u hu => by obtain ⟨x, _, rfl⟩ := List.mem_map.1 hu; rfl)
  rw [hlen] at this
  exact this
theorem holds_copied {w : World} {b : Nat} {L T : Bs} (hL : Holds encB w b 0 L) (hl : L.size = 32) (ht : T.size = 32) : Holds encB (w.setCells b 0 (T.toList.map encB)) b 0 T := by
  have hlen : (T.toList.map encB).length = 32 := by rw [List.length_map, Array.length_toList, ht]
  refine Holds.setCells hL (T.toList.map encB) 0 (by omega) (by omega) (fun j hj => ?_) (fun j h1 h2 => by omega)
  rw [hlen] at hj
  rw [List.getElem_map, Array.getElem_toList, Nat.zero_add, getElem!_pos T j (by omega)]
theorem become_end {w w2 : World} {b : Nat} {L T : Bs} (hL : Holds encB w b 0 L) (hl : L.size = 32) (ht : T.size = 32) (hb : b < w.heap.size) (hb2 : Below w.drew.heap.size w.drew w2) :
    Only b 0 32 w (w2.setCells b 0 (T.toList.map encB)) ∧ Holds encB (w2.setCells b 0 (T.toList.map encB)) b 0 T := by
  have hlen : (T.toList.map encB).length = 32 := by rw [List.length_map, Array.length_toList, ht]
  refine ⟨?_, holds_copied (Holds.below (Holds.drew hL) hb2 hb) hl ht⟩
  exact Only.setCells (((Only.refl b 0 32 w).drew).trans (Only.of_below hb2 rfl hb)) _ 0 (Nat.le_refl _) (by omega)
end Go.Proofs.YtmepmoalhgehhaaGreatDoor.SP
