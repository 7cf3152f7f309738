import Derived.Test.YtdeidgbknlmhjabE5
namespace Go.Proofs.Ytdeidgbknlmhjab
open Go.RowKit Go.Sort

theorem Four.eight {a b c d m : Nat} (h : Four (.agg #[.int .u64 (a : Int), .int .u64 (b : Int), .int .u64 (c : Int), .int .u64 (d : Int)]) m) :
    Eight (.agg #[.int .u64 (a : Int), .int .u64 (b : Int), .int .u64 (c : Int), .int .u64 (d : Int), .int .u64 0, .int .u64 0, .int .u64 0, .int .u64 0]) m := by
  obtain ⟨p, q, r, s, e, hp, hq, hr, hs, rfl⟩ := h
  simp only [Value.agg.injEq, Array.mk.injEq, List.cons.injEq, Value.int.injEq, true_and, and_true, Int.ofNat_inj] at e
  obtain ⟨rfl, rfl, rfl, rfl⟩ := e
  exact ⟨a, b, c, d, 0, 0, 0, 0, rfl, hp, hq, hr, hs, by decide, by decide, by decide, by decide, rfl⟩
theorem add_bound {v u : Value} {m n : Nat} (hx : Four v m) (hy : Four u n) : m + n < top * top := by
  have h1 := hx.lt
  have h2 := hy.lt
  have h3 : top + top ≤ top * top := by unfold top; decide
  omega

set_option maxHeartbeats 4000000 in
set_option maxRecDepth 100000 in
theorem rAdd_any (p0 p1 p2 p3 c0 c1 c2 c3 P : Nat) (x y : Value) (m n : Nat) (hp0 : p0 < 18446744073709551616) (hp1 : p1 < 18446744073709551616) (hp2 : p2 < 18446744073709551616) (hp3 : p3 < 18446744073709551616)
    (hc0 : c0 < 18446744073709551616) (hc1 : c1 < 18446744073709551616) (hc2 : c2 < 18446744073709551616) (hc3 : c3 < 18446744073709551616) (eP : P = val p0 p1 p2 p3) (hP : P + val c0 c1 c2 c3 = top) (hP2 : top < 2 * P) (hx : Four x m) (hy : Four y n) (w : World) :
    Calls Try.prog 18 #[.agg #[.int .u64 (p0 : Int), .int .u64 (p1 : Int), .int .u64 (p2 : Int), .int .u64 (p3 : Int), .int .u64 (c0 : Int), .int .u64 (c1 : Int), .int .u64 (c2 : Int), .int .u64 (c3 : Int)], x, y] w (Ret fun e w' => Below w.heap.size w w' ∧ Four e ((m + n) % P)) := by
  obtain ⟨a, b, c, d, rfl, ha, hb, hc, hd, em⟩ := id hx
  obtain ⟨p, q, r, s, rfl, hp, hq, hr, hs, en⟩ := id hy
  have HX : Hid (Four _ _) := hx
  have HY : Hid (Four _ _) := hy
  have HL : Hid (∀ (v : Value) (k : Nat) (w : World), Eight v k → Calls Try.prog 55 #[.agg #[.int .u64 (p0 : Int), .int .u64 (p1 : Int), .int .u64 (p2 : Int), .int .u64 (p3 : Int), .int .u64 (c0 : Int), .int .u64 (c1 : Int), .int .u64 (c2 : Int), .int .u64 (c3 : Int)], v] w (Ret fun e w' => Below w.heap.size w w' ∧ Four e (k % P))) :=
    fun v k w hv => rLess_any p0 p1 p2 p3 c0 c1 c2 c3 P v k hp0 hp1 hp2 hp3 hc0 hc1 hc2 hc3 eP hP hP2 hv w
  clear em en hx hy ha hb hc hd hp hq hr hs hp0 hp1 hp2 hp3 hc0 hc1 hc2 hc3 eP hP hP2
  go_enter Try.func18, Try.ntmps18
  go_wp2_with fail
  have FR := ((((At8.made w 35 p0 p1 p2 p3 c0 c1 c2 c3 rfl).alloc (.cells #[.int .u64 (a : Int), .int .u64 (b : Int), .int .u64 (c : Int), .int .u64 (d : Int)] 33)).alloc (.cells #[.int .u64 (p : Int), .int .u64 (q : Int), .int .u64 (r : Int), .int .u64 (s : Int)] 33)).alloc (.cells #[.int .u64 0, .int .u64 0, .int .u64 0, .int .u64 0] 33))
  have X := (((At4.made (w.alloc (.cells #[.int .u64 (p0 : Int), .int .u64 (p1 : Int), .int .u64 (p2 : Int), .int .u64 (p3 : Int), .int .u64 (c0 : Int), .int .u64 (c1 : Int), .int .u64 (c2 : Int), .int .u64 (c3 : Int)] 35)) 33 a b c d (World.size_alloc _ _)).alloc (.cells #[.int .u64 (p : Int), .int .u64 (q : Int), .int .u64 (r : Int), .int .u64 (s : Int)] 33)).alloc (.cells #[.int .u64 0, .int .u64 0, .int .u64 0, .int .u64 0] 33))
  have Y := ((At4.made ((w.alloc (.cells #[.int .u64 (p0 : Int), .int .u64 (p1 : Int), .int .u64 (p2 : Int), .int .u64 (p3 : Int), .int .u64 (c0 : Int), .int .u64 (c1 : Int), .int .u64 (c2 : Int), .int .u64 (c3 : Int)] 35)).alloc (.cells #[.int .u64 (a : Int), .int .u64 (b : Int), .int .u64 (c : Int), .int .u64 (d : Int)] 33)) 33 p q r s (k := w.heap.size + 1 + 1) (by simp)).alloc (.cells #[.int .u64 0, .int .u64 0, .int .u64 0, .int .u64 0] 33))
  have T3 := At4.made (((w.alloc (.cells #[.int .u64 (p0 : Int), .int .u64 (p1 : Int), .int .u64 (p2 : Int), .int .u64 (p3 : Int), .int .u64 (c0 : Int), .int .u64 (c1 : Int), .int .u64 (c2 : Int), .int .u64 (c3 : Int)] 35)).alloc (.cells #[.int .u64 (a : Int), .int .u64 (b : Int), .int .u64 (c : Int), .int .u64 (d : Int)] 33)).alloc (.cells #[.int .u64 (p : Int), .int .u64 (q : Int), .int .u64 (r : Int), .int .u64 (s : Int)] 33)) 33 0 0 0 0 (k := w.heap.size + 1 + 1 + 1) (by simp)
  have KP := ((((Kept.mk1 (below4 w (.cells #[.int .u64 (p0 : Int), .int .u64 (p1 : Int), .int .u64 (p2 : Int), .int .u64 (p3 : Int), .int .u64 (c0 : Int), .int .u64 (c1 : Int), .int .u64 (c2 : Int), .int .u64 (c3 : Int)] 35) (.cells #[.int .u64 (a : Int), .int .u64 (b : Int), .int .u64 (c : Int), .int .u64 (d : Int)] 33) (.cells #[.int .u64 (p : Int), .int .u64 (q : Int), .int .u64 (r : Int), .int .u64 (s : Int)] 33) (.cells #[.int .u64 0, .int .u64 0, .int .u64 0, .int .u64 0] 33)) (below4 w (.cells #[.int .u64 (p0 : Int), .int .u64 (p1 : Int), .int .u64 (p2 : Int), .int .u64 (p3 : Int), .int .u64 (c0 : Int), .int .u64 (c1 : Int), .int .u64 (c2 : Int), .int .u64 (c3 : Int)] 35) (.cells #[.int .u64 (a : Int), .int .u64 (b : Int), .int .u64 (c : Int), .int .u64 (d : Int)] 33) (.cells #[.int .u64 (p : Int), .int .u64 (q : Int), .int .u64 (r : Int), .int .u64 (s : Int)] 33) (.cells #[.int .u64 0, .int .u64 0, .int .u64 0, .int .u64 0] 33)).size).cons Y.blk).cons X.blk).cons (x := ⟨w.heap.size, 4, c0, c1, c2, c3⟩) ⟨FR.c4, FR.c5, FR.c6, FR.c7, FR.fz⟩).cons (x := ⟨w.heap.size, 0, p0, p1, p2, p3⟩) ⟨FR.c0, FR.c1, FR.c2, FR.c3, FR.fz⟩
  simp only [Int.natCast_zero] at T3
  clear FR X Y
  generalize World.alloc _ _ = W0 at KP T3 ⊢
  generalize h3 : w.heap.size + 1 + 1 + 1 = k3 at T3 ⊢
  generalize h2 : w.heap.size + 1 + 1 = k2 at KP ⊢
  generalize h1 : w.heap.size + 1 = k1 at KP ⊢
  have Q3 : Hid (w.heap.size ≤ k3) := by unfold Hid; omega
  generalize h0 : w.heap.size = k0 at KP Q3 ⊢
  have H0 : Hid (w.heap.size = k0) := h0
  have hl3 : ∀ x ∈ ([⟨k0, 0, p0, p1, p2, p3⟩, ⟨k0, 4, c0, c1, c2, c3⟩, ⟨k1, 0, a, b, c, d⟩, ⟨k2, 0, p, q, r, s⟩] : List Blk), k3 ≠ x.k := by simp only [List.mem_cons, List.not_mem_nil, or_false]; rintro x (rfl | rfl | rfl | rfl) <;> simp only <;> omega
  clear h0 h1 h2 h3
  obtain ⟨tc0, tc1, tc2, tc3, tf⟩ := id T3
  have zt := T3.lt
  go_region_held3 (fun w' => w'.cell? ⟨k0, 0, none⟩ = some (.int .u64 (p0 : Int)) ∧ w'.cell? ⟨k0, 1, none⟩ = some (.int .u64 (p1 : Int)) ∧ w'.cell? ⟨k0, 2, none⟩ = some (.int .u64 (p2 : Int)) ∧ w'.cell? ⟨k0, 3, none⟩ = some (.int .u64 (p3 : Int)) ∧ w'.cell? ⟨k0, 4, none⟩ = some (.int .u64 (c0 : Int)) ∧ w'.cell? ⟨k0, 5, none⟩ = some (.int .u64 (c1 : Int)) ∧ w'.cell? ⟨k0, 6, none⟩ = some (.int .u64 (c2 : Int)) ∧ w'.cell? ⟨k0, 7, none⟩ = some (.int .u64 (c3 : Int)) ∧ w'.cell? ⟨k1, 0, none⟩ = some (.int .u64 (a : Int)) ∧ w'.cell? ⟨k1, 1, none⟩ = some (.int .u64 (b : Int)) ∧ w'.cell? ⟨k1, 2, none⟩ = some (.int .u64 (c : Int)) ∧ w'.cell? ⟨k1, 3, none⟩ = some (.int .u64 (d : Int)) ∧ w'.cell? ⟨k2, 0, none⟩ = some (.int .u64 (p : Int)) ∧ w'.cell? ⟨k2, 1, none⟩ = some (.int .u64 (q : Int)) ∧ w'.cell? ⟨k2, 2, none⟩ = some (.int .u64 (r : Int)) ∧ w'.cell? ⟨k2, 3, none⟩ = some (.int .u64 (s : Int)) ∧ Kept w k0 [⟨k0, 0, p0, p1, p2, p3⟩, ⟨k0, 4, c0, c1, c2, c3⟩, ⟨k1, 0, a, b, c, d⟩, ⟨k2, 0, p, q, r, s⟩] w') (first | (with_reducible exact mulS_of KP) | (with_reducible exact mulS_of KP.drew) | (with_reducible exact mulS_of (KP.set4' Q3.out hl3 _ _ _ _)) | (with_reducible exact mulS_of (KP.set4' Q3.out hl3 _ _ _ _).drew) | fail) (first | (go_at_call 56; refine (rplus_any _ _ _ _ (Four.eight HX.out) (Four.eight HY.out) (add_bound HX.out HY.out) _).mono ?_; rintro e w1 ⟨v, rfl, hb1, hE1⟩; obtain ⟨x0, x1, x2, x3, x4, x5, x6, x7, rfl, hx0, hx1, hx2, hx3, hx4, hx5, hx6, hx7, hxe⟩ := id hE1; clear hxe; have HE1 : Hid (Eight _ _) := hE1; clear hE1; have KP1 := KP.drew.call hb1; have T1 := T3.drew.call hb1; clear KP T3 hb1; have KP := KP1; have T3 := T1; clear KP1 T1; obtain ⟨tc0, tc1, tc2, tc3, tf⟩ := id T3; have zt := T3.lt) | (go_at_call 55; refine (HL.out _ _ _ HE1.out).mono ?_; rintro e w2 ⟨v, rfl, hb2, hF3⟩; obtain ⟨a', b', c', d', rfl, ha', hb', hc', hd', es3⟩ := id hF3; clear es3; have HF3 : Hid (Four _ _) := hF3; clear hF3; have KP1 := KP.call hb2; have T1 := T3.call hb2; clear KP T3 hb2; have KP := KP1; have T3 := T1; clear KP1 T1; obtain ⟨tc0, tc1, tc2, tc3, tf⟩ := id T3; have zt := T3.lt))
  go_wp2
  have RF := T3.self4 a' b' c' d'
  unfold set4 at RF
  refine bodyPost_ret (v := ?v) ?hr rfl ?hR
  case hr => simp [results, Try.results18, go_sem, RF.c0, RF.c1, RF.c2, RF.c3]; rfl
  refine ⟨_, rfl, ?_, HF3.out⟩
  rw [H0.out]
  exact below_set4 KP.bl Q3.out _ _ _ _
end Go.Proofs.Ytdeidgbknlmhjab
