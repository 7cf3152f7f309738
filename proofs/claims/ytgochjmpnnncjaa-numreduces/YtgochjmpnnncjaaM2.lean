import Derived.Test.YtgochjmpnnncjaaM1
import Derived.Test.YtgochjmpnnncjaaK1
import Derived.Deep.RegionHeld3
import Derived.Deep.LoopGhost
namespace Go.Proofs.Ytgochjmpnnncjaa
open Go.RowKit Go.Sort Go.Deep

theorem modS_of {w W : World} {k0 k1 k7 p0 p1 p2 p3 c0 c1 c2 c3 x0 x1 x2 x3 x4 x5 x6 x7 : Nat} (h : Kept w k0 [⟨k0, 0, p0, p1, p2, p3⟩, ⟨k0, 4, c0, c1, c2, c3⟩, ⟨k7, 0, x0, x1, x2, x3⟩, ⟨k7, 4, x4, x5, x6, x7⟩, ⟨k1, 0, 0, 0, 0, 0⟩] W) : W.cell? ⟨k0, 0, none⟩ = some (.int .u64 (p0 : Int)) ∧ W.cell? ⟨k0, 1, none⟩ = some (.int .u64 (p1 : Int)) ∧ W.cell? ⟨k0, 2, none⟩ = some (.int .u64 (p2 : Int)) ∧ W.cell? ⟨k0, 3, none⟩ = some (.int .u64 (p3 : Int)) ∧ W.cell? ⟨k0, 4, none⟩ = some (.int .u64 (c0 : Int)) ∧ W.cell? ⟨k0, 5, none⟩ = some (.int .u64 (c1 : Int)) ∧ W.cell? ⟨k0, 6, none⟩ = some (.int .u64 (c2 : Int)) ∧ W.cell? ⟨k0, 7, none⟩ = some (.int .u64 (c3 : Int)) ∧ W.cell? ⟨k7, 0, none⟩ = some (.int .u64 (x0 : Int)) ∧ W.cell? ⟨k7, 1, none⟩ = some (.int .u64 (x1 : Int)) ∧ W.cell? ⟨k7, 2, none⟩ = some (.int .u64 (x2 : Int)) ∧ W.cell? ⟨k7, 3, none⟩ = some (.int .u64 (x3 : Int)) ∧ W.cell? ⟨k7, 4, none⟩ = some (.int .u64 (x4 : Int)) ∧ W.cell? ⟨k7, 5, none⟩ = some (.int .u64 (x5 : Int)) ∧ W.cell? ⟨k7, 6, none⟩ = some (.int .u64 (x6 : Int)) ∧ W.cell? ⟨k7, 7, none⟩ = some (.int .u64 (x7 : Int)) ∧ Kept w k0 [⟨k0, 0, p0, p1, p2, p3⟩, ⟨k0, 4, c0, c1, c2, c3⟩, ⟨k7, 0, x0, x1, x2, x3⟩, ⟨k7, 4, x4, x5, x6, x7⟩, ⟨k1, 0, 0, 0, 0, 0⟩] W :=
  ⟨h.head.c0, h.head.c1, h.head.c2, h.head.c3, h.tail.head.c0, h.tail.head.c1, h.tail.head.c2, h.tail.head.c3, h.tail.tail.head.c0, h.tail.tail.head.c1, h.tail.tail.head.c2, h.tail.tail.head.c3, h.tail.tail.tail.head.c0, h.tail.tail.tail.head.c1, h.tail.tail.tail.head.c2, h.tail.tail.tail.head.c3, h⟩

/-- A prime as the reference has it: itself, and what is missing to 2^256. -/
structure RefP (p0 p1 p2 p3 c0 c1 c2 c3 P : Nat) : Prop where
  hp0 : p0 < 18446744073709551616
  hp1 : p1 < 18446744073709551616
  hp2 : p2 < 18446744073709551616
  hp3 : p3 < 18446744073709551616
  hc0 : c0 < 18446744073709551616
  hc1 : c1 < 18446744073709551616
  hc2 : c2 < 18446744073709551616
  hc3 : c3 < 18446744073709551616
  eP : P = val p0 p1 p2 p3
  hP : P + val c0 c1 c2 c3 = top
  hP2 : top < 2 * P

theorem mod_bound {v : Value} {n B : Nat} (hF : Four v n) (hB : B < 256) : n * val 256 0 0 0 + (val B 0 0 0 + top * val 0 0 0 0) < top * top := by
  have h1 := hF.lt
  have e1 : val 256 0 0 0 = 256 := rfl
  have e2 : val B 0 0 0 = B := by unfold val; omega
  have e3 : val 0 0 0 0 = 0 := rfl
  have h2 : n * 256 ≤ (top - 1) * 256 := Nat.mul_le_mul_right _ (by omega)
  have h3 : (top - 1) * 256 + 256 ≤ top * top := by unfold top; decide
  rw [e1, e2, e3]
  omega
theorem mod_step (P : Nat) (s : ByteArray) (k : Nat) (hk : k < s.size) :
    (beV (s.data.extract 0 k).toList % P * val 256 0 0 0 + (val s[k].toNat 0 0 0 + top * val 0 0 0 0)) % P = beV (s.data.extract 0 (k + 1)).toList % P := by
  have e : (s.data.extract 0 (k + 1)).toList = (s.data.extract 0 k).toList ++ [s[k]] := by
    rw [Array.extract_succ_right (by omega) hk, Array.toList_push]
    rfl
  have e1 : val 256 0 0 0 = 256 := rfl
  have e2 : val s[k].toNat 0 0 0 = s[k].toNat := by unfold val; omega
  have e3 : val 0 0 0 0 = 0 := rfl
  rw [e, beV_append, e1, e2, e3, Nat.mul_zero, Nat.add_zero, Nat.add_mod, Nat.mul_mod, Nat.mod_mod, ← Nat.mul_mod, ← Nat.add_mod]
  simp [beV]

set_option maxHeartbeats 4000000 in
set_option maxRecDepth 100000 in
theorem rMod_any (p0 p1 p2 p3 c0 c1 c2 c3 P : Nat) (s : ByteArray) (hR : RefP p0 p1 p2 p3 c0 c1 c2 c3 P) (hs : s.size ≤ 1048576) (w : World) :
    Calls Try.prog 31 #[.agg #[.int .u64 (p0 : Int), .int .u64 (p1 : Int), .int .u64 (p2 : Int), .int .u64 (p3 : Int), .int .u64 (c0 : Int), .int .u64 (c1 : Int), .int .u64 (c2 : Int), .int .u64 (c3 : Int)], .string s] w (Ret fun e w' => Below w.heap.size w w' ∧ Four e (beV s.data.toList % P)) := by
  have HR : Hid (RefP p0 p1 p2 p3 c0 c1 c2 c3 P) := hR
  clear hR
  go_enter Try.func31, Try.ntmps31
  go_wp2
  have FR := ((At8.made w 64 p0 p1 p2 p3 c0 c1 c2 c3 rfl).alloc (.cells #[.int .u64 0, .int .u64 0, .int .u64 0, .int .u64 0] 62)).alloc (.cells #[.int .u64 0, .int .u64 0, .int .u64 0, .int .u64 0] 62)
  have RE := (At4.made (w.alloc (.cells #[.int .u64 (p0 : Int), .int .u64 (p1 : Int), .int .u64 (p2 : Int), .int .u64 (p3 : Int), .int .u64 (c0 : Int), .int .u64 (c1 : Int), .int .u64 (c2 : Int), .int .u64 (c3 : Int)] 64)) 62 0 0 0 0 (World.size_alloc _ _)).alloc (.cells #[.int .u64 0, .int .u64 0, .int .u64 0, .int .u64 0] 62)
  have NN := At4.made ((w.alloc (.cells #[.int .u64 (p0 : Int), .int .u64 (p1 : Int), .int .u64 (p2 : Int), .int .u64 (p3 : Int), .int .u64 (c0 : Int), .int .u64 (c1 : Int), .int .u64 (c2 : Int), .int .u64 (c3 : Int)] 64)).alloc (.cells #[.int .u64 0, .int .u64 0, .int .u64 0, .int .u64 0] 62)) 62 0 0 0 0 (k := w.heap.size + 1 + 1) (by simp)
  have KP := ((((Kept.mk1 (below3 w (.cells #[.int .u64 (p0 : Int), .int .u64 (p1 : Int), .int .u64 (p2 : Int), .int .u64 (p3 : Int), .int .u64 (c0 : Int), .int .u64 (c1 : Int), .int .u64 (c2 : Int), .int .u64 (c3 : Int)] 64) (.cells #[.int .u64 0, .int .u64 0, .int .u64 0, .int .u64 0] 62) (.cells #[.int .u64 0, .int .u64 0, .int .u64 0, .int .u64 0] 62)) (below3 w (.cells #[.int .u64 (p0 : Int), .int .u64 (p1 : Int), .int .u64 (p2 : Int), .int .u64 (p3 : Int), .int .u64 (c0 : Int), .int .u64 (c1 : Int), .int .u64 (c2 : Int), .int .u64 (c3 : Int)] 64) (.cells #[.int .u64 0, .int .u64 0, .int .u64 0, .int .u64 0] 62) (.cells #[.int .u64 0, .int .u64 0, .int .u64 0, .int .u64 0] 62)).size).cons RE.blk).cons NN.blk).cons (x := ⟨w.heap.size, 4, c0, c1, c2, c3⟩) ⟨FR.c4, FR.c5, FR.c6, FR.c7, FR.fz⟩).cons (x := ⟨w.heap.size, 0, p0, p1, p2, p3⟩) ⟨FR.c0, FR.c1, FR.c2, FR.c3, FR.fz⟩
  clear FR RE NN
  generalize World.alloc _ _ = W0 at KP ⊢
  go_loopg [6] s.size (fun gk s6 wr => ∃ (k a b c d : Nat), k + gk = s.size ∧ s6 = .int .i64 (k : Int) ∧ Kept w w.heap.size [⟨w.heap.size, 0, p0, p1, p2, p3⟩, ⟨w.heap.size, 4, c0, c1, c2, c3⟩, ⟨w.heap.size + 1 + 1, 0, a, b, c, d⟩, ⟨w.heap.size + 1, 0, 0, 0, 0, 0⟩] wr ∧
    Hid (Four (.agg #[.int .u64 (a : Int), .int .u64 (b : Int), .int .u64 (c : Int), .int .u64 (d : Int)]) (beV (s.data.extract 0 k).toList % P)))
  case atStart =>
    refine ⟨0, 0, 0, 0, 0, Nat.zero_add _, rfl, KP, ?_⟩
    have : beV (s.data.extract 0 0).toList = 0 := by simp [beV]
    rw [this, Nat.zero_mod]
    exact Four.mk (by decide) (by decide) (by decide) (by decide) rfl
  case round =>
    clear KP
    obtain ⟨k, a, b, c, d, hk, rfl, KP, HF⟩ := hrel
    generalize h2 : w.heap.size + 1 + 1 = k2 at KP ⊢
    generalize h1 : w.heap.size + 1 = k1 at KP ⊢
    have H : Hid (w.heap.size + 1 = k1 ∧ w.heap.size + 1 + 1 = k2) := ⟨h1, h2⟩
    have Q1 : Hid (w.heap.size ≤ k1) := by unfold Hid; omega
    have Q2 : Hid (w.heap.size ≤ k2) := by unfold Hid; omega
    have n12 : k2 ≠ k1 := by omega
    have n02 : k2 ≠ w.heap.size := by omega
    generalize h0 : w.heap.size = k0 at KP Q1 Q2 n02 ⊢
    have H0 : Hid (w.heap.size = k0) := h0
    clear h0 h1 h2
    obtain ⟨nc0, nc1, nc2, nc3, nf⟩ := KP.tail.tail.head.at4
    have z2 := KP.tail.tail.head.lt
    by_cases hlt : k < s.size
    · have hlt' : (k : Int) < (s.size : Int) := by omega
      go_wp2_with fail
      refine (rproduct_any _ _ _ _ HF.out (Four.mk (a := 256) (b := 0) (c := 0) (d := 0) (by decide) (by decide) (by decide) (by decide) rfl) _).mono ?_
      rintro r w1 ⟨v, rfl, hb1, hE1⟩
      obtain ⟨x0, x1, x2, x3, x4, x5, x6, x7, rfl, hx0, hx1, hx2, hx3, hx4, hx5, hx6, hx7, hxe⟩ := id hE1
      clear hxe nc0 nc1 nc2 nc3 nf z2
      replace KP := KP.call hb1
      clear hb1
      have A7 := At8.made w1 101 x0 x1 x2 x3 x4 x5 x6 x7 rfl
      have T2 := KP.tail.tail.head.at4.alloc (.cells #[.int .u64 (x0 : Int), .int .u64 (x1 : Int), .int .u64 (x2 : Int), .int .u64 (x3 : Int), .int .u64 (x4 : Int), .int .u64 (x5 : Int), .int .u64 (x6 : Int), .int .u64 (x7 : Int)] 101)
      have KP7 : Kept w k0 [⟨k0, 0, p0, p1, p2, p3⟩, ⟨k0, 4, c0, c1, c2, c3⟩, ⟨w1.heap.size, 0, x0, x1, x2, x3⟩, ⟨w1.heap.size, 4, x4, x5, x6, x7⟩, ⟨k1, 0, 0, 0, 0, 0⟩] _ :=
        ((((KP.alloc _).tail.tail.tail.cons (x := ⟨w1.heap.size, 4, x4, x5, x6, x7⟩) ⟨A7.c4, A7.c5, A7.c6, A7.c7, A7.fz⟩).cons (x := ⟨w1.heap.size, 0, x0, x1, x2, x3⟩) ⟨A7.c0, A7.c1, A7.c2, A7.c3, A7.fz⟩).cons (x := ⟨k0, 4, c0, c1, c2, c3⟩) (KP.alloc _).tail.head).cons (x := ⟨k0, 0, p0, p1, p2, p3⟩) (KP.alloc _).head
      have n72 : k2 ≠ w1.heap.size := Nat.ne_of_lt KP.tail.tail.head.lt
      clear A7 KP
      have KP := KP7
      clear KP7
      have z0 := KP.head.lt
      go_wp2_with fail
      generalize World.alloc _ _ = W7 at KP T2 ⊢
      generalize w1.heap.size = k7 at KP n72 ⊢
      have hl2 : ∀ x ∈ ([⟨k0, 0, p0, p1, p2, p3⟩, ⟨k0, 4, c0, c1, c2, c3⟩, ⟨k7, 0, x0, x1, x2, x3⟩, ⟨k7, 4, x4, x5, x6, x7⟩, ⟨k1, 0, 0, 0, 0, 0⟩] : List Blk), k2 ≠ x.k := by simp only [List.mem_cons, List.not_mem_nil, or_false]; rintro x (rfl | rfl | rfl | rfl | rfl); exact n02; exact n02; exact n72; exact n72; exact n12
      have HE1 : Hid (Eight _ _) := hE1
      obtain ⟨B, hB⟩ : ∃ B, s[k].toNat = B := ⟨_, rfl⟩
      have hB256 : B < 256 := hB ▸ s[k].toNat_lt
      have hsb : IntKind.u64.wrap (s[k].toNat : Int) = (B : Int) := by rw [hB]; exact wrapN _ (by omega)
      have HFX : Hid _ := mod_step P s k hlt
      have HB : Hid (s[k].toNat = B) := hB
      clear hE1 hB z0
      obtain ⟨tc0, tc1, tc2, tc3, tf⟩ := id T2
      have zt := T2.lt
      go_region_held3 (fun w' => w'.cell? ⟨k0, 0, none⟩ = some (.int .u64 (p0 : Int)) ∧ w'.cell? ⟨k0, 1, none⟩ = some (.int .u64 (p1 : Int)) ∧ w'.cell? ⟨k0, 2, none⟩ = some (.int .u64 (p2 : Int)) ∧ w'.cell? ⟨k0, 3, none⟩ = some (.int .u64 (p3 : Int)) ∧ w'.cell? ⟨k0, 4, none⟩ = some (.int .u64 (c0 : Int)) ∧ w'.cell? ⟨k0, 5, none⟩ = some (.int .u64 (c1 : Int)) ∧ w'.cell? ⟨k0, 6, none⟩ = some (.int .u64 (c2 : Int)) ∧ w'.cell? ⟨k0, 7, none⟩ = some (.int .u64 (c3 : Int)) ∧ w'.cell? ⟨k7, 0, none⟩ = some (.int .u64 (x0 : Int)) ∧ w'.cell? ⟨k7, 1, none⟩ = some (.int .u64 (x1 : Int)) ∧ w'.cell? ⟨k7, 2, none⟩ = some (.int .u64 (x2 : Int)) ∧ w'.cell? ⟨k7, 3, none⟩ = some (.int .u64 (x3 : Int)) ∧ w'.cell? ⟨k7, 4, none⟩ = some (.int .u64 (x4 : Int)) ∧ w'.cell? ⟨k7, 5, none⟩ = some (.int .u64 (x5 : Int)) ∧ w'.cell? ⟨k7, 6, none⟩ = some (.int .u64 (x6 : Int)) ∧ w'.cell? ⟨k7, 7, none⟩ = some (.int .u64 (x7 : Int)) ∧ Kept w k0 [⟨k0, 0, p0, p1, p2, p3⟩, ⟨k0, 4, c0, c1, c2, c3⟩, ⟨k7, 0, x0, x1, x2, x3⟩, ⟨k7, 4, x4, x5, x6, x7⟩, ⟨k1, 0, 0, 0, 0, 0⟩] w') (first | (with_reducible exact modS_of KP) | (with_reducible exact modS_of KP.drew) | (with_reducible exact modS_of (KP.set4' Q2.out hl2 _ _ _ _)) | (with_reducible exact modS_of (KP.set4' Q2.out hl2 _ _ _ _).drew) | fail) (first | (go_at_call 53; refine (rplus_any _ _ _ _ HE1.out ⟨B, 0, 0, 0, 0, 0, 0, 0, rfl, by omega, by decide, by decide, by decide, by decide, by decide, by decide, by decide, rfl⟩ (mod_bound HF.out hB256) _).mono ?_; rintro r w2 ⟨v, rfl, hb2, hE2⟩; obtain ⟨y0, y1, y2, y3, y4, y5, y6, y7, rfl, hy0, hy1, hy2, hy3, hy4, hy5, hy6, hy7, hye⟩ := id hE2; clear hye; have HE2 : Hid (Eight _ _) := hE2; clear hE2; have KP1 := KP.drew.call hb2; have T1 := T2.drew.call hb2; clear KP T2 hb2; have KP := KP1; have T2 := T1; clear KP1 T1; obtain ⟨tc0, tc1, tc2, tc3, tf⟩ := id T2; have zt := T2.lt) | (go_at_call 52; refine (rLess_any p0 p1 p2 p3 c0 c1 c2 c3 P _ _ HR.out.hp0 HR.out.hp1 HR.out.hp2 HR.out.hp3 HR.out.hc0 HR.out.hc1 HR.out.hc2 HR.out.hc3 HR.out.eP HR.out.hP HR.out.hP2 HE2.out _).mono ?_; rintro r w3 ⟨v, rfl, hb3, hF3⟩; obtain ⟨a', b', c', d', rfl, ha', hb', hc', hd', es3⟩ := id hF3; clear es3; have HF3 : Hid (Four _ _) := hF3; clear hF3; have KP1 := KP.call hb3; have T1 := T2.call hb3; clear KP T2 hb3; have KP := KP1; have T2 := T1; clear KP1 T1; obtain ⟨tc0, tc1, tc2, tc3, tf⟩ := id T2; have zt := T2.lt))
      go_wp2
      obtain ⟨q1, q2⟩ := H.out
      have q0 := H0.out
      subst q1 q2 q0
      go_roundg (gk - 1)
      case measure => omega
      case rel =>
        refine ⟨k + 1, a', b', c', d', by omega, rfl, ?_, ?_⟩
        · have K3 := KP.set4' Q2.out hl2 (.int .u64 (a' : Int)) (.int .u64 (b' : Int)) (.int .u64 (c' : Int)) (.int .u64 (d' : Int))
          exact (((K3.tail.tail.tail.tail).cons (T2.self4 a' b' c' d').blk).cons K3.tail.head).cons K3.head
        · have h1 := HF3.out
          rw [HB.out] at HFX
          unfold Hid
          rw [← HFX.out]
          exact h1
    · have hk2 : k = s.size := by omega
      have hge : ¬ ((k : Int) < (s.size : Int)) := by omega
      obtain ⟨rc0, rc1, rc2, rc3, rf⟩ := KP.tail.tail.tail.head.at4
      have z1 := KP.tail.tail.tail.head.lt
      have HK : Hid (k = s.size) := hk2
      clear hk2
      go_wp2
      have RF := KP.tail.tail.tail.head.at4.self4 a b c d
      unfold set4 at RF
      refine bodyPost_ret (v := ?v) ?hr rfl ?hR
      case hr => simp [results, Try.results31, go_sem, RF.c0, RF.c1, RF.c2, RF.c3]; rfl
      refine ⟨_, rfl, ?_, ?_⟩
      · rw [H0.out]
        exact below_set4 KP.bl Q1.out _ _ _ _
      · have := HF.out
        rw [HK.out, show s.size = s.data.size from rfl, Array.extract_size] at this
        exact this
end Go.Proofs.Ytgochjmpnnncjaa
