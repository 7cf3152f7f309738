import Derived.Deep.RegionHeld3
import Derived.Deep.LoopGhost
import Derived.Great.BuildSlice
import Derived.Lib.LazyBuf
import Derived.Test.YtmepmoalhgehhaaGreatDoorks11
set_option linter.unusedVariables false
set_option linter.unusedSimpArgs false
namespace Go.Proofs.YtmepmoalhgehhaaGreatDoor
open Go.RowKit Go.Sort Go.Deep
theorem modS_of {w W : World} {k0 k1 k7 p0 p1 p2 p3 c0 c1 c2 c3 x0 x1 x2 x3 x4 x5 x6 x7 : Nat} (h : Kept w k0 [⟨k0, 0, p0, p1, p2, p3⟩, ⟨k0, 4, c0, c1, c2, c3⟩, ⟨k7, 0, x0, x1, x2, x3⟩, ⟨k7, 4, x4, x5, x6, x7⟩, ⟨k1, 0, 0, 0, 0, 0⟩] W) : W.cell? ⟨k0, 0, none⟩ = some (.int .u64 (p0 : Int)) ∧ W.cell? ⟨k0, 1, none⟩ = some (.int .u64 (p1 : Int)) ∧ W.cell? ⟨k0, 2, none⟩ = some (.int .u64 (p2 : Int)) ∧ W.cell? ⟨k0, 3, none⟩ = some (.int .u64 (p3 : Int)) ∧ W.cell? ⟨k0, 4, none⟩ = some (.int .u64 (c0 : Int)) ∧ W.cell? ⟨k0, 5, none⟩ = some (.int .u64 (c1 : Int)) ∧ W.cell? ⟨k0, 6, none⟩ = some (.int .u64 (c2 : Int)) ∧ W.cell? ⟨k0, 7, none⟩ = some (.int .u64 (c3 : Int)) ∧ W.cell? ⟨k7, 0, none⟩ = some (.int .u64 (x0 : Int)) ∧ W.cell? ⟨k7, 1, none⟩ = some (.int .u64 (x1 : Int)) ∧ W.cell? ⟨k7, 2, none⟩ = some (.int .u64 (x2 : Int)) ∧ W.cell? ⟨k7, 3, none⟩ = some (.int .u64 (x3 : Int)) ∧ W.cell? ⟨k7, 4, none⟩ = some (.int .u64 (x4 : Int)) ∧ W.cell? ⟨k7, 5, none⟩ = some (.int .u64 (x5 : Int)) ∧ W.cell? ⟨k7, 6, none⟩ = some (.int .u64 (x6 : Int)) ∧ W.cell? ⟨k7, 7, none⟩ = some (.int .u64 (x7 : Int)) ∧ Kept w k0 [⟨k0, 0, p0, p1, p2, p3⟩, ⟨k0, 4, c0, c1, c2, c3⟩, ⟨k7, 0, x0, x1, x2, x3⟩, ⟨k7, 4, x4, x5, x6, x7⟩, ⟨k1, 0, 0, 0, 0, 0⟩] W :=
  ⟨h.head.c0, h.head.c1, h.head.c2, h.head.c3, h.tail.head.c0, h.tail.head.c1, h.tail.head.c2, h.tail.head.c3, h.tail.tail.head.c0, h.tail.tail.head.c1, h.tail.tail.head.c2, h.tail.tail.head.c3, h.tail.tail.tail.head.c0, h.tail.tail.tail.head.c1, h.tail.tail.tail.head.c2, h.tail.tail.tail.head.c3, h⟩
theorem mod_bound {v : Value} {n B : Nat} (hF : Four v n) (hB : B < 256) : n * val 256 0 0 0 + (val B 0 0 0 + top * val 0 0 0 0) < top * top := by
  have h1 := hF.lt
  have e1 : val 256 0 0 0 = 256 := rfl
  have e2 : val B 0 0 0 = B := by unfold val; omega
  have e3 : val 0 0 0 0 = 0 := rfl
  have h2 : n * 256 ≤ (top - 1) * 256 := Nat.mul_le_mul_right _ (by omega)
  have h3 : (top - 1) * 256 + 256 ≤ top * top := by unfold top; decide
  rw [e1, e2, e3]
  omega
theorem mod_step (P : Nat) (s : ByteArray) (k : Nat) (hk : k < s.size) :
    (beV (s.data.extract 0 k).toList % P * val 256 0 0 0 + (val s[k].toNat 0 0 0 + top * val 0 0 0 0)) % P = beV (s.data.extract 0 (k + 1)).toList % P := by
  have e : (s.data.extract 0 (k + 1)).toList = (s.data.extract 0 k).toList ++ [s[k]] := by
    rw [Array.extract_succ_right (by omega) hk, Array.toList_push]
    rfl
  have e1 : val 256 0 0 0 = 256 := rfl
  have e2 : val s[k].toNat 0 0 0 = s[k].toNat := by unfold val; omega
  have e3 : val 0 0 0 0 = 0 := rfl
  rw [e, beV_append, e1, e2, e3, Nat.mul_zero, Nat.add_zero, Nat.add_mod, Nat.mul_mod, Nat.mod_mod, ← Nat.mul_mod, ← Nat.add_mod]
  simp [beV]
set_option maxHeartbeats 4000000 in
set_option maxRecDepth 100000 in
theorem rMod_any (p0 p1 p2 p3 c0 c1 c2 c3 P : Nat) (s : ByteArray) (hR : RefP p0 p1 p2 p3 c0 c1 c2 c3 P) (hs : s.size ≤ 1048576) (w : World) :
    Calls Tryz.prog 31 #[.agg #[.int .u64 (p0 : Int), .int .u64 (p1 : Int), .int .u64 (p2 : Int), .int .u64 (p3 : Int), .int .u64 (c0 : Int), .int .u64 (c1 : Int), .int .u64 (c2 : Int), .int .u64 (c3 : Int)], .string s] w (Ret fun e w' => Below w.heap.size w w' ∧ Four e (beV s.data.toList % P)) := by
  have HR : Hid (RefP p0 p1 p2 p3 c0 c1 c2 c3 P) := hR
  clear hR
  go_enter Tryz.func31, Tryz.ntmps31
  go_wp2
  have FR := ((At8.made w 70 p0 p1 p2 p3 c0 c1 c2 c3 rfl).alloc (.cells #[.int .u64 0, .int .u64 0, .int .u64 0, .int .u64 0] 58)).alloc (.cells #[.int .u64 0, .int .u64 0, .int .u64 0, .int .u64 0] 58)
  have RE := (At4.made (w.alloc (.cells #[.int .u64 (p0 : Int), .int .u64 (p1 : Int), .int .u64 (p2 : Int), .int .u64 (p3 : Int), .int .u64 (c0 : Int), .int .u64 (c1 : Int), .int .u64 (c2 : Int), .int .u64 (c3 : Int)] 70)) 58 0 0 0 0 (World.size_alloc _ _)).alloc (.cells #[.int .u64 0, .int .u64 0, .int .u64 0, .int .u64 0] 58)
  have NN := At4.made ((w.alloc (.cells #[.int .u64 (p0 : Int), .int .u64 (p1 : Int), .int .u64 (p2 : Int), .int .u64 (p3 : Int), .int .u64 (c0 : Int), .int .u64 (c1 : Int), .int .u64 (c2 : Int), .int .u64 (c3 : Int)] 70)).alloc (.cells #[.int .u64 0, .int .u64 0, .int .u64 0, .int .u64 0] 58)) 58 0 0 0 0 (k := w.heap.size + 1 + 1) (by simp)
  have KP := ((((Kept.mk1 (below3 w (.cells #[.int .u64 (p0 : Int), .int .u64 (p1 : Int), .int .u64 (p2 : Int), .int .u64 (p3 : Int), .int .u64 (c0 : Int), .int .u64 (c1 : Int), .int .u64 (c2 : Int), .int .u64 (c3 : Int)] 70) (.cells #[.int .u64 0, .int .u64 0, .int .u64 0, .int .u64 0] 58) (.cells #[.int .u64 0, .int .u64 0, .int .u64 0, .int .u64 0] 58)) (below3 w (.cells #[.int .u64 (p0 : Int), .int .u64 (p1 : Int), .int .u64 (p2 : Int), .int .u64 (p3 : Int), .int .u64 (c0 : Int), .int .u64 (c1 : Int), .int .u64 (c2 : Int), .int .u64 (c3 : Int)] 70) (.cells #[.int .u64 0, .int .u64 0, .int .u64 0, .int .u64 0] 58) (.cells #[.int .u64 0, .int .u64 0, .int .u64 0, .int .u64 0] 58)).size).cons RE.blk).cons NN.blk).cons (x := ⟨w.heap.size, 4, c0, c1, c2, c3⟩) ⟨FR.c4, FR.c5, FR.c6, FR.c7, FR.fz⟩).cons (x := ⟨w.heap.size, 0, p0, p1, p2, p3⟩) ⟨FR.c0, FR.c1, FR.c2, FR.c3, FR.fz⟩
  clear FR RE NN
  generalize World.alloc _ _ = W0 at KP ⊢
  go_loopg [6] s.size (fun gk s6 wr => ∃ (k a b c d : Nat), k + gk = s.size ∧ s6 = .int .i64 (k : Int) ∧ Kept w w.heap.size [⟨w.heap.size, 0, p0, p1, p2, p3⟩, ⟨w.heap.size, 4, c0, c1, c2, c3⟩, ⟨w.heap.size + 1 + 1, 0, a, b, c, d⟩, ⟨w.heap.size + 1, 0, 0, 0, 0, 0⟩] wr ∧
    Hid (Four (.agg #[.int .u64 (a : Int), .int .u64 (b : Int), .int .u64 (c : Int), .int .u64 (d : Int)]) (beV (s.data.extract 0 k).toList % P)))
  case atStart =>
    refine ⟨0, 0, 0, 0, 0, Nat.zero_add _, rfl, KP, ?_⟩
    have : beV (s.data.extract 0 0).toList = 0 := by simp [beV]
    rw [this, Nat.zero_mod]
    exact Four.mk (by decide) (by decide) (by decide) (by decide) rfl
  case round =>
    clear KP
    obtain ⟨k, a, b, c, d, hk, rfl, KP, HF⟩ := hrel
    generalize h2 : w.heap.size + 1 + 1 = k2 at KP ⊢
    generalize h1 : w.heap.size + 1 = k1 at KP ⊢
    have H : Hid (w.heap.size + 1 = k1 ∧ w.heap.size + 1 + 1 = k2) := ⟨h1, h2⟩
    have Q1 : Hid (w.heap.size ≤ k1) := by unfold Hid; omega
    have Q2 : Hid (w.heap.size ≤ k2) := by unfold Hid; omega
    have n12 : k2 ≠ k1 := by omega
    have n02 : k2 ≠ w.heap.size := by omega
    generalize h0 : w.heap.size = k0 at KP Q1 Q2 n02 ⊢
    have H0 : Hid (w.heap.size = k0) := h0
    clear h0 h1 h2
    obtain ⟨nc0, nc1, nc2, nc3, nf⟩ := KP.tail.tail.head.at4
    have z2 := KP.tail.tail.head.lt
    by_cases hlt : k < s.size
    · have hlt' : (k : Int) < (s.size : Int) := by omega
      go_wp2_with fail
      refine (rproduct_any _ _ _ _ HF.out (Four.mk (a := 256) (b := 0) (c := 0) (d := 0) (by decide) (by decide) (by decide) (by decide) rfl) _).mono ?_
      rintro r w1 ⟨v, rfl, hb1, hE1⟩
      obtain ⟨x0, x1, x2, x3, x4, x5, x6, x7, rfl, hx0, hx1, hx2, hx3, hx4, hx5, hx6, hx7, hxe⟩ := id hE1
      clear hxe nc0 nc1 nc2 nc3 nf z2
      replace KP := KP.call hb1
      clear hb1
      have A7 := At8.made w1 101 x0 x1 x2 x3 x4 x5 x6 x7 rfl
      have T2 := KP.tail.tail.head.at4.alloc (.cells #[.int .u64 (x0 : Int), .int .u64 (x1 : Int), .int .u64 (x2 : Int), .int .u64 (x3 : Int), .int .u64 (x4 : Int), .int .u64 (x5 : Int), .int .u64 (x6 : Int), .int .u64 (x7 : Int)] 101)
      have KP7 : Kept w k0 [⟨k0, 0, p0, p1, p2, p3⟩, ⟨k0, 4, c0, c1, c2, c3⟩, ⟨w1.heap.size, 0, x0, x1, x2, x3⟩, ⟨w1.heap.size, 4, x4, x5, x6, x7⟩, ⟨k1, 0, 0, 0, 0, 0⟩] _ :=
        ((((KP.alloc _).tail.tail.tail.cons (x := ⟨w1.heap.size, 4, x4, x5, x6, x7⟩) ⟨A7.c4, A7.c5, A7.c6, A7.c7, A7.fz⟩).cons (x := ⟨w1.heap.size, 0, x0, x1, x2, x3⟩) ⟨A7.c0, A7.c1, A7.c2, A7.c3, A7.fz⟩).cons (x := ⟨k0, 4, c0, c1, c2, c3⟩) (KP.alloc _).tail.head).cons (x := ⟨k0, 0, p0, p1, p2, p3⟩) (KP.alloc _).head
      have n72 : k2 ≠ w1.heap.size := Nat.ne_of_lt KP.tail.tail.head.lt
      clear A7 KP
      have KP := KP7
      clear KP7
      have z0 := KP.head.lt
      go_wp2_with fail
      generalize World.alloc _ _ = W7 at KP T2 ⊢
      generalize w1.heap.size = k7 at KP n72 ⊢
      have hl2 : ∀ x ∈ ([⟨k0, 0, p0, p1, p2, p3⟩, ⟨k0, 4, c0, c1, c2, c3⟩, ⟨k7, 0, x0, x1, x2, x3⟩, ⟨k7, 4, x4, x5, x6, x7⟩, ⟨k1, 0, 0, 0, 0, 0⟩] : List Blk), k2 ≠ x.k := by simp only [List.mem_cons, List.not_mem_nil, or_false]; rintro x (rfl | rfl | rfl | rfl | rfl); exact n02; exact n02; exact n72; exact n72; exact n12
      have HE1 : Hid (Eight _ _) := hE1
      obtain ⟨B, hB⟩ : ∃ B, s[k].toNat = B := ⟨_, rfl⟩
      have hB256 : B < 256 := hB ▸ s[k].toNat_lt
      have hsb : IntKind.u64.wrap (s[k].toNat : Int) = (B : Int) := by rw [hB]; exact wrapN _ (by omega)
      have HFX : Hid _ := mod_step P s k hlt
      have HB : Hid (s[k].toNat = B) := hB
      clear hE1 hB z0
      obtain ⟨tc0, tc1, tc2, tc3, tf⟩ := id T2
      have zt := T2.lt
      go_region_held3 (fun w' => w'.cell? ⟨k0, 0, none⟩ = some (.int .u64 (p0 : Int)) ∧ w'.cell? ⟨k0, 1, none⟩ = some (.int .u64 (p1 : Int)) ∧ w'.cell? ⟨k0, 2, none⟩ = some (.int .u64 (p2 : Int)) ∧ w'.cell? ⟨k0, 3, none⟩ = some (.int .u64 (p3 : Int)) ∧ w'.cell? ⟨k0, 4, none⟩ = some (.int .u64 (c0 : Int)) ∧ w'.cell? ⟨k0, 5, none⟩ = some (.int .u64 (c1 : Int)) ∧ w'.cell? ⟨k0, 6, none⟩ = some (.int .u64 (c2 : Int)) ∧ w'.cell? ⟨k0, 7, none⟩ = some (.int .u64 (c3 : Int)) ∧ w'.cell? ⟨k7, 0, none⟩ = some (.int .u64 (x0 : Int)) ∧ w'.cell? ⟨k7, 1, none⟩ = some (.int .u64 (x1 : Int)) ∧ w'.cell? ⟨k7, 2, none⟩ = some (.int .u64 (x2 : Int)) ∧ w'.cell? ⟨k7, 3, none⟩ = some (.int .u64 (x3 : Int)) ∧ w'.cell? ⟨k7, 4, none⟩ = some (.int .u64 (x4 : Int)) ∧ w'.cell? ⟨k7, 5, none⟩ = some (.int .u64 (x5 : Int)) ∧ w'.cell? ⟨k7, 6, none⟩ = some (.int .u64 (x6 : Int)) ∧ w'.cell? ⟨k7, 7, none⟩ = some (.int .u64 (x7 : Int)) ∧ Kept w k0 [⟨k0, 0, p0, p1, p2, p3⟩, ⟨k0, 4, c0, c1, c2, c3⟩, ⟨k7, 0, x0, x1, x2, x3⟩, ⟨k7, 4, x4, x5, x6, x7⟩, ⟨k1, 0, 0, 0, 0, 0⟩] w') (first | (with_reducible exact modS_of KP) | (with_reducible exact modS_of KP.drew) | (with_reducible exact modS_of (KP.set4' Q2.out hl2 _ _ _ _)) | (with_reducible exact modS_of (KP.set4' Q2.out hl2 _ _ _ _).drew) | fail) (first | (go_at_call 58; refine (rplus_any _ _ _ _ HE1.out ⟨B, 0, 0, 0, 0, 0, 0, 0, rfl, by omega, by decide, by decide, by decide, by decide, by decide, by decide, by decide, rfl⟩ (mod_bound HF.out hB256) _).mono ?_; rintro r w2 ⟨v, rfl, hb2, hE2⟩; obtain ⟨y0, y1, y2, y3, y4, y5, y6, y7, rfl, hy0, hy1, hy2, hy3, hy4, hy5, hy6, hy7, hye⟩ := id hE2; clear hye; have HE2 : Hid (Eight _ _) := hE2; clear hE2; have KP1 := KP.drew.call hb2; have T1 := T2.drew.call hb2; clear KP T2 hb2; have KP := KP1; have T2 := T1; clear KP1 T1; obtain ⟨tc0, tc1, tc2, tc3, tf⟩ := id T2; have zt := T2.lt) | (go_at_call 57; refine (rLess_any p0 p1 p2 p3 c0 c1 c2 c3 P _ _ HR.out.hp0 HR.out.hp1 HR.out.hp2 HR.out.hp3 HR.out.hc0 HR.out.hc1 HR.out.hc2 HR.out.hc3 HR.out.eP HR.out.hP HR.out.hP2 HE2.out _).mono ?_; rintro r w3 ⟨v, rfl, hb3, hF3⟩; obtain ⟨a', b', c', d', rfl, ha', hb', hc', hd', es3⟩ := id hF3; clear es3; have HF3 : Hid (Four _ _) := hF3; clear hF3; have KP1 := KP.call hb3; have T1 := T2.call hb3; clear KP T2 hb3; have KP := KP1; have T2 := T1; clear KP1 T1; obtain ⟨tc0, tc1, tc2, tc3, tf⟩ := id T2; have zt := T2.lt))
      go_wp2
      obtain ⟨q1, q2⟩ := H.out
      have q0 := H0.out
      subst q1 q2 q0
      go_roundg (gk - 1)
      case measure => omega
      case rel =>
        refine ⟨k + 1, a', b', c', d', by omega, rfl, ?_, ?_⟩
        · have K3 := KP.set4' Q2.out hl2 (.int .u64 (a' : Int)) (.int .u64 (b' : Int)) (.int .u64 (c' : Int)) (.int .u64 (d' : Int))
          exact (((K3.tail.tail.tail.tail).cons (T2.self4 a' b' c' d').blk).cons K3.tail.head).cons K3.head
        · have h1 := HF3.out
          rw [HB.out] at HFX
          unfold Hid
          rw [← HFX.out]
          exact h1
    · have hk2 : k = s.size := by omega
      have hge : ¬ ((k : Int) < (s.size : Int)) := by omega
      obtain ⟨rc0, rc1, rc2, rc3, rf⟩ := KP.tail.tail.tail.head.at4
      have z1 := KP.tail.tail.tail.head.lt
      have HK : Hid (k = s.size) := hk2
      clear hk2
      go_wp2
      have RF := KP.tail.tail.tail.head.at4.self4 a b c d
      unfold set4 at RF
      refine bodyPost_ret (v := ?v) ?hr rfl ?hR
      case hr => simp [results, Tryz.results31, go_sem, RF.c0, RF.c1, RF.c2, RF.c3]; rfl
      refine ⟨_, rfl, ?_, ?_⟩
      · rw [H0.out]
        exact below_set4 KP.bl Q1.out _ _ _ _
      · have := HF.out
        rw [HK.out, show s.size = s.data.size from rfl, Array.extract_size] at this
        exact this
end Go.Proofs.YtmepmoalhgehhaaGreatDoor
set_option linter.unusedVariables false
set_option linter.unusedSimpArgs false
namespace Go.Proofs.YtmepmoalhgehhaaGreatDoor
open Go.RowKit Go.Sort
variable {P : Nat} [NeZero P]
def rl0 : List Value := [.int .u64 18446744069414583343, .int .u64 18446744073709551615, .int .u64 18446744073709551615, .int .u64 18446744073709551615, .int .u64 4294968273, .int .u64 0, .int .u64 0, .int .u64 0]
def rv0 : Value := .agg rl0.toArray
/-- The reference's prime, too. -/
structure Fl3 (P : Nat) [NeZero P] : Prop extends Fld P where
  ref : RefP 18446744069414583343 18446744073709551615 18446744073709551615 18446744073709551615 4294968273 0 0 0 P
theorem rMake_c : Gives 55 #[.int .i64 0] rv0 := fun w => (rMake0 w).mono (by rintro e w' ⟨v, rfl, hb, rfl⟩; exact ⟨_, rfl, hb, rfl⟩)
theorem rAdd_c (h : Fl3 P) (x y : Fin P) : Gives 101 #[rv0, fv x, fv y] (fv (x + y)) := fun w =>
  (rAdd_R h.ref (h.four x) (h.four y) w).mono (by rintro e w' ⟨v, rfl, hb, hF⟩; exact ⟨_, rfl, hb, hF.nv⟩)
theorem rMul_c (h : Fl3 P) (x y : Fin P) : Gives 47 #[rv0, fv x, fv y] (fv (x * y)) := fun w =>
  (rMul_R h.ref (h.four x) (h.four y) w).mono (by rintro e w' ⟨v, rfl, hb, hF⟩; exact ⟨_, rfl, hb, hF.nv⟩)
theorem rSub_c (h : Fl3 P) (x y : Fin P) : Gives 100 #[rv0, fv x, fv y] (fv (x - y)) := fun w =>
  (rSub_any _ _ _ _ _ _ _ _ P _ _ x.val y.val h.ref (h.four x) (h.four y) y.isLt w).mono (by rintro e w' ⟨v, rfl, hb, hF⟩; rw [sub_fin] at hF; exact ⟨_, rfl, hb, hF.nv⟩)
theorem rNeg_c (h : Fl3 P) (x : Fin P) : Gives 132 #[rv0, fv x] (fv (0 - x)) := fun w =>
  (rNeg_any _ _ _ _ _ _ _ _ P _ x.val h.ref (h.four x) x.isLt w).mono (by
    rintro e w' ⟨v, rfl, hb, hF⟩
    rw [show (P - x.val) % P = (0 - x : Fin P).val by rw [← sub_fin, EC.val_zero, Nat.zero_add]] at hF
    exact ⟨_, rfl, hb, hF.nv⟩)
theorem rInv_c (h : Fl3 P) (x : Fin P) : Gives 46 #[rv0, fv x] (fv (EC.inv x)) := fun w =>
  (rInv_any _ _ _ _ _ _ _ _ P _ x.val h.ref (h.four x) w).mono (by rintro e w' ⟨v, rfl, hb, hF⟩; exact ⟨_, rfl, hb, hF.nv⟩)
theorem rZero_t (h : Fl3 P) {x : Fin P} (e : x = 0) : Gives 33 #[fv x] (.bool true) := fun w =>
  (rZero_any _ _ (h.four x) w).mono (by
    rintro e w' ⟨v, rfl, hb, rfl⟩
    refine ⟨_, rfl, hb, ?_⟩
    rw [decide_eq_true (by rw [e, EC.val_zero])])
theorem rZero_f (h : Fl3 P) {x : Fin P} (e : ¬ x = 0) : Gives 33 #[fv x] (.bool false) := fun w =>
  (rZero_any _ _ (h.four x) w).mono (by
    rintro e w' ⟨v, rfl, hb, rfl⟩
    refine ⟨_, rfl, hb, ?_⟩
    rw [decide_eq_false (fun h => e (Fin.ext (by rw [EC.val_zero]; exact h)))])
theorem rSmall1_c (h : Fl3 P) : Gives 98 #[.int .u64 1] (fv (1 : Fin P)) := fun w =>
  (rSmall_any 1 (by decide) w).mono (by rintro e w' ⟨v, rfl, hb, rfl⟩; exact ⟨_, rfl, hb, one_fv h.toFld⟩)
theorem rSmall7_c (h : Fl3 P) : Gives 98 #[.int .u64 7] (fv (7 : Fin P)) := fun w =>
  (rSmall_any 7 (by decide) w).mono (by rintro e w' ⟨v, rfl, hb, rfl⟩; exact ⟨_, rfl, hb, seven_fv h.toFld⟩)
theorem eqR (h : Fld P) (x y : Fin P) (w : World) : (binOp .eql 58 (fv x) (fv y)).run Tryz.prog w = .ok (.bool (decide (x = y))) w := by
  have h1 : (binOp .eql 58 (fv x) (fv y)).run Tryz.prog w = .ok (.bool (decide (x.val % 18446744073709551616 = y.val % 18446744073709551616 ∧ x.val / 18446744073709551616 % 18446744073709551616 = y.val / 18446744073709551616 % 18446744073709551616 ∧ x.val / 340282366920938463463374607431768211456 % 18446744073709551616 = y.val / 340282366920938463463374607431768211456 % 18446744073709551616 ∧ x.val / 6277101735386680763835789423207666416102355444464034512896 % 18446744073709551616 = y.val / 6277101735386680763835789423207666416102355444464034512896 % 18446744073709551616))) w := by
    show (binOp .eql 58 (.agg _) (.agg _)).run Tryz.prog w = _
    rw [run_eql_struct]
    have h2 := eqR_d 9998 (x.val % 18446744073709551616) (x.val / 18446744073709551616 % 18446744073709551616) (x.val / 340282366920938463463374607431768211456 % 18446744073709551616) (x.val / 6277101735386680763835789423207666416102355444464034512896 % 18446744073709551616) (y.val % 18446744073709551616) (y.val / 18446744073709551616 % 18446744073709551616) (y.val / 340282366920938463463374607431768211456 % 18446744073709551616) (y.val / 6277101735386680763835789423207666416102355444464034512896 % 18446744073709551616) w
    unfold wn
    rw [h2, Result.andThen_ok]
  rw [h1]
  simp only [wn_inj (h.top x) (h.top y), ← Fin.ext_iff]
theorem eqR_t (h : Fld P) {x y : Fin P} (e : x = y) (w : World) : (binOp .eql 58 (fv x) (fv y)).run Tryz.prog w = .ok (.bool true) w := by rw [eqR h, decide_eq_true e]
theorem eqR_f (h : Fld P) {x y : Fin P} (e : ¬ x = y) (w : World) : (binOp .eql 58 (fv x) (fv y)).run Tryz.prog w = .ok (.bool false) w := by rw [eqR h, decide_eq_false e]
theorem neR (h : Fld P) (x y : Fin P) (w : World) : (binOp .neq 58 (fv x) (fv y)).run Tryz.prog w = .ok (.bool (!decide (x = y))) w := by
  have h1 : (binOp .neq 58 (fv x) (fv y)).run Tryz.prog w = .ok (.bool (!decide (x.val % 18446744073709551616 = y.val % 18446744073709551616 ∧ x.val / 18446744073709551616 % 18446744073709551616 = y.val / 18446744073709551616 % 18446744073709551616 ∧ x.val / 340282366920938463463374607431768211456 % 18446744073709551616 = y.val / 340282366920938463463374607431768211456 % 18446744073709551616 ∧ x.val / 6277101735386680763835789423207666416102355444464034512896 % 18446744073709551616 = y.val / 6277101735386680763835789423207666416102355444464034512896 % 18446744073709551616))) w := neqR _ _ _ _ _ _ _ _ w
  rw [h1]
  simp only [wn_inj (h.top x) (h.top y), ← Fin.ext_iff]
theorem neR_f (h : Fld P) {x y : Fin P} (e : x = y) (w : World) : (binOp .neq 58 (fv x) (fv y)).run Tryz.prog w = .ok (.bool false) w := by rw [neR h, decide_eq_true e]; rfl
theorem neR_t (h : Fld P) {x y : Fin P} (e : ¬ x = y) (w : World) : (binOp .neq 58 (fv x) (fv y)).run Tryz.prog w = .ok (.bool true) w := by rw [neR h, decide_eq_false e]; rfl
theorem ws_none : Value.agg #[.int .u64 0, .int .u64 0, .int .u64 0, .int .u64 0, .int .u64 1, .int .u64 0, .int .u64 0, .int .u64 0, .int .u64 0, .int .u64 0, .int .u64 0, .int .u64 0] = .agg (([.int .u64 0, .int .u64 0, .int .u64 0, .int .u64 0] : List Value) ++ (([.int .u64 1, .int .u64 0, .int .u64 0, .int .u64 0] : List Value) ++ ([.int .u64 0, .int .u64 0, .int .u64 0, .int .u64 0] : List Value))).toArray := rfl
theorem build_none (h : Fld P) (w : World) : (Instr.build 62 #[(1, fv (1 : Fin P))]).run Tryz.prog w = .ok (rv (0 : Fin P) 1 0) w := by
  unfold rv
  rw [← ws_zero, ← ws_one h, ← one_fv h, ← ws_none]
  kernel_rfl
theorem rSqrt_y (h : Fl3 P) {m y : Fin P} (e : rt m = some y) : Gives 102 #[rv0, fv m] (.tuple #[fv y, .bool true]) := fun w =>
  (rSqrt_any _ _ _ _ _ _ _ _ P _ m.val h.ref h.p4 (h.four m) w).mono (by rintro e' w' ⟨v, rfl, hb, hF⟩; exact ⟨_, rfl, hb, hF.val.1 y e⟩)
theorem rSqrt_n (h : Fl3 P) {m : Fin P} (e : rt m = none) : Gives 102 #[rv0, fv m] (.tuple #[fv (0 : Fin P), .bool false]) := fun w =>
  (rSqrt_any _ _ _ _ _ _ _ _ P _ m.val h.ref h.p4 (h.four m) w).mono (by rintro e' w' ⟨v, rfl, hb, hF⟩; exact ⟨_, rfl, hb, hF.val.2 e⟩)
end Go.Proofs.YtmepmoalhgehhaaGreatDoor
namespace Go.Proofs.YtmepmoalhgehhaaGreatDoor
open Go.RowKit Go.Sort
variable {P : Nat} [NeZero P]
theorem u33 : (Tryz.prog.underlying 58).map (·.isRow) = some true := by kernel_rfl
theorem i33 : (Tryz.prog.info? 58).map (·.size) = some 4 := by kernel_rfl
theorem u56 : (Tryz.prog.underlying 62).map (·.isRow) = some true := by kernel_rfl
theorem i56 : (Tryz.prog.info? 62).map (·.size) = some 12 := by kernel_rfl
theorem u35 : (Tryz.prog.underlying 70).map (·.isRow) = some true := by kernel_rfl
theorem i35 : (Tryz.prog.info? 70).map (·.size) = some 8 := by kernel_rfl
set_option maxHeartbeats 2000000 in
set_option maxRecDepth 100000 in
theorem F3_c  : Gives 45 #[] rv0 := by
  intro w
  go_enter Tryz.func45, Tryz.ntmps45
  refine RG.M.enter [] 2 (by kernel_rfl) ?_
  intro a0 M0
  repeat refine wp_seq ?_
  refine M0.t [.m 0 [] 0] [(0, (RG.z 8))] [] [(RG.z 8)] [(0, (.p 0 0))] ⟨RG.mk 0 70, trivial⟩ ?_
  intro j1 a1 w1 M1
  repeat refine wp_seq ?_
  refine M1.t [.c 1 [] rv0, .u [(1, 0)] 0] [] [(0, 1, rl0)] [rl0] [(0, (.p 0 0))] ⟨RG.cl (rMake_c), RG.pt i35, trivial⟩ ?_
  intro a2 w2 M2
  refine wp_ret ?_
  refine bodyPost_ret (v := rv0) (RG.results_row M2.st 0 70 rfl 0 _ rfl (M2.at (s := (.p 0 0))) u35 i35) M2.sl.defers ?_
  exact ⟨_, rfl, M2.st.bel.below, rfl⟩
set_option maxHeartbeats 2000000 in
set_option maxRecDepth 100000 in
theorem None_c (C : Fl3 P)  : Gives 72 #[] (rv (0 : Fin P) 1 0) := by
  intro w
  have hfin : ((rv (0 : Fin P) (1 : Fin P) (0 : Fin P)) : Value) = (rv (0 : Fin P) 1 0) := by
    subst_vars; rfl
  rw [← hfin]
  go_enter Tryz.func72, Tryz.ntmps72
  refine RG.M.enter [] 3 (by kernel_rfl) ?_
  intro a0 M0
  repeat refine wp_seq ?_
  refine M0.t [.m 0 [] 0] [(0, (RG.z 12))] [] [(RG.z 12)] [(0, (.p 0 0))] ⟨RG.mk 0 62, trivial⟩ ?_
  intro j1 a1 w1 M1
  repeat refine wp_seq ?_
  refine M1.t [.c 1 [] (fv (1 : Fin P)), .x 2 [(1, 0)] (rv (0 : Fin P) (1 : Fin P) (0 : Fin P)), .u [(2, 1)] 0] [] [(0, 2, (ws (0 : Fin P) ++ (ws (1 : Fin P) ++ (ws (0 : Fin P)))))] [(ws (0 : Fin P) ++ (ws (1 : Fin P) ++ (ws (0 : Fin P))))] [(0, (.p 0 0))] ⟨RG.cl (rSmall1_c C), RG.cert_build1 rfl 62 1 1 rfl (fv (1 : Fin P)) (rv (0 : Fin P) (1 : Fin P) (0 : Fin P)) rfl RG.sx (build_none C.toFld), RG.pt i56, trivial⟩ ?_
  intro a2 w2 M2
  refine wp_ret ?_
  refine bodyPost_ret (v := (rv (0 : Fin P) (1 : Fin P) (0 : Fin P))) (RG.results_row M2.st 0 62 rfl 0 _ rfl (M2.at (s := (.p 0 0))) u56 i56) M2.sl.defers ?_
  exact ⟨_, rfl, M2.st.bel.below, rfl⟩
set_option maxHeartbeats 2000000 in
set_option maxRecDepth 100000 in
theorem Is_t_c (C : Fl3 P) (x y z : Fin P)(hz : z = 0)  : Gives 44 #[(rv x y z)] (.bool true) := by
  intro w
  go_enter Tryz.func44, Tryz.ntmps44
  refine RG.M.enter [(0, (.v (rv x y z)))] 6 (by kernel_rfl) ?_
  intro a0 M0
  repeat refine wp_seq ?_
  refine M0.t [.m 1 [] 0, .x 2 [] (.bool false)] [(0, (ws x ++ (ws y ++ (ws z))))] [] [(ws x ++ (ws y ++ (ws z)))] [(1, (.p 0 0)), (2, (.v (.bool false)))] ⟨RG.mk 0 62, RG.st, trivial⟩ ?_
  intro j1 a1 w1 M1
  repeat refine wp_seq ?_
  refine M1.u [.s 3 [] (.p 0 8), .x 4 [(3, 0)] (fv z), .c 5 [(4, 1)] (.bool true), .x 2 [(5, 2)] (.bool true)] [(2, (.v (.bool true)))] ⟨RG.st, RG.ld u33 i33, RG.cl (rZero_t C hz), RG.st, trivial⟩ ?_
  intro a2 w2 M2
  refine wp_ret ?_
  refine bodyPost_ret (v := (.bool true)) (RG.results_t 2 rfl _ (M2.at (s := (.v (.bool true))))) M2.sl.defers ?_
  exact ⟨_, rfl, M2.st.bel.below, rfl⟩
set_option maxHeartbeats 2000000 in
set_option maxRecDepth 100000 in
theorem Is_f_c (C : Fl3 P) (x y z : Fin P)(hz : ¬ z = 0)  : Gives 44 #[(rv x y z)] (.bool false) := by
  intro w
  go_enter Tryz.func44, Tryz.ntmps44
  refine RG.M.enter [(0, (.v (rv x y z)))] 6 (by kernel_rfl) ?_
  intro a0 M0
  repeat refine wp_seq ?_
  refine M0.t [.m 1 [] 0, .x 2 [] (.bool false)] [(0, (ws x ++ (ws y ++ (ws z))))] [] [(ws x ++ (ws y ++ (ws z)))] [(1, (.p 0 0)), (2, (.v (.bool false)))] ⟨RG.mk 0 62, RG.st, trivial⟩ ?_
  intro j1 a1 w1 M1
  repeat refine wp_seq ?_
  refine M1.u [.s 3 [] (.p 0 8), .x 4 [(3, 0)] (fv z), .c 5 [(4, 1)] (.bool false), .x 2 [(5, 2)] (.bool false)] [(2, (.v (.bool false)))] ⟨RG.st, RG.ld u33 i33, RG.cl (rZero_f C hz), RG.st, trivial⟩ ?_
  intro a2 w2 M2
  refine wp_ret ?_
  refine bodyPost_ret (v := (.bool false)) (RG.results_t 2 rfl _ (M2.at (s := (.v (.bool false))))) M2.sl.defers ?_
  exact ⟨_, rfl, M2.st.bel.below, rfl⟩
set_option maxHeartbeats 2000000 in
set_option maxRecDepth 100000 in
theorem rdouble_c (C : Fl3 P) (x y z : Fin P) : Gives 99 #[(rv x y z)] (rv ((EC.fdE y z) * (EC.fdT x y z)) ((EC.fdD x) * (x * ((EC.fdE y z) * (EC.fdE y z)) - (EC.fdT x y z)) - y * ((EC.fdE y z) * (EC.fdE y z) * (EC.fdE y z))) ((EC.fdE y z) * (EC.fdE y z) * (EC.fdE y z) * z)) := by
  intro w
  obtain ⟨c1, hc1⟩ : ∃ c, c = x * x := ⟨_, rfl⟩
  obtain ⟨c2, hc2⟩ : ∃ c, c = c1 + c1 := ⟨_, rfl⟩
  obtain ⟨c3, hc3⟩ : ∃ c, c = c2 + c1 := ⟨_, rfl⟩
  obtain ⟨c4, hc4⟩ : ∃ c, c = y + y := ⟨_, rfl⟩
  obtain ⟨c5, hc5⟩ : ∃ c, c = c4 * z := ⟨_, rfl⟩
  obtain ⟨c6, hc6⟩ : ∃ c, c = c5 * c5 := ⟨_, rfl⟩
  obtain ⟨c7, hc7⟩ : ∃ c, c = c6 * c5 := ⟨_, rfl⟩
  obtain ⟨c8, hc8⟩ : ∃ c, c = c3 * c3 := ⟨_, rfl⟩
  obtain ⟨c9, hc9⟩ : ∃ c, c = c8 * z := ⟨_, rfl⟩
  obtain ⟨c10, hc10⟩ : ∃ c, c = x + x := ⟨_, rfl⟩
  obtain ⟨c11, hc11⟩ : ∃ c, c = c10 * c6 := ⟨_, rfl⟩
  obtain ⟨c12, hc12⟩ : ∃ c, c = c9 - c11 := ⟨_, rfl⟩
  obtain ⟨c13, hc13⟩ : ∃ c, c = c5 * c12 := ⟨_, rfl⟩
  obtain ⟨c14, hc14⟩ : ∃ c, c = x * c6 := ⟨_, rfl⟩
  obtain ⟨c15, hc15⟩ : ∃ c, c = c14 - c12 := ⟨_, rfl⟩
  obtain ⟨c16, hc16⟩ : ∃ c, c = c3 * c15 := ⟨_, rfl⟩
  obtain ⟨c17, hc17⟩ : ∃ c, c = y * c7 := ⟨_, rfl⟩
  obtain ⟨c18, hc18⟩ : ∃ c, c = c16 - c17 := ⟨_, rfl⟩
  obtain ⟨c19, hc19⟩ : ∃ c, c = c7 * z := ⟨_, rfl⟩
  have hfin : ((rv c13 c18 c19) : Value) = (rv ((EC.fdE y z) * (EC.fdT x y z)) ((EC.fdD x) * (x * ((EC.fdE y z) * (EC.fdE y z)) - (EC.fdT x y z)) - y * ((EC.fdE y z) * (EC.fdE y z) * (EC.fdE y z))) ((EC.fdE y z) * (EC.fdE y z) * (EC.fdE y z) * z)) := by
    subst_vars; rfl
  rw [← hfin]
  go_enter Tryz.func99, Tryz.ntmps99
  refine RG.M.enter [(0, (.v (rv x y z)))] 91 (by kernel_rfl) ?_
  intro a0 M0
  repeat refine wp_seq ?_
  refine M0.t [.m 1 [] 0, .m 2 [] 1] [(0, (ws x ++ (ws y ++ (ws z)))), (1, (RG.z 12))] [] [(ws x ++ (ws y ++ (ws z))), (RG.z 12)] [(1, (.p 0 0)), (2, (.p 1 0))] ⟨RG.mk 0 62, RG.mk 1 62, trivial⟩ ?_
  intro j1 i1 a1 w1 M1
  repeat refine wp_seq ?_
  refine M1.d [.c 11 [] rv0, .s 12 [] (.p 0 0), .x 13 [(12, 1)] (fv x), .s 14 [] (.p 0 0), .x 15 [(14, 3)] (fv x), .c 16 [(11, 0), (13, 2), (15, 4)] (fv c1), .m 3 [] 2, .u [(3, 6), (16, 5)] 2] [(6, (RG.z 4))] [(2, 7, (ws c1))] [(ws x ++ (ws y ++ (ws z))), (RG.z 12), (ws c1)] [(1, (.p 0 0)), (2, (.p 1 0)), (3, (.p 2 0))] ⟨RG.cl (F3_c), RG.st, RG.ld u33 i33, RG.st, RG.ld u33 i33, RG.cl ((rMul_c C x x).e hc1), RG.mk 2 58, RG.pt i33, trivial⟩ ?_
  intro j2 a2 w2 M2
  repeat refine wp_seq ?_
  refine M2.d [.c 17 [] rv0, .c 18 [] rv0, .x 19 [] (fv c1), .x 20 [] (fv c1), .c 21 [(18, 1), (19, 2), (20, 3)] (fv c2), .x 22 [] (fv c1), .c 23 [(17, 0), (21, 4), (22, 5)] (fv c3), .m 4 [] 3, .u [(4, 7), (23, 6)] 3] [(7, (RG.z 4))] [(3, 8, (ws c3))] [(ws x ++ (ws y ++ (ws z))), (RG.z 12), (ws c1), (ws c3)] [(1, (.p 0 0)), (2, (.p 1 0)), (4, (.p 3 0))] ⟨RG.cl (F3_c), RG.cl (F3_c), RG.ld u33 i33, RG.ld u33 i33, RG.cl ((rAdd_c C c1 c1).e hc2), RG.ld u33 i33, RG.cl ((rAdd_c C c2 c1).e hc3), RG.mk 3 58, RG.pt i33, trivial⟩ ?_
  intro j3 a3 w3 M3
  repeat refine wp_seq ?_
  refine M3.d [.c 24 [] rv0, .c 25 [] rv0, .s 26 [] (.p 0 4), .x 27 [(26, 2)] (fv y), .s 28 [] (.p 0 4), .x 29 [(28, 4)] (fv y), .c 30 [(25, 1), (27, 3), (29, 5)] (fv c4), .s 31 [] (.p 0 8), .x 32 [(31, 7)] (fv z), .c 33 [(24, 0), (30, 6), (32, 8)] (fv c5), .m 5 [] 4, .u [(5, 10), (33, 9)] 4] [(10, (RG.z 4))] [(4, 11, (ws c5))] [(ws x ++ (ws y ++ (ws z))), (RG.z 12), (ws c1), (ws c3), (ws c5)] [(1, (.p 0 0)), (2, (.p 1 0)), (4, (.p 3 0)), (5, (.p 4 0))] ⟨RG.cl (F3_c), RG.cl (F3_c), RG.st, RG.ld u33 i33, RG.st, RG.ld u33 i33, RG.cl ((rAdd_c C y y).e hc4), RG.st, RG.ld u33 i33, RG.cl ((rMul_c C c4 z).e hc5), RG.mk 4 58, RG.pt i33, trivial⟩ ?_
  intro j4 a4 w4 M4
  repeat refine wp_seq ?_
  refine M4.d [.c 34 [] rv0, .x 35 [] (fv c5), .x 36 [] (fv c5), .c 37 [(34, 0), (35, 1), (36, 2)] (fv c6), .m 6 [] 5, .u [(6, 4), (37, 3)] 5] [(4, (RG.z 4))] [(5, 5, (ws c6))] [(ws x ++ (ws y ++ (ws z))), (RG.z 12), (ws c1), (ws c3), (ws c5), (ws c6)] [(1, (.p 0 0)), (2, (.p 1 0)), (4, (.p 3 0)), (5, (.p 4 0)), (6, (.p 5 0))] ⟨RG.cl (F3_c), RG.ld u33 i33, RG.ld u33 i33, RG.cl ((rMul_c C c5 c5).e hc6), RG.mk 5 58, RG.pt i33, trivial⟩ ?_
  intro j5 a5 w5 M5
  repeat refine wp_seq ?_
  refine M5.d [.c 38 [] rv0, .x 39 [] (fv c6), .x 40 [] (fv c5), .c 41 [(38, 0), (39, 1), (40, 2)] (fv c7), .m 7 [] 6, .u [(7, 4), (41, 3)] 6] [(4, (RG.z 4))] [(6, 5, (ws c7))] [(ws x ++ (ws y ++ (ws z))), (RG.z 12), (ws c1), (ws c3), (ws c5), (ws c6), (ws c7)] [(1, (.p 0 0)), (2, (.p 1 0)), (4, (.p 3 0)), (5, (.p 4 0)), (6, (.p 5 0)), (7, (.p 6 0))] ⟨RG.cl (F3_c), RG.ld u33 i33, RG.ld u33 i33, RG.cl ((rMul_c C c6 c5).e hc7), RG.mk 6 58, RG.pt i33, trivial⟩ ?_
  intro j6 a6 w6 M6
  repeat refine wp_seq ?_
  refine M6.d [.c 42 [] rv0, .c 43 [] rv0, .c 44 [] rv0, .x 45 [] (fv c3), .x 46 [] (fv c3), .c 47 [(44, 2), (45, 3), (46, 4)] (fv c8), .s 48 [] (.p 0 8), .x 49 [(48, 6)] (fv z), .c 50 [(43, 1), (47, 5), (49, 7)] (fv c9), .c 51 [] rv0, .c 52 [] rv0, .s 53 [] (.p 0 0), .x 54 [(53, 11)] (fv x), .s 55 [] (.p 0 0), .x 56 [(55, 13)] (fv x), .c 57 [(52, 10), (54, 12), (56, 14)] (fv c10), .x 58 [] (fv c6), .c 59 [(51, 9), (57, 15), (58, 16)] (fv c11), .c 60 [(42, 0), (50, 8), (59, 17)] (fv c12), .m 8 [] 7, .u [(8, 19), (60, 18)] 7] [(19, (RG.z 4))] [(7, 20, (ws c12))] [(ws x ++ (ws y ++ (ws z))), (RG.z 12), (ws c1), (ws c3), (ws c5), (ws c6), (ws c7), (ws c12)] [(1, (.p 0 0)), (2, (.p 1 0)), (4, (.p 3 0)), (5, (.p 4 0)), (6, (.p 5 0)), (7, (.p 6 0)), (8, (.p 7 0))] ⟨RG.cl (F3_c), RG.cl (F3_c), RG.cl (F3_c), RG.ld u33 i33, RG.ld u33 i33, RG.cl ((rMul_c C c3 c3).e hc8), RG.st, RG.ld u33 i33, RG.cl ((rMul_c C c8 z).e hc9), RG.cl (F3_c), RG.cl (F3_c), RG.st, RG.ld u33 i33, RG.st, RG.ld u33 i33, RG.cl ((rAdd_c C x x).e hc10), RG.ld u33 i33, RG.cl ((rMul_c C c10 c6).e hc11), RG.cl ((rSub_c C c9 c11).e hc12), RG.mk 7 58, RG.pt i33, trivial⟩ ?_
  intro j7 a7 w7 M7
  repeat refine wp_seq ?_
  refine M7.d [.c 61 [] rv0, .x 62 [] (fv c5), .x 63 [] (fv c12), .c 64 [(61, 0), (62, 1), (63, 2)] (fv c13), .m 9 [] 8, .u [(9, 4), (64, 3)] 8] [(4, (RG.z 4))] [(8, 5, (ws c13))] [(ws x ++ (ws y ++ (ws z))), (RG.z 12), (ws c1), (ws c3), (ws c5), (ws c6), (ws c7), (ws c12), (ws c13)] [(1, (.p 0 0)), (2, (.p 1 0)), (4, (.p 3 0)), (6, (.p 5 0)), (7, (.p 6 0)), (8, (.p 7 0)), (9, (.p 8 0))] ⟨RG.cl (F3_c), RG.ld u33 i33, RG.ld u33 i33, RG.cl ((rMul_c C c5 c12).e hc13), RG.mk 8 58, RG.pt i33, trivial⟩ ?_
  intro j8 a8 w8 M8
  repeat refine wp_seq ?_
  refine M8.d [.c 65 [] rv0, .c 66 [] rv0, .x 67 [] (fv c3), .c 68 [] rv0, .c 69 [] rv0, .s 70 [] (.p 0 0), .x 71 [(70, 5)] (fv x), .x 72 [] (fv c6), .c 73 [(69, 4), (71, 6), (72, 7)] (fv c14), .x 74 [] (fv c12), .c 75 [(68, 3), (73, 8), (74, 9)] (fv c15), .c 76 [(66, 1), (67, 2), (75, 10)] (fv c16), .c 77 [] rv0, .s 78 [] (.p 0 4), .x 79 [(78, 13)] (fv y), .x 80 [] (fv c7), .c 81 [(77, 12), (79, 14), (80, 15)] (fv c17), .c 82 [(65, 0), (76, 11), (81, 16)] (fv c18), .m 10 [] 9, .u [(10, 18), (82, 17)] 9] [(18, (RG.z 4))] [(9, 19, (ws c18))] [(ws x ++ (ws y ++ (ws z))), (RG.z 12), (ws c1), (ws c3), (ws c5), (ws c6), (ws c7), (ws c12), (ws c13), (ws c18)] [(1, (.p 0 0)), (2, (.p 1 0)), (7, (.p 6 0)), (9, (.p 8 0)), (10, (.p 9 0))] ⟨RG.cl (F3_c), RG.cl (F3_c), RG.ld u33 i33, RG.cl (F3_c), RG.cl (F3_c), RG.st, RG.ld u33 i33, RG.ld u33 i33, RG.cl ((rMul_c C x c6).e hc14), RG.ld u33 i33, RG.cl ((rSub_c C c14 c12).e hc15), RG.cl ((rMul_c C c3 c15).e hc16), RG.cl (F3_c), RG.st, RG.ld u33 i33, RG.ld u33 i33, RG.cl ((rMul_c C y c7).e hc17), RG.cl ((rSub_c C c16 c17).e hc18), RG.mk 9 58, RG.pt i33, trivial⟩ ?_
  intro j9 a9 w9 M9
  repeat refine wp_seq ?_
  refine M9.d [.x 83 [] (fv c13), .x 84 [] (fv c18), .c 85 [] rv0, .x 86 [] (fv c7), .s 87 [] (.p 0 8), .x 88 [(87, 4)] (fv z), .c 89 [(85, 2), (86, 3), (88, 5)] (fv c19), .x 90 [(83, 0), (84, 1), (89, 6)] (rv c13 c18 c19), .u [(90, 7)] 1] [] [(1, 8, (ws c13 ++ (ws c18 ++ (ws c19))))] [(ws x ++ (ws y ++ (ws z))), (ws c13 ++ (ws c18 ++ (ws c19))), (ws c1), (ws c3), (ws c5), (ws c6), (ws c7), (ws c12), (ws c13), (ws c18)] [(2, (.p 1 0))] ⟨RG.ld u33 i33, RG.ld u33 i33, RG.cl (F3_c), RG.ld u33 i33, RG.st, RG.ld u33 i33, RG.cl ((rMul_c C c7 z).e hc19), RG.st, RG.pt i56, trivial⟩ ?_
  intro a10 w10 M10
  refine wp_ret ?_
  refine bodyPost_ret (v := (rv c13 c18 c19)) (RG.results_row M10.st 2 62 rfl 1 _ rfl (M10.at (s := (.p 1 0))) u56 i56) M10.sl.defers ?_
  exact ⟨_, rfl, M10.st.bel.below, rfl⟩
set_option maxHeartbeats 4000000 in
set_option maxRecDepth 100000 in
theorem rPlusJ_any (C : Fl3 P) (x1 y1 z1 x2 y2 z2 : Fin P) (R : Value) (ha : z1 = 0 → R = (rv x2 y2 z2)) (hb : ¬ z1 = 0 → z2 = 0 → R = (rv x1 y1 z1)) (hd : ¬ z1 = 0 → ¬ z2 = 0 → x2 * z1 = x1 * z2 → (¬ y2 * z1 = y1 * z2 ∧ R = (rv (0 : Fin P) 1 0)) ∨ (y2 * z1 = y1 * z2 ∧ ¬ y2 * z1 = 0 ∧ R = (rv ((EC.fdE y1 z1) * (EC.fdT x1 y1 z1)) ((EC.fdD x1) * (x1 * ((EC.fdE y1 z1) * (EC.fdE y1 z1)) - (EC.fdT x1 y1 z1)) - y1 * ((EC.fdE y1 z1) * (EC.fdE y1 z1) * (EC.fdE y1 z1))) ((EC.fdE y1 z1) * (EC.fdE y1 z1) * (EC.fdE y1 z1) * z1)))) (he : ¬ z1 = 0 → ¬ z2 = 0 → ¬ x2 * z1 = x1 * z2 → R = (rv ((x2 * z1 - x1 * z2) * EC.frT (y2 * z1 - y1 * z2) (x2 * z1 - x1 * z2) (z1 * z2) (x1 * z2)) ((y2 * z1 - y1 * z2) * (x1 * z2 * ((x2 * z1 - x1 * z2) * (x2 * z1 - x1 * z2)) - EC.frT (y2 * z1 - y1 * z2) (x2 * z1 - x1 * z2) (z1 * z2) (x1 * z2)) - y1 * z2 * ((x2 * z1 - x1 * z2) * (x2 * z1 - x1 * z2) * (x2 * z1 - x1 * z2))) ((x2 * z1 - x1 * z2) * (x2 * z1 - x1 * z2) * (x2 * z1 - x1 * z2) * (z1 * z2)))) : Gives 73 #[(rv x1 y1 z1), (rv x2 y2 z2)] R := by
  intro w
  obtain ⟨c1, hc1⟩ : ∃ c, c = y2 * z1 := ⟨_, rfl⟩
  obtain ⟨c2, hc2⟩ : ∃ c, c = x2 * z1 := ⟨_, rfl⟩
  obtain ⟨c3, hc3⟩ : ∃ c, c = y1 * z2 := ⟨_, rfl⟩
  obtain ⟨c4, hc4⟩ : ∃ c, c = x1 * z2 := ⟨_, rfl⟩
  go_enter Tryz.func73, Tryz.ntmps73
  refine RG.M.enter [(0, (.v (rv x1 y1 z1))), (1, (.v (rv x2 y2 z2)))] 127 (by kernel_rfl) ?_
  intro a0 M0
  repeat refine wp_seq ?_
  refine M0.t [.m 2 [] 0, .m 3 [] 1, .m 4 [] 2] [(0, (ws x1 ++ (ws y1 ++ (ws z1)))), (1, (ws x2 ++ (ws y2 ++ (ws z2)))), (2, (RG.z 12))] [] [(ws x1 ++ (ws y1 ++ (ws z1))), (ws x2 ++ (ws y2 ++ (ws z2))), (RG.z 12)] [(2, (.p 0 0)), (3, (.p 1 0)), (4, (.p 2 0))] ⟨RG.mk 0 62, RG.mk 1 62, RG.mk 2 62, trivial⟩ ?_
  intro j1 i1 m1 a1 w1 M1
  repeat refine wp_seq ?_
  by_cases hz1 : z1 = 0
  · obtain rfl := ha hz1
    refine M1.u [.x 16 [] (rv x1 y1 z1), .c 17 [(16, 0)] (.bool true), .x 5 [(17, 1)] (.bool true)] [(3, (.p 1 0)), (4, (.p 2 0)), (5, (.v (.bool true)))] ⟨RG.ld u56 i56, RG.cl (Is_t_c C x1 y1 z1 hz1), RG.st, trivial⟩ ?_
    intro a2 w2 M2
    repeat refine wp_seq ?_
    refine M2.u [.x 18 [] (.bool true)] [(3, (.p 1 0)), (4, (.p 2 0)), (18, (.v (.bool true)))] ⟨RG.st, trivial⟩ ?_
    intro a3 w3 M3
    repeat refine wp_seq ?_
    refine wp_cond_true M3.ev ?_
    repeat refine wp_seq ?_
    refine M3.t [.x 19 [] (rv x2 y2 z2), .u [(19, 0)] 2] [] [(2, 1, (ws x2 ++ (ws y2 ++ (ws z2))))] [(ws x1 ++ (ws y1 ++ (ws z1))), (ws x2 ++ (ws y2 ++ (ws z2))), (ws x2 ++ (ws y2 ++ (ws z2)))] [(4, (.p 2 0))] ⟨RG.ld u56 i56, RG.pt i56, trivial⟩ ?_
    intro a4 w4 M4
    refine wp_ret ?_
    refine bodyPost_ret (v := (rv x2 y2 z2)) (RG.results_row M4.st 4 62 rfl 2 _ rfl (M4.at (s := (.p 2 0))) u56 i56) M4.sl.defers ?_
    exact ⟨_, rfl, M4.st.bel.below, rfl⟩
  refine M1.u [.x 16 [] (rv x1 y1 z1), .c 17 [(16, 0)] (.bool false), .x 5 [(17, 1)] (.bool false)] [(2, (.p 0 0)), (3, (.p 1 0)), (4, (.p 2 0)), (5, (.v (.bool false)))] ⟨RG.ld u56 i56, RG.cl (Is_f_c C x1 y1 z1 hz1), RG.st, trivial⟩ ?_
  intro a2 w2 M2
  repeat refine wp_seq ?_
  refine M2.u [.x 18 [] (.bool false)] [(2, (.p 0 0)), (3, (.p 1 0)), (4, (.p 2 0)), (5, (.v (.bool false))), (18, (.v (.bool false)))] ⟨RG.st, trivial⟩ ?_
  intro a3 w3 M3
  repeat refine wp_seq ?_
  refine wp_cond_false M3.ev ?_
  refine wp_skip ?_
  repeat refine wp_seq ?_
  by_cases hz2 : z2 = 0
  · obtain rfl := hb hz1 hz2
    refine M3.u [.x 20 [] (rv x2 y2 z2), .c 21 [(20, 0)] (.bool true), .x 5 [(21, 1)] (.bool true)] [(2, (.p 0 0)), (4, (.p 2 0)), (5, (.v (.bool true)))] ⟨RG.ld u56 i56, RG.cl (Is_t_c C x2 y2 z2 hz2), RG.st, trivial⟩ ?_
    intro a4 w4 M4
    repeat refine wp_seq ?_
    refine M4.u [.x 22 [] (.bool true)] [(2, (.p 0 0)), (4, (.p 2 0)), (22, (.v (.bool true)))] ⟨RG.st, trivial⟩ ?_
    intro a5 w5 M5
    repeat refine wp_seq ?_
    refine wp_cond_true M5.ev ?_
    repeat refine wp_seq ?_
    refine M5.t [.x 23 [] (rv x1 y1 z1), .u [(23, 0)] 2] [] [(2, 1, (ws x1 ++ (ws y1 ++ (ws z1))))] [(ws x1 ++ (ws y1 ++ (ws z1))), (ws x2 ++ (ws y2 ++ (ws z2))), (ws x1 ++ (ws y1 ++ (ws z1)))] [(4, (.p 2 0))] ⟨RG.ld u56 i56, RG.pt i56, trivial⟩ ?_
    intro a6 w6 M6
    refine wp_ret ?_
    refine bodyPost_ret (v := (rv x1 y1 z1)) (RG.results_row M6.st 4 62 rfl 2 _ rfl (M6.at (s := (.p 2 0))) u56 i56) M6.sl.defers ?_
    exact ⟨_, rfl, M6.st.bel.below, rfl⟩
  refine M3.u [.x 20 [] (rv x2 y2 z2), .c 21 [(20, 0)] (.bool false), .x 5 [(21, 1)] (.bool false)] [(2, (.p 0 0)), (3, (.p 1 0)), (4, (.p 2 0)), (5, (.v (.bool false)))] ⟨RG.ld u56 i56, RG.cl (Is_f_c C x2 y2 z2 hz2), RG.st, trivial⟩ ?_
  intro a4 w4 M4
  repeat refine wp_seq ?_
  refine M4.u [.x 22 [] (.bool false)] [(2, (.p 0 0)), (3, (.p 1 0)), (4, (.p 2 0)), (22, (.v (.bool false)))] ⟨RG.st, trivial⟩ ?_
  intro a5 w5 M5
  repeat refine wp_seq ?_
  refine wp_cond_false M5.ev ?_
  refine wp_skip ?_
  repeat refine wp_seq ?_
  refine M5.d [.c 24 [] rv0, .s 25 [] (.p 1 4), .x 26 [(25, 1)] (fv y2), .s 27 [] (.p 0 8), .x 28 [(27, 3)] (fv z1), .c 29 [(24, 0), (26, 2), (28, 4)] (fv c1), .m 6 [] 3, .u [(6, 6), (29, 5)] 3] [(6, (RG.z 4))] [(3, 7, (ws c1))] [(ws x1 ++ (ws y1 ++ (ws z1))), (ws x2 ++ (ws y2 ++ (ws z2))), (RG.z 12), (ws c1)] [(2, (.p 0 0)), (3, (.p 1 0)), (4, (.p 2 0)), (6, (.p 3 0))] ⟨RG.cl (F3_c), RG.st, RG.ld u33 i33, RG.st, RG.ld u33 i33, RG.cl ((rMul_c C y2 z1).e hc1), RG.mk 3 58, RG.pt i33, trivial⟩ ?_
  intro j6 a6 w6 M6
  repeat refine wp_seq ?_
  refine M6.d [.c 30 [] rv0, .s 31 [] (.p 1 0), .x 32 [(31, 1)] (fv x2), .s 33 [] (.p 0 8), .x 34 [(33, 3)] (fv z1), .c 35 [(30, 0), (32, 2), (34, 4)] (fv c2), .m 7 [] 4, .u [(7, 6), (35, 5)] 4] [(6, (RG.z 4))] [(4, 7, (ws c2))] [(ws x1 ++ (ws y1 ++ (ws z1))), (ws x2 ++ (ws y2 ++ (ws z2))), (RG.z 12), (ws c1), (ws c2)] [(2, (.p 0 0)), (3, (.p 1 0)), (4, (.p 2 0)), (6, (.p 3 0)), (7, (.p 4 0))] ⟨RG.cl (F3_c), RG.st, RG.ld u33 i33, RG.st, RG.ld u33 i33, RG.cl ((rMul_c C x2 z1).e hc2), RG.mk 4 58, RG.pt i33, trivial⟩ ?_
  intro j7 a7 w7 M7
  repeat refine wp_seq ?_
  refine M7.d [.c 36 [] rv0, .s 37 [] (.p 0 4), .x 38 [(37, 1)] (fv y1), .s 39 [] (.p 1 8), .x 40 [(39, 3)] (fv z2), .c 41 [(36, 0), (38, 2), (40, 4)] (fv c3), .m 8 [] 5, .u [(8, 6), (41, 5)] 5] [(6, (RG.z 4))] [(5, 7, (ws c3))] [(ws x1 ++ (ws y1 ++ (ws z1))), (ws x2 ++ (ws y2 ++ (ws z2))), (RG.z 12), (ws c1), (ws c2), (ws c3)] [(2, (.p 0 0)), (3, (.p 1 0)), (4, (.p 2 0)), (6, (.p 3 0)), (7, (.p 4 0)), (8, (.p 5 0))] ⟨RG.cl (F3_c), RG.st, RG.ld u33 i33, RG.st, RG.ld u33 i33, RG.cl ((rMul_c C y1 z2).e hc3), RG.mk 5 58, RG.pt i33, trivial⟩ ?_
  intro j8 a8 w8 M8
  repeat refine wp_seq ?_
  refine M8.d [.c 42 [] rv0, .s 43 [] (.p 0 0), .x 44 [(43, 1)] (fv x1), .s 45 [] (.p 1 8), .x 46 [(45, 3)] (fv z2), .c 47 [(42, 0), (44, 2), (46, 4)] (fv c4), .m 9 [] 6, .u [(9, 6), (47, 5)] 6] [(6, (RG.z 4))] [(6, 7, (ws c4))] [(ws x1 ++ (ws y1 ++ (ws z1))), (ws x2 ++ (ws y2 ++ (ws z2))), (RG.z 12), (ws c1), (ws c2), (ws c3), (ws c4)] [(2, (.p 0 0)), (3, (.p 1 0)), (4, (.p 2 0)), (6, (.p 3 0)), (7, (.p 4 0)), (8, (.p 5 0)), (9, (.p 6 0))] ⟨RG.cl (F3_c), RG.st, RG.ld u33 i33, RG.st, RG.ld u33 i33, RG.cl ((rMul_c C x1 z2).e hc4), RG.mk 6 58, RG.pt i33, trivial⟩ ?_
  intro j9 a9 w9 M9
  repeat refine wp_seq ?_
  by_cases hv : x2 * z1 = x1 * z2
  · have hR := hd hz1 hz2 hv
    refine M9.u [.x 48 [] (fv c2), .x 49 [] (fv c4), .x 50 [(48, 0), (49, 1)] (.bool true)] [(2, (.p 0 0)), (4, (.p 2 0)), (6, (.p 3 0)), (8, (.p 5 0)), (50, (.v (.bool true)))] ⟨RG.ld u33 i33, RG.ld u33 i33, RG.cert_bin rfl .eql 58 58 48 49 (fv c2) (fv c4) (.bool true) rfl rfl RG.sx RG.sx (fun w => by kernel_rfl) (eqR_t C.toFld (by subst_vars; exact hv)), trivial⟩ ?_
    intro a10 w10 M10
    repeat refine wp_seq ?_
    refine wp_cond_true M10.ev ?_
    repeat refine wp_seq ?_
    rcases hR with ⟨hu, rfl⟩ | ⟨hu, hn, hR⟩
    · refine M10.u [.x 51 [] (fv c1), .x 52 [] (fv c3), .x 53 [(51, 0), (52, 1)] (.bool true), .x 54 [(53, 2)] (.bool true), ⟨some 55, [], (.v undef), .pass⟩, ⟨some 56, [], (.v undef), .pass⟩, .x 57 [(54, 3), (56, 5)] (.bool true)] [(4, (.p 2 0)), (57, (.v (.bool true)))] ⟨RG.ld u33 i33, RG.ld u33 i33, RG.cert_bin rfl .neq 58 58 51 52 (fv c1) (fv c3) (.bool true) rfl rfl RG.sx RG.sx (fun w => by kernel_rfl) (neR_t C.toFld (by subst_vars; exact hu)), RG.st, RG.cert_pass rfl rfl, RG.cert_pass rfl rfl, RG.st, trivial⟩ ?_
      intro a11 w11 M11
      repeat refine wp_seq ?_
      refine wp_cond_true M11.ev ?_
      repeat refine wp_seq ?_
      refine M11.t [.c 58 [] (rv (0 : Fin P) (1 : Fin P) (0 : Fin P)), .u [(58, 0)] 2] [] [(2, 1, (ws (0 : Fin P) ++ (ws (1 : Fin P) ++ (ws (0 : Fin P)))))] [(ws x1 ++ (ws y1 ++ (ws z1))), (ws x2 ++ (ws y2 ++ (ws z2))), (ws (0 : Fin P) ++ (ws (1 : Fin P) ++ (ws (0 : Fin P)))), (ws c1), (ws c2), (ws c3), (ws c4)] [(4, (.p 2 0))] ⟨RG.cl (None_c C), RG.pt i56, trivial⟩ ?_
      intro a12 w12 M12
      refine wp_ret ?_
      refine bodyPost_ret (v := (rv (0 : Fin P) (1 : Fin P) (0 : Fin P))) (RG.results_row M12.st 4 62 rfl 2 _ rfl (M12.at (s := (.p 2 0))) u56 i56) M12.sl.defers ?_
      exact ⟨_, rfl, M12.st.bel.below, rfl⟩
    obtain ⟨c5, hc5⟩ : ∃ c, c = (EC.fdE y1 z1) * (EC.fdT x1 y1 z1) := ⟨_, rfl⟩
    obtain ⟨c6, hc6⟩ : ∃ c, c = (EC.fdD x1) * (x1 * ((EC.fdE y1 z1) * (EC.fdE y1 z1)) - (EC.fdT x1 y1 z1)) - y1 * ((EC.fdE y1 z1) * (EC.fdE y1 z1) * (EC.fdE y1 z1)) := ⟨_, rfl⟩
    obtain ⟨c7, hc7⟩ : ∃ c, c = (EC.fdE y1 z1) * (EC.fdE y1 z1) * (EC.fdE y1 z1) * z1 := ⟨_, rfl⟩
    obtain rfl : R = rv c5 c6 c7 := hR.trans (by subst_vars; rfl)
    refine M10.u [.x 51 [] (fv c1), .x 52 [] (fv c3), .x 53 [(51, 0), (52, 1)] (.bool false), .x 54 [(53, 2)] (.bool false), .x 55 [] (fv c1), .c 56 [(55, 4)] (.bool false), .x 57 [(54, 3), (56, 5)] (.bool false)] [(2, (.p 0 0)), (4, (.p 2 0)), (57, (.v (.bool false)))] ⟨RG.ld u33 i33, RG.ld u33 i33, RG.cert_bin rfl .neq 58 58 51 52 (fv c1) (fv c3) (.bool false) rfl rfl RG.sx RG.sx (fun w => by kernel_rfl) (neR_f C.toFld (by subst_vars; exact hu)), RG.st, RG.ld u33 i33, RG.cl (f := 33) (args := #[(fv c1)]) (v := (.bool false)) (rZero_f C (by subst_vars; exact hn)), RG.st, trivial⟩ ?_
    intro a11 w11 M11
    repeat refine wp_seq ?_
    refine wp_cond_false M11.ev ?_
    refine wp_skip ?_
    repeat refine wp_seq ?_
    refine M11.t [.x 59 [] (rv x1 y1 z1), .c 60 [(59, 0)] (rv c5 c6 c7), .u [(60, 1)] 2] [] [(2, 2, (ws c5 ++ (ws c6 ++ (ws c7))))] [(ws x1 ++ (ws y1 ++ (ws z1))), (ws x2 ++ (ws y2 ++ (ws z2))), (ws c5 ++ (ws c6 ++ (ws c7))), (ws c1), (ws c2), (ws c3), (ws c4)] [(4, (.p 2 0))] ⟨RG.ld u56 i56, RG.cl ((rdouble_c C x1 y1 z1).e3 hc5 hc6 hc7), RG.pt i56, trivial⟩ ?_
    intro a12 w12 M12
    refine wp_ret ?_
    refine bodyPost_ret (v := (rv c5 c6 c7)) (RG.results_row M12.st 4 62 rfl 2 _ rfl (M12.at (s := (.p 2 0))) u56 i56) M12.sl.defers ?_
    exact ⟨_, rfl, M12.st.bel.below, rfl⟩
  have hR := he hz1 hz2 hv
  obtain ⟨c5, hc5⟩ : ∃ c, c = c1 - c3 := ⟨_, rfl⟩
  obtain ⟨c6, hc6⟩ : ∃ c, c = c2 - c4 := ⟨_, rfl⟩
  obtain ⟨c7, hc7⟩ : ∃ c, c = z1 * z2 := ⟨_, rfl⟩
  obtain ⟨c8, hc8⟩ : ∃ c, c = c6 * c6 := ⟨_, rfl⟩
  obtain ⟨c9, hc9⟩ : ∃ c, c = c8 * c6 := ⟨_, rfl⟩
  obtain ⟨c10, hc10⟩ : ∃ c, c = c5 * c5 := ⟨_, rfl⟩
  obtain ⟨c11, hc11⟩ : ∃ c, c = c10 * c7 := ⟨_, rfl⟩
  obtain ⟨c12, hc12⟩ : ∃ c, c = c11 - c9 := ⟨_, rfl⟩
  obtain ⟨c13, hc13⟩ : ∃ c, c = c4 + c4 := ⟨_, rfl⟩
  obtain ⟨c14, hc14⟩ : ∃ c, c = c13 * c8 := ⟨_, rfl⟩
  obtain ⟨c15, hc15⟩ : ∃ c, c = c12 - c14 := ⟨_, rfl⟩
  obtain ⟨c16, hc16⟩ : ∃ c, c = c6 * c15 := ⟨_, rfl⟩
  obtain ⟨c17, hc17⟩ : ∃ c, c = c4 * c8 := ⟨_, rfl⟩
  obtain ⟨c18, hc18⟩ : ∃ c, c = c17 - c15 := ⟨_, rfl⟩
  obtain ⟨c19, hc19⟩ : ∃ c, c = c5 * c18 := ⟨_, rfl⟩
  obtain ⟨c20, hc20⟩ : ∃ c, c = c3 * c9 := ⟨_, rfl⟩
  obtain ⟨c21, hc21⟩ : ∃ c, c = c19 - c20 := ⟨_, rfl⟩
  obtain ⟨c22, hc22⟩ : ∃ c, c = c9 * c7 := ⟨_, rfl⟩
  obtain rfl : R = rv c16 c21 c22 := hR.trans (by subst_vars; rfl)
  refine M9.u [.x 48 [] (fv c2), .x 49 [] (fv c4), .x 50 [(48, 0), (49, 1)] (.bool false)] [(2, (.p 0 0)), (3, (.p 1 0)), (4, (.p 2 0)), (6, (.p 3 0)), (7, (.p 4 0)), (8, (.p 5 0)), (9, (.p 6 0)), (50, (.v (.bool false)))] ⟨RG.ld u33 i33, RG.ld u33 i33, RG.cert_bin rfl .eql 58 58 48 49 (fv c2) (fv c4) (.bool false) rfl rfl RG.sx RG.sx (fun w => by kernel_rfl) (eqR_f C.toFld (by subst_vars; exact hv)), trivial⟩ ?_
  intro a10 w10 M10
  repeat refine wp_seq ?_
  refine wp_cond_false M10.ev ?_
  refine wp_skip ?_
  repeat refine wp_seq ?_
  refine M10.d [.c 61 [] rv0, .x 62 [] (fv c1), .x 63 [] (fv c3), .c 64 [(61, 0), (62, 1), (63, 2)] (fv c5), .m 10 [] 7, .u [(10, 4), (64, 3)] 7] [(4, (RG.z 4))] [(7, 5, (ws c5))] [(ws x1 ++ (ws y1 ++ (ws z1))), (ws x2 ++ (ws y2 ++ (ws z2))), (RG.z 12), (ws c1), (ws c2), (ws c3), (ws c4), (ws c5)] [(2, (.p 0 0)), (3, (.p 1 0)), (4, (.p 2 0)), (7, (.p 4 0)), (8, (.p 5 0)), (9, (.p 6 0)), (10, (.p 7 0))] ⟨RG.cl (F3_c), RG.ld u33 i33, RG.ld u33 i33, RG.cl ((rSub_c C c1 c3).e hc5), RG.mk 7 58, RG.pt i33, trivial⟩ ?_
  intro j11 a11 w11 M11
  repeat refine wp_seq ?_
  refine M11.d [.c 65 [] rv0, .x 66 [] (fv c2), .x 67 [] (fv c4), .c 68 [(65, 0), (66, 1), (67, 2)] (fv c6), .m 11 [] 8, .u [(11, 4), (68, 3)] 8] [(4, (RG.z 4))] [(8, 5, (ws c6))] [(ws x1 ++ (ws y1 ++ (ws z1))), (ws x2 ++ (ws y2 ++ (ws z2))), (RG.z 12), (ws c1), (ws c2), (ws c3), (ws c4), (ws c5), (ws c6)] [(2, (.p 0 0)), (3, (.p 1 0)), (4, (.p 2 0)), (8, (.p 5 0)), (9, (.p 6 0)), (10, (.p 7 0)), (11, (.p 8 0))] ⟨RG.cl (F3_c), RG.ld u33 i33, RG.ld u33 i33, RG.cl ((rSub_c C c2 c4).e hc6), RG.mk 8 58, RG.pt i33, trivial⟩ ?_
  intro j12 a12 w12 M12
  repeat refine wp_seq ?_
  refine M12.d [.c 69 [] rv0, .s 70 [] (.p 0 8), .x 71 [(70, 1)] (fv z1), .s 72 [] (.p 1 8), .x 73 [(72, 3)] (fv z2), .c 74 [(69, 0), (71, 2), (73, 4)] (fv c7), .m 12 [] 9, .u [(12, 6), (74, 5)] 9] [(6, (RG.z 4))] [(9, 7, (ws c7))] [(ws x1 ++ (ws y1 ++ (ws z1))), (ws x2 ++ (ws y2 ++ (ws z2))), (RG.z 12), (ws c1), (ws c2), (ws c3), (ws c4), (ws c5), (ws c6), (ws c7)] [(4, (.p 2 0)), (8, (.p 5 0)), (9, (.p 6 0)), (10, (.p 7 0)), (11, (.p 8 0)), (12, (.p 9 0))] ⟨RG.cl (F3_c), RG.st, RG.ld u33 i33, RG.st, RG.ld u33 i33, RG.cl ((rMul_c C z1 z2).e hc7), RG.mk 9 58, RG.pt i33, trivial⟩ ?_
  intro j13 a13 w13 M13
  repeat refine wp_seq ?_
  refine M13.d [.c 75 [] rv0, .x 76 [] (fv c6), .x 77 [] (fv c6), .c 78 [(75, 0), (76, 1), (77, 2)] (fv c8), .m 13 [] 10, .u [(13, 4), (78, 3)] 10] [(4, (RG.z 4))] [(10, 5, (ws c8))] [(ws x1 ++ (ws y1 ++ (ws z1))), (ws x2 ++ (ws y2 ++ (ws z2))), (RG.z 12), (ws c1), (ws c2), (ws c3), (ws c4), (ws c5), (ws c6), (ws c7), (ws c8)] [(4, (.p 2 0)), (8, (.p 5 0)), (9, (.p 6 0)), (10, (.p 7 0)), (11, (.p 8 0)), (12, (.p 9 0)), (13, (.p 10 0))] ⟨RG.cl (F3_c), RG.ld u33 i33, RG.ld u33 i33, RG.cl ((rMul_c C c6 c6).e hc8), RG.mk 10 58, RG.pt i33, trivial⟩ ?_
  intro j14 a14 w14 M14
  repeat refine wp_seq ?_
  refine M14.d [.c 79 [] rv0, .x 80 [] (fv c8), .x 81 [] (fv c6), .c 82 [(79, 0), (80, 1), (81, 2)] (fv c9), .m 14 [] 11, .u [(14, 4), (82, 3)] 11] [(4, (RG.z 4))] [(11, 5, (ws c9))] [(ws x1 ++ (ws y1 ++ (ws z1))), (ws x2 ++ (ws y2 ++ (ws z2))), (RG.z 12), (ws c1), (ws c2), (ws c3), (ws c4), (ws c5), (ws c6), (ws c7), (ws c8), (ws c9)] [(4, (.p 2 0)), (8, (.p 5 0)), (9, (.p 6 0)), (10, (.p 7 0)), (11, (.p 8 0)), (12, (.p 9 0)), (13, (.p 10 0)), (14, (.p 11 0))] ⟨RG.cl (F3_c), RG.ld u33 i33, RG.ld u33 i33, RG.cl ((rMul_c C c8 c6).e hc9), RG.mk 11 58, RG.pt i33, trivial⟩ ?_
  intro j15 a15 w15 M15
  repeat refine wp_seq ?_
  refine M15.d [.c 83 [] rv0, .c 84 [] rv0, .c 85 [] rv0, .c 86 [] rv0, .x 87 [] (fv c5), .x 88 [] (fv c5), .c 89 [(86, 3), (87, 4), (88, 5)] (fv c10), .x 90 [] (fv c7), .c 91 [(85, 2), (89, 6), (90, 7)] (fv c11), .x 92 [] (fv c9), .c 93 [(84, 1), (91, 8), (92, 9)] (fv c12), .c 94 [] rv0, .c 95 [] rv0, .x 96 [] (fv c4), .x 97 [] (fv c4), .c 98 [(95, 12), (96, 13), (97, 14)] (fv c13), .x 99 [] (fv c8), .c 100 [(94, 11), (98, 15), (99, 16)] (fv c14), .c 101 [(83, 0), (93, 10), (100, 17)] (fv c15), .m 15 [] 12, .u [(15, 19), (101, 18)] 12] [(19, (RG.z 4))] [(12, 20, (ws c15))] [(ws x1 ++ (ws y1 ++ (ws z1))), (ws x2 ++ (ws y2 ++ (ws z2))), (RG.z 12), (ws c1), (ws c2), (ws c3), (ws c4), (ws c5), (ws c6), (ws c7), (ws c8), (ws c9), (ws c15)] [(4, (.p 2 0)), (8, (.p 5 0)), (9, (.p 6 0)), (10, (.p 7 0)), (11, (.p 8 0)), (12, (.p 9 0)), (13, (.p 10 0)), (14, (.p 11 0)), (15, (.p 12 0))] ⟨RG.cl (F3_c), RG.cl (F3_c), RG.cl (F3_c), RG.cl (F3_c), RG.ld u33 i33, RG.ld u33 i33, RG.cl ((rMul_c C c5 c5).e hc10), RG.ld u33 i33, RG.cl ((rMul_c C c10 c7).e hc11), RG.ld u33 i33, RG.cl ((rSub_c C c11 c9).e hc12), RG.cl (F3_c), RG.cl (F3_c), RG.ld u33 i33, RG.ld u33 i33, RG.cl ((rAdd_c C c4 c4).e hc13), RG.ld u33 i33, RG.cl ((rMul_c C c13 c8).e hc14), RG.cl ((rSub_c C c12 c14).e hc15), RG.mk 12 58, RG.pt i33, trivial⟩ ?_
  intro j16 a16 w16 M16
  repeat refine wp_seq ?_
  refine M16.d [.c 102 [] rv0, .x 103 [] (fv c6), .x 104 [] (fv c15), .c 105 [(102, 0), (103, 1), (104, 2)] (fv c16), .c 106 [] rv0, .c 107 [] rv0, .x 108 [] (fv c5), .c 109 [] rv0, .c 110 [] rv0, .x 111 [] (fv c4), .x 112 [] (fv c8), .c 113 [(110, 8), (111, 9), (112, 10)] (fv c17), .x 114 [] (fv c15), .c 115 [(109, 7), (113, 11), (114, 12)] (fv c18), .c 116 [(107, 5), (108, 6), (115, 13)] (fv c19), .c 117 [] rv0, .x 118 [] (fv c3), .x 119 [] (fv c9), .c 120 [(117, 15), (118, 16), (119, 17)] (fv c20), .c 121 [(106, 4), (116, 14), (120, 18)] (fv c21), .c 122 [] rv0, .x 123 [] (fv c9), .x 124 [] (fv c7), .c 125 [(122, 20), (123, 21), (124, 22)] (fv c22), .x 126 [(105, 3), (121, 19), (125, 23)] (rv c16 c21 c22), .u [(126, 24)] 2] [] [(2, 25, (ws c16 ++ (ws c21 ++ (ws c22))))] [(ws x1 ++ (ws y1 ++ (ws z1))), (ws x2 ++ (ws y2 ++ (ws z2))), (ws c16 ++ (ws c21 ++ (ws c22))), (ws c1), (ws c2), (ws c3), (ws c4), (ws c5), (ws c6), (ws c7), (ws c8), (ws c9), (ws c15)] [(4, (.p 2 0))] ⟨RG.cl (F3_c), RG.ld u33 i33, RG.ld u33 i33, RG.cl ((rMul_c C c6 c15).e hc16), RG.cl (F3_c), RG.cl (F3_c), RG.ld u33 i33, RG.cl (F3_c), RG.cl (F3_c), RG.ld u33 i33, RG.ld u33 i33, RG.cl ((rMul_c C c4 c8).e hc17), RG.ld u33 i33, RG.cl ((rSub_c C c17 c15).e hc18), RG.cl ((rMul_c C c5 c18).e hc19), RG.cl (F3_c), RG.ld u33 i33, RG.ld u33 i33, RG.cl ((rMul_c C c3 c9).e hc20), RG.cl ((rSub_c C c19 c20).e hc21), RG.cl (F3_c), RG.ld u33 i33, RG.ld u33 i33, RG.cl ((rMul_c C c9 c7).e hc22), RG.st, RG.pt i56, trivial⟩ ?_
  intro a17 w17 M17
  refine wp_ret ?_
  refine bodyPost_ret (v := (rv c16 c21 c22)) (RG.results_row M17.st 4 62 rfl 2 _ rfl (M17.at (s := (.p 2 0))) u56 i56) M17.sl.defers ?_
  exact ⟨_, rfl, M17.st.bel.below, rfl⟩
set_option maxHeartbeats 2000000 in
set_option maxRecDepth 100000 in
theorem rat_y_c (C : Fl3 P) (x y : Fin P)(hr : rt (x * x * x + 7) = some y)  : Gives 75 #[(fv x)] (.tuple #[rv x y 1, .bool true]) := by
  intro w
  obtain ⟨c1, hc1⟩ : ∃ c, c = x * x := ⟨_, rfl⟩
  obtain ⟨c2, hc2⟩ : ∃ c, c = c1 * x := ⟨_, rfl⟩
  obtain ⟨c3, hc3⟩ : ∃ c, c = c2 + (7 : Fin P) := ⟨_, rfl⟩
  have hfin : ((.tuple #[(rv x y (1 : Fin P)), (.bool true)]) : Value) = (.tuple #[rv x y 1, .bool true]) := by
    subst_vars; rfl
  rw [← hfin]
  go_enter Tryz.func75, Tryz.ntmps75
  refine RG.M.enter [(0, (.v (fv x)))] 26 (by kernel_rfl) ?_
  intro a0 M0
  repeat refine wp_seq ?_
  refine M0.t [.m 1 [] 0, .m 2 [] 1, .x 3 [] (.bool false)] [(0, (ws x)), (1, (RG.z 12))] [] [(ws x), (RG.z 12)] [(1, (.p 0 0)), (2, (.p 1 0)), (3, (.v (.bool false)))] ⟨RG.mk 0 58, RG.mk 1 62, RG.st, trivial⟩ ?_
  intro j1 i1 a1 w1 M1
  repeat refine wp_seq ?_
  refine M1.d [.c 7 [] rv0, .c 8 [] rv0, .c 9 [] rv0, .c 10 [] rv0, .x 11 [] (fv x), .x 12 [] (fv x), .c 13 [(10, 3), (11, 4), (12, 5)] (fv c1), .x 14 [] (fv x), .c 15 [(9, 2), (13, 6), (14, 7)] (fv c2), .c 16 [] (fv (7 : Fin P)), .c 17 [(8, 1), (15, 8), (16, 9)] (fv c3), .c 18 [(7, 0), (17, 10)] (.tuple #[(fv y), (.bool true)]), .x 6 [(18, 11)] (.tuple #[(fv y), (.bool true)]), .x 19 [(6, 12)] (fv y), .x 20 [(6, 12)] (.bool true), .m 4 [] 2, .u [(4, 15), (19, 13)] 2, .x 5 [(20, 14)] (.bool true)] [(15, (RG.z 4))] [(2, 16, (ws y))] [(ws x), (RG.z 12), (ws y)] [(1, (.p 0 0)), (2, (.p 1 0)), (3, (.v (.bool false))), (4, (.p 2 0)), (5, (.v (.bool true)))] ⟨RG.cl (F3_c), RG.cl (F3_c), RG.cl (F3_c), RG.cl (F3_c), RG.ld u33 i33, RG.ld u33 i33, RG.cl ((rMul_c C x x).e hc1), RG.ld u33 i33, RG.cl ((rMul_c C c1 x).e hc2), RG.cl (rSmall7_c C), RG.cl ((rAdd_c C c2 (7 : Fin P)).e hc3), RG.cl (f := 102) (args := #[rv0, (fv c3)]) (v := (.tuple #[(fv y), (.bool true)])) (rSqrt_y C (by subst_vars; exact hr)), RG.st, RG.st, RG.st, RG.mk 2 58, RG.pt i33, RG.st, trivial⟩ ?_
  intro j2 a2 w2 M2
  repeat refine wp_seq ?_
  refine M2.d [.x 21 [] (fv x), .x 22 [] (fv y), .c 23 [] (fv (1 : Fin P)), .x 24 [(21, 0), (22, 1), (23, 2)] (rv x y (1 : Fin P)), .x 25 [] (.bool true), .u [(24, 3)] 1, .x 3 [(25, 4)] (.bool true)] [] [(1, 5, (ws x ++ (ws y ++ (ws (1 : Fin P)))))] [(ws x), (ws x ++ (ws y ++ (ws (1 : Fin P)))), (ws y)] [(2, (.p 1 0)), (3, (.v (.bool true)))] ⟨RG.ld u33 i33, RG.ld u33 i33, RG.cl (rSmall1_c C), RG.st, RG.st, RG.pt i56, RG.st, trivial⟩ ?_
  intro a3 w3 M3
  refine wp_ret ?_
  refine bodyPost_ret (v := (.tuple #[(rv x y (1 : Fin P)), (.bool true)])) (RG.results_rt M3.st 2 3 62 rfl 1 _ rfl (M3.at (s := (.p 1 0))) _ (M3.at (s := (.v (.bool true)))) u56 i56) M3.sl.defers ?_
  exact ⟨_, rfl, M3.st.bel.below, rfl⟩
set_option maxHeartbeats 2000000 in
set_option maxRecDepth 100000 in
theorem rat_n_c (C : Fl3 P) (x : Fin P)(hr : rt (x * x * x + 7) = none)  : Gives 75 #[(fv x)] (.tuple #[rv x 0 1, .bool false]) := by
  intro w
  obtain ⟨c1, hc1⟩ : ∃ c, c = x * x := ⟨_, rfl⟩
  obtain ⟨c2, hc2⟩ : ∃ c, c = c1 * x := ⟨_, rfl⟩
  obtain ⟨c3, hc3⟩ : ∃ c, c = c2 + (7 : Fin P) := ⟨_, rfl⟩
  have hfin : ((.tuple #[(rv x (0 : Fin P) (1 : Fin P)), (.bool false)]) : Value) = (.tuple #[rv x 0 1, .bool false]) := by
    subst_vars; rfl
  rw [← hfin]
  go_enter Tryz.func75, Tryz.ntmps75
  refine RG.M.enter [(0, (.v (fv x)))] 26 (by kernel_rfl) ?_
  intro a0 M0
  repeat refine wp_seq ?_
  refine M0.t [.m 1 [] 0, .m 2 [] 1, .x 3 [] (.bool false)] [(0, (ws x)), (1, (RG.z 12))] [] [(ws x), (RG.z 12)] [(1, (.p 0 0)), (2, (.p 1 0)), (3, (.v (.bool false)))] ⟨RG.mk 0 58, RG.mk 1 62, RG.st, trivial⟩ ?_
  intro j1 i1 a1 w1 M1
  repeat refine wp_seq ?_
  refine M1.d [.c 7 [] rv0, .c 8 [] rv0, .c 9 [] rv0, .c 10 [] rv0, .x 11 [] (fv x), .x 12 [] (fv x), .c 13 [(10, 3), (11, 4), (12, 5)] (fv c1), .x 14 [] (fv x), .c 15 [(9, 2), (13, 6), (14, 7)] (fv c2), .c 16 [] (fv (7 : Fin P)), .c 17 [(8, 1), (15, 8), (16, 9)] (fv c3), .c 18 [(7, 0), (17, 10)] (.tuple #[(fv (0 : Fin P)), (.bool false)]), .x 6 [(18, 11)] (.tuple #[(fv (0 : Fin P)), (.bool false)]), .x 19 [(6, 12)] (fv (0 : Fin P)), .x 20 [(6, 12)] (.bool false), .m 4 [] 2, .u [(4, 15), (19, 13)] 2, .x 5 [(20, 14)] (.bool false)] [(15, (RG.z 4))] [(2, 16, (ws (0 : Fin P)))] [(ws x), (RG.z 12), (ws (0 : Fin P))] [(1, (.p 0 0)), (2, (.p 1 0)), (3, (.v (.bool false))), (4, (.p 2 0)), (5, (.v (.bool false)))] ⟨RG.cl (F3_c), RG.cl (F3_c), RG.cl (F3_c), RG.cl (F3_c), RG.ld u33 i33, RG.ld u33 i33, RG.cl ((rMul_c C x x).e hc1), RG.ld u33 i33, RG.cl ((rMul_c C c1 x).e hc2), RG.cl (rSmall7_c C), RG.cl ((rAdd_c C c2 (7 : Fin P)).e hc3), RG.cl (f := 102) (args := #[rv0, (fv c3)]) (v := (.tuple #[(fv (0 : Fin P)), (.bool false)])) (rSqrt_n C (by subst_vars; exact hr)), RG.st, RG.st, RG.st, RG.mk 2 58, RG.pt i33, RG.st, trivial⟩ ?_
  intro j2 a2 w2 M2
  repeat refine wp_seq ?_
  refine M2.d [.x 21 [] (fv x), .x 22 [] (fv (0 : Fin P)), .c 23 [] (fv (1 : Fin P)), .x 24 [(21, 0), (22, 1), (23, 2)] (rv x (0 : Fin P) (1 : Fin P)), .x 25 [] (.bool false), .u [(24, 3)] 1, .x 3 [(25, 4)] (.bool false)] [] [(1, 5, (ws x ++ (ws (0 : Fin P) ++ (ws (1 : Fin P)))))] [(ws x), (ws x ++ (ws (0 : Fin P) ++ (ws (1 : Fin P)))), (ws (0 : Fin P))] [(2, (.p 1 0)), (3, (.v (.bool false)))] ⟨RG.ld u33 i33, RG.ld u33 i33, RG.cl (rSmall1_c C), RG.st, RG.st, RG.pt i56, RG.st, trivial⟩ ?_
  intro a3 w3 M3
  refine wp_ret ?_
  refine bodyPost_ret (v := (.tuple #[(rv x (0 : Fin P) (1 : Fin P)), (.bool false)])) (RG.results_rt M3.st 2 3 62 rfl 1 _ rfl (M3.at (s := (.p 1 0))) _ (M3.at (s := (.v (.bool false)))) u56 i56) M3.sl.defers ?_
  exact ⟨_, rfl, M3.st.bel.below, rfl⟩
end Go.Proofs.YtmepmoalhgehhaaGreatDoor
namespace Go.Proofs.YtmepmoalhgehhaaGreatDoor
open Go.RowKit Go.Sort Go.Deep
variable {N : Nat}
theorem qMod_c (O : Ord N) (s : Bs) (hs : s.size ≤ 1048576) : Gives 31 #[rv1, .string ⟨s⟩] (nv (redu N s)) := fun w =>
  (rMod_any _ _ _ _ _ _ _ _ N ⟨s⟩ O.ref hs w).mono (by rintro e w' ⟨v, rfl, hb, hF⟩; exact ⟨_, rfl, hb, hF.nv⟩)
theorem qAdd_c (O : Ord N) {a b : Nat} (ha : a < N) (hb : b < N) : Gives 101 #[rv1, nv a, nv b] (nv (sPl N a b)) := fun w =>
  (rAdd_R O.ref (O.four ha) (O.four hb) w).mono (by rintro e w' ⟨v, rfl, hb, hF⟩; exact ⟨_, rfl, hb, hF.nv⟩)
end Go.Proofs.YtmepmoalhgehhaaGreatDoor
namespace Go.Proofs.YtmepmoalhgehhaaGreatDoor
open Go.RowKit Go.Sort Go.Deep
variable {N : Nat}
/-- The challenge of a signature. -/
def logS (a b c : List UInt8) : Bs := SP.sayL (SP.sayL (SP.sayL (SP.newL [115, 105, 103, 110]) [112, 117, 98, 108, 105, 99] a) [102, 105, 114, 115, 116] b) [116, 101, 120, 116] c
def asg (N : Nat) (a b c : List UInt8) : Nat := cha N (logS a b c)
theorem asg_lt (O : Ord N) (a b c : List UInt8) : asg N a b c < N := redu_lt O _
end Go.Proofs.YtmepmoalhgehhaaGreatDoor
set_option linter.unusedVariables false
set_option linter.unusedSimpArgs false
namespace Go.Proofs.YtmepmoalhgehhaaGreatDoor
open Go.RowKit Go.Sort Go.Deep
variable {P : Nat} [NeZero P]
def z12 : Array Value := #[.int .u64 0, .int .u64 0, .int .u64 0, .int .u64 0, .int .u64 0, .int .u64 0, .int .u64 0, .int .u64 0, .int .u64 0, .int .u64 0, .int .u64 0, .int .u64 0]
def W5 (w : World) : World := (w.alloc (.cells z12 62)).alloc (.cells (madeCells #[.int .u8 0] 33) 5)
theorem W5_st (w : World) : RG.St w w.heap.size [] [z12.toList] [w.heap.size] (W5 w) := (RG.St.new w z12.toList 62).more (below1 _ _)
theorem conv33 (w : World) : (convert 24 9 (.slice (some ⟨w.heap.size + 1, 0, none⟩) 33 33)).run Tryz.prog (W5 w) = .ok (.string ⟨zs33⟩) (W5 w) :=
  conv_str Tryz.prog 24 9 5 slice22 int5 str9 _ _ 0 33 33 _ (made33 w _) (by decide)
theorem str_eq (a : Bs) : ((⟨a⟩ : ByteArray).toList == (⟨a⟩ : ByteArray).toList) = true := by simp
theorem str_ne3 {a b : Bs} (h : ¬ a = b) : ((⟨a⟩ : ByteArray).toList == (⟨b⟩ : ByteArray).toList) = false := by
  rw [ByteArray.toList_eq, ByteArray.toList_eq]
  simp only [beq_eq_false_iff_ne, ne_eq]
  exact fun e => h (Array.toList_inj.1 e)
theorem slS (bs : Bs) (hs : bs.size = 33) (w : World) : (Instr.sliceAt 9 (.string ⟨bs⟩) (some (.int .i64 1)) none none).run Tryz.prog w = .ok (.string ⟨tl33 bs⟩) w := by
  have h : (⟨bs⟩ : ByteArray).size = 33 := hs
  go_simp
  have h2 : ((⟨bs⟩ : ByteArray).extract 1 33).data = tl33 bs := by rw [ByteArray.data_extract]; rfl
  rw [← h2]
theorem mark_of {bs : Bs} (hs : bs.size = 33) (hp : 0 < (⟨bs⟩ : ByteArray).size) : (((⟨bs⟩ : ByteArray)[0]'hp).toNat : Int) = ub bs[0]! := by
  rw [getElem!_pos bs 0 (by omega)]
  rfl
theorem ixS (bs : Bs) (hs : bs.size = 33) (m : Int) (hm : ub bs[0]! = m) (w : World) : (Instr.index 9 (.string ⟨bs⟩) (.int .i64 0)).run Tryz.prog w = .ok (.int .u8 m) w := by
  have h : (⟨bs⟩ : ByteArray).size = 33 := hs
  have h2 : ∀ hp, (((⟨bs⟩ : ByteArray)[0]'hp).toNat : Int) = m := fun hp => by rw [mark_of hs, hm]
  go_simp
theorem rNumber_y (C : Fl3 P) (bs : Bs) (hs : bs.size = 32) {x : Fin P} (hx : beV bs.toList = x.val) : Gives 41 #[rv0, .string ⟨bs⟩] (.tuple #[fv x, .bool true]) := fun w =>
  (rNumber_any _ _ _ _ _ _ _ _ P ⟨bs⟩ C.ref w).mono (by
    rintro e w' ⟨v, rfl, hb, a, b, c, d, ok, rfl, h1, h2, h3, -⟩
    cases ok with
    | false => exact absurd ⟨hs, by rw [hx]; exact x.isLt⟩ (h2 rfl)
    | true =>
      have h4 := (h1 rfl).2
      rw [hx] at h4
      refine ⟨_, rfl, hb, ?_⟩
      rw [C.toFld.four x |>.inj h4])
theorem rNumber_n (C : Fl3 P) (bs : Bs) (hs : bs.size = 32) (hx : ¬ beV bs.toList < P) : Gives 41 #[rv0, .string ⟨bs⟩] (.tuple #[nv (beV bs.toList), .bool false]) := fun w =>
  (rNumber_any _ _ _ _ _ _ _ _ P ⟨bs⟩ C.ref w).mono (by
    rintro e w' ⟨v, rfl, hb, a, b, c, d, ok, rfl, h1, h2, h3, -⟩
    cases ok with
    | true => exact absurd (h1 rfl).1.2 hx
    | false =>
      have h4 := h3 hs
      refine ⟨_, rfl, hb, ?_⟩
      rw [h4.nv])
def n12 (P : Nat) [NeZero P] : List Value := ws (0 : Fin P) ++ (ws (1 : Fin P) ++ ws (0 : Fin P))
end Go.Proofs.YtmepmoalhgehhaaGreatDoor
namespace Go.Proofs.YtmepmoalhgehhaaGreatDoor
open Go.RowKit Go.Sort Go.Deep
variable {P : Nat} [NeZero P]
end Go.Proofs.YtmepmoalhgehhaaGreatDoor
namespace Go.Proofs.YtmepmoalhgehhaaGreatDoor
open Go.RowKit Go.Sort
variable {P : Nat} [NeZero P]
def FracT (t : T3 P) (p : EC.Pt P) : Prop := EC.Frac t.1 t.2.1 t.2.2 p ∧ EC.On p
def dbF (t : T3 P) : T3 P := (EC.fdE t.2.1 t.2.2 * EC.fdT t.1 t.2.1 t.2.2, EC.fdD t.1 * (t.1 * (EC.fdE t.2.1 t.2.2 * EC.fdE t.2.1 t.2.2) - EC.fdT t.1 t.2.1 t.2.2) - t.2.1 * (EC.fdE t.2.1 t.2.2 * EC.fdE t.2.1 t.2.2 * EC.fdE t.2.1 t.2.2), EC.fdE t.2.1 t.2.2 * EC.fdE t.2.1 t.2.2 * EC.fdE t.2.1 t.2.2 * t.2.2)
def plF (a b : T3 P) : T3 P :=
  if a.2.2 = 0 then b else if b.2.2 = 0 then a else
  if b.1 * a.2.2 = a.1 * b.2.2 then (if b.2.1 * a.2.2 = a.2.1 * b.2.2 then dbF a else (0, 1, 0)) else
  ((b.1 * a.2.2 - a.1 * b.2.2) * EC.frT (b.2.1 * a.2.2 - a.2.1 * b.2.2) (b.1 * a.2.2 - a.1 * b.2.2) (a.2.2 * b.2.2) (a.1 * b.2.2),
   (b.2.1 * a.2.2 - a.2.1 * b.2.2) * (a.1 * b.2.2 * ((b.1 * a.2.2 - a.1 * b.2.2) * (b.1 * a.2.2 - a.1 * b.2.2)) - EC.frT (b.2.1 * a.2.2 - a.2.1 * b.2.2) (b.1 * a.2.2 - a.1 * b.2.2) (a.2.2 * b.2.2) (a.1 * b.2.2)) - a.2.1 * b.2.2 * ((b.1 * a.2.2 - a.1 * b.2.2) * (b.1 * a.2.2 - a.1 * b.2.2) * (b.1 * a.2.2 - a.1 * b.2.2)),
   (b.1 * a.2.2 - a.1 * b.2.2) * (b.1 * a.2.2 - a.1 * b.2.2) * (b.1 * a.2.2 - a.1 * b.2.2) * (a.2.2 * b.2.2))
theorem FracT.plus (C : Fl3 P) {a b : T3 P} {p q : EC.Pt P} (h : FracT a p) (h' : FracT b q) : Gives 73 #[tv a, tv b] (tv (plF a b)) ∧ FracT (plF a b) (EC.add p q) := by
  have ho := C.cur.on h.2 h'.2
  obtain ⟨x1, y1, z1⟩ := a
  obtain ⟨x2, y2, z2⟩ := b
  refine ⟨rPlusJ_any C x1 y1 z1 x2 y2 z2 _ (fun n1 => by unfold plF; rw [if_pos n1]) (fun n1 n2 => by unfold plF; rw [if_neg n1, if_pos n2]) (fun n1 n2 e => ?_) (fun n1 n2 e1 => by unfold plF; rw [if_neg n1, if_neg n2, if_neg e1]), ?_⟩
  · rcases h.1.plus C.cur h.2 h'.1 h'.2 n1 n2 with ⟨e1, e2, e3⟩ | ⟨e1, e2, e3, e4⟩ | ⟨e1, e2⟩
    · exact .inl ⟨e2, by unfold plF; rw [if_neg n1, if_neg n2, if_pos e1, if_neg e2]⟩
    · exact .inr ⟨e2, e3, by unfold plF; rw [if_neg n1, if_neg n2, if_pos e1, if_pos e2]; rfl⟩
    · exact absurd e e1
  unfold plF
  by_cases n1 : z1 = 0
  · rw [if_pos n1]
    obtain rfl := h.1.zero n1
    exact h'
  · rw [if_neg n1]
    by_cases n2 : z2 = 0
    · rw [if_pos n2]
      obtain rfl := h'.1.zero n2
      rw [EC.add_none]
      exact h
    · rw [if_neg n2]
      rcases h.1.plus C.cur h.2 h'.1 h'.2 n1 n2 with ⟨e1, e2, e3⟩ | ⟨e1, e2, e3, e4⟩ | ⟨e1, e2⟩
      · rw [if_pos e1, if_neg e2]
        refine ⟨?_, ho⟩
        rw [e3]
        exact rfl
      · rw [if_pos e1, if_pos e2]
        refine ⟨?_, ho⟩
        rw [e4]
        exact h.1.double C.cur h.2 n1
      · rw [if_neg e1]
        exact ⟨e2, ho⟩
theorem FracT.none : FracT ((0, 1, 0) : T3 P) .none := ⟨rfl, EC.none_on⟩
theorem FracT.neg {t : T3 P} {p : EC.Pt P} (h : FracT t p) : FracT ((t.1, 0 - t.2.1, t.2.2) : T3 P) (EC.neg p) := ⟨h.1.neg, EC.neg_on h.2⟩
/-- What the reference's Times has behind m rounds. -/
def tmF (n : Nat) (t : T3 P) : Nat → T3 P
  | 0 => (0, 1, 0)
  | m + 1 => if n / 2 ^ (255 - m) % 2 = 1 then plF (plF (tmF n t m) (tmF n t m)) t else plF (tmF n t m) (tmF n t m)
theorem tmF_F (C : Fl3 P) {n : Nat} {t : T3 P} {p : EC.Pt P} (hn : n < 2 ^ 256) (h : FracT t p) : ∀ m, m ≤ 256 → FracT (tmF n t m) (EC.mul (n / 2 ^ (256 - m)) p)
  | 0, _ => by
    rw [Nat.sub_zero, Nat.div_eq_of_lt hn]
    exact FracT.none
  | m + 1, hm => by
    have ih := tmF_F C hn h m (by omega)
    have e1 : 256 - m = 255 - m + 1 := by omega
    rw [show 256 - (m + 1) = 255 - m by omega, div_bit n (255 - m), ← e1]
    unfold tmF
    have h2 := (FracT.plus C ih ih).2
    rw [← EC.mul_add C.cur h.2, ← Nat.two_mul] at h2
    by_cases hb : n / 2 ^ (255 - m) % 2 = 1
    · rw [if_pos hb, hb]
      exact (FracT.plus C h2 h).2
    · rw [if_neg hb, show n / 2 ^ (255 - m) % 2 = 0 by omega]
      exact h2
end Go.Proofs.YtmepmoalhgehhaaGreatDoor
namespace Go.Proofs.YtmepmoalhgehhaaGreatDoor
open Go.RowKit Go.Sort
variable {P : Nat} [NeZero P]
theorem frac_one (C : Fld P) (x y : Fin P) : EC.Frac x y 1 (.some (x, y) : EC.Pt P) := ⟨fun h => C.cur.two (by grobner), by grobner, by grobner⟩
/-- What the reference's Read answers. -/
def RReadR (P : Nat) [NeZero P] (bs : Bs) (e : Value) : Prop := match rd P bs with
  | none => ∃ t : T3 P, e = .tuple #[tv t, .bool false]
  | some p => ∃ (t : T3 P) (q : EC.Pt P), e = .tuple #[tv t, .bool true] ∧ EC.Pair p.1 p.2 q ∧ FracT t q
end Go.Proofs.YtmepmoalhgehhaaGreatDoor
set_option linter.unusedVariables false
namespace Go.Proofs.YtmepmoalhgehhaaGreatDoor
open Go.RowKit Go.Sort Go.Deep
variable {P : Nat} [NeZero P]
/-- The base's x, written. -/
def gxB : Bs := #[121, 190, 102, 126, 249, 220, 187, 172, 85, 160, 98, 149, 206, 135, 11, 7, 2, 155, 252, 219, 45, 206, 40, 217, 89, 242, 129, 91, 22, 248, 23, 152]
theorem of_g (C : Fld P) : Gives 70 #[.string ⟨gxB⟩] (fv (gX P)) := fun w => (rOf_any ⟨gxB⟩ rfl w).mono (by
  rintro e w' ⟨v, rfl, hb, hF⟩
  refine ⟨_, rfl, hb, ?_⟩
  have h := hF.nv
  rw [h]
  show nv _ = nv _
  rw [gX_val C]
  exact congrArg nv (by decide +kernel : beV gxB.toList = 55066263022277343669578718895168534326250603453777594175500187360389116729240))
theorem g_root (C : Fld P) : rt (gX P * gX P * gX P + 7) = some (gY P) := by
  have h := gG_on C
  have h1 : gY P ^ 2 = gX P ^ 3 + 7 := h
  have h2 : gY P * gY P = gX P * gX P * gX P + 7 := by
    generalize gX P = x at *
    generalize gY P = y at *
    clear h C
    grobner
  rw [rt_of C h2, if_neg]
  rw [gY_val C]
  decide
def gT (P : Nat) [NeZero P] : T3 P := (gX P, gY P, 1)
theorem gT_frac (C : Fld P) : FracT (gT P) (gG P) := ⟨frac_one C _ _, gG_on C⟩
set_option maxHeartbeats 4000000 in
set_option maxRecDepth 100000 in
theorem rG_c (C : Fl3 P) : Gives 43 #[] (tv (gT P)) := by
  intro w
  go_enter Tryz.func43, Tryz.ntmps43
  refine RG.M.enter [] 11 (by kernel_rfl) ?_
  intro a0 M0
  repeat refine wp_seq ?_
  refine M0.t [.m 0 [] 0] [(0, (RG.z 12))] [] [(RG.z 12)] [(0, (.p 0 0))] ⟨RG.mk 0 62, trivial⟩ ?_
  intro j1 a1 w1 M1
  repeat refine wp_seq ?_
  refine M1.t [.c 4 [] (fv (gX P)), .m 1 [] 1, .u [(1, 1), (4, 0)] 1] [(1, (RG.z 4))] [(1, 2, (ws (gX P)))] [(RG.z 12), (ws (gX P))] [(0, (.p 0 0)), (1, (.p 1 0))] ⟨RG.cl (of_g C.toFld), RG.mk 1 58, RG.pt i33, trivial⟩ ?_
  intro j2 a2 w2 M2
  repeat refine wp_seq ?_
  refine M2.t [.x 6 [] (fv (gX P)), .c 7 [(6, 0)] (.tuple #[(rv (gX P) (gY P) (1 : Fin P)), (.bool true)]), .x 5 [(7, 1)] (.tuple #[(rv (gX P) (gY P) (1 : Fin P)), (.bool true)]), .x 8 [(5, 2)] (rv (gX P) (gY P) (1 : Fin P)), .x 9 [(5, 2)] (.bool true), .m 2 [] 2, .u [(2, 5), (8, 3)] 2, .x 3 [(9, 4)] (.bool true)] [(5, (RG.z 12))] [(2, 6, (ws (gX P) ++ (ws (gY P) ++ (ws (1 : Fin P)))))] [(RG.z 12), (ws (gX P)), (ws (gX P) ++ (ws (gY P) ++ (ws (1 : Fin P))))] [(0, (.p 0 0)), (2, (.p 2 0))] ⟨RG.ld u33 i33, RG.cl (rat_y_c C (gX P) (gY P) (g_root C.toFld)), RG.st, RG.st, RG.st, RG.mk 2 62, RG.pt i56, RG.st, trivial⟩ ?_
  intro j3 a3 w3 M3
  repeat refine wp_seq ?_
  refine M3.t [.x 10 [] (rv (gX P) (gY P) (1 : Fin P)), .u [(10, 0)] 0] [] [(0, 1, (ws (gX P) ++ (ws (gY P) ++ (ws (1 : Fin P)))))] [(ws (gX P) ++ (ws (gY P) ++ (ws (1 : Fin P)))), (ws (gX P)), (ws (gX P) ++ (ws (gY P) ++ (ws (1 : Fin P))))] [(0, (.p 0 0))] ⟨RG.ld u56 i56, RG.pt i56, trivial⟩ ?_
  intro a4 w4 M4
  refine wp_ret ?_
  refine bodyPost_ret (v := tv (gT P)) (RG.results_row M4.st 0 62 rfl 0 _ rfl (M4.at (s := .p 0 0)) u56 i56) M4.sl.defers ?_
  exact ⟨_, rfl, M4.st.bel.below, rfl⟩
end Go.Proofs.YtmepmoalhgehhaaGreatDoor
namespace Go.Proofs.YtmepmoalhgehhaaGreatDoor
open Go.RowKit Go.Sort
variable {P : Nat} [NeZero P]
theorem geq0 (i : Nat) (w : World) : (binOp .geq 3 (.int .i64 (i : Int)) (.int .i64 0)).run Tryz.prog w = .ok (.bool true) w := by
  go_simp
theorem sub1 (i : Nat) (hi : i < 1000) (w : World) : (binOp .sub 3 (.int .i64 (i : Int)) (.int .i64 1)).run Tryz.prog w = .ok (.int .i64 ((i : Int) - 1)) w := by
  have h := IntWalk.i64_in ((i : Int) - 1) (by omega)
  go_simp
theorem rBit_1 {n i : Nat} (hn : n < top) (hi : i < 256) (h : n / 2 ^ i % 2 = 1) : Gives 74 #[nv n, .int .i64 (i : Int)] (.int .u64 1) := fun w =>
  (rBit_any _ n i (four_nv hn) hi w).mono (by rintro e w' ⟨v, rfl, hb, t, rfl, ht⟩; exact ⟨_, rfl, hb, by rw [ht, h]; rfl⟩)
theorem rBit_0 {n i : Nat} (hn : n < top) (hi : i < 256) (h : ¬ n / 2 ^ i % 2 = 1) : Gives 74 #[nv n, .int .i64 (i : Int)] (.int .u64 0) := fun w =>
  (rBit_any _ n i (four_nv hn) hi w).mono (by rintro e w' ⟨v, rfl, hb, t, rfl, ht⟩; exact ⟨_, rfl, hb, by rw [ht, show n / 2 ^ i % 2 = 0 by omega]; rfl⟩)
set_option maxHeartbeats 2000000 in
set_option maxRecDepth 100000 in
theorem rTimes_c (C : Fl3 P) (n : Nat) (hn : n < top) (t : T3 P) {p : EC.Pt P} (h : FracT t p) : Gives 42 #[nv n, tv t] (tv (tmF n t 256)) := by
  intro w
  go_enter Tryz.func42, Tryz.ntmps42
  refine RG.var2 (v0 := nv n) (v1 := tv t) (n := 23) (by kernel_rfl) (by kernel_rfl) (by kernel_rfl) (by kernel_rfl) ?_
  intro a0 sl0 f0 f1
  have hS0 := RG.St.begin w
  have M0 : RG.M w w.heap.size [] 23 [] [] [(0, (.v (nv n))), (1, (.v (tv t)))] a0 _ := ⟨hS0, sl0, ⟨f0, f1, trivial⟩⟩
  repeat refine wp_seq ?_
  refine M0.t [.m 2 [] 0, .m 3 [] 1, .m 4 [] 2] [(0, (wn n)), (1, (tw t)), (2, (RG.z 12))] [] [(wn n), (tw t), (RG.z 12)] [(2, (.p 0 0)), (3, (.p 1 0)), (4, (.p 2 0))] ⟨RG.mk 0 58, RG.mk 1 62, RG.mk 2 62, trivial⟩ ?_
  intro j1 i1 m1 a1 w1 M1
  repeat refine wp_seq ?_
  refine M1.t [.c 7 [] (tv ((0, 1, 0) : T3 P)), .m 5 [] 3, .u [(5, 1), (7, 0)] 3] [(1, (RG.z 12))] [(3, 2, (tw ((0, 1, 0) : T3 P)))] [(wn n), (tw t), (RG.z 12), (tw ((0, 1, 0) : T3 P))] [(2, (.p 0 0)), (3, (.p 1 0)), (4, (.p 2 0)), (5, (.p 3 0))] ⟨RG.cl (None_c C), RG.mk 3 62, RG.pt i56, trivial⟩ ?_
  intro j2 a2 w2 M2
  repeat refine wp_seq ?_
  refine M2.u [.x 6 [] (.int .i64 255)] [(2, (.p 0 0)), (3, (.p 1 0)), (4, (.p 2 0)), (5, (.p 3 0)), (6, (.v (.int .i64 255)))] ⟨RG.st, trivial⟩ ?_
  intro a3 w3 M3
  have f2_3 : a3.tmps[2]? = some (.pointer (some ⟨j1, 0, none⟩)) := M3.at (s := (.p 0 0))
  have f3_3 : a3.tmps[3]? = some (.pointer (some ⟨i1, 0, none⟩)) := M3.at (s := (.p 1 0))
  have f4_3 : a3.tmps[4]? = some (.pointer (some ⟨m1, 0, none⟩)) := M3.at (s := (.p 2 0))
  have f5_3 : a3.tmps[5]? = some (.pointer (some ⟨j2, 0, none⟩)) := M3.at (s := (.p 3 0))
  have f6_3 : a3.tmps[6]? = some (.int .i64 255) := M3.at (s := (.v (.int .i64 255)))
  repeat refine wp_seq ?_
  refine wp_block ?_
  refine wp_loop_ghost (fun m a wr => m ≤ 256 ∧ RG.Sl a 23 ∧ a.tmps[2]? = some (.pointer (some ⟨j1, 0, none⟩)) ∧ a.tmps[3]? = some (.pointer (some ⟨i1, 0, none⟩)) ∧ a.tmps[4]? = some (.pointer (some ⟨m1, 0, none⟩)) ∧ a.tmps[5]? = some (.pointer (some ⟨j2, 0, none⟩)) ∧ a.tmps[6]? = some (.int .i64 ((m : Int) - 1)) ∧ RG.St w w.heap.size [] [wn n, tw t, [.int .u64 0, .int .u64 0, .int .u64 0, .int .u64 0, .int .u64 0, .int .u64 0, .int .u64 0, .int .u64 0, .int .u64 0, .int .u64 0, .int .u64 0, .int .u64 0], tw (tmF n t (256 - m))] [j1, i1, m1, j2] wr) 256 ⟨Nat.le_refl _, M3.sl, f2_3, f3_3, f4_3, f5_3, f6_3, ?_⟩ ?_
  · rw [Nat.sub_self, tmF]
    exact M3.st
  intro m a wr
  rintro ⟨hm, sl, f2, f3, f4, f5, f6, hS⟩
  have hn2 : n < 2 ^ 256 := hn
  generalize j1 = k2 at f2 f3 f4 f5 hS
  generalize i1 = k3 at f2 f3 f4 f5 hS
  generalize m1 = k4 at f2 f3 f4 f5 hS
  generalize j2 = k5 at f2 f3 f4 f5 hS
  by_cases hz : m = 0
  · subst hz
    have e256 : tmF n t (256 - 0) = tmF n t 256 := rfl
    rw [e256] at hS
    obtain ⟨s, hs⟩ : ∃ s, tmF n t 256 = s := ⟨_, rfl⟩
    rw [hs] at hS ⊢
    have M0 : RG.M w w.heap.size [] 23 [(wn n), (tw t), (RG.z 12), (tw s)] [k2, k3, k4, k5] [(2, (.p 0 0)), (3, (.p 1 0)), (4, (.p 2 0)), (5, (.p 3 0)), (6, (.v (.int .i64 (-1))))] a _ := ⟨hS, sl, ⟨f2, f3, f4, f5, f6, trivial⟩⟩
    repeat refine wp_seq ?_
    refine M0.u [.x 8 [] (.int .i64 (-1)), .x 9 [(8, 0)] (.bool false)] [(4, (.p 2 0)), (5, (.p 3 0)), (9, (.v (.bool false)))] ⟨RG.st, RG.st, trivial⟩ ?_
    intro a1 w1 M1
    repeat refine wp_seq ?_
    refine wp_cond_false M1.ev ?_
    refine wp_exit ?_
    dsimp only [Exit.then, Exit.inBlock]
    rw [if_pos rfl]
    repeat refine wp_seq ?_
    refine M1.t [.x 22 [] (tv s), .u [(22, 0)] 2] [] [(2, 1, (tw s))] [(wn n), (tw t), (tw s), (tw s)] [(4, (.p 2 0))] ⟨RG.ld u56 i56, RG.pt i56, trivial⟩ ?_
    intro a2 w2 M2
    refine wp_ret ?_
    refine bodyPost_ret (v := tv s) (RG.results_row M2.st 4 62 rfl 2 _ rfl (M2.at (s := (.p 2 0))) u56 i56) M2.sl.defers ?_
    exact ⟨_, rfl, M2.st.bel.below, rfl⟩
  · obtain ⟨i, rfl⟩ : ∃ i, m = i + 1 := ⟨m - 1, by omega⟩
    have hi : i < 256 := by omega
    replace f6 : a.tmps[6]? = some (.int .i64 (i : Int)) := by rw [f6]; congr 2; omega
    have ih := tmF_F C hn2 h (256 - (i + 1)) (by omega)
    obtain ⟨s, hs⟩ : ∃ s, tmF n t (256 - (i + 1)) = s := ⟨_, rfl⟩
    rw [hs] at hS ih
    obtain ⟨s2, hs2⟩ : ∃ s2, s2 = plF s s := ⟨_, rfl⟩
    have hp1 := (ih.plus C ih).1
    have ih2 := (ih.plus C ih).2
    rw [← hs2] at hp1 ih2
    obtain ⟨s3, hs3⟩ : ∃ s3, s3 = plF s2 t := ⟨_, rfl⟩
    have hp2 := (ih2.plus C h).1
    rw [← hs3] at hp2
    have hstep : tmF n t (256 - i) = if n / 2 ^ i % 2 = 1 then s3 else s2 := by
      rw [show 256 - i = 256 - (i + 1) + 1 by omega]
      show (if n / 2 ^ (255 - (256 - (i + 1))) % 2 = 1 then plF (plF (tmF n t (256 - (i + 1))) (tmF n t (256 - (i + 1)))) t else plF (tmF n t (256 - (i + 1))) (tmF n t (256 - (i + 1)))) = _
      rw [show 255 - (256 - (i + 1)) = i by omega, hs, ← hs2, ← hs3]
    by_cases hb : n / 2 ^ i % 2 = 1
    · rw [if_pos hb] at hstep
      have M0 : RG.M w w.heap.size [] 23 [(wn n), (tw t), (RG.z 12), (tw s)] [k2, k3, k4, k5] [(2, (.p 0 0)), (3, (.p 1 0)), (4, (.p 2 0)), (5, (.p 3 0)), (6, (.v (.int .i64 (i : Int))))] a _ := ⟨hS, sl, ⟨f2, f3, f4, f5, f6, trivial⟩⟩
      repeat refine wp_seq ?_
      refine M0.u [.x 8 [] (.int .i64 (i : Int)), .x 9 [(8, 0)] (.bool true)] [(2, (.p 0 0)), (3, (.p 1 0)), (4, (.p 2 0)), (5, (.p 3 0)), (6, (.v (.int .i64 (i : Int)))), (9, (.v (.bool true)))] ⟨RG.st, RG.cert_binc rfl .geq 3 3 8 (.int .i64 (i : Int)) (.int .i64 0) (.bool true) rfl rfl RG.sx (fun w => by kernel_rfl) (geq0 i), trivial⟩ ?_
      intro a1 w1 M1
      repeat refine wp_seq ?_
      refine wp_cond_true M1.ev ?_
      refine wp_skip ?_
      refine wp_seq ?_
      refine wp_block ?_
      repeat refine wp_seq ?_
      refine M1.t [.x 12 [] (tv s), .x 13 [] (tv s), .c 14 [(12, 0), (13, 1)] (tv s2), .u [(14, 2)] 3] [] [(3, 3, (tw s2))] [(wn n), (tw t), (RG.z 12), (tw s2)] [(2, (.p 0 0)), (3, (.p 1 0)), (4, (.p 2 0)), (5, (.p 3 0)), (6, (.v (.int .i64 (i : Int))))] ⟨RG.ld u56 i56, RG.ld u56 i56, RG.cl (hp1), RG.pt i56, trivial⟩ ?_
      intro a2 w2 M2
      repeat refine wp_seq ?_
      refine M2.u [.x 15 [] (nv n), .x 16 [] (.int .i64 (i : Int)), .c 17 [(15, 0), (16, 1)] (.int .u64 1), .x 18 [(17, 2)] (.bool true)] [(2, (.p 0 0)), (3, (.p 1 0)), (4, (.p 2 0)), (5, (.p 3 0)), (6, (.v (.int .i64 (i : Int)))), (18, (.v (.bool true)))] ⟨RG.ld u33 i33, RG.st, RG.cl (rBit_1 hn hi hb), RG.st, trivial⟩ ?_
      intro a3 w3 M3
      repeat refine wp_seq ?_
      refine wp_cond_true M3.ev ?_
      repeat refine wp_seq ?_
      refine M3.t [.x 19 [] (tv s2), .x 20 [] (tv t), .c 21 [(19, 0), (20, 1)] (tv s3), .u [(21, 2)] 3] [] [(3, 3, (tw s3))] [(wn n), (tw t), (RG.z 12), (tw s3)] [(2, (.p 0 0)), (3, (.p 1 0)), (4, (.p 2 0)), (5, (.p 3 0)), (6, (.v (.int .i64 (i : Int))))] ⟨RG.ld u56 i56, RG.ld u56 i56, RG.cl (hp2), RG.pt i56, trivial⟩ ?_
      intro a4 w4 M4
      repeat refine wp_seq ?_
      refine M4.u [.x 10 [] (.int .i64 (i : Int)), .x 11 [(10, 0)] (.int .i64 ((i : Int) - 1)), .x 6 [(11, 1)] (.int .i64 ((i : Int) - 1))] [(2, (.p 0 0)), (3, (.p 1 0)), (4, (.p 2 0)), (5, (.p 3 0)), (6, (.v (.int .i64 ((i : Int) - 1))))] ⟨RG.st, RG.cert_binc rfl .sub 3 3 10 (.int .i64 (i : Int)) (.int .i64 1) (.int .i64 ((i : Int) - 1)) rfl rfl RG.sx (fun w => by kernel_rfl) (sub1 i (by omega)), RG.st, trivial⟩ ?_
      intro a5 w5 M5
      have f2_5 : a5.tmps[2]? = some (.pointer (some ⟨k2, 0, none⟩)) := M5.at (s := (.p 0 0))
      have f3_5 : a5.tmps[3]? = some (.pointer (some ⟨k3, 0, none⟩)) := M5.at (s := (.p 1 0))
      have f4_5 : a5.tmps[4]? = some (.pointer (some ⟨k4, 0, none⟩)) := M5.at (s := (.p 2 0))
      have f5_5 : a5.tmps[5]? = some (.pointer (some ⟨k5, 0, none⟩)) := M5.at (s := (.p 3 0))
      have f6_5 : a5.tmps[6]? = some (.int .i64 ((i : Int) - 1)) := M5.at (s := (.v (.int .i64 ((i : Int) - 1))))
      show ∃ n', _
      exact ⟨i, Nat.lt_succ_self i, by omega, M5.sl, f2_5, f3_5, f4_5, f5_5, f6_5, by rw [hstep]; exact M5.st⟩
    · rw [if_neg hb] at hstep
      have M0 : RG.M w w.heap.size [] 23 [(wn n), (tw t), (RG.z 12), (tw s)] [k2, k3, k4, k5] [(2, (.p 0 0)), (3, (.p 1 0)), (4, (.p 2 0)), (5, (.p 3 0)), (6, (.v (.int .i64 (i : Int))))] a _ := ⟨hS, sl, ⟨f2, f3, f4, f5, f6, trivial⟩⟩
      repeat refine wp_seq ?_
      refine M0.u [.x 8 [] (.int .i64 (i : Int)), .x 9 [(8, 0)] (.bool true)] [(2, (.p 0 0)), (3, (.p 1 0)), (4, (.p 2 0)), (5, (.p 3 0)), (6, (.v (.int .i64 (i : Int)))), (9, (.v (.bool true)))] ⟨RG.st, RG.cert_binc rfl .geq 3 3 8 (.int .i64 (i : Int)) (.int .i64 0) (.bool true) rfl rfl RG.sx (fun w => by kernel_rfl) (geq0 i), trivial⟩ ?_
      intro a1 w1 M1
      repeat refine wp_seq ?_
      refine wp_cond_true M1.ev ?_
      refine wp_skip ?_
      refine wp_seq ?_
      refine wp_block ?_
      repeat refine wp_seq ?_
      refine M1.t [.x 12 [] (tv s), .x 13 [] (tv s), .c 14 [(12, 0), (13, 1)] (tv s2), .u [(14, 2)] 3] [] [(3, 3, (tw s2))] [(wn n), (tw t), (RG.z 12), (tw s2)] [(2, (.p 0 0)), (3, (.p 1 0)), (4, (.p 2 0)), (5, (.p 3 0)), (6, (.v (.int .i64 (i : Int))))] ⟨RG.ld u56 i56, RG.ld u56 i56, RG.cl (hp1), RG.pt i56, trivial⟩ ?_
      intro a2 w2 M2
      repeat refine wp_seq ?_
      refine M2.u [.x 15 [] (nv n), .x 16 [] (.int .i64 (i : Int)), .c 17 [(15, 0), (16, 1)] (.int .u64 0), .x 18 [(17, 2)] (.bool false)] [(2, (.p 0 0)), (3, (.p 1 0)), (4, (.p 2 0)), (5, (.p 3 0)), (6, (.v (.int .i64 (i : Int)))), (18, (.v (.bool false)))] ⟨RG.ld u33 i33, RG.st, RG.cl (rBit_0 hn hi hb), RG.st, trivial⟩ ?_
      intro a3 w3 M3
      repeat refine wp_seq ?_
      refine wp_cond_false M3.ev ?_
      refine wp_skip ?_
      repeat refine wp_seq ?_
      refine M3.u [.x 10 [] (.int .i64 (i : Int)), .x 11 [(10, 0)] (.int .i64 ((i : Int) - 1)), .x 6 [(11, 1)] (.int .i64 ((i : Int) - 1))] [(2, (.p 0 0)), (3, (.p 1 0)), (4, (.p 2 0)), (5, (.p 3 0)), (6, (.v (.int .i64 ((i : Int) - 1))))] ⟨RG.st, RG.cert_binc rfl .sub 3 3 10 (.int .i64 (i : Int)) (.int .i64 1) (.int .i64 ((i : Int) - 1)) rfl rfl RG.sx (fun w => by kernel_rfl) (sub1 i (by omega)), RG.st, trivial⟩ ?_
      intro a4 w4 M4
      have f2_4 : a4.tmps[2]? = some (.pointer (some ⟨k2, 0, none⟩)) := M4.at (s := (.p 0 0))
      have f3_4 : a4.tmps[3]? = some (.pointer (some ⟨k3, 0, none⟩)) := M4.at (s := (.p 1 0))
      have f4_4 : a4.tmps[4]? = some (.pointer (some ⟨k4, 0, none⟩)) := M4.at (s := (.p 2 0))
      have f5_4 : a4.tmps[5]? = some (.pointer (some ⟨k5, 0, none⟩)) := M4.at (s := (.p 3 0))
      have f6_4 : a4.tmps[6]? = some (.int .i64 ((i : Int) - 1)) := M4.at (s := (.v (.int .i64 ((i : Int) - 1))))
      show ∃ n', _
      exact ⟨i, Nat.lt_succ_self i, by omega, M4.sl, f2_4, f3_4, f4_4, f5_4, f6_4, by rw [hstep]; exact M4.st⟩
end Go.Proofs.YtmepmoalhgehhaaGreatDoor
set_option linter.unusedVariables false
namespace Go.Proofs.YtmepmoalhgehhaaGreatDoor
open Go.RowKit Go.Sort Go.Deep
variable {P : Nat} [NeZero P]
def FB_1 (n : Nat) : List RG.It := [.x 3 [] (nv n), .c 4 [] (tv (gT P)), .c 5 [(3, 0), (4, 1)] (tv (tmF n (gT P) 256)), .u [(5, 2)] 1]
set_option maxHeartbeats 4000000 in
set_option maxRecDepth 100000 in
theorem qBase_c (C : Fl3 P) (n : Nat) (hn : n < top) : Gives 23 #[nv n] (tv (tmF n (gT P) 256)) := by
  intro w
  go_enter Tryz.func23, Tryz.ntmps23
  refine RG.M.enter [(0, .v (nv n))] 6 (by kernel_rfl) ?_
  intro a0 M0
  repeat refine wp_seq ?_
  refine M0.t [.m 1 [] 0, .m 2 [] 1] [(0, (wn n)), (1, (RG.z 12))] [] [(wn n), (RG.z 12)] [(1, (.p 0 0)), (2, (.p 1 0))] ⟨RG.mk 0 58, RG.mk 1 62, trivial⟩ ?_
  intro j1 i1 a1 w1 M1
  repeat refine wp_seq ?_
  refine M1.d (FB_1 (P := P) n) [] [(1, 3, (tw (tmF n (gT P) 256)))] [(wn n), (tw (tmF n (gT P) 256))] [(2, (.p 1 0))] ⟨RG.ld u33 i33, RG.cl (rG_c C), RG.cl (rTimes_c C n hn (gT P) (gT_frac C.toFld)), RG.pt i56, trivial⟩ ?_
  intro a2 w2 M2
  refine wp_ret ?_
  refine bodyPost_ret (v := tv (tmF n (gT P) 256)) (RG.results_row M2.st 2 62 rfl 1 _ rfl (M2.at (s := .p 1 0)) u56 i56) M2.sl.defers ?_
  exact ⟨_, rfl, M2.st.bel.below, rfl⟩
end Go.Proofs.YtmepmoalhgehhaaGreatDoor
namespace Go.Proofs.YtmepmoalhgehhaaGreatDoor
open Go.RowKit Go.Sort Go.Deep
variable {P : Nat} [NeZero P]
theorem rBytes_c (C : Fld P) (x : Fin P) : Gives 34 #[fv x] (.string ⟨bx x.val⟩) := fun w =>
  (rBytes_any _ _ w (C.four x)).mono (by
    rintro e w' ⟨v, rfl, hb, a, b, c, d, he, rfl⟩
    refine ⟨_, rfl, hb, ?_⟩
    have h2 : fv x = .agg #[.int .u64 ((x.val % 18446744073709551616 : Nat) : Int), .int .u64 ((x.val / 18446744073709551616 % 18446744073709551616 : Nat) : Int), .int .u64 ((x.val / 340282366920938463463374607431768211456 % 18446744073709551616 : Nat) : Int), .int .u64 ((x.val / 6277101735386680763835789423207666416102355444464034512896 % 18446744073709551616 : Nat) : Int)] := rfl
    rw [h2] at he
    simp only [Value.agg.injEq, Array.mk.injEq, List.cons.injEq, Value.int.injEq, true_and, and_true, Int.ofNat_inj] at he
    obtain ⟨rfl, rfl, rfl, rfl⟩ := he
    rfl)
theorem u31 : (Tryz.prog.underlying 23).map (·.isRow) = some false := by kernel_rfl
theorem and1 (n r : Nat) (hr : n % 2 = r) (w : World) : (binOp .and 23 (.int .u64 ((n % 18446744073709551616 : Nat) : Int)) (.int .u64 1)).run Tryz.prog w = .ok (.int .u64 (r : Int)) w := by
  have h := and_one (n % 18446744073709551616) (Nat.mod_lt _ (by decide))
  rw [show n % 18446744073709551616 % 2 = r by omega] at h
  generalize n % 18446744073709551616 = k at h ⊢
  go_simp
theorem cat (m : UInt8) (n : Nat) (w : World) : (binOp .add 9 (.string ⟨#[m]⟩) (.string ⟨bx n⟩)).run Tryz.prog w = .ok (.string ⟨#[m] ++ bx n⟩) w := by
  have h := bx_size n
  generalize bx n = b at h ⊢
  have h2 : (⟨#[m]⟩ : ByteArray) ++ ⟨b⟩ = ⟨#[m] ++ b⟩ := by
    have h3 : ((⟨#[m]⟩ : ByteArray) ++ ⟨b⟩).data = #[m] ++ b := ByteArray.data_append
    rw [← h3]
  go_simp
set_option maxRecDepth 100000 in
theorem bs1 (m : Int) (w : World) : (Instr.buildSlice 24 1 #[(0, .int .u8 m)]).run Tryz.prog w = .ok (.slice (some ⟨w.heap.size, 0, none⟩) 1 1) (w.alloc (.cells #[.int .u8 m] 5)) := by
  obtain ⟨ie, hie, he⟩ := Option.map_eq_some_iff.1 info5b
  simp only [Prod.mk.injEq] at he
  obtain ⟨h1, h2, -⟩ := he
  exact run_buildSlice w 24 5 1 _ #[.int .u8 m] ie (.int .u8 0) und23 hie h1 (by rw [h2]; omega) (by rw [h2]; omega) (by rw [h2]; kernel_rfl)
set_option maxRecDepth 100000 in
theorem str1 (m : UInt8) (w : World) (k : Nat) (h : w.rangeAt k 0 [.int .u8 (ub m)]) : (convert 24 9 (.slice (some ⟨k, 0, none⟩) 1 1)).run Tryz.prog w = .ok (.string ⟨#[m]⟩) w := by
  have h2 := run_convert_bytes_back (P := Tryz.prog) w 24 9 5 ⟨k, 0, none⟩ 1 [m] slice22 int5 str9 (fun j hj => by
    obtain rfl : j = 0 := by simpa using hj
    have h3 := h 0 _ rfl
    have e1 : (⟨k, 0, none⟩ : Addr).add 0 = ⟨k, 0, none⟩ := rfl
    rw [e1, h3]
    simp [ub])
  simpa using h2
omit [NeZero P] in
theorem words3 (x y z : Fin P) : ∃ a1 b1 c1 d1 a2 b2 c2 d2 a3 b3 c3 d3 : Nat, rv x y z = .agg #[.int .u64 (a1 : Int), .int .u64 (b1 : Int), .int .u64 (c1 : Int), .int .u64 (d1 : Int), .int .u64 (a2 : Int), .int .u64 (b2 : Int), .int .u64 (c2 : Int), .int .u64 (d2 : Int), .int .u64 (a3 : Int), .int .u64 (b3 : Int), .int .u64 (c3 : Int), .int .u64 (d3 : Int)] :=
  ⟨_, _, _, _, _, _, _, _, _, _, _, _, rfl⟩
set_option maxHeartbeats 2000000 in
set_option maxRecDepth 100000 in
theorem rWr_z (C : Fl3 P) (x y z : Fin P) (hz : z = 0) : Gives 24 #[rv x y z] (.string ⟨zs33⟩) := by
  intro w
  have hI := Is_t_c C x y z hz
  obtain ⟨a1, b1, c1, d1, a2, b2, c2, d2, a3, b3, c3, d3, e⟩ := words3 x y z
  rw [e] at hI ⊢
  have hmk := mk33
  go_enter Tryz.func24, Tryz.ntmps24
  go_wp2_with fail
  refine (hI _).mono ?_
  rintro e w1 ⟨v, rfl, hb1, rfl⟩
  have HB : Hid (Below w.heap.size w w1) := (below1 w _).trans (hb1.mono (by simp))
  have hcv : (convert 24 9 (.slice (some ⟨w1.heap.size, 0, none⟩) 33 33)).run Tryz.prog (w1.alloc (.cells (madeCells #[.int .u8 0] 33) 5)) = .ok (.string ⟨zs33⟩) (w1.alloc (.cells (madeCells #[.int .u8 0] 33) 5)) :=
    conv_str Tryz.prog 24 9 5 slice22 int5 str9 _ _ 0 33 33 _ (Holds.made (enc := encB) w1 5 33 (0 : UInt8)) (by decide)
  clear hb1 hI
  go_wp2
  go_ret
  exact ⟨_, rfl, HB.out.trans ((below1 w1 _).mono HB.out.size), rfl⟩
end Go.Proofs.YtmepmoalhgehhaaGreatDoor
namespace Go.Proofs.YtmepmoalhgehhaaGreatDoor
open Go.RowKit Go.Sort Go.Deep
variable {P : Nat} [NeZero P]
set_option maxHeartbeats 2000000 in
set_option maxRecDepth 100000 in
theorem rWr_0_c (C : Fl3 P) (x y z : Fin P)(hz : ¬ z = 0) (hpar : (y * EC.inv z).val % 2 = 0)  : Gives 24 #[(rv x y z)] (.string ⟨#[2] ++ bx (x * EC.inv z).val⟩) := by
  intro w
  obtain ⟨c1, hc1⟩ : ∃ c, c = EC.inv z := ⟨_, rfl⟩
  obtain ⟨c2, hc2⟩ : ∃ c, c = x * c1 := ⟨_, rfl⟩
  obtain ⟨c3, hc3⟩ : ∃ c, c = y * c1 := ⟨_, rfl⟩
  have hfin : ((.string ⟨#[2] ++ bx c2.val⟩) : Value) = (.string ⟨#[2] ++ bx (x * EC.inv z).val⟩) := by
    subst_vars; rfl
  rw [← hfin]
  go_enter Tryz.func24, Tryz.ntmps24
  refine RG.M.enter [(0, (.v (rv x y z)))] 36 (by kernel_rfl) ?_
  intro a0 M0
  repeat refine wp_seq ?_
  refine M0.t [.m 1 [] 0, .x 2 [] (.string ⟨#[]⟩)] [(0, (ws x ++ (ws y ++ (ws z))))] [] [(ws x ++ (ws y ++ (ws z)))] [(1, (.p 0 0)), (2, (.v (.string ⟨#[]⟩)))] ⟨RG.mk 0 62, RG.st, trivial⟩ ?_
  intro j1 a1 w1 M1
  repeat refine wp_seq ?_
  refine M1.u [.x 7 [] (rv x y z), .c 8 [(7, 0)] (.bool false), .x 3 [(8, 1)] (.bool false)] [(1, (.p 0 0)), (2, (.v (.string ⟨#[]⟩))), (3, (.v (.bool false)))] ⟨RG.ld u56 i56, RG.cl (Is_f_c C x y z hz), RG.st, trivial⟩ ?_
  intro a2 w2 M2
  repeat refine wp_seq ?_
  refine M2.u [.x 9 [] (.bool false)] [(1, (.p 0 0)), (2, (.v (.string ⟨#[]⟩))), (9, (.v (.bool false)))] ⟨RG.st, trivial⟩ ?_
  intro a3 w3 M3
  repeat refine wp_seq ?_
  refine wp_cond_false M3.ev ?_
  refine wp_skip ?_
  repeat refine wp_seq ?_
  refine M3.d [.c 12 [] rv0, .s 13 [] (.p 0 8), .x 14 [(13, 1)] (fv z), .c 15 [(12, 0), (14, 2)] (fv c1), .m 4 [] 1, .u [(4, 4), (15, 3)] 1] [(4, (RG.z 4))] [(1, 5, (ws c1))] [(ws x ++ (ws y ++ (ws z))), (ws c1)] [(1, (.p 0 0)), (2, (.v (.string ⟨#[]⟩))), (4, (.p 1 0))] ⟨RG.cl (F3_c), RG.st, RG.ld u33 i33, RG.cl ((rInv_c C z).e hc1), RG.mk 1 58, RG.pt i33, trivial⟩ ?_
  intro j4 a4 w4 M4
  repeat refine wp_seq ?_
  refine M4.d [.c 16 [] rv0, .s 17 [] (.p 0 0), .x 18 [(17, 1)] (fv x), .x 19 [] (fv c1), .c 20 [(16, 0), (18, 2), (19, 3)] (fv c2), .m 5 [] 2, .u [(5, 5), (20, 4)] 2] [(5, (RG.z 4))] [(2, 6, (ws c2))] [(ws x ++ (ws y ++ (ws z))), (ws c1), (ws c2)] [(1, (.p 0 0)), (2, (.v (.string ⟨#[]⟩))), (4, (.p 1 0)), (5, (.p 2 0))] ⟨RG.cl (F3_c), RG.st, RG.ld u33 i33, RG.ld u33 i33, RG.cl ((rMul_c C x c1).e hc2), RG.mk 2 58, RG.pt i33, trivial⟩ ?_
  intro j5 a5 w5 M5
  repeat refine wp_seq ?_
  refine M5.d [.c 21 [] rv0, .s 22 [] (.p 0 4), .x 23 [(22, 1)] (fv y), .x 24 [] (fv c1), .c 25 [(21, 0), (23, 2), (24, 3)] (fv c3), .m 6 [] 3, .u [(6, 5), (25, 4)] 3] [(5, (RG.z 4))] [(3, 6, (ws c3))] [(ws x ++ (ws y ++ (ws z))), (ws c1), (ws c2), (ws c3)] [(2, (.v (.string ⟨#[]⟩))), (5, (.p 2 0)), (6, (.p 3 0))] ⟨RG.cl (F3_c), RG.st, RG.ld u33 i33, RG.ld u33 i33, RG.cl ((rMul_c C y c1).e hc3), RG.mk 3 58, RG.pt i33, trivial⟩ ?_
  intro j6 a6 w6 M6
  repeat refine wp_seq ?_
  refine M6.d [.s 26 [] (.p 3 0), .x 27 [(26, 0)] (.int .u64 ((c3.val % 18446744073709551616 : Nat) : Int)), .x 28 [(27, 1)] (.int .u64 0), .x 29 [(28, 2)] (.int .u8 0), .x 30 [(29, 3)] (.int .u8 2), ⟨some 31, [(30, 4)], (.s 4 1 1), .make 4⟩, .x 32 [(31, 5)] (.string ⟨#[2]⟩), .x 33 [] (fv c2), .c 34 [(33, 7)] (.string ⟨bx c2.val⟩), .x 35 [(32, 6), (34, 8)] (.string ⟨#[2] ++ bx c2.val⟩), .x 2 [(35, 9)] (.string ⟨#[2] ++ bx c2.val⟩)] [(5, [(.int .u8 2)])] [] [(ws x ++ (ws y ++ (ws z))), (ws c1), (ws c2), (ws c3), [(.int .u8 2)]] [(2, (.v (.string ⟨#[2] ++ bx c2.val⟩)))] ⟨RG.cert_idxc rfl 58 6 (.int .i64 0) rfl (.p 3 0) RG.sx (fun μ w => by kernel_rfl), RG.cert_load1 rfl 3 0 _ rfl rfl (by kernel_rfl) 23 26 rfl (.int .u64 ((c3.val % 18446744073709551616 : Nat) : Int)) rfl RG.sx rfl u31, RG.cert_binc rfl .and 23 23 27 (.int .u64 ((c3.val % 18446744073709551616 : Nat) : Int)) (.int .u64 1) (.int .u64 0) rfl rfl RG.sx (fun w => by kernel_rfl) (and1 c3.val 0 (by subst_vars; exact hpar)), RG.cert_conv rfl 23 5 28 (.int .u64 0) (.int .u8 0) rfl rfl RG.sx (fun w => by kernel_rfl), RG.st, RG.cert_bs1 4 rfl _ rfl 24 5 30 (.int .u8 2) rfl rfl RG.sx (bs1 2), RG.cert_str rfl 4 5 _ rfl _ rfl rfl (by kernel_rfl) (by kernel_rfl) 24 9 31 1 (.string ⟨#[2]⟩) rfl rfl RG.sx (fun w k h => str1 2 w k h), RG.ld u33 i33, RG.cl (rBytes_c C.toFld c2), RG.cert_bin rfl .add 9 9 32 34 (.string ⟨#[2]⟩) (.string ⟨bx c2.val⟩) (.string ⟨#[2] ++ bx c2.val⟩) rfl rfl RG.sx RG.sx (fun w => by kernel_rfl) (cat 2 _), RG.st, trivial⟩ ?_
  intro j7 a7 w7 M7
  refine wp_ret ?_
  refine bodyPost_ret (v := (.string ⟨#[2] ++ bx c2.val⟩)) (RG.results_t 2 rfl _ (M7.at (s := (.v (.string ⟨#[2] ++ bx c2.val⟩))))) M7.sl.defers ?_
  exact ⟨_, rfl, M7.st.bel.below, rfl⟩
set_option maxHeartbeats 2000000 in
set_option maxRecDepth 100000 in
theorem rWr_1_c (C : Fl3 P) (x y z : Fin P)(hz : ¬ z = 0) (hpar : (y * EC.inv z).val % 2 = 1)  : Gives 24 #[(rv x y z)] (.string ⟨#[3] ++ bx (x * EC.inv z).val⟩) := by
  intro w
  obtain ⟨c1, hc1⟩ : ∃ c, c = EC.inv z := ⟨_, rfl⟩
  obtain ⟨c2, hc2⟩ : ∃ c, c = x * c1 := ⟨_, rfl⟩
  obtain ⟨c3, hc3⟩ : ∃ c, c = y * c1 := ⟨_, rfl⟩
  have hfin : ((.string ⟨#[3] ++ bx c2.val⟩) : Value) = (.string ⟨#[3] ++ bx (x * EC.inv z).val⟩) := by
    subst_vars; rfl
  rw [← hfin]
  go_enter Tryz.func24, Tryz.ntmps24
  refine RG.M.enter [(0, (.v (rv x y z)))] 36 (by kernel_rfl) ?_
  intro a0 M0
  repeat refine wp_seq ?_
  refine M0.t [.m 1 [] 0, .x 2 [] (.string ⟨#[]⟩)] [(0, (ws x ++ (ws y ++ (ws z))))] [] [(ws x ++ (ws y ++ (ws z)))] [(1, (.p 0 0)), (2, (.v (.string ⟨#[]⟩)))] ⟨RG.mk 0 62, RG.st, trivial⟩ ?_
  intro j1 a1 w1 M1
  repeat refine wp_seq ?_
  refine M1.u [.x 7 [] (rv x y z), .c 8 [(7, 0)] (.bool false), .x 3 [(8, 1)] (.bool false)] [(1, (.p 0 0)), (2, (.v (.string ⟨#[]⟩))), (3, (.v (.bool false)))] ⟨RG.ld u56 i56, RG.cl (Is_f_c C x y z hz), RG.st, trivial⟩ ?_
  intro a2 w2 M2
  repeat refine wp_seq ?_
  refine M2.u [.x 9 [] (.bool false)] [(1, (.p 0 0)), (2, (.v (.string ⟨#[]⟩))), (9, (.v (.bool false)))] ⟨RG.st, trivial⟩ ?_
  intro a3 w3 M3
  repeat refine wp_seq ?_
  refine wp_cond_false M3.ev ?_
  refine wp_skip ?_
  repeat refine wp_seq ?_
  refine M3.d [.c 12 [] rv0, .s 13 [] (.p 0 8), .x 14 [(13, 1)] (fv z), .c 15 [(12, 0), (14, 2)] (fv c1), .m 4 [] 1, .u [(4, 4), (15, 3)] 1] [(4, (RG.z 4))] [(1, 5, (ws c1))] [(ws x ++ (ws y ++ (ws z))), (ws c1)] [(1, (.p 0 0)), (2, (.v (.string ⟨#[]⟩))), (4, (.p 1 0))] ⟨RG.cl (F3_c), RG.st, RG.ld u33 i33, RG.cl ((rInv_c C z).e hc1), RG.mk 1 58, RG.pt i33, trivial⟩ ?_
  intro j4 a4 w4 M4
  repeat refine wp_seq ?_
  refine M4.d [.c 16 [] rv0, .s 17 [] (.p 0 0), .x 18 [(17, 1)] (fv x), .x 19 [] (fv c1), .c 20 [(16, 0), (18, 2), (19, 3)] (fv c2), .m 5 [] 2, .u [(5, 5), (20, 4)] 2] [(5, (RG.z 4))] [(2, 6, (ws c2))] [(ws x ++ (ws y ++ (ws z))), (ws c1), (ws c2)] [(1, (.p 0 0)), (2, (.v (.string ⟨#[]⟩))), (4, (.p 1 0)), (5, (.p 2 0))] ⟨RG.cl (F3_c), RG.st, RG.ld u33 i33, RG.ld u33 i33, RG.cl ((rMul_c C x c1).e hc2), RG.mk 2 58, RG.pt i33, trivial⟩ ?_
  intro j5 a5 w5 M5
  repeat refine wp_seq ?_
  refine M5.d [.c 21 [] rv0, .s 22 [] (.p 0 4), .x 23 [(22, 1)] (fv y), .x 24 [] (fv c1), .c 25 [(21, 0), (23, 2), (24, 3)] (fv c3), .m 6 [] 3, .u [(6, 5), (25, 4)] 3] [(5, (RG.z 4))] [(3, 6, (ws c3))] [(ws x ++ (ws y ++ (ws z))), (ws c1), (ws c2), (ws c3)] [(2, (.v (.string ⟨#[]⟩))), (5, (.p 2 0)), (6, (.p 3 0))] ⟨RG.cl (F3_c), RG.st, RG.ld u33 i33, RG.ld u33 i33, RG.cl ((rMul_c C y c1).e hc3), RG.mk 3 58, RG.pt i33, trivial⟩ ?_
  intro j6 a6 w6 M6
  repeat refine wp_seq ?_
  refine M6.d [.s 26 [] (.p 3 0), .x 27 [(26, 0)] (.int .u64 ((c3.val % 18446744073709551616 : Nat) : Int)), .x 28 [(27, 1)] (.int .u64 1), .x 29 [(28, 2)] (.int .u8 1), .x 30 [(29, 3)] (.int .u8 3), ⟨some 31, [(30, 4)], (.s 4 1 1), .make 4⟩, .x 32 [(31, 5)] (.string ⟨#[3]⟩), .x 33 [] (fv c2), .c 34 [(33, 7)] (.string ⟨bx c2.val⟩), .x 35 [(32, 6), (34, 8)] (.string ⟨#[3] ++ bx c2.val⟩), .x 2 [(35, 9)] (.string ⟨#[3] ++ bx c2.val⟩)] [(5, [(.int .u8 3)])] [] [(ws x ++ (ws y ++ (ws z))), (ws c1), (ws c2), (ws c3), [(.int .u8 3)]] [(2, (.v (.string ⟨#[3] ++ bx c2.val⟩)))] ⟨RG.cert_idxc rfl 58 6 (.int .i64 0) rfl (.p 3 0) RG.sx (fun μ w => by kernel_rfl), RG.cert_load1 rfl 3 0 _ rfl rfl (by kernel_rfl) 23 26 rfl (.int .u64 ((c3.val % 18446744073709551616 : Nat) : Int)) rfl RG.sx rfl u31, RG.cert_binc rfl .and 23 23 27 (.int .u64 ((c3.val % 18446744073709551616 : Nat) : Int)) (.int .u64 1) (.int .u64 1) rfl rfl RG.sx (fun w => by kernel_rfl) (and1 c3.val 1 (by subst_vars; exact hpar)), RG.cert_conv rfl 23 5 28 (.int .u64 1) (.int .u8 1) rfl rfl RG.sx (fun w => by kernel_rfl), RG.st, RG.cert_bs1 4 rfl _ rfl 24 5 30 (.int .u8 3) rfl rfl RG.sx (bs1 3), RG.cert_str rfl 4 5 _ rfl _ rfl rfl (by kernel_rfl) (by kernel_rfl) 24 9 31 1 (.string ⟨#[3]⟩) rfl rfl RG.sx (fun w k h => str1 3 w k h), RG.ld u33 i33, RG.cl (rBytes_c C.toFld c2), RG.cert_bin rfl .add 9 9 32 34 (.string ⟨#[3]⟩) (.string ⟨bx c2.val⟩) (.string ⟨#[3] ++ bx c2.val⟩) rfl rfl RG.sx RG.sx (fun w => by kernel_rfl) (cat 3 _), RG.st, trivial⟩ ?_
  intro j7 a7 w7 M7
  refine wp_ret ?_
  refine bodyPost_ret (v := (.string ⟨#[3] ++ bx c2.val⟩)) (RG.results_t 2 rfl _ (M7.at (s := (.v (.string ⟨#[3] ++ bx c2.val⟩))))) M7.sl.defers ?_
  exact ⟨_, rfl, M7.st.bel.below, rfl⟩
end Go.Proofs.YtmepmoalhgehhaaGreatDoor
namespace Go.Proofs.YtmepmoalhgehhaaGreatDoor
open Go.RowKit Go.Sort
variable {P : Nat} [NeZero P]
theorem rWritten_c (C : Fl3 P) {t : T3 P} {p : EC.Pt P} (h : FracT t p) : Gives 24 #[tv t] (.string ⟨wr p⟩) := by
  obtain ⟨x, y, z⟩ := t
  match p, h with
  | none, h => exact rWr_z C x y z h.1
  | some (a, b), h =>
    obtain ⟨⟨hz, hx, hy⟩, ho⟩ := h
    have hi := EC.inv_mul C.toFld.cur.pr hz
    have e1 : x * EC.inv z = a := by
      have hx : x = a * z := hx
      rw [hx]
      grobner
    have e2 : y * EC.inv z = b := by
      have hy : y = b * z := hy
      rw [hy]
      grobner
    show Gives _ #[rv x y z] (.string ⟨#[mark b.val] ++ bx a.val⟩)
    rw [← e1, ← e2]
    unfold mark
    by_cases hp : (y * EC.inv z).val % 2 = 1
    · rw [if_pos hp]
      exact rWr_1_c C x y z hz hp
    · rw [if_neg hp]
      exact rWr_0_c C x y z hz (by omega)
end Go.Proofs.YtmepmoalhgehhaaGreatDoor
namespace Go.Proofs.YtmepmoalhgehhaaGreatDoor
open Go.RowKit Go.Sort Go.Deep
theorem run_copy_text {P : Program} (w : World) (dT sT ty elem : TypeId) (b o dLen dCap : Nat) (t : ByteArray)
    (hu : P.underlying dT = some (.slice elem)) (hz : ∀ w, (Go.sizeOf elem).run P w = .ok 1 w)
    (hc : ∀ j, j < dLen → (w.cell? ⟨b, o + j, none⟩).isSome = true) (hf : ∀ j, j < dLen → w.frozen? ⟨b, o + j, none⟩ = false) :
    (Builtin.copy_ #[dT, sT] ty #[.slice (some ⟨b, o, none⟩) dLen dCap, .string t]).run P w = .ok (goInt (Nat.min t.size dLen)) (w.setCells b o ((t.data.toList.map fun x => Value.int .u8 (x.toNat : Int)).take (Nat.min t.size dLen))) := by
  have hl : (t.data.toList.map fun x => Value.int .u8 (x.toNat : Int)).length = t.size := by rw [List.length_map, ← Lib.size_eq]
  have hm : Nat.min t.size dLen ≤ dLen := Nat.min_le_right _ _
  have hst := run_storeCells_cells (P := P) b o ((t.data.toList.map fun x => Value.int .u8 (x.toNat : Int)).take (Nat.min t.size dLen)) 0 w (by
      rw [List.length_take, hl]; intro j hj; simpa using hc j (by omega)) (by
      rw [List.length_take, hl]; intro j hj; simpa using hf j (by omega)) (by
    intro v hv
    obtain ⟨x, _, rfl⟩ := List.mem_map.1 (List.mem_of_mem_take hv)
    rfl)
  simp [Builtin.copy_, run_underlying hu, Builtin.lenOf, Builtin.firstCells, hz]
  rw [hst]
  rfl
/-- A number out of a text, far below the order. -/
def scB (s : ByteArray) : Bs := #[0] ++ s.data.extract 0 31 ++ Array.replicate (31 - s.size) 0
theorem scB_size (s : ByteArray) : (scB s).size = 32 := by
  unfold scB
  have hl : s.data.size = s.size := rfl
  simp only [Array.size_append, Array.size_extract, Array.size_replicate, hl, List.size_toArray, List.length_cons, List.length_nil]
  omega
theorem scB_0 (s : ByteArray) : (scB s)[0]! = 0 := by
  unfold scB
  rw [getElem!_pos _ 0 (by simp; omega), Array.getElem_append_left (by simp; omega), Array.getElem_append_left (by simp)]
  rfl
theorem scB_at (s : ByteArray) (j : Nat) (h1 : j < s.size) (h2 : j < 31) : (scB s)[1 + j]! = s.data[j]'h1 := by
  have hl : s.data.size = s.size := rfl
  unfold scB
  rw [getElem!_pos _ (1 + j) (by simp; omega), Array.getElem_append_left (by simp; omega), Array.getElem_append_right (by simp)]
  simp
theorem scB_end (s : ByteArray) (j : Nat) (h1 : s.size ≤ j) (h2 : j < 31) : (scB s)[1 + j]! = 0 := by
  have hl : s.data.size = s.size := rfl
  unfold scB
  rw [getElem!_pos _ (1 + j) (by simp; omega), Array.getElem_append_right (by simp; omega)]
  simp
theorem beV_lt (l : List UInt8) : beV l < 256 ^ l.length := by
  induction l with
  | nil => decide
  | cons x r ih =>
    have h := beV_append [x] r
    rw [show [x] ++ r = x :: r from rfl] at h
    have hx : beV [x] = x.toNat := by simp [beV]
    have hx2 := x.toNat_lt
    rw [h, hx, List.length_cons, Nat.pow_succ, Nat.mul_comm (256 ^ r.length)]
    have := Nat.mul_le_mul_right (256 ^ r.length) (show x.toNat + 1 ≤ 256 by omega)
    rw [Nat.add_mul, Nat.one_mul] at this
    omega
theorem scB_lt (s : ByteArray) : beV (scB s).toList < 2 ^ 248 := by
  have e : (scB s).toList = [0] ++ (s.data.extract 0 31 ++ Array.replicate (31 - s.size) 0).toList := by
    unfold scB
    simp
  have hl : (s.data.extract 0 31 ++ Array.replicate (31 - s.size) 0).toList.length = 31 := by
    have := scB_size s
    unfold scB at this
    simp only [Array.size_append, List.size_toArray, List.length_cons, List.length_nil] at this
    rw [Array.length_toList, Array.size_append]
    omega
  have h := beV_lt (s.data.extract 0 31 ++ Array.replicate (31 - s.size) 0).toList
  rw [e, beV_append, show beV [0] = 0 from rfl, Nat.zero_mul, Nat.zero_add]
  rw [hl] at h
  exact h
theorem mk32 (w : World) : (Instr.makeSlice 24 (.int .i64 32) (.int .i64 32)).run Tryz.prog w = .ok (.slice (some ⟨w.heap.size, 0, none⟩) 32 32) (w.alloc (.cells (madeCells #[.int .u8 0] 32) 5)) :=
  run_make_row' (P := Tryz.prog) 24 5 (.int .u8 0) 1 und23 info5b rfl .i64 .i64 32 (by decide) (by decide) w
end Go.Proofs.YtmepmoalhgehhaaGreatDoor
namespace Go.Proofs.YtmepmoalhgehhaaGreatDoor
open Go.RowKit Go.Sort Go.Deep
variable {N : Nat}
theorem nuV_top (bs : Bs) : nuV bs < top := by
  unfold nuV
  split
  · rename_i h
    have h1 := beV_lt bs.toList
    rw [Array.length_toList, h] at h1
    exact h1
  · unfold top; omega
theorem qZero_c {m : Nat} (hm : m < top) : Gives 33 #[nv m] (.bool (decide (m = 0))) := fun w => rZero_any _ m (four_nv hm) w
/-- Is it a secret? -/
def sec (N : Nat) (bs : Bs) : Bool := (rq N bs).isSome && !decide (nuV bs = 0)
theorem cat2 (A B : Bs) (ha : A.size ≤ 1000000) (hb : B.size ≤ 1000000) (w : World) : (binOp .add 9 (.string ⟨A⟩) (.string ⟨B⟩)).run Tryz.prog w = .ok (.string ⟨A ++ B⟩) w := by
  have h2 : (⟨A⟩ : ByteArray) ++ ⟨B⟩ = ⟨A ++ B⟩ := by
    have h3 : ((⟨A⟩ : ByteArray) ++ ⟨B⟩).data = A ++ B := ByteArray.data_append
    rw [← h3]
  have h4 : Array.size A + Array.size B ≤ 9223372036854775807 := by omega
  go_simp
variable {P : Nat} [NeZero P]
def FQs_0 : List RG.It := [.x 4 [] (.string ⟨#[]⟩), .x 5 [] (.int .i64 0)]
def FQs_1 (sk : ByteArray) (x : Nat) (ok : Bool) : List RG.It := [.x 14 [] (.string sk), .c 15 [(14, 0)] (.tuple #[nv x, .bool ok]), .x 13 [(15, 1)] (.tuple #[nv x, .bool ok]), .x 16 [(13, 2)] (nv x), .x 17 [(13, 2)] (.bool ok), .m 6 [] 0, .u [(6, 5), (16, 3)] 0, .x 7 [(17, 4)] (.bool ok)]
def FQs_2 (ok : Bool) : List RG.It := [.x 18 [] (.bool ok), .x 19 [(18, 0)] (.bool (!ok))]
/-- What a signature is. -/
noncomputable def sgn (P : Nat) [NeZero P] (N : Nat) (sk tx : ByteArray) : Bs :=
  wr (EC.mul (chL N [110, 111, 110, 99, 101, 32, 115, 105, 103, 110] [sk.data.toList, tx.data.toList]) (gG P)) ++
    bx (sPl N (chL N [110, 111, 110, 99, 101, 32, 115, 105, 103, 110] [sk.data.toList, tx.data.toList])
      (sTi N (asg N (wr (EC.mul (nuV sk.data) (gG P))).toList (wr (EC.mul (chL N [110, 111, 110, 99, 101, 32, 115, 105, 103, 110] [sk.data.toList, tx.data.toList]) (gG P))).toList tx.data.toList) (nuV sk.data)))
theorem tm_frac (C : Fl3 P) {n : Nat} (hn : n < top) : FracT (tmF n (gT P) 256) (EC.mul n (gG P)) := by
  have h := tmF_F C (n := n) (by unfold top at hn; omega) (gT_frac C.toFld) 256 (Nat.le_refl _)
  rwa [Nat.sub_self, Nat.pow_zero, Nat.div_one] at h
end Go.Proofs.YtmepmoalhgehhaaGreatDoor
namespace Go.Proofs.YtmepmoalhgehhaaGreatDoor
open Go.RowKit Go.Sort Go.Deep
theorem undCP : Tryz.prog.underlying 52 = some (.array 33 5) := by kernel_rfl
theorem bl33_lit {b : Bs} (h : b.size = 33) : bl33 b = [.int .u8 (ub b[0]!), .int .u8 (ub b[1]!), .int .u8 (ub b[2]!), .int .u8 (ub b[3]!), .int .u8 (ub b[4]!), .int .u8 (ub b[5]!), .int .u8 (ub b[6]!), .int .u8 (ub b[7]!), .int .u8 (ub b[8]!), .int .u8 (ub b[9]!), .int .u8 (ub b[10]!), .int .u8 (ub b[11]!), .int .u8 (ub b[12]!), .int .u8 (ub b[13]!), .int .u8 (ub b[14]!), .int .u8 (ub b[15]!), .int .u8 (ub b[16]!), .int .u8 (ub b[17]!), .int .u8 (ub b[18]!), .int .u8 (ub b[19]!), .int .u8 (ub b[20]!), .int .u8 (ub b[21]!), .int .u8 (ub b[22]!), .int .u8 (ub b[23]!), .int .u8 (ub b[24]!), .int .u8 (ub b[25]!), .int .u8 (ub b[26]!), .int .u8 (ub b[27]!), .int .u8 (ub b[28]!), .int .u8 (ub b[29]!), .int .u8 (ub b[30]!), .int .u8 (ub b[31]!), .int .u8 (ub b[32]!)] := by
  apply List.ext_getElem?
  intro i
  by_cases hi : i < 33
  · rw [bl33_at b i (by omega)]
    match i, hi with
    | 0, _ => rfl
    | 1, _ => rfl
    | 2, _ => rfl
    | 3, _ => rfl
    | 4, _ => rfl
    | 5, _ => rfl
    | 6, _ => rfl
    | 7, _ => rfl
    | 8, _ => rfl
    | 9, _ => rfl
    | 10, _ => rfl
    | 11, _ => rfl
    | 12, _ => rfl
    | 13, _ => rfl
    | 14, _ => rfl
    | 15, _ => rfl
    | 16, _ => rfl
    | 17, _ => rfl
    | 18, _ => rfl
    | 19, _ => rfl
    | 20, _ => rfl
    | 21, _ => rfl
    | 22, _ => rfl
    | 23, _ => rfl
    | 24, _ => rfl
    | 25, _ => rfl
    | 26, _ => rfl
    | 27, _ => rfl
    | 28, _ => rfl
    | 29, _ => rfl
    | 30, _ => rfl
    | 31, _ => rfl
    | 32, _ => rfl
    | n + 33, h => exact absurd h (by omega)
  · rw [List.getElem?_eq_none (by rw [bl33_length h]; omega), List.getElem?_eq_none (by show 33 ≤ i; omega)]
theorem bytes_eq {a b : Bs} (ha : a.size = 33) (hb : b.size = 33) : (∀ i ∈ List.range 33, ub a[i]! = ub b[i]!) ↔ a = b := by
  constructor
  · intro h
    apply Array.ext (by rw [ha, hb])
    intro i h1 h2
    have h3 := h i (List.mem_range.2 (by omega))
    rw [getElem!_pos a i h1, getElem!_pos b i h2] at h3
    have h4 : a[i].toNat = b[i].toNat := by unfold ub at h3; omega
    exact UInt8.toNat_inj.1 h4
  · rintro rfl i _
    rfl
theorem eqCP {a b : Bs} (ha : a.size = 33) (hb : b.size = 33) (w : World) : (Op.equal 52 (.agg (bl33 a).toArray) (.agg (bl33 b).toArray)).run Tryz.prog w = .ok (decide (a = b)) w := by
  have hi : (Tryz.prog.info? 5).isSome = true := by kernel_rfl
  obtain ⟨inf, hinf⟩ := Option.isSome_iff_exists.1 hi
  show (Op.equalIn 10000 52 _ _).run Tryz.prog w = _
  rw [run_equalIn_array w 9999 _ _ undCP hinf, cells5,
    eqI _ _ (fun i => ub a[i]!) (fun i => ub b[i]!) 9998 w (List.range 33) (fun i hi => by
      rw [List.getElem?_toArray]
      exact bl33_at a i (by rw [ha]; exact List.mem_range.1 hi)) (fun i hi => by
      rw [List.getElem?_toArray]
      exact bl33_at b i (by rw [hb]; exact List.mem_range.1 hi))]
  rw [decide_eq_decide.2 (bytes_eq ha hb)]
set_option maxRecDepth 100000 in
theorem checkCP {b : Bs} (hb : b.size = 33) (e : Bool) (w : World) : (Instr.checkKey e 10000 52 (.agg (bl33 b).toArray)).run Tryz.prog w = .ok () w := by
  rw [bl33_lit hb]
  kernel_rfl
/-- Which of the keys is it? -/
def at? (b : Bs) : List Bs → Nat → Option Nat
  | [], _ => none
  | k :: r, i => if b = k then some i else at? b r (i + 1)
/-- The map: each key with its place. -/
def ents : List Bs → Nat → List MapEntry
  | [], _ => []
  | k :: r, i => { key := .agg (bl33 k).toArray, val := .int .i64 (i : Int), born := i } :: ents r (i + 1)
theorem find_run {b : Bs} (hb : b.size = 33) (w : World) : ∀ (D : List Bs) (i : Nat), (∀ k ∈ D, k.size = 33) → (Instr.findAsking 52 (.agg (bl33 b).toArray) (ents D i) i).run Tryz.prog w = .ok ((at? b D i).map fun j => (j, .int .i64 (j : Int))) w
  | [], i, _ => rfl
  | k :: r, i, h => by
    have ih := find_run hb w r (i + 1) (fun x hx => h x (List.mem_cons_of_mem _ hx))
    have he := eqCP hb (h k List.mem_cons_self) w
    unfold ents Instr.findAsking at?
    simp only [Sem.run_bind, he, Result.andThen_ok]
    by_cases hk : b = k
    · simp only [hk, decide_true, if_true, Sem.run_pure, Option.map_some]
    · simp only [hk, decide_false, Bool.false_eq_true, if_false, ih]
theorem key_run {b : Bs} (hb : b.size = 33) (D : List Bs) (h : ∀ k ∈ D, k.size = 33) (w : World) : (Instr.findKey 52 (.agg (bl33 b).toArray) (ents D 0)).run Tryz.prog w = .ok ((at? b D 0).map fun j => (j, .int .i64 (j : Int))) w := by
  have hu : (underlying 52).run Tryz.prog w = .ok (.array 33 5) w := run_underlying undCP w
  unfold Instr.findKey
  rw [Sem.run_bind, hu, Result.andThen_ok]
  cases D with
  | nil => rfl
  | cons k r =>
    have h1 : Instr.findNow (.array 33 5) (.agg (bl33 b).toArray) (ents (k :: r) 0) 0 = none := rfl
    simp only [h1]
    exact find_run hb w (k :: r) 0 h
theorem at?_none {b : Bs} : ∀ {D : List Bs} {i : Nat}, at? b D i = none ↔ b ∉ D
  | [], i => by simp [at?]
  | k :: r, i => by
    unfold at?
    by_cases h : b = k
    · simp [h]
    · simp [h, at?_none (D := r) (i := i + 1)]
end Go.Proofs.YtmepmoalhgehhaaGreatDoor
namespace Go.Proofs.YtmepmoalhgehhaaGreatDoor
open Go.RowKit Go.Sort Go.Deep
section
variable {P : Program} {ops : Array Oper} {rest : List Oper} {op : Oper} {a : Act} {w w' : World} {v u : Value} {Q : Exit → Act → World → Prop}
theorem wpList_box (hgd : op.guard = none) (T : TypeId) (x : Operand) (ho : op.op = .box T x) (hx : a.eval x = u) (hr : (Instr.box T u).run P w = .ok v w') (h : wpList P ops Q rest (a.put op.dst v) w') : wpList P ops Q (op :: rest) a w :=
  wpList_plain hgd fun K hK => by
    unfold Oper.wp execOp
    simp only [ho, hx, Sem.run_bind, hr, Result.andThen_ok, Sem.run_pure]
    exact hK _ _ h
end
variable {N : Nat}
theorem infoCP : (Tryz.prog.info? 52).map (·.size) = some 33 := by kernel_rfl
theorem uCP : (Tryz.prog.underlying 52).map (·.isRow) = some true := by kernel_rfl
set_option maxRecDepth 100000 in
theorem boxCP {a : Bs} (ha : a.size = 33) (w : World) : (Instr.box 52 (.agg (bl33 a).toArray)).run Tryz.prog w = .ok (.pointer (some ⟨w.heap.size, 0, none⟩)) (w.alloc (.cells (bl33 a).toArray 52)) := by
  rw [bl33_lit ha]
  kernel_rfl
theorem slCP (k : Nat) (w : World) : (Instr.sliceAt 52 (.pointer (some ⟨k, 0, none⟩)) none none none).run Tryz.prog w = .ok (.slice (some ⟨k, 0, none⟩) 33 33) w := by kernel_rfl
theorem row_holds {W : World} {k : Nat} {a : Bs} (h : Row W k (bl33 a)) : Holds encB W k 0 a := cb_holds h.2.1 h.2.2
theorem row_part {W : World} {k : Nat} {a : Bs} (ha : a.size = 33) (h : Row W k (bl33 a)) : SP.PartOk W (.slice (some ⟨k, 0, none⟩) 33 33) a.toList :=
  ⟨_, k, 0, 33, a, by rw [ha], rfl, by omega, by omega, Or.inr ⟨rfl, row_holds h⟩⟩
theorem sp_h {W : World} {r : Nat} {L : Bs} (h : Holds encB W r 0 L) : Holds SP.encB W r 0 L := h
theorem sp_k {W : World} {r : Nat} {L : Bs} (h : Holds SP.encB W r 0 L) : Holds encB W r 0 L := h
/-- What is kept while a log is told things. -/
structure Sx (w W : World) (k3 k4 k6 k7 r : Nat) (a b L : Bs) : Prop where
  bl : Below w.heap.size w W
  r3 : Row W k3 (bl33 a)
  r4 : Row W k4 (bl33 b)
  r6 : Row W k6 [.int .u64 0, .int .u64 0, .int .u64 0, .int .u64 0]
  r7 : Row W k7 [.pointer (some ⟨r, 0, none⟩)]
  lg : Holds encB W r 0 L
structure Sn (w : World) (k3 k4 k6 k7 r : Nat) : Prop where
  lr : w.heap.size ≤ r
  n3 : k3 ≠ r
  n4 : k4 ≠ r
  n6 : k6 ≠ r
  n7 : k7 ≠ r
  l6 : w.heap.size ≤ k6
theorem Sx.say {w W W' : World} {k3 k4 k6 k7 r : Nat} {a b L L' : Bs} (h : Sx w W k3 k4 k6 k7 r a b L) (n : Sn w k3 k4 k6 k7 r) (hO : SP.Only r 0 32 W W') (hL : Holds encB W' r 0 L') : Sx w W' k3 k4 k6 k7 r a b L' :=
  ⟨h.bl.trans (hO.below h.bl.size n.lr), h.r3.only hO n.n3, h.r4.only hO n.n4, h.r6.only hO n.n6, h.r7.only hO n.n7, hL⟩
theorem Sx.drew {w W : World} {k3 k4 k6 k7 r : Nat} {a b L : Bs} (h : Sx w W k3 k4 k6 k7 r a b L) : Sx w W.drew k3 k4 k6 k7 r a b L := ⟨h.bl.drew, h.r3, h.r4, h.r6, h.r7, h.lg⟩
theorem Sx.cell {w W : World} {k3 k4 k6 k7 r : Nat} {a b L : Bs} (h : Sx w W k3 k4 k6 k7 r a b L) : W.cell? ⟨k7, 0, none⟩ = some (.pointer (some ⟨r, 0, none⟩)) := h.r7.2.1 0 _ rfl
end Go.Proofs.YtmepmoalhgehhaaGreatDoor
namespace Go.Proofs.YtmepmoalhgehhaaGreatDoor
open Go.RowKit Go.Sort Go.Deep
variable {N : Nat}
theorem neS {a : Nat} (ha : a < top) (w : World) : (binOp .neq 47 (nv a) (nv 0)).run Tryz.prog w = .ok (.bool (!decide (a = 0))) w := by
  have h := eqS ha (show 0 < top by unfold top; omega) w
  have h1 : (binOp .eql 47 (nv a) (nv 0)).run Tryz.prog w = (Op.equal 47 (nv a) (nv 0) >>= fun b => pure (Value.bool b)).run Tryz.prog w := rfl
  have h2 : (binOp .neq 47 (nv a) (nv 0)).run Tryz.prog w = (Op.equal 47 (nv a) (nv 0) >>= fun b => pure (Value.bool (!b))).run Tryz.prog w := rfl
  rw [h1, Sem.run_bind] at h
  rw [h2, Sem.run_bind]
  cases he : (Op.equal 47 (nv a) (nv 0)).run Tryz.prog w with
  | ok r w2 =>
    rw [he] at h
    simp only [Result.andThen_ok, Sem.run_pure, Result.ok.injEq, Value.bool.injEq] at h ⊢
    rw [h.1, h.2]
    exact ⟨rfl, rfl⟩
  | halt r w2 =>
    rw [he] at h
    cases h
theorem nv0 : nv 0 = .agg #[.int .u64 0, .int .u64 0, .int .u64 0, .int .u64 0] := rfl
end Go.Proofs.YtmepmoalhgehhaaGreatDoor
namespace Go.Proofs.YtmepmoalhgehhaaGreatDoor
open Go.RowKit Go.Sort Go.Deep
variable {P : Nat} [NeZero P]
theorem arrCP (g cg : Nat) (w : World) : (Instr.arrayAt 52 (.slice (some ⟨g, 0, none⟩) 33 cg)).run Tryz.prog w = .ok (.pointer (some ⟨g, 0, none⟩)) w := by kernel_rfl
theorem row_cp {W : World} {k : Nat} {a : Bs} (ha : Holds encB W k 0 a) (hk : k < W.heap.size) : Row W k (bl33 a) := ⟨hk, (cb_range ha).1, (cb_range ha).2⟩
theorem bl33_one (a : Bs) : (bl33 a).toArray.all (·.oneCell') = true := by
  rw [Array.all_eq_true']
  intro v hv
  obtain ⟨x, -, rfl⟩ := List.mem_map.1 (List.mem_toArray.1 hv)
  rfl
/-- A point as a value. -/
def pvl (a : Bs) : Value := .agg (bl33 a).toArray
set_option maxHeartbeats 1000000 in
set_option maxRecDepth 100000 in
theorem gen_c (C : Fld P) : Gives 17 #[] (pvl (wr (gG P))) := by
  intro w
  obtain ⟨T, hT⟩ : ∃ T, Hid (wr (gG P) = T) := ⟨_, rfl⟩
  have hTs : T.size = 33 := by rw [← hT.out]; exact wr_size _
  rw [hT.out]
  obtain ⟨w1, hw1⟩ : ∃ w1, Hid (w.alloc (.cells z33.toArray 52) = w1) := ⟨_, rfl⟩
  have K1 : Hid (Row w1 w.heap.size z33 ∧ Below w.heap.size w w1) := by rw [← hw1.out]; exact ⟨row_new w _ _, below1 w _⟩
  obtain ⟨d, hd1, hd2⟩ := Option.map_eq_some_iff.1 uCP
  have HD : Hid (Tryz.prog.underlying 52 = some d ∧ d.isRow = true) := ⟨hd1, hd2⟩
  clear hd1 hd2
  go_enter Tryz.func17, Tryz.ntmps17
  go_wp2_with (refine wpList_op (v := .pointer (some ⟨w.heap.size, 0, none⟩)) (w' := w1) rfl (.alloc 52) rfl ?_ ?_; (rw [← hw1.out]; kernel_rfl))
  refine (Base_c C w1).mono ?_
  rintro e w2 ⟨vv, rfl, hb2, g, cg, rfl, -, k2, k3, k4⟩
  rw [hT.out] at k4
  have K2 : Hid (Row w2 w.heap.size z33 ∧ Below w.heap.size w w2 ∧ Row w2 g (bl33 T)) := ⟨K1.out.1.below hb2, K1.out.2.trans (hb2.mono K1.out.2.size), row_cp k4 k3⟩
  clear hb2 k2 k3 k4 K1 hw1
  have harr := arrCP g cg
  obtain ⟨w3, hw3⟩ : ∃ w3, Hid (w2.setCells w.heap.size 0 (bl33 T) = w3) := ⟨_, rfl⟩
  have hlen : (bl33 T).length = 33 := bl33_length hTs
  have K3 : Hid (Row w3 w.heap.size (bl33 T) ∧ Below w.heap.size w w3) := by rw [← hw3.out]; exact ⟨K2.out.1.put (by rw [hlen]; rfl), RG.below_setCells (Nat.le_refl _) _ _ _ K2.out.2.1⟩
  obtain ⟨vt, hvt⟩ : ∃ vt, Hid (Value.agg (bl33 T).toArray = vt) := ⟨_, rfl⟩
  have HI : Hid ((Tryz.prog.info? 52).map (·.size) = some (bl33 T).length ∧ w2.there w.heap.size 0 (bl33 T).toArray.size ∧ (Tryz.prog.info? 52).map (·.size) = some (bl33 T).toArray.size) := by
    have e : (bl33 T).toArray.size = 33 := by rw [List.size_toArray]; exact hlen
    refine ⟨by rw [hlen]; exact infoCP, by rw [e]; exact K2.out.1.2.2, by rw [e]; exact infoCP⟩
  clear hlen
  go_wp2_with (first | (refine wpList_load_mid rfl 52 _ rfl g 0 ?_ (bl33 T) d ?_ ?_ ?_ ?_ ?_; rfl; exact K2.out.2.2.2.1; exact HD.out.1; exact HD.out.2; exact HI.out.1; rw [hvt.out]) | (refine wpList_store_mid rfl 52 _ _ rfl w.heap.size 0 (bl33 T).toArray ?_ ?_ ?_ ?_ ?_ ?_; rfl; exact hvt.out.symm; exact HI.out.2.1; exact HI.out.2.2; exact bl33_one T; rw [show (bl33 T).toArray.toList = bl33 T from rfl, hw3.out]))
  refine bodyPost_ret (results_cell 0 52 rfl K3.out.1 rfl uCP HI.out.1) rfl ?_
  exact ⟨_, rfl, K3.out.2, rfl⟩
end Go.Proofs.YtmepmoalhgehhaaGreatDoor
