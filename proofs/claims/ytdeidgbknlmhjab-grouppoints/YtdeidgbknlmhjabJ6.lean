import Derived.Test.YtdeidgbknlmhjabJ5
namespace Go.Proofs.Ytdeidgbknlmhjab
open Go.RowKit Go.Sort

theorem powS_of {w W : World} {k0 k1 k2 k3 k4 j a b c d p q r s pa pb pc pd g0 g1 g2 : Nat} (h : Kept w k0 [⟨k0, 0, g0, g1, g2, 0⟩, ⟨k4, j * 4, pa, pb, pc, pd⟩, ⟨k1, 0, a, b, c, d⟩, ⟨k2, 0, p, q, r, s⟩, ⟨k3, 0, 0, 0, 0, 0⟩] W) : W.cell? ⟨k0, 0, none⟩ = some (.int .u64 (g0 : Int)) ∧ W.cell? ⟨k0, 1, none⟩ = some (.int .u64 (g1 : Int)) ∧ W.cell? ⟨k0, 2, none⟩ = some (.int .u64 (g2 : Int)) ∧ W.cell? ⟨k0, 3, none⟩ = some (.int .u64 0) ∧ W.cell? ⟨k4, j * 4, none⟩ = some (.int .u64 (pa : Int)) ∧ W.cell? ⟨k4, j * 4 + 1, none⟩ = some (.int .u64 (pb : Int)) ∧ W.cell? ⟨k4, j * 4 + 2, none⟩ = some (.int .u64 (pc : Int)) ∧ W.cell? ⟨k4, j * 4 + 3, none⟩ = some (.int .u64 (pd : Int)) ∧ W.cell? ⟨k1, 0, none⟩ = some (.int .u64 (a : Int)) ∧ W.cell? ⟨k1, 1, none⟩ = some (.int .u64 (b : Int)) ∧ W.cell? ⟨k1, 2, none⟩ = some (.int .u64 (c : Int)) ∧ W.cell? ⟨k1, 3, none⟩ = some (.int .u64 (d : Int)) ∧ Kept w k0 [⟨k0, 0, g0, g1, g2, 0⟩, ⟨k4, j * 4, pa, pb, pc, pd⟩, ⟨k1, 0, a, b, c, d⟩, ⟨k2, 0, p, q, r, s⟩, ⟨k3, 0, 0, 0, 0, 0⟩] W :=
  ⟨h.head.c0, h.head.c1, h.head.c2, h.head.c3, h.tail.head.c0, h.tail.head.c1, h.tail.head.c2, h.tail.head.c3, h.tail.tail.head.c0, h.tail.tail.head.c1, h.tail.tail.head.c2, h.tail.tail.head.c3, h⟩
theorem powT_of {w W : World} {k0 k1 k2 k3 k4 k5 m P a b c d p q r s na nb nc nd g0 g1 g2 : Nat} (h : Kept w k0 (⟨k5, 0, na, nb, nc, nd⟩ :: [⟨k0, 0, g0, g1, g2, 0⟩, ⟨k1, 0, a, b, c, d⟩, ⟨k2, 0, p, q, r, s⟩, ⟨k3, 0, 0, 0, 0, 0⟩]) W) (t : Tab W k4 m P 16) : W.cell? ⟨k0, 0, none⟩ = some (.int .u64 (g0 : Int)) ∧ W.cell? ⟨k0, 1, none⟩ = some (.int .u64 (g1 : Int)) ∧ W.cell? ⟨k0, 2, none⟩ = some (.int .u64 (g2 : Int)) ∧ W.cell? ⟨k0, 3, none⟩ = some (.int .u64 0) ∧ W.cell? ⟨k5, 0, none⟩ = some (.int .u64 (na : Int)) ∧ W.cell? ⟨k5, 1, none⟩ = some (.int .u64 (nb : Int)) ∧ W.cell? ⟨k5, 2, none⟩ = some (.int .u64 (nc : Int)) ∧ W.cell? ⟨k5, 3, none⟩ = some (.int .u64 (nd : Int)) ∧ W.cell? ⟨k2, 0, none⟩ = some (.int .u64 (p : Int)) ∧ W.cell? ⟨k2, 1, none⟩ = some (.int .u64 (q : Int)) ∧ W.cell? ⟨k2, 2, none⟩ = some (.int .u64 (r : Int)) ∧ W.cell? ⟨k2, 3, none⟩ = some (.int .u64 (s : Int)) ∧ Kept w k0 (⟨k5, 0, na, nb, nc, nd⟩ :: [⟨k0, 0, g0, g1, g2, 0⟩, ⟨k1, 0, a, b, c, d⟩, ⟨k2, 0, p, q, r, s⟩, ⟨k3, 0, 0, 0, 0, 0⟩]) W ∧ Tab W k4 m P 16 :=
  ⟨h.tail.head.c0, h.tail.head.c1, h.tail.head.c2, h.tail.head.c3, h.head.c0, h.head.c1, h.head.c2, h.head.c3, h.tail.tail.tail.head.c0, h.tail.tail.tail.head.c1, h.tail.tail.tail.head.c2, h.tail.tail.tail.head.c3, h, t⟩
/-- A store into another place of the table. -/
theorem pow_put {w W : World} {k0 k1 k2 k3 k4 j i a b c d p q r s pa pb pc pd g0 g1 g2 : Nat} (h : Kept w k0 [⟨k0, 0, g0, g1, g2, 0⟩, ⟨k4, j * 4, pa, pb, pc, pd⟩, ⟨k1, 0, a, b, c, d⟩, ⟨k2, 0, p, q, r, s⟩, ⟨k3, 0, 0, 0, 0, 0⟩] W) (hk : k0 ≤ k4) (h0 : k4 ≠ k0) (h1 : k4 ≠ k1) (h2 : k4 ≠ k2) (h3 : k4 ≠ k3) (hi : i < j * 4 ∨ j * 4 + 3 < i) (v : Value) : Kept w k0 [⟨k0, 0, g0, g1, g2, 0⟩, ⟨k4, j * 4, pa, pb, pc, pd⟩, ⟨k1, 0, a, b, c, d⟩, ⟨k2, 0, p, q, r, s⟩, ⟨k3, 0, 0, 0, 0, 0⟩] (W.setCell ⟨k4, i, none⟩ v) := by
  refine ((((((Kept.mk1 (h.bl.setCell (p := ⟨k4, i, none⟩) hk v) (by simpa using h.le)).cons ?_).cons ?_).cons ?_).cons ?_).cons ?_)
  · exact h.tail.tail.tail.tail.head.other h3 v
  · exact h.tail.tail.tail.head.other h2 v
  · exact h.tail.tail.head.other h1 v
  · exact h.tail.head.off hi v
  · exact h.head.other h0 v

theorem pow_puts {w W : World} {k0 k1 k2 k3 k4 j i a b c d p q r s pa pb pc pd g0 g1 g2 : Nat} (h : Kept w k0 [⟨k0, 0, g0, g1, g2, 0⟩, ⟨k4, j * 4, pa, pb, pc, pd⟩, ⟨k1, 0, a, b, c, d⟩, ⟨k2, 0, p, q, r, s⟩, ⟨k3, 0, 0, 0, 0, 0⟩] W) (hk : k0 ≤ k4) (h0 : k4 ≠ k0) (h1 : k4 ≠ k1) (h2 : k4 ≠ k2) (h3 : k4 ≠ k3)
    (o0 : i * 4 < j * 4 ∨ j * 4 + 3 < i * 4) (o1 : i * 4 + 1 < j * 4 ∨ j * 4 + 3 < i * 4 + 1) (o2 : i * 4 + 2 < j * 4 ∨ j * 4 + 3 < i * 4 + 2) (o3 : i * 4 + 3 < j * 4 ∨ j * 4 + 3 < i * 4 + 3) (x y z t : Value) :
    Kept w k0 [⟨k0, 0, g0, g1, g2, 0⟩, ⟨k4, j * 4, pa, pb, pc, pd⟩, ⟨k1, 0, a, b, c, d⟩, ⟨k2, 0, p, q, r, s⟩, ⟨k3, 0, 0, 0, 0, 0⟩] ((((W.setCell ⟨k4, i * 4, none⟩ x).setCell ⟨k4, i * 4 + 1, none⟩ y).setCell ⟨k4, i * 4 + 2, none⟩ z).setCell ⟨k4, i * 4 + 3, none⟩ t) :=
  pow_put (pow_put (pow_put (pow_put h hk h0 h1 h2 h3 o0 x) hk h0 h1 h2 h3 o1 y) hk h0 h1 h2 h3 o2 z) hk h0 h1 h2 h3 o3 t

set_option maxHeartbeats 4000000 in
set_option maxRecDepth 100000 in
theorem power_any (g0 g1 g2 P : Nat) (x y : Value) (m n : Nat) (hG : Gap g0 g1 g2 P) (hx : Four x m) (hy : Four y n) (w : World) :
    Calls Try.prog 91 #[.agg #[.int .u64 (g0 : Int), .int .u64 (g1 : Int), .int .u64 (g2 : Int), .int .u64 0], x, y] w (Ret fun e w' => Below w.heap.size w w' ∧ Four e (m ^ n % P)) := by
  obtain ⟨a, b, c, d, rfl, ha, hb, hc, hd, em⟩ := id hx
  obtain ⟨p, q, r, s, rfl, hp, hq, hr, hs, en⟩ := id hy
  have HX : Hid (Four _ m) := hx
  have HY : Hid (Four _ n) := hy
  have HG : Hid (Gap g0 g1 g2 P) := hG
  clear em en hx hy ha hb hc hd hp hq hr hs hG
  go_enter Try.func91, Try.ntmps91
  go_upto_region 1 with fail
  have KP := kept4 w 79 85 85 85 g0 g1 g2 0 a b c d p q r s 0 0 0 0
  simp only [Int.natCast_zero] at KP
  generalize World.alloc _ _ = W0 at KP ⊢
  have zv := zeroT
  have hpz : ¬ pwz.size < 4 := by decide
  have hgr : (W0.alloc (.cells pwz 147)).heap[W0.heap.size]? = some (.cells pwz 147 (0, 0)) := newest W0 _
  go_wp2_with (first | refine wpList_store_row rfl 147 _ _ rfl W0.heap.size pw0 rfl rfl 147 pwz hgr sizeT rfl oneT ?_)
  have TB := Tab.new W0 m P (by have := HG.out.hP2; have : 3 < top := by decide
                                omega)
  have hlt := KP.lts
  have Q4 : Hid (w.heap.size ≤ W0.heap.size) := KP.le
  replace KP := KP.call (below_tab W0)
  clear zv hgr hpz
  generalize World.setRow _ _ _ = W1 at KP TB ⊢
  generalize W0.heap.size = k4 at TB hlt Q4 ⊢
  generalize h3 : w.heap.size + 1 + 1 + 1 = k3 at KP hlt ⊢
  generalize h2 : w.heap.size + 1 + 1 = k2 at KP hlt ⊢
  generalize h1 : w.heap.size + 1 = k1 at KP hlt ⊢
  have Q3 : Hid (w.heap.size ≤ k3) := by unfold Hid; omega
  generalize h0 : w.heap.size = k0 at KP hlt Q3 Q4 ⊢
  have H0 : Hid (w.heap.size = k0) := h0
  have n40 : k4 ≠ k0 := Nat.ne_of_gt (hlt _ (List.mem_cons_self))
  have n41 : k4 ≠ k1 := Nat.ne_of_gt (hlt ⟨k1, 0, a, b, c, d⟩ (by simp))
  have n42 : k4 ≠ k2 := Nat.ne_of_gt (hlt ⟨k2, 0, p, q, r, s⟩ (by simp))
  have n43 : k4 ≠ k3 := Nat.ne_of_gt (hlt ⟨k3, 0, 0, 0, 0, 0⟩ (by simp))
  clear h0 h1 h2 h3 hlt
  generalize pwz.setIfInBounds 0 (Value.int IntKind.u64 1) = zz
  go_loopg [8] 15 (fun gk s8 wr => ∃ i : Nat, i + gk = 16 ∧ 1 ≤ i ∧ s8 = .int .i64 (i : Int) ∧ Kept w k0 [⟨k0, 0, g0, g1, g2, 0⟩, ⟨k1, 0, a, b, c, d⟩, ⟨k2, 0, p, q, r, s⟩, ⟨k3, 0, 0, 0, 0, 0⟩] wr ∧ Tab wr k4 m P i)
  case atStart => exact ⟨1, rfl, Nat.le_refl _, rfl, KP, TB⟩
  case round =>
    clear KP TB
    obtain ⟨i, hi, hi1, rfl, KP0, TB⟩ := hrel
    by_cases hlt : i < 16
    · obtain ⟨j, hji⟩ : ∃ j, i = j + 1 := ⟨i - 1, by omega⟩
      obtain ⟨pa, pb, pc, pd, BJ, hFJ⟩ := TB j (by omega)
      have HFJ : Hid (Four _ (m ^ j % P)) := hFJ (by omega)
      have KP : Kept w k0 [⟨k0, 0, g0, g1, g2, 0⟩, ⟨k4, j * 4, pa, pb, pc, pd⟩, ⟨k1, 0, a, b, c, d⟩, ⟨k2, 0, p, q, r, s⟩, ⟨k3, 0, 0, 0, 0, 0⟩] wr := by
        refine ((((((Kept.mk1 KP0.bl KP0.le).cons ?_).cons ?_).cons ?_).cons ?_).cons ?_)
        · exact KP0.tail.tail.tail.head
        · exact KP0.tail.tail.head
        · exact KP0.tail.head
        · exact BJ
        · exact KP0.head
      clear KP0 BJ hFJ
      have hlt' : (i : Int) < 16 := by omega
      have e1 : (i : Int) - 1 = (j : Int) := by omega
      have hj16 : j < 16 := by omega
      have hj16i : (j : Int) < 16 := by omega
      have hw1 : IntKind.i64.wrap (j : Int) = (j : Int) := wrap_i _ (by omega)
      have HJ : Hid (i = j + 1) := hji
      have o0 : Hid (i * 4 < j * 4 ∨ j * 4 + 3 < i * 4) := by unfold Hid; omega
      have o1 : Hid (i * 4 + 1 < j * 4 ∨ j * 4 + 3 < i * 4 + 1) := by unfold Hid; omega
      have o2 : Hid (i * 4 + 2 < j * 4 ∨ j * 4 + 3 < i * 4 + 2) := by unfold Hid; omega
      have o3 : Hid (i * 4 + 3 < j * 4 ∨ j * 4 + 3 < i * 4 + 3) := by unfold Hid; omega
      clear hji
      go_upto_region 5 with fail
      go_region_held3 (fun w' => w'.cell? ⟨k0, 0, none⟩ = some (.int .u64 (g0 : Int)) ∧ w'.cell? ⟨k0, 1, none⟩ = some (.int .u64 (g1 : Int)) ∧ w'.cell? ⟨k0, 2, none⟩ = some (.int .u64 (g2 : Int)) ∧ w'.cell? ⟨k0, 3, none⟩ = some (.int .u64 0) ∧ w'.cell? ⟨k4, j * 4, none⟩ = some (.int .u64 (pa : Int)) ∧ w'.cell? ⟨k4, j * 4 + 1, none⟩ = some (.int .u64 (pb : Int)) ∧ w'.cell? ⟨k4, j * 4 + 2, none⟩ = some (.int .u64 (pc : Int)) ∧ w'.cell? ⟨k4, j * 4 + 3, none⟩ = some (.int .u64 (pd : Int)) ∧ w'.cell? ⟨k1, 0, none⟩ = some (.int .u64 (a : Int)) ∧ w'.cell? ⟨k1, 1, none⟩ = some (.int .u64 (b : Int)) ∧ w'.cell? ⟨k1, 2, none⟩ = some (.int .u64 (c : Int)) ∧ w'.cell? ⟨k1, 3, none⟩ = some (.int .u64 (d : Int)) ∧ Kept w k0 [⟨k0, 0, g0, g1, g2, 0⟩, ⟨k4, j * 4, pa, pb, pc, pd⟩, ⟨k1, 0, a, b, c, d⟩, ⟨k2, 0, p, q, r, s⟩, ⟨k3, 0, 0, 0, 0, 0⟩] w') (first | (with_reducible exact powS_of KP) | (with_reducible exact powS_of KP.drew) | (with_reducible exact powS_of (pow_puts KP Q4.out n40 n41 n42 n43 o0.out o1.out o2.out o3.out _ _ _ _)) | (with_reducible exact powS_of (pow_puts KP Q4.out n40 n41 n42 n43 o0.out o1.out o2.out o3.out _ _ _ _).drew) | fail) (first | (go_at_call 84; refine (four_any _ _ HX.out _).mono ?_; rintro e w1 ⟨v, rfl, hb1, rfl⟩; (first | (with_reducible (have KP1 := KP.drew.call hb1)) | (with_reducible (have KP1 := KP.call hb1)) | fail); (first | (with_reducible (have T1 := TB.drew.call hb1)) | (with_reducible (have T1 := TB.call hb1)) | fail); clear KP TB hb1; have KP := KP1; have TB := T1; clear KP1 T1) | (go_at_call 87; refine (product_any g0 g1 g2 P _ _ _ _ HG.out HFJ.out HX.out _).mono ?_; rintro e w1 ⟨v, rfl, hb1, hF3⟩; obtain ⟨a', b', c', d', rfl, ha', hb', hc', hd', es3⟩ := id hF3; clear es3; have HF3 : Hid (Four _ _) := hF3; clear hF3; (first | (with_reducible (have KP1 := KP.drew.call hb1)) | (with_reducible (have KP1 := KP.call hb1)) | fail); (first | (with_reducible (have T1 := TB.drew.call hb1)) | (with_reducible (have T1 := TB.call hb1)) | fail); clear KP TB hb1; have KP := KP1; have TB := T1; clear KP1 T1; obtain ⟨ya, yb, yc, yd, BI, hFI⟩ := TB i hlt; clear hFI; obtain ⟨tc0, tc1, tc2, tc3, tf⟩ := id BI; have zt := BI.lt; clear BI))
      go_wp2
      go_roundg (gk - 1)
      case measure => omega
      case rel =>
        have K3 := pow_puts KP Q4.out n40 n41 n42 n43 o0.out o1.out o2.out o3.out (.int .u64 (a' : Int)) (.int .u64 (b' : Int)) (.int .u64 (c' : Int)) (.int .u64 (d' : Int))
        refine ⟨i + 1, by omega, by omega, rfl, ?_, ?_⟩
        · exact ((((Kept.mk1 K3.bl K3.le).cons K3.tail.tail.tail.tail.head).cons K3.tail.tail.tail.head).cons K3.tail.tail.head).cons K3.head
        · refine TB.put hlt ?_
          have h1 := HF3.out
          rw [pow_step_mod, ← HJ.out] at h1
          exact h1
    · have hi16 : i = 16 := by omega
      subst hi16
      obtain ⟨pa, pb, pc, pd, BJ, hFJ⟩ := TB 0 (by decide)
      have HFJ : Hid (Four _ (m ^ 0 % P)) := hFJ (by decide)
      replace BJ : (Blk.mk k4 0 pa pb pc pd).at wr := BJ
      obtain ⟨tc0, tc1, tc2, tc3, tf⟩ := id BJ
      replace tc0 : wr.cell? ⟨k4, 0, none⟩ = some (.int .u64 (pa : Int)) := tc0
      replace tc1 : wr.cell? ⟨k4, 1, none⟩ = some (.int .u64 (pb : Int)) := tc1
      replace tc2 : wr.cell? ⟨k4, 2, none⟩ = some (.int .u64 (pc : Int)) := tc2
      replace tc3 : wr.cell? ⟨k4, 3, none⟩ = some (.int .u64 (pd : Int)) := tc3
      have zt := BJ.lt
      clear hFJ
      go_wp2
      clear tc0 tc1 tc2 tc3 tf zt
      have KN : Kept w k0 (⟨wr.heap.size, 0, pa, pb, pc, pd⟩ :: [⟨k0, 0, g0, g1, g2, 0⟩, ⟨k1, 0, a, b, c, d⟩, ⟨k2, 0, p, q, r, s⟩, ⟨k3, 0, 0, 0, 0, 0⟩]) _ := (KP0.alloc (.cells #[.int .u64 (pa : Int), .int .u64 (pb : Int), .int .u64 (pc : Int), .int .u64 (pd : Int)] 77)).cons (At4.made wr 77 pa pb pc pd rfl).blk
      have TN := TB.call (below1 wr (.cells #[.int .u64 (pa : Int), .int .u64 (pb : Int), .int .u64 (pc : Int), .int .u64 (pd : Int)] 77))
      have hlt5 := KP0.lts
      have n54 : wr.heap.size ≠ k4 := Nat.ne_of_gt BJ.lt
      have Q5 : Hid (k0 ≤ wr.heap.size) := KP0.le
      clear KP0 TB BJ
      generalize World.alloc _ _ = W5 at KN TN ⊢
      generalize wr.heap.size = k5 at KN hlt5 n54 Q5 ⊢
      have hl5 : ∀ x ∈ ([⟨k0, 0, g0, g1, g2, 0⟩, ⟨k1, 0, a, b, c, d⟩, ⟨k2, 0, p, q, r, s⟩, ⟨k3, 0, 0, 0, 0, 0⟩] : List Blk), k5 ≠ x.k := fun x hx => Nat.ne_of_gt (hlt5 x hx)
      have n50 : k5 ≠ k0 := hl5 _ (List.mem_cons_self)
      have n52 : k5 ≠ k2 := hl5 ⟨k2, 0, p, q, r, s⟩ (by simp)
      have n53 : k5 ≠ k3 := hl5 ⟨k3, 0, 0, 0, 0, 0⟩ (by simp)
      clear hlt5 hlt hi hi1
      go_loopg [10] 64 (fun gk s10 wr => gk ≤ 64 ∧ s10 = .int .i64 (4 * (gk : Int) - 4) ∧ (∃ na nb nc nd : Nat, Kept w k0 (⟨k5, 0, na, nb, nc, nd⟩ :: [⟨k0, 0, g0, g1, g2, 0⟩, ⟨k1, 0, a, b, c, d⟩, ⟨k2, 0, p, q, r, s⟩, ⟨k3, 0, 0, 0, 0, 0⟩]) wr ∧ Hid (Four (.agg #[.int .u64 (na : Int), .int .u64 (nb : Int), .int .u64 (nc : Int), .int .u64 (nd : Int)]) (m ^ (n / 2 ^ (4 * gk)) % P))) ∧ Tab wr k4 m P 16)
      case atStart =>
        refine ⟨Nat.le_refl _, rfl, ⟨pa, pb, pc, pd, KN, ?_⟩, TN⟩
        have h1 := HFJ.out
        rw [show n / 2 ^ (4 * 64) = 0 from Nat.div_eq_of_lt HY.out.lt]
        exact h1
      case round =>
        clear KN TN HFJ
        obtain ⟨hg64, rfl, ⟨na, nb, nc, nd, KP, HF⟩, TB⟩ := hrel
        by_cases hz : gk = 0
        · subst hz
          have HF0 := HF.out
          rw [Nat.mul_zero, Nat.pow_zero, Nat.div_one] at HF0
          obtain ⟨tc0, tc1, tc2, tc3, tf⟩ := KP.head.at4
          have zt := KP.head.lt
          go_wp2_with fail
          refine (number_any _ _ HF0 _).mono ?_
          rintro e w1 ⟨v, rfl, hb1, rfl⟩
          have HFE : Hid (Four _ _) := HF0
          clear HF0 tc0 tc1 tc2 tc3 tf zt HF
          have KP1 := KP.call hb1
          clear hb1 KP
          obtain ⟨rc0, rc1, rc2, rc3, rf⟩ := KP1.tail.tail.tail.tail.head.at4
          have zr := KP1.tail.tail.tail.tail.head.lt
          go_wp2
          have RF := KP1.tail.tail.tail.tail.head.at4.self4 na nb nc nd
          unfold set4 at RF
          refine bodyPost_ret (v := ?v) ?hr rfl ?hR
          case hr => simp [results, Try.results91, go_sem, RF.c0, RF.c1, RF.c2, RF.c3]; rfl
          refine ⟨_, rfl, ?_, HFE.out⟩
          rw [H0.out]
          exact below_set4 KP1.bl Q3.out _ _ _ _
        · obtain ⟨I, hI⟩ : ∃ I, 4 * (gk - 1) = I := ⟨_, rfl⟩
          have e1 : 4 * (gk : Int) - 4 = (I : Int) := by omega
          rw [e1]
          clear e1
          have d1 : (0 : Int) ≤ (I : Int) := by omega
          have HI : Hid (4 * (gk - 1) = I) := hI
          have hI2 : I ≤ 252 := by omega
          obtain ⟨E, hE⟩ : ∃ E, n / 2 ^ (4 * gk) = E := ⟨_, rfl⟩
          have HE : Hid (n / 2 ^ (4 * gk) = E) := hE
          rw [hE] at HF
          clear hI hE
          go_wp2
          refine wp_loop_rounds 5 ?_
          obtain ⟨tc0, tc1, tc2, tc3, tf⟩ := KP.head.at4
          have zt := KP.head.lt
          obtain ⟨pc0, pc1, pc2, pc3, pf⟩ := KP.tail.head.at4
          have zp := KP.tail.head.lt
          rw [rounds_succ]
          go_wp2_with fail
          clear tc0 tc1 tc2 tc3 tf zt pc0 pc1 pc2 pc3 pf zp
          refine (product_any g0 g1 g2 P _ _ _ _ HG.out HF.out HF.out _).mono ?_
          rintro e w1 ⟨v, rfl, hb1, hF3⟩
          rw [pow_two_mod] at hF3
          obtain ⟨n1a, n1b, n1c, n1d, rfl, ha', hb', hc', hd', es3⟩ := id hF3
          clear HF
          have HF : Hid (Four _ _) := hF3
          clear hF3 es3 ha' hb' hc' hd'
          replace KP := KP.call hb1
          replace TB := TB.call hb1
          clear hb1
          obtain ⟨tc0, tc1, tc2, tc3, tf⟩ := KP.head.at4
          have zt := KP.head.lt
          go_wp2_with fail
          clear tc0 tc1 tc2 tc3 tf zt
          have KP2 := KP.put Q5.out hl5 n1a n1b n1c n1d
          have TB2 := (((TB.other (o := 0) n54 (.int .u64 (n1a : Int))).other (o := 1) n54 (.int .u64 (n1b : Int))).other (o := 2) n54 (.int .u64 (n1c : Int))).other (o := 3) n54 (.int .u64 (n1d : Int))
          clear KP TB
          generalize World.setCell _ _ _ = WX1 at KP2 TB2 ⊢
          have KP := KP2
          have TB := TB2
          clear KP2 TB2
          obtain ⟨tc0, tc1, tc2, tc3, tf⟩ := KP.head.at4
          have zt := KP.head.lt
          obtain ⟨pc0, pc1, pc2, pc3, pf⟩ := KP.tail.head.at4
          have zp := KP.tail.head.lt
          rw [rounds_succ]
          go_wp2_with fail
          clear tc0 tc1 tc2 tc3 tf zt pc0 pc1 pc2 pc3 pf zp
          refine (product_any g0 g1 g2 P _ _ _ _ HG.out HF.out HF.out _).mono ?_
          rintro e w2 ⟨v, rfl, hb1, hF3⟩
          rw [pow_two_mod] at hF3
          obtain ⟨n2a, n2b, n2c, n2d, rfl, ha', hb', hc', hd', es3⟩ := id hF3
          clear HF
          have HF : Hid (Four _ _) := hF3
          clear hF3 es3 ha' hb' hc' hd'
          replace KP := KP.call hb1
          replace TB := TB.call hb1
          clear hb1
          obtain ⟨tc0, tc1, tc2, tc3, tf⟩ := KP.head.at4
          have zt := KP.head.lt
          go_wp2_with fail
          clear tc0 tc1 tc2 tc3 tf zt
          have KP2 := KP.put Q5.out hl5 n2a n2b n2c n2d
          have TB2 := (((TB.other (o := 0) n54 (.int .u64 (n2a : Int))).other (o := 1) n54 (.int .u64 (n2b : Int))).other (o := 2) n54 (.int .u64 (n2c : Int))).other (o := 3) n54 (.int .u64 (n2d : Int))
          clear KP TB
          generalize World.setCell _ _ _ = WX2 at KP2 TB2 ⊢
          have KP := KP2
          have TB := TB2
          clear KP2 TB2
          obtain ⟨tc0, tc1, tc2, tc3, tf⟩ := KP.head.at4
          have zt := KP.head.lt
          obtain ⟨pc0, pc1, pc2, pc3, pf⟩ := KP.tail.head.at4
          have zp := KP.tail.head.lt
          rw [rounds_succ]
          go_wp2_with fail
          clear tc0 tc1 tc2 tc3 tf zt pc0 pc1 pc2 pc3 pf zp
          refine (product_any g0 g1 g2 P _ _ _ _ HG.out HF.out HF.out _).mono ?_
          rintro e w3 ⟨v, rfl, hb1, hF3⟩
          rw [pow_two_mod] at hF3
          obtain ⟨n3a, n3b, n3c, n3d, rfl, ha', hb', hc', hd', es3⟩ := id hF3
          clear HF
          have HF : Hid (Four _ _) := hF3
          clear hF3 es3 ha' hb' hc' hd'
          replace KP := KP.call hb1
          replace TB := TB.call hb1
          clear hb1
          obtain ⟨tc0, tc1, tc2, tc3, tf⟩ := KP.head.at4
          have zt := KP.head.lt
          go_wp2_with fail
          clear tc0 tc1 tc2 tc3 tf zt
          have KP2 := KP.put Q5.out hl5 n3a n3b n3c n3d
          have TB2 := (((TB.other (o := 0) n54 (.int .u64 (n3a : Int))).other (o := 1) n54 (.int .u64 (n3b : Int))).other (o := 2) n54 (.int .u64 (n3c : Int))).other (o := 3) n54 (.int .u64 (n3d : Int))
          clear KP TB
          generalize World.setCell _ _ _ = WX3 at KP2 TB2 ⊢
          have KP := KP2
          have TB := TB2
          clear KP2 TB2
          obtain ⟨tc0, tc1, tc2, tc3, tf⟩ := KP.head.at4
          have zt := KP.head.lt
          obtain ⟨pc0, pc1, pc2, pc3, pf⟩ := KP.tail.head.at4
          have zp := KP.tail.head.lt
          rw [rounds_succ]
          go_wp2_with fail
          clear tc0 tc1 tc2 tc3 tf zt pc0 pc1 pc2 pc3 pf zp
          refine (product_any g0 g1 g2 P _ _ _ _ HG.out HF.out HF.out _).mono ?_
          rintro e w4 ⟨v, rfl, hb1, hF3⟩
          rw [pow_two_mod] at hF3
          obtain ⟨n4a, n4b, n4c, n4d, rfl, ha', hb', hc', hd', es3⟩ := id hF3
          clear HF
          have HF : Hid (Four _ _) := hF3
          clear hF3 es3 ha' hb' hc' hd'
          replace KP := KP.call hb1
          replace TB := TB.call hb1
          clear hb1
          obtain ⟨tc0, tc1, tc2, tc3, tf⟩ := KP.head.at4
          have zt := KP.head.lt
          go_wp2_with fail
          clear tc0 tc1 tc2 tc3 tf zt
          have KP2 := KP.put Q5.out hl5 n4a n4b n4c n4d
          have TB2 := (((TB.other (o := 0) n54 (.int .u64 (n4a : Int))).other (o := 1) n54 (.int .u64 (n4b : Int))).other (o := 2) n54 (.int .u64 (n4c : Int))).other (o := 3) n54 (.int .u64 (n4d : Int))
          clear KP TB
          generalize World.setCell _ _ _ = WX4 at KP2 TB2 ⊢
          have KP := KP2
          have TB := TB2
          clear KP2 TB2
          rw [rounds_succ]
          go_wp2_with fail
          refine anyTill.begin (fun w' => w'.cell? ⟨k0, 0, none⟩ = some (.int .u64 (g0 : Int)) ∧ w'.cell? ⟨k0, 1, none⟩ = some (.int .u64 (g1 : Int)) ∧ w'.cell? ⟨k0, 2, none⟩ = some (.int .u64 (g2 : Int)) ∧ w'.cell? ⟨k0, 3, none⟩ = some (.int .u64 0) ∧ w'.cell? ⟨k5, 0, none⟩ = some (.int .u64 (n4a : Int)) ∧ w'.cell? ⟨k5, 1, none⟩ = some (.int .u64 (n4b : Int)) ∧ w'.cell? ⟨k5, 2, none⟩ = some (.int .u64 (n4c : Int)) ∧ w'.cell? ⟨k5, 3, none⟩ = some (.int .u64 (n4d : Int)) ∧ w'.cell? ⟨k2, 0, none⟩ = some (.int .u64 (p : Int)) ∧ w'.cell? ⟨k2, 1, none⟩ = some (.int .u64 (q : Int)) ∧ w'.cell? ⟨k2, 2, none⟩ = some (.int .u64 (r : Int)) ∧ w'.cell? ⟨k2, 3, none⟩ = some (.int .u64 (s : Int)) ∧ Kept w k0 (⟨k5, 0, n4a, n4b, n4c, n4d⟩ :: [⟨k0, 0, g0, g1, g2, 0⟩, ⟨k1, 0, a, b, c, d⟩, ⟨k2, 0, p, q, r, s⟩, ⟨k3, 0, 0, 0, 0, 0⟩]) w' ∧ Tab w' k4 m P 16) 8 mixed (powT_of KP.drew TB.drew) (fun hS => ?_)
          refine anyTill.take (i := 0) (v := ?_) rfl (by kernel_rfl) (by kernel_rfl) (by kernel_rfl) (by kernel_rfl) (by kernel_rfl) (fun _ _ _ h => h) (Or.inl ⟨by rfl, ?_⟩) hS ?_
          rotate_left
          · intro w hSw
            (try dsimp only at hSw)
            go_simp
            try (with_reducible rfl)
          simp only [Act.put, List.setIfInBounds_toArray]
          refine anyTill.take (i := 1) (v := ?_) rfl (by kernel_rfl) (by kernel_rfl) (by kernel_rfl) (by kernel_rfl) (by kernel_rfl) (fun _ _ _ h => h) (Or.inl ⟨by rfl, ?_⟩) hS ?_
          rotate_left
          · intro w hSw
            (try dsimp only at hSw)
            go_simp
            try (with_reducible rfl)
          simp only [Act.put]
          refine anyTill.take (i := 2) (v := ?_) rfl (by kernel_rfl) (by kernel_rfl) (by kernel_rfl) (by kernel_rfl) (by kernel_rfl) (fun _ _ _ h => h) (Or.inl ⟨by rfl, ?_⟩) hS ?_
          rotate_left
          · intro w hSw
            (try dsimp only at hSw)
            go_simp
            try (with_reducible rfl)
          simp only [Act.put]
          refine anyTill.take (i := 3) (v := ?_) rfl (by kernel_rfl) (by kernel_rfl) (by kernel_rfl) (by kernel_rfl) (by kernel_rfl) (fun _ _ _ h => h) (Or.inl ⟨by rfl, ?_⟩) hS ?_
          rotate_left
          · intro w hSw
            (try dsimp only at hSw)
            go_simp
            try (with_reducible rfl)
          simp only [Act.put]
          try simp only [List.set_cons_zero, List.set_cons_succ]
          obtain ⟨tt, htt⟩ : ∃ tt, n / 2 ^ I % 2 ^ 4 = tt := ⟨_, rfl⟩
          have HT : Hid (n / 2 ^ I % 2 ^ 4 = tt) := htt
          have hB := fun w => Bits_any _ n I 4 HY.out (by omega) (by decide) w
          rw [htt] at hB
          have htl : tt < 16 := by have : (2 : Nat) ^ 4 = 16 := rfl
                                   rw [← htt]; omega
          have htl' : (tt : Int) < 16 := by omega
          have HB : Hid _ := hB
          clear hB htt
          refine anyTill.step (i := 4) rfl (by kernel_rfl) (fun K hK => ?_)
          go_simp
          refine (HB.out _).mono ?_
          rintro e w6 ⟨v, rfl, hb1, rfl⟩
          clear hS HB
          have KP6 := KP.drew.call hb1
          have TB6 := TB.drew.call hb1
          clear hb1 KP TB
          refine hK.out _ _ (fun _ => powT_of KP6 TB6) ?_
          clear hK K
          try simp only [Act.put, List.setIfInBounds_toArray, List.set_cons_zero, List.set_cons_succ]
          obtain ⟨ta, tb, tc, td, BT, hFT⟩ := TB6 tt htl
          have HFT : Hid (Four _ (m ^ tt % P)) := hFT htl
          clear hFT
          obtain ⟨tc0, tc1, tc2, tc3, tf⟩ := id BT
          have zt := BT.lt
          refine anyTill.step (i := 5) rfl (by kernel_rfl) (fun K hK => ?_)
          go_simp
          refine hK.out _ _ (fun _ => powT_of KP6 TB6) ?_
          clear hK K
          try simp only [Act.put, List.setIfInBounds_toArray, List.set_cons_zero, List.set_cons_succ]
          refine anyTill.step (i := 6) rfl (by kernel_rfl) (fun K hK => ?_)
          go_simp
          refine hK.out _ _ (fun _ => powT_of KP6 TB6) ?_
          clear hK K
          try simp only [Act.put, List.setIfInBounds_toArray, List.set_cons_zero, List.set_cons_succ]
          clear tc0 tc1 tc2 tc3 tf zt BT
          refine anyTill.step (i := 7) rfl (by kernel_rfl) (fun K hK => ?_)
          go_simp
          refine (product_any g0 g1 g2 P _ _ _ _ HG.out HF.out HFT.out _).mono ?_
          rintro e w7 ⟨v, rfl, hb1, hF3⟩
          rw [pow_add_mod] at hF3
          obtain ⟨ua, ub, uc, ud, rfl, ha', hb', hc', hd', es3⟩ := id hF3
          have HFU : Hid (Four _ _) := hF3
          clear hF3 es3 ha' hb' hc' hd' HF HFT
          have KP7 := KP6.call hb1
          have TB7 := TB6.call hb1
          clear hb1 KP6 TB6
          refine hK.out _ _ (fun _ => powT_of KP7 TB7) ?_
          clear hK K
          try simp only [Act.put, List.setIfInBounds_toArray, List.set_cons_zero, List.set_cons_succ]
          obtain ⟨tc0, tc1, tc2, tc3, tf⟩ := KP7.head.at4
          have zt := KP7.head.lt
          refine anyTill.step (i := 8) rfl (by kernel_rfl) (fun K hK => ?_)
          go_simp
          refine hK.out _ _ (fun h => Bool.noConfusion h) ?_
          clear hK K
          try simp only [Act.put, List.setIfInBounds_toArray, List.set_cons_zero, List.set_cons_succ]
          refine anyTill.done (by kernel_rfl) ?_ _
          clear tc0 tc1 tc2 tc3 tf zt
          go_wp2
          go_roundg (gk - 1)
          case measure => omega
          case rel =>
            refine ⟨by omega, ?_, ⟨ua, ub, uc, ud, KP7.put Q5.out hl5 ua ub uc ud, ?_⟩, (((TB7.other (o := 0) n54 _).other (o := 1) n54 _).other (o := 2) n54 _).other (o := 3) n54 _⟩
            · have := HI.out
              congr 1
              omega
            · have h1 := HFU.out
              unfold Hid
              rw [HI.out, div_win n I, show I + 4 = 4 * gk by have := HI.out; omega, HE.out, HT.out]
              rw [show 2 * (2 * (2 * (2 * E))) + tt = 16 * E + tt by omega] at h1
              exact h1
end Go.Proofs.Ytdeidgbknlmhjab
