import Derived.Test.YtdeidgbknlmhjabR3
import Derived.Deep.LoopGhost
namespace Go.Proofs.Ytdeidgbknlmhjab
open Go.RowKit Go.Sort Go.Deep

set_option maxHeartbeats 4000000 in
set_option maxRecDepth 100000 in
theorem rPow_any (p0 p1 p2 p3 c0 c1 c2 c3 P : Nat) (x y : Value) (m n : Nat) (hR : RefP p0 p1 p2 p3 c0 c1 c2 c3 P) (hx : Four x m) (hy : Four y n) (w : World) :
    Calls Try.prog 60 #[.agg #[.int .u64 (p0 : Int), .int .u64 (p1 : Int), .int .u64 (p2 : Int), .int .u64 (p3 : Int), .int .u64 (c0 : Int), .int .u64 (c1 : Int), .int .u64 (c2 : Int), .int .u64 (c3 : Int)], x, y] w (Ret fun e w' => Below w.heap.size w w' ∧ Four e (m ^ n % P)) := by
  obtain ⟨a, b, c, d, rfl, ha, hb, hc, hd, em⟩ := id hx
  obtain ⟨p, q, r, s, rfl, hp, hq, hr, hs, en⟩ := id hy
  have HX : Hid (Four _ _) := hx
  have HY : Hid (Four _ _) := hy
  have HR : Hid (RefP p0 p1 p2 p3 c0 c1 c2 c3 P) := hR
  clear em en hx hy ha hb hc hd hp hq hr hs hR
  go_enter Try.func60, Try.ntmps60
  go_wp2_with fail
  have KP := keptF3 w p0 p1 p2 p3 c0 c1 c2 c3 a b c d p q r s
  generalize World.alloc _ _ = W0 at KP ⊢
  generalize h3 : w.heap.size + 1 + 1 + 1 = k3 at KP ⊢
  generalize h2 : w.heap.size + 1 + 1 = k2 at KP ⊢
  generalize h1 : w.heap.size + 1 = k1 at KP ⊢
  have Q3 : Hid (w.heap.size ≤ k3) := by unfold Hid; omega
  generalize h0 : w.heap.size = k0 at KP Q3 ⊢
  have H0 : Hid (w.heap.size = k0) := h0
  clear h0 h1 h2 h3
  refine (rSmall_any 1 (by decide) _).mono ?_
  rintro e w1 ⟨v, rfl, hb1, rfl⟩
  replace KP := KP.call hb1
  clear hb1
  go_wp2
  have KN : Kept w k0 (⟨w1.heap.size, 0, 1, 0, 0, 0⟩ :: [⟨k0, 0, p0, p1, p2, p3⟩, ⟨k0, 4, c0, c1, c2, c3⟩, ⟨k1, 0, a, b, c, d⟩, ⟨k2, 0, p, q, r, s⟩, ⟨k3, 0, 0, 0, 0, 0⟩]) _ := (KP.alloc (.cells #[.int .u64 1, .int .u64 0, .int .u64 0, .int .u64 0] 33)).cons (At4.made w1 33 1 0 0 0 rfl).blk
  have Q7 : Hid (k0 ≤ w1.heap.size) := KP.le
  have hlt := KP.lts
  clear KP
  generalize World.alloc _ _ = W1 at KN ⊢
  generalize w1.heap.size = k7 at KN hlt Q7 ⊢
  have hl7 : ∀ x ∈ ([⟨k0, 0, p0, p1, p2, p3⟩, ⟨k0, 4, c0, c1, c2, c3⟩, ⟨k1, 0, a, b, c, d⟩, ⟨k2, 0, p, q, r, s⟩, ⟨k3, 0, 0, 0, 0, 0⟩] : List Blk), k7 ≠ x.k := fun x hx => Nat.ne_of_gt (hlt x hx)
  have n70 : k7 ≠ k0 := hl7 _ (List.mem_cons_self)
  have n71 : k7 ≠ k1 := hl7 ⟨k1, 0, a, b, c, d⟩ (by simp)
  have n72 : k7 ≠ k2 := hl7 ⟨k2, 0, p, q, r, s⟩ (by simp)
  have n73 : k7 ≠ k3 := hl7 ⟨k3, 0, 0, 0, 0, 0⟩ (by simp)
  clear hlt
  go_loopg [8] 256 (fun gk s8 wr => gk ≤ 256 ∧ s8 = .int .i64 ((gk : Int) - 1) ∧ ∃ na nb nc nd : Nat, Kept w k0 (⟨k7, 0, na, nb, nc, nd⟩ :: [⟨k0, 0, p0, p1, p2, p3⟩, ⟨k0, 4, c0, c1, c2, c3⟩, ⟨k1, 0, a, b, c, d⟩, ⟨k2, 0, p, q, r, s⟩, ⟨k3, 0, 0, 0, 0, 0⟩]) wr ∧ Hid (Four (.agg #[.int .u64 (na : Int), .int .u64 (nb : Int), .int .u64 (nc : Int), .int .u64 (nd : Int)]) (m ^ (n / 2 ^ gk) % P)))
  case atStart =>
    refine ⟨Nat.le_refl _, rfl, 1, 0, 0, 0, KN, ?_⟩
    have h1 := HR.out.hP2
    have h2 : 3 < top := by decide
    rw [show n / 2 ^ 256 = 0 from Nat.div_eq_of_lt HY.out.lt, Nat.pow_zero, Nat.mod_eq_of_lt (by omega)]
    exact Four.mk (by decide) (by decide) (by decide) (by decide) rfl
  case round =>
    clear KN
    obtain ⟨hg, rfl, na, nb, nc, nd, KP, HF⟩ := hrel
    obtain ⟨tc0, tc1, tc2, tc3, tf⟩ := KP.head.at4
    have zt := KP.head.lt
    by_cases hz : gk = 0
    · subst hz
      have HF0 := HF.out
      rw [Nat.pow_zero, Nat.div_one] at HF0
      have HFE : Hid (Four _ _) := HF0
      clear HF0 HF
      obtain ⟨rc0, rc1, rc2, rc3, rf⟩ := KP.tail.tail.tail.tail.tail.head.at4
      have zr := KP.tail.tail.tail.tail.tail.head.lt
      go_wp2
      have RF := KP.tail.tail.tail.tail.tail.head.at4.self4 na nb nc nd
      unfold set4 at RF
      refine bodyPost_ret (v := ?v) ?hr rfl ?hR
      case hr => simp [results, Try.results60, go_sem, RF.c0, RF.c1, RF.c2, RF.c3]; rfl
      refine ⟨_, rfl, ?_, HFE.out⟩
      rw [H0.out]
      exact below_set4 KP.bl Q3.out _ _ _ _
    · obtain ⟨i, hi⟩ : ∃ i, gk = i + 1 := ⟨gk - 1, by omega⟩
      have e1 : (gk : Int) - 1 = (i : Int) := by omega
      rw [e1]
      have d1 : (0 : Int) ≤ (i : Int) := by omega
      have hi2 : i < 256 := by omega
      obtain ⟨E, hE⟩ : ∃ E, n / 2 ^ gk = E := ⟨_, rfl⟩
      rw [hE] at HF
      rw [hi] at hE
      have HE : Hid (n / 2 ^ (i + 1) = E) := hE
      have HI : Hid (gk = i + 1) := hi
      clear hE hi e1
      obtain ⟨fc0, fc1, fc2, fc3, ff⟩ := KP.tail.head.at4
      have fb := KP.tail.tail.head
      obtain ⟨fd0, fd1, fd2, fd3, fg⟩ := id fb
      replace fd0 : wr.cell? ⟨k0, 4, none⟩ = some (.int .u64 (c0 : Int)) := fd0
      replace fd1 : wr.cell? ⟨k0, 5, none⟩ = some (.int .u64 (c1 : Int)) := fd1
      replace fd2 : wr.cell? ⟨k0, 6, none⟩ = some (.int .u64 (c2 : Int)) := fd2
      replace fd3 : wr.cell? ⟨k0, 7, none⟩ = some (.int .u64 (c3 : Int)) := fd3
      have zf := KP.tail.head.lt
      go_wp2_with fail
      clear tc0 tc1 tc2 tc3 tf zt fc0 fc1 fc2 fc3 ff fb fd0 fd1 fd2 fd3 fg zf
      refine (rMul_R HR.out HF.out HF.out _).mono ?_
      rintro e w2 ⟨v, rfl, hb2, hF3⟩
      rw [pow_two_mod] at hF3
      obtain ⟨ya, yb, yc, yd, rfl, -⟩ := id hF3
      clear HF
      have HF : Hid (Four _ _) := hF3
      clear hF3
      replace KP := KP.call hb2
      clear hb2
      obtain ⟨tc0, tc1, tc2, tc3, tf⟩ := KP.head.at4
      have zt := KP.head.lt
      obtain ⟨ec0, ec1, ec2, ec3, ef⟩ := KP.tail.tail.tail.tail.head.at4
      have ze := KP.tail.tail.tail.tail.head.lt
      go_wp2_with fail
      clear tc0 tc1 tc2 tc3 tf zt ec0 ec1 ec2 ec3 ef ze
      have KP2 := KP.put Q7.out hl7 ya yb yc yd
      clear KP
      generalize World.setCell _ _ _ = WX at KP2 ⊢
      refine (rBit_any _ _ i HY.out hi2 _).mono ?_
      rintro e w3 ⟨v, rfl, hb3, t, rfl, ht⟩
      have KP := KP2.call hb3
      have HT : Hid (t = n / 2 ^ i % 2) := ht
      have ht2 : t = 0 ∨ t = 1 := by omega
      clear hb3 KP2 ht
      rcases ht2 with rfl | rfl
      · go_wp2
        go_roundg (gk - 1)
        case measure => omega
        case rel =>
          refine ⟨by omega, ?_, ya, yb, yc, yd, KP, ?_⟩
          · have := HI.out
            congr 1
            omega
          · have h1 := HF.out
            unfold Hid
            rw [HI.out, Nat.add_sub_cancel, div_bit n i, HE.out, ← HT.out, Nat.add_zero]
            exact h1
      · obtain ⟨tc0, tc1, tc2, tc3, tf⟩ := KP.head.at4
        have zt := KP.head.lt
        obtain ⟨ac0, ac1, ac2, ac3, af⟩ := KP.tail.tail.tail.head.at4
        have za := KP.tail.tail.tail.head.lt
        obtain ⟨fc0, fc1, fc2, fc3, ff⟩ := KP.tail.head.at4
        have fb := KP.tail.tail.head
        obtain ⟨fd0, fd1, fd2, fd3, fg⟩ := id fb
        replace fd0 : w3.cell? ⟨k0, 4, none⟩ = some (.int .u64 (c0 : Int)) := fd0
        replace fd1 : w3.cell? ⟨k0, 5, none⟩ = some (.int .u64 (c1 : Int)) := fd1
        replace fd2 : w3.cell? ⟨k0, 6, none⟩ = some (.int .u64 (c2 : Int)) := fd2
        replace fd3 : w3.cell? ⟨k0, 7, none⟩ = some (.int .u64 (c3 : Int)) := fd3
        have zf := KP.tail.head.lt
        go_wp2_with fail
        clear tc0 tc1 tc2 tc3 tf zt fc0 fc1 fc2 fc3 ff fb fd0 fd1 fd2 fd3 fg zf ac0 ac1 ac2 ac3 af za
        refine (rMul_R HR.out HF.out HX.out _).mono ?_
        rintro e w4 ⟨v, rfl, hb4, hF3⟩
        rw [pow_step_mod] at hF3
        obtain ⟨ua, ub, uc, ud, rfl, -⟩ := id hF3
        clear HF
        have HF : Hid (Four _ _) := hF3
        clear hF3
        replace KP := KP.call hb4
        clear hb4
        obtain ⟨tc0, tc1, tc2, tc3, tf⟩ := KP.head.at4
        have zt := KP.head.lt
        go_wp2
        go_roundg (gk - 1)
        case measure => omega
        case rel =>
          refine ⟨by omega, ?_, ua, ub, uc, ud, KP.put Q7.out hl7 ua ub uc ud, ?_⟩
          · have := HI.out
            congr 1
            omega
          · have h1 := HF.out
            unfold Hid
            rw [HI.out, Nat.add_sub_cancel, div_bit n i, HE.out, ← HT.out]
            exact h1

set_option maxHeartbeats 2000000 in
set_option maxRecDepth 100000 in
theorem rInv_any (p0 p1 p2 p3 c0 c1 c2 c3 P : Nat) (x : Value) (m : Nat) (hR : RefP p0 p1 p2 p3 c0 c1 c2 c3 P) (hx : Four x m) (w : World) :
    Calls Try.prog 21 #[.agg #[.int .u64 (p0 : Int), .int .u64 (p1 : Int), .int .u64 (p2 : Int), .int .u64 (p3 : Int), .int .u64 (c0 : Int), .int .u64 (c1 : Int), .int .u64 (c2 : Int), .int .u64 (c3 : Int)], x] w (Ret fun e w' => Below w.heap.size w w' ∧ Four e (m ^ (P - 2) % P)) := by
  have HR : Hid (RefP p0 p1 p2 p3 c0 c1 c2 c3 P) := hR
  have HX : Hid (Four x m) := hx
  obtain ⟨a, b, c, d, rfl, ha, hb, hc, hd, em⟩ := id hx
  clear hR hx em ha hb hc hd
  go_enter Try.func21, Try.ntmps21
  go_wp2_with fail
  have KP := keptF2 w p0 p1 p2 p3 c0 c1 c2 c3 a b c d
  generalize World.alloc _ _ = W0 at KP ⊢
  generalize h2 : w.heap.size + 1 + 1 = k2 at KP ⊢
  generalize h1 : w.heap.size + 1 = k1 at KP ⊢
  have Q2 : Hid (w.heap.size ≤ k2) := by unfold Hid; omega
  generalize h0 : w.heap.size = k0 at KP Q2 ⊢
  have H0 : Hid (w.heap.size = k0) := h0
  clear h0 h1 h2
  have hP4 : Four (.agg #[.int .u64 (p0 : Int), .int .u64 (p1 : Int), .int .u64 (p2 : Int), .int .u64 (p3 : Int)]) P := Four.mk HR.out.hp0 HR.out.hp1 HR.out.hp2 HR.out.hp3 HR.out.eP
  refine (rless_any _ _ P 2 hP4 (Four.mk (a := 2) (b := 0) (c := 0) (d := 0) (by decide) (by decide) (by decide) (by decide) rfl) _).mono ?_
  rintro e w1 ⟨v, rfl, hb1, v2, t, k, rfl, hF, hk, he⟩
  have ht : t = P - 2 := by
    have h1 := hF.lt
    have h2 := hP4.lt
    have h3 := HR.out.hP2
    have h4 : 3 < top := by decide
    have : k = 0 ∨ k = 1 := by omega
    rcases this with h | h <;> rw [h] at he <;> omega
  have HE : Hid (Four v2 (P - 2)) := by unfold Hid; rw [← ht]; exact hF
  obtain ⟨ea, eb, ec, ed, rfl, -⟩ := id hF
  replace KP := KP.call hb1
  clear hb1 hF ht he hP4
  obtain ⟨xc0, xc1, xc2, xc3, xf⟩ := KP.tail.tail.head.at4
  have zx := KP.tail.tail.head.lt
  obtain ⟨fc0, fc1, fc2, fc3, ff⟩ := KP.head.at4
  have fb := KP.tail.head
  obtain ⟨fd0, fd1, fd2, fd3, fg⟩ := id fb
  replace fd0 : w1.cell? ⟨k0, 4, none⟩ = some (.int .u64 (c0 : Int)) := fd0
  replace fd1 : w1.cell? ⟨k0, 5, none⟩ = some (.int .u64 (c1 : Int)) := fd1
  replace fd2 : w1.cell? ⟨k0, 6, none⟩ = some (.int .u64 (c2 : Int)) := fd2
  replace fd3 : w1.cell? ⟨k0, 7, none⟩ = some (.int .u64 (c3 : Int)) := fd3
  have zf := KP.head.lt
  have n0 : k0 ≠ w1.heap.size := Nat.ne_of_lt zf
  have n1 : k1 ≠ w1.heap.size := Nat.ne_of_lt zx
  go_wp2_with fail
  clear xc0 xc1 xc2 xc3 xf zx fc0 fc1 fc2 fc3 ff fb fd0 fd1 fd2 fd3 fg zf n0 n1
  refine (rPow_any p0 p1 p2 p3 c0 c1 c2 c3 P _ _ _ _ HR.out HX.out HE.out _).mono ?_
  rintro e w2 ⟨v, rfl, hb2, hF⟩
  replace KP := (KP.alloc _).call hb2
  clear hb2
  obtain ⟨qa, qb, qc, qd, rfl, -⟩ := id hF
  have HF : Hid (Four _ _) := hF
  clear hF
  obtain ⟨rc0, rc1, rc2, rc3, rf⟩ := KP.tail.tail.tail.head.at4
  have zr := KP.tail.tail.tail.head.lt
  go_wp2
  have RF := KP.tail.tail.tail.head.at4.self4 qa qb qc qd
  unfold set4 at RF
  refine bodyPost_ret (v := ?v) ?hr rfl ?hR
  case hr => simp [results, Try.results21, go_sem, RF.c0, RF.c1, RF.c2, RF.c3]; rfl
  refine ⟨_, rfl, ?_, HF.out⟩
  rw [H0.out]
  exact below_set4 KP.bl Q2.out _ _ _ _
end Go.Proofs.Ytdeidgbknlmhjab
