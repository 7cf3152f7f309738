import Derived.Test.YtppdcphfphcbbabU1
namespace Go.Proofs.Ytppdcphfphcbbab
open Go.RowKit Go.Sort Go.Deep

set_option maxHeartbeats 8000000 in
set_option maxRecDepth 100000 in
theorem reckons_known (k : Int) (g0 g1 g2 P p0 p1 p2 p3 c0 c1 c2 c3 : Nat) (hG : Gap g0 g1 g2 P) (hP2 : 2 ≤ P % 18446744073709551616) (hR : RefP p0 p1 p2 p3 c0 c1 c2 c3 P) (s t : ByteArray) (hs : s.size ≤ 16384) (ht : t.size ≤ 16384) (hk : decide (k = 0 ∨ k = 1) = true) (w0 : World)
    (hp : PrimeOf k g0 g1 g2)
    (hmk : ∀ w, Calls Try.prog 16 #[.int .i64 k] w (Ret fun e w' => Below w.heap.size w w' ∧ e = .agg #[.int .u64 (p0 : Int), .int .u64 (p1 : Int), .int .u64 (p2 : Int), .int .u64 (p3 : Int), .int .u64 (c0 : Int), .int .u64 (c1 : Int), .int .u64 (c2 : Int), .int .u64 (c3 : Int)])) :
    Calls Try.prog 3 #[.int .i64 k, .string s, .string t] w0 fun e w' => e = .returned (.bool true) ∧ Below w0.heap.size w0 w' := by
  have HP : Hid (PrimeOf k g0 g1 g2) := hp
  have HMK : Hid _ := hmk
  have HK : Hid (decide (k = 0 ∨ k = 1) = true) := hk
  have HG : Hid (Gap g0 g1 g2 P) := hG
  have HP2 : Hid (2 ≤ P % 18446744073709551616) := hP2
  have HR : Hid (RefP p0 p1 p2 p3 c0 c1 c2 c3 P) := hR
  clear hp hmk hk hG hP2 hR
  have h1 : ¬ (16384 : Int) < (s.size : Int) := by omega
  have h2 : ¬ (16384 : Int) < (t.size : Int) := by omega
  have h3 : (s.size : Int) ≤ (s.size : Int) + 160 := by omega
  have h4 : (t.size : Int) ≤ (t.size : Int) + 160 := by omega
  go_enter Try.func3, Try.ntmps3
  go_wp2_with fail
  refine (Lent_any s _ hs).mono ?_
  rintro e w1 ⟨rfl, hb1, hL⟩
  go_wp2_with fail
  refine (Lent_any t _ ht).mono ?_
  rintro e w2 ⟨rfl, hb2, hL2⟩
  have C : Ctx w0 w2 w0.heap.size w1.heap.size s t := ⟨hb1.trans (hb2.mono hb1.size), Holds.below hL hb2 (Holds.lt hL (by rw [lent_size]; omega)), hL2⟩
  clear hb1 hb2 hL hL2
  generalize w1.heap.size = kt at C ⊢
  have HC : Hid (Ctx w0 w2 w0.heap.size kt s t) := C
  clear C
  go_wp2_with fail
  refine (Add_any k g0 g1 g2 P _ _ s.data t.data HG.out _ HP.out (lent_arg HC.out.ls hs) (lent_arg HC.out.lt ht)).mono ?_
  rintro e w3 ⟨v, rfl, hb, hr⟩
  obtain ⟨qA, nA, mA, eA, rfl, ha⟩ := ans_two hr
  have HAA : Hid (Ans _ _ _ _ _ _ _) := ha
  replace HC : Hid (Ctx w0 w3 w0.heap.size kt s t) := HC.out.call hb
  clear hb hr ha
  go_wp2_with fail
  refine (Sub_any k g0 g1 g2 P _ _ s.data t.data HG.out _ HP.out (lent_arg HC.out.ls hs) (lent_arg HC.out.lt ht)).mono ?_
  rintro e w4 ⟨v, rfl, hb, hr⟩
  obtain ⟨qB, nB, mB, eB, rfl, ha⟩ := ans_two hr
  have HAB : Hid (Ans _ _ _ _ _ _ _) := ha
  replace HAA : Hid (Ans w4 _ _ _ _ _ _) := HAA.out.call hb
  replace HC : Hid (Ctx w0 w4 w0.heap.size kt s t) := HC.out.call hb
  clear hb hr ha
  go_wp2_with fail
  refine (Mul_any k g0 g1 g2 P _ _ s.data t.data HG.out _ HP.out (lent_arg HC.out.ls hs) (lent_arg HC.out.lt ht)).mono ?_
  rintro e w5 ⟨v, rfl, hb, hr⟩
  obtain ⟨qC, nC, mC, eC, rfl, ha⟩ := ans_two hr
  have HAC : Hid (Ans _ _ _ _ _ _ _) := ha
  replace HAA : Hid (Ans w5 _ _ _ _ _ _) := HAA.out.call hb
  replace HAB : Hid (Ans w5 _ _ _ _ _ _) := HAB.out.call hb
  replace HC : Hid (Ctx w0 w5 w0.heap.size kt s t) := HC.out.call hb
  clear hb hr ha
  go_wp2_with fail
  refine (Inv_any k g0 g1 g2 P _ s.data HG.out HP2.out _ HP.out (lent_arg HC.out.ls hs)).mono ?_
  rintro e w6 ⟨v, rfl, hb, hr⟩
  obtain ⟨qD, nD, mD, eD, rfl, ha⟩ := ans_one hr
  have HAD : Hid (Ans _ _ _ _ _ _ _) := ha
  replace HAA : Hid (Ans w6 _ _ _ _ _ _) := HAA.out.call hb
  replace HAB : Hid (Ans w6 _ _ _ _ _ _) := HAB.out.call hb
  replace HAC : Hid (Ans w6 _ _ _ _ _ _) := HAC.out.call hb
  replace HC : Hid (Ctx w0 w6 w0.heap.size kt s t) := HC.out.call hb
  clear hb hr ha
  go_wp2_with fail
  refine (Still_any w0.heap.size _ s _ hs HC.out.ls rfl).mono ?_
  rintro e w7 ⟨rfl, hb⟩
  replace HAA : Hid (Ans w7 _ _ _ _ _ _) := HAA.out.call hb
  replace HAB : Hid (Ans w7 _ _ _ _ _ _) := HAB.out.call hb
  replace HAC : Hid (Ans w7 _ _ _ _ _ _) := HAC.out.call hb
  replace HAD : Hid (Ans w7 _ _ _ _ _ _) := HAD.out.call hb
  replace HC : Hid (Ctx w0 w7 w0.heap.size kt s t) := HC.out.call hb
  clear hb
  go_wp2_with fail
  refine (Still_any kt _ t _ ht HC.out.lt rfl).mono ?_
  rintro e w8 ⟨rfl, hb⟩
  replace HAA : Hid (Ans w8 _ _ _ _ _ _) := HAA.out.call hb
  replace HAB : Hid (Ans w8 _ _ _ _ _ _) := HAB.out.call hb
  replace HAC : Hid (Ans w8 _ _ _ _ _ _) := HAC.out.call hb
  replace HAD : Hid (Ans w8 _ _ _ _ _ _) := HAD.out.call hb
  replace HC : Hid (Ctx w0 w8 w0.heap.size kt s t) := HC.out.call hb
  clear hb
  go_wp2_with fail
  refine (Known_law k _).mono ?_
  rintro e w9 ⟨rfl, rfl⟩
  rw [HK.out]
  have HB0 : Hid (Below w0.heap.size w0 w9) := HC.out.bl
  clear HC
  go_wp2_with fail
  have K0 := kept4 w9 33 33 33 33 0 0 0 0 0 0 0 0 0 0 0 0 0 0 0 0
  simp only [Int.natCast_zero] at K0
  generalize World.alloc _ _ = W9 at K0 ⊢
  generalize hkD : w9.heap.size + 1 + 1 + 1 = kD at K0 ⊢
  generalize hkC : w9.heap.size + 1 + 1 = kC at K0 ⊢
  generalize hkB : w9.heap.size + 1 = kB at K0 ⊢
  generalize hkA : w9.heap.size = kA at K0 ⊢
  have HKA : Hid (w9.heap.size = kA) := hkA
  have nAB : kA ≠ kB := by omega
  have nAC : kA ≠ kC := by omega
  have nAD : kA ≠ kD := by omega
  have nBC : kB ≠ kC := by omega
  have nBD : kB ≠ kD := by omega
  have nCD : kC ≠ kD := by omega
  have QB : Hid (kA ≤ kB) := by unfold Hid; omega
  have QC : Hid (kA ≤ kC) := by unfold Hid; omega
  have QD : Hid (kA ≤ kD) := by unfold Hid; omega
  clear hkA hkB hkC hkD
  refine (HMK.out _).mono ?_
  rintro e w10 ⟨v, rfl, hb, rfl⟩
  replace K0 := K0.call hb
  clear hb
  go_wp2_with fail
  have A7 := At8.made w10 35 p0 p1 p2 p3 c0 c1 c2 c3 rfl
  have K1 : Kept w9 kA (⟨w10.heap.size, 0, p0, p1, p2, p3⟩ :: ⟨w10.heap.size, 4, c0, c1, c2, c3⟩ :: [⟨kA, 0, 0, 0, 0, 0⟩, ⟨kB, 0, 0, 0, 0, 0⟩, ⟨kC, 0, 0, 0, 0, 0⟩, ⟨kD, 0, 0, 0, 0, 0⟩]) _ := (((K0.alloc (.cells #[.int .u64 (p0 : Int), .int .u64 (p1 : Int), .int .u64 (p2 : Int), .int .u64 (p3 : Int), .int .u64 (c0 : Int), .int .u64 (c1 : Int), .int .u64 (c2 : Int), .int .u64 (c3 : Int)] 35)).cons (x := ⟨w10.heap.size, 4, c0, c1, c2, c3⟩) ⟨A7.c4, A7.c5, A7.c6, A7.c7, A7.fz⟩).cons (x := ⟨w10.heap.size, 0, p0, p1, p2, p3⟩) ⟨A7.c0, A7.c1, A7.c2, A7.c3, A7.fz⟩)
  have hlt := K0.lts
  have nFA : w10.heap.size ≠ kA := Nat.ne_of_gt (hlt ⟨kA, 0, 0, 0, 0, 0⟩ (by simp))
  have nFB : w10.heap.size ≠ kB := Nat.ne_of_gt (hlt ⟨kB, 0, 0, 0, 0, 0⟩ (by simp))
  have nFC : w10.heap.size ≠ kC := Nat.ne_of_gt (hlt ⟨kC, 0, 0, 0, 0, 0⟩ (by simp))
  have nFD : w10.heap.size ≠ kD := Nat.ne_of_gt (hlt ⟨kD, 0, 0, 0, 0, 0⟩ (by simp))
  clear A7 K0 hlt
  generalize World.alloc _ _ = W10 at K1 ⊢
  generalize w10.heap.size = kF at K1 nFA nFB nFC nFD ⊢
  refine (rNumber_any p0 p1 p2 p3 c0 c1 c2 c3 P s HR.out _).mono ?_
  rintro e w11 ⟨v, rfl, hb, xa, xb, xc, xd, am, rfl, ham, hnm⟩
  have HM : Hid ((am = true → IsNum P s.data ∧ Four (.agg #[.int .u64 (xa : Int), .int .u64 (xb : Int), .int .u64 (xc : Int), .int .u64 (xd : Int)]) (beV s.data.toList)) ∧ (am = false → ¬ IsNum P s.data)) := ⟨ham, hnm⟩
  replace K1 := K1.call hb
  clear hb ham hnm
  have hlt := K1.lts
  have nMF : w11.heap.size ≠ kF := Nat.ne_of_gt (hlt ⟨kF, 0, p0, p1, p2, p3⟩ (by simp))
  have nMA : w11.heap.size ≠ kA := Nat.ne_of_gt (hlt ⟨kA, 0, 0, 0, 0, 0⟩ (by simp))
  have nMB : w11.heap.size ≠ kB := Nat.ne_of_gt (hlt ⟨kB, 0, 0, 0, 0, 0⟩ (by simp))
  have nMC : w11.heap.size ≠ kC := Nat.ne_of_gt (hlt ⟨kC, 0, 0, 0, 0, 0⟩ (by simp))
  have nMD : w11.heap.size ≠ kD := Nat.ne_of_gt (hlt ⟨kD, 0, 0, 0, 0, 0⟩ (by simp))
  clear hlt
  have kf0 := K1.at' ⟨kF, 0, p0, p1, p2, p3⟩ (by simp)
  have kf4 := K1.at' ⟨kF, 4, c0, c1, c2, c3⟩ (by simp)
  have fc0 : w11.cell? ⟨kF, 0, none⟩ = some (.int .u64 (p0 : Int)) := kf0.c0
  have fc1 : w11.cell? ⟨kF, 1, none⟩ = some (.int .u64 (p1 : Int)) := kf0.c1
  have fc2 : w11.cell? ⟨kF, 2, none⟩ = some (.int .u64 (p2 : Int)) := kf0.c2
  have fc3 : w11.cell? ⟨kF, 3, none⟩ = some (.int .u64 (p3 : Int)) := kf0.c3
  have fd0 : w11.cell? ⟨kF, 4, none⟩ = some (.int .u64 (c0 : Int)) := kf4.c0
  have fd1 : w11.cell? ⟨kF, 5, none⟩ = some (.int .u64 (c1 : Int)) := kf4.c1
  have fd2 : w11.cell? ⟨kF, 6, none⟩ = some (.int .u64 (c2 : Int)) := kf4.c2
  have fd3 : w11.cell? ⟨kF, 7, none⟩ = some (.int .u64 (c3 : Int)) := kf4.c3
  have ff := kf0.f
  have zF := kf0.lt
  clear kf0 kf4
  go_wp2_with fail
  clear fc0 fc1 fc2 fc3 fd0 fd1 fd2 fd3 ff zF
  have K2 : Kept w9 kA (⟨w11.heap.size, 0, xa, xb, xc, xd⟩ :: ⟨kF, 0, p0, p1, p2, p3⟩ :: ⟨kF, 4, c0, c1, c2, c3⟩ :: [⟨kA, 0, 0, 0, 0, 0⟩, ⟨kB, 0, 0, 0, 0, 0⟩, ⟨kC, 0, 0, 0, 0, 0⟩, ⟨kD, 0, 0, 0, 0, 0⟩]) _ := (K1.alloc (.cells #[.int .u64 (xa : Int), .int .u64 (xb : Int), .int .u64 (xc : Int), .int .u64 (xd : Int)] 33)).cons (At4.made w11 33 xa xb xc xd rfl).blk
  clear K1
  generalize World.alloc _ _ = W11 at K2 ⊢
  generalize w11.heap.size = kM at K2 nMF nMA nMB nMC nMD ⊢
  refine (rNumber_any p0 p1 p2 p3 c0 c1 c2 c3 P t HR.out _).mono ?_
  rintro e w12 ⟨v, rfl, hb, ya, yb, yc, yd, an, rfl, ham, hnm⟩
  have HN : Hid ((an = true → IsNum P t.data ∧ Four (.agg #[.int .u64 (ya : Int), .int .u64 (yb : Int), .int .u64 (yc : Int), .int .u64 (yd : Int)]) (beV t.data.toList)) ∧ (an = false → ¬ IsNum P t.data)) := ⟨ham, hnm⟩
  replace K2 := K2.call hb
  clear hb ham hnm
  have hlt := K2.lts
  have nNM : w12.heap.size ≠ kM := Nat.ne_of_gt (hlt ⟨kM, 0, xa, xb, xc, xd⟩ (by simp))
  have nNF : w12.heap.size ≠ kF := Nat.ne_of_gt (hlt ⟨kF, 0, p0, p1, p2, p3⟩ (by simp))
  have nNA : w12.heap.size ≠ kA := Nat.ne_of_gt (hlt ⟨kA, 0, 0, 0, 0, 0⟩ (by simp))
  have nNB : w12.heap.size ≠ kB := Nat.ne_of_gt (hlt ⟨kB, 0, 0, 0, 0, 0⟩ (by simp))
  have nNC : w12.heap.size ≠ kC := Nat.ne_of_gt (hlt ⟨kC, 0, 0, 0, 0, 0⟩ (by simp))
  have nND : w12.heap.size ≠ kD := Nat.ne_of_gt (hlt ⟨kD, 0, 0, 0, 0, 0⟩ (by simp))
  clear hlt
  go_upto_region 24 with fail
  have K : Kept w9 kA (⟨w12.heap.size, 0, ya, yb, yc, yd⟩ :: ⟨kM, 0, xa, xb, xc, xd⟩ :: ⟨kF, 0, p0, p1, p2, p3⟩ :: ⟨kF, 4, c0, c1, c2, c3⟩ :: [⟨kA, 0, 0, 0, 0, 0⟩, ⟨kB, 0, 0, 0, 0, 0⟩, ⟨kC, 0, 0, 0, 0, 0⟩, ⟨kD, 0, 0, 0, 0, 0⟩]) _ := (K2.alloc (.cells #[.int .u64 (ya : Int), .int .u64 (yb : Int), .int .u64 (yc : Int), .int .u64 (yd : Int)] 33)).cons (At4.made w12 33 ya yb yc yd rfl).blk
  clear K2
  generalize World.alloc _ _ = W12 at K ⊢
  generalize w12.heap.size = kN at K nNM nNF nNA nNB nNC nND ⊢
  cases am with
  | false =>
    have HS : Hid (¬ IsNum P s.data) := HM.out.2 rfl
    clear HM HN
    have kat := K.at' ⟨kA, 0, 0, 0, 0, 0⟩ (by simp)
    have atc0 : W12.cell? ⟨kA, 0, none⟩ = some (.int .u64 0) := kat.c0
    have atc1 : W12.cell? ⟨kA, 1, none⟩ = some (.int .u64 0) := kat.c1
    have atc2 : W12.cell? ⟨kA, 2, none⟩ = some (.int .u64 0) := kat.c2
    have atc3 : W12.cell? ⟨kA, 3, none⟩ = some (.int .u64 0) := kat.c3
    have atf := kat.f
    have zat := kat.lt
    clear kat
    go_wp2_with fail
    clear atc0 atc1 atc2 atc3 atf zat
    refine (told_no (HAA.out.call (by rw [HKA.out]; exact K.bl)) (fun h => HS.out h.1) (Four.mk (a := 0) (b := 0) (c := 0) (d := 0) (by decide) (by decide) (by decide) (by decide) rfl)).mono ?_
    rintro e wtA ⟨v, rfl, hb, rfl⟩
    replace K := K.call hb
    clear hb
    have kbt := K.at' ⟨kB, 0, 0, 0, 0, 0⟩ (by simp)
    have btc0 : wtA.cell? ⟨kB, 0, none⟩ = some (.int .u64 0) := kbt.c0
    have btc1 : wtA.cell? ⟨kB, 1, none⟩ = some (.int .u64 0) := kbt.c1
    have btc2 : wtA.cell? ⟨kB, 2, none⟩ = some (.int .u64 0) := kbt.c2
    have btc3 : wtA.cell? ⟨kB, 3, none⟩ = some (.int .u64 0) := kbt.c3
    have btf := kbt.f
    have zbt := kbt.lt
    clear kbt
    go_wp2_with fail
    clear btc0 btc1 btc2 btc3 btf zbt
    refine (told_no (HAB.out.call (by rw [HKA.out]; exact K.bl)) (fun h => HS.out h.1) (Four.mk (a := 0) (b := 0) (c := 0) (d := 0) (by decide) (by decide) (by decide) (by decide) rfl)).mono ?_
    rintro e wtB ⟨v, rfl, hb, rfl⟩
    replace K := K.call hb
    clear hb
    have kct := K.at' ⟨kC, 0, 0, 0, 0, 0⟩ (by simp)
    have ctc0 : wtB.cell? ⟨kC, 0, none⟩ = some (.int .u64 0) := kct.c0
    have ctc1 : wtB.cell? ⟨kC, 1, none⟩ = some (.int .u64 0) := kct.c1
    have ctc2 : wtB.cell? ⟨kC, 2, none⟩ = some (.int .u64 0) := kct.c2
    have ctc3 : wtB.cell? ⟨kC, 3, none⟩ = some (.int .u64 0) := kct.c3
    have ctf := kct.f
    have zct := kct.lt
    clear kct
    go_wp2_with fail
    clear ctc0 ctc1 ctc2 ctc3 ctf zct
    refine (told_no (HAC.out.call (by rw [HKA.out]; exact K.bl)) (fun h => HS.out h.1) (Four.mk (a := 0) (b := 0) (c := 0) (d := 0) (by decide) (by decide) (by decide) (by decide) rfl)).mono ?_
    rintro e wtC ⟨v, rfl, hb, rfl⟩
    replace K := K.call hb
    clear hb
    have kdt := K.at' ⟨kD, 0, 0, 0, 0, 0⟩ (by simp)
    have dtc0 : wtC.cell? ⟨kD, 0, none⟩ = some (.int .u64 0) := kdt.c0
    have dtc1 : wtC.cell? ⟨kD, 1, none⟩ = some (.int .u64 0) := kdt.c1
    have dtc2 : wtC.cell? ⟨kD, 2, none⟩ = some (.int .u64 0) := kdt.c2
    have dtc3 : wtC.cell? ⟨kD, 3, none⟩ = some (.int .u64 0) := kdt.c3
    have dtf := kdt.f
    have zdt := kdt.lt
    clear kdt
    go_wp2_with fail
    clear dtc0 dtc1 dtc2 dtc3 dtf zdt
    refine (told_no (HAD.out.call (by rw [HKA.out]; exact K.bl)) HS.out (Four.mk (a := 0) (b := 0) (c := 0) (d := 0) (by decide) (by decide) (by decide) (by decide) rfl)).mono ?_
    rintro e wtD ⟨v, rfl, hb, rfl⟩
    replace K := K.call hb
    clear hb
    go_wp2
    go_ret
    exact ⟨by simp, HB0.out.trans (K.bl.mono (by rw [← HKA.out]; exact HB0.out.size))⟩
  | true =>
    have HS : Hid _ := HM.out.1 rfl
    clear HM
    cases an with
    | false =>
      have HT : Hid (¬ IsNum P t.data) := HN.out.2 rfl
      clear HN
      have kf0 := K.at' ⟨kF, 0, p0, p1, p2, p3⟩ (by simp)
      have kf4 := K.at' ⟨kF, 4, c0, c1, c2, c3⟩ (by simp)
      have fc0 : W12.cell? ⟨kF, 0, none⟩ = some (.int .u64 (p0 : Int)) := kf0.c0
      have fc1 : W12.cell? ⟨kF, 1, none⟩ = some (.int .u64 (p1 : Int)) := kf0.c1
      have fc2 : W12.cell? ⟨kF, 2, none⟩ = some (.int .u64 (p2 : Int)) := kf0.c2
      have fc3 : W12.cell? ⟨kF, 3, none⟩ = some (.int .u64 (p3 : Int)) := kf0.c3
      have fd0 : W12.cell? ⟨kF, 4, none⟩ = some (.int .u64 (c0 : Int)) := kf4.c0
      have fd1 : W12.cell? ⟨kF, 5, none⟩ = some (.int .u64 (c1 : Int)) := kf4.c1
      have fd2 : W12.cell? ⟨kF, 6, none⟩ = some (.int .u64 (c2 : Int)) := kf4.c2
      have fd3 : W12.cell? ⟨kF, 7, none⟩ = some (.int .u64 (c3 : Int)) := kf4.c3
      have ff := kf0.f
      have zF := kf0.lt
      clear kf0 kf4
      have km := K.at' ⟨kM, 0, xa, xb, xc, xd⟩ (by simp)
      have mc0 : W12.cell? ⟨kM, 0, none⟩ = some (.int .u64 (xa : Int)) := km.c0
      have mc1 : W12.cell? ⟨kM, 1, none⟩ = some (.int .u64 (xb : Int)) := km.c1
      have mc2 : W12.cell? ⟨kM, 2, none⟩ = some (.int .u64 (xc : Int)) := km.c2
      have mc3 : W12.cell? ⟨kM, 3, none⟩ = some (.int .u64 (xd : Int)) := km.c3
      have mf := km.f
      have zm := km.lt
      clear km
      go_wp2_with fail
      clear fc0 fc1 fc2 fc3 fd0 fd1 fd2 fd3 ff zF mc0 mc1 mc2 mc3 mf zm
      refine (rInv_any p0 p1 p2 p3 c0 c1 c2 c3 P _ _ HR.out HS.out.2 _).mono ?_
      rintro e wI ⟨v, rfl, hb, hF⟩
      obtain ⟨ia, ib, ic, id, rfl, -⟩ := _root_.id hF
      have HI : Hid (Four _ _) := hF
      replace K := K.call hb
      clear hb hF
      have kdt := K.at' ⟨kD, 0, 0, 0, 0, 0⟩ (by simp)
      have dtc0 : wI.cell? ⟨kD, 0, none⟩ = some (.int .u64 0) := kdt.c0
      have dtc1 : wI.cell? ⟨kD, 1, none⟩ = some (.int .u64 0) := kdt.c1
      have dtc2 : wI.cell? ⟨kD, 2, none⟩ = some (.int .u64 0) := kdt.c2
      have dtc3 : wI.cell? ⟨kD, 3, none⟩ = some (.int .u64 0) := kdt.c3
      have dtf := kdt.f
      have zdt := kdt.lt
      clear kdt
      have kat := K.at' ⟨kA, 0, 0, 0, 0, 0⟩ (by simp)
      have atc0 : wI.cell? ⟨kA, 0, none⟩ = some (.int .u64 0) := kat.c0
      have atc1 : wI.cell? ⟨kA, 1, none⟩ = some (.int .u64 0) := kat.c1
      have atc2 : wI.cell? ⟨kA, 2, none⟩ = some (.int .u64 0) := kat.c2
      have atc3 : wI.cell? ⟨kA, 3, none⟩ = some (.int .u64 0) := kat.c3
      have atf := kat.f
      have zat := kat.lt
      clear kat
      go_wp2_with fail
      clear dtc0 dtc1 dtc2 dtc3 dtf zdt atc0 atc1 atc2 atc3 atf zat
      replace K := K.puts (j := kD) (a := 0) (b := 0) (c := 0) (d := 0) (l' := [⟨kA, 0, 0, 0, 0, 0⟩, ⟨kB, 0, 0, 0, 0, 0⟩, ⟨kC, 0, 0, 0, 0, 0⟩]) (by simp) QD.out (by simp only [List.mem_cons, List.not_mem_nil, or_false]; rintro x (rfl | rfl | rfl); exact ⟨by simp, nAD.symm⟩; exact ⟨by simp, nBD.symm⟩; exact ⟨by simp, nCD.symm⟩) ia ib ic id
      generalize World.setCell _ _ _ = WI at K ⊢
      refine (told_no (HAA.out.call (by rw [HKA.out]; exact K.bl)) (fun h => HT.out h.2) (Four.mk (a := 0) (b := 0) (c := 0) (d := 0) (by decide) (by decide) (by decide) (by decide) rfl)).mono ?_
      rintro e wtA ⟨v, rfl, hb, rfl⟩
      replace K := K.call hb
      clear hb
      have kbt := K.at' ⟨kB, 0, 0, 0, 0, 0⟩ (by simp)
      have btc0 : wtA.cell? ⟨kB, 0, none⟩ = some (.int .u64 0) := kbt.c0
      have btc1 : wtA.cell? ⟨kB, 1, none⟩ = some (.int .u64 0) := kbt.c1
      have btc2 : wtA.cell? ⟨kB, 2, none⟩ = some (.int .u64 0) := kbt.c2
      have btc3 : wtA.cell? ⟨kB, 3, none⟩ = some (.int .u64 0) := kbt.c3
      have btf := kbt.f
      have zbt := kbt.lt
      clear kbt
      go_wp2_with fail
      clear btc0 btc1 btc2 btc3 btf zbt
      refine (told_no (HAB.out.call (by rw [HKA.out]; exact K.bl)) (fun h => HT.out h.2) (Four.mk (a := 0) (b := 0) (c := 0) (d := 0) (by decide) (by decide) (by decide) (by decide) rfl)).mono ?_
      rintro e wtB ⟨v, rfl, hb, rfl⟩
      replace K := K.call hb
      clear hb
      have kct := K.at' ⟨kC, 0, 0, 0, 0, 0⟩ (by simp)
      have ctc0 : wtB.cell? ⟨kC, 0, none⟩ = some (.int .u64 0) := kct.c0
      have ctc1 : wtB.cell? ⟨kC, 1, none⟩ = some (.int .u64 0) := kct.c1
      have ctc2 : wtB.cell? ⟨kC, 2, none⟩ = some (.int .u64 0) := kct.c2
      have ctc3 : wtB.cell? ⟨kC, 3, none⟩ = some (.int .u64 0) := kct.c3
      have ctf := kct.f
      have zct := kct.lt
      clear kct
      go_wp2_with fail
      clear ctc0 ctc1 ctc2 ctc3 ctf zct
      refine (told_no (HAC.out.call (by rw [HKA.out]; exact K.bl)) (fun h => HT.out h.2) (Four.mk (a := 0) (b := 0) (c := 0) (d := 0) (by decide) (by decide) (by decide) (by decide) rfl)).mono ?_
      rintro e wtC ⟨v, rfl, hb, rfl⟩
      replace K := K.call hb
      clear hb
      have kdt := K.at' ⟨kD, 0, ia, ib, ic, id⟩ (by simp)
      have dtc0 : wtC.cell? ⟨kD, 0, none⟩ = some (.int .u64 (ia : Int)) := kdt.c0
      have dtc1 : wtC.cell? ⟨kD, 1, none⟩ = some (.int .u64 (ib : Int)) := kdt.c1
      have dtc2 : wtC.cell? ⟨kD, 2, none⟩ = some (.int .u64 (ic : Int)) := kdt.c2
      have dtc3 : wtC.cell? ⟨kD, 3, none⟩ = some (.int .u64 (id : Int)) := kdt.c3
      have dtf := kdt.f
      have zdt := kdt.lt
      clear kdt
      go_wp2_with fail
      clear dtc0 dtc1 dtc2 dtc3 dtf zdt
      refine (told_yes (HAD.out.call (by rw [HKA.out]; exact K.bl)) HS.out.1 HI.out).mono ?_
      rintro e wtD ⟨v, rfl, hb, rfl⟩
      replace K := K.call hb
      clear hb
      go_wp2
      go_ret
      exact ⟨by simp, HB0.out.trans (K.bl.mono (by rw [← HKA.out]; exact HB0.out.size))⟩
    | true =>
      have HT : Hid _ := HN.out.1 rfl
      clear HN
      have kf0 := K.at' ⟨kF, 0, p0, p1, p2, p3⟩ (by simp)
      have kf4 := K.at' ⟨kF, 4, c0, c1, c2, c3⟩ (by simp)
      have fc0 : W12.cell? ⟨kF, 0, none⟩ = some (.int .u64 (p0 : Int)) := kf0.c0
      have fc1 : W12.cell? ⟨kF, 1, none⟩ = some (.int .u64 (p1 : Int)) := kf0.c1
      have fc2 : W12.cell? ⟨kF, 2, none⟩ = some (.int .u64 (p2 : Int)) := kf0.c2
      have fc3 : W12.cell? ⟨kF, 3, none⟩ = some (.int .u64 (p3 : Int)) := kf0.c3
      have fd0 : W12.cell? ⟨kF, 4, none⟩ = some (.int .u64 (c0 : Int)) := kf4.c0
      have fd1 : W12.cell? ⟨kF, 5, none⟩ = some (.int .u64 (c1 : Int)) := kf4.c1
      have fd2 : W12.cell? ⟨kF, 6, none⟩ = some (.int .u64 (c2 : Int)) := kf4.c2
      have fd3 : W12.cell? ⟨kF, 7, none⟩ = some (.int .u64 (c3 : Int)) := kf4.c3
      have ff := kf0.f
      have zF := kf0.lt
      clear kf0 kf4
      have km := K.at' ⟨kM, 0, xa, xb, xc, xd⟩ (by simp)
      have mc0 : W12.cell? ⟨kM, 0, none⟩ = some (.int .u64 (xa : Int)) := km.c0
      have mc1 : W12.cell? ⟨kM, 1, none⟩ = some (.int .u64 (xb : Int)) := km.c1
      have mc2 : W12.cell? ⟨kM, 2, none⟩ = some (.int .u64 (xc : Int)) := km.c2
      have mc3 : W12.cell? ⟨kM, 3, none⟩ = some (.int .u64 (xd : Int)) := km.c3
      have mf := km.f
      have zm := km.lt
      clear km
      have ky := K.at' ⟨kN, 0, ya, yb, yc, yd⟩ (by simp)
      have yc0 : W12.cell? ⟨kN, 0, none⟩ = some (.int .u64 (ya : Int)) := ky.c0
      have yc1 : W12.cell? ⟨kN, 1, none⟩ = some (.int .u64 (yb : Int)) := ky.c1
      have yc2 : W12.cell? ⟨kN, 2, none⟩ = some (.int .u64 (yc : Int)) := ky.c2
      have yc3 : W12.cell? ⟨kN, 3, none⟩ = some (.int .u64 (yd : Int)) := ky.c3
      have yf := ky.f
      have zy := ky.lt
      clear ky
      go_wp2_with fail
      clear fc0 fc1 fc2 fc3 fd0 fd1 fd2 fd3 ff zF mc0 mc1 mc2 mc3 mf zm yc0 yc1 yc2 yc3 yf zy
      refine (rAdd_R HR.out HS.out.2 HT.out.2 _).mono ?_
      rintro e wo0 ⟨v, rfl, hb, hF⟩
      obtain ⟨sa, sb, sc, sd, rfl, -⟩ := _root_.id hF
      have HSUM : Hid (Four _ _) := hF
      replace K := K.call hb
      clear hb hF
      have kt := K.at' ⟨kA, 0, 0, 0, 0, 0⟩ (by simp)
      have tc0 : wo0.cell? ⟨kA, 0, none⟩ = some (.int .u64 0) := kt.c0
      have tc1 : wo0.cell? ⟨kA, 1, none⟩ = some (.int .u64 0) := kt.c1
      have tc2 : wo0.cell? ⟨kA, 2, none⟩ = some (.int .u64 0) := kt.c2
      have tc3 : wo0.cell? ⟨kA, 3, none⟩ = some (.int .u64 0) := kt.c3
      have tf := kt.f
      have zt := kt.lt
      clear kt
      have kf0 := K.at' ⟨kF, 0, p0, p1, p2, p3⟩ (by simp)
      have kf4 := K.at' ⟨kF, 4, c0, c1, c2, c3⟩ (by simp)
      have fc0 : wo0.cell? ⟨kF, 0, none⟩ = some (.int .u64 (p0 : Int)) := kf0.c0
      have fc1 : wo0.cell? ⟨kF, 1, none⟩ = some (.int .u64 (p1 : Int)) := kf0.c1
      have fc2 : wo0.cell? ⟨kF, 2, none⟩ = some (.int .u64 (p2 : Int)) := kf0.c2
      have fc3 : wo0.cell? ⟨kF, 3, none⟩ = some (.int .u64 (p3 : Int)) := kf0.c3
      have fd0 : wo0.cell? ⟨kF, 4, none⟩ = some (.int .u64 (c0 : Int)) := kf4.c0
      have fd1 : wo0.cell? ⟨kF, 5, none⟩ = some (.int .u64 (c1 : Int)) := kf4.c1
      have fd2 : wo0.cell? ⟨kF, 6, none⟩ = some (.int .u64 (c2 : Int)) := kf4.c2
      have fd3 : wo0.cell? ⟨kF, 7, none⟩ = some (.int .u64 (c3 : Int)) := kf4.c3
      have ff := kf0.f
      have zF := kf0.lt
      clear kf0 kf4
      have km := K.at' ⟨kM, 0, xa, xb, xc, xd⟩ (by simp)
      have mc0 : wo0.cell? ⟨kM, 0, none⟩ = some (.int .u64 (xa : Int)) := km.c0
      have mc1 : wo0.cell? ⟨kM, 1, none⟩ = some (.int .u64 (xb : Int)) := km.c1
      have mc2 : wo0.cell? ⟨kM, 2, none⟩ = some (.int .u64 (xc : Int)) := km.c2
      have mc3 : wo0.cell? ⟨kM, 3, none⟩ = some (.int .u64 (xd : Int)) := km.c3
      have mf := km.f
      have zm := km.lt
      clear km
      have ky := K.at' ⟨kN, 0, ya, yb, yc, yd⟩ (by simp)
      have yc0 : wo0.cell? ⟨kN, 0, none⟩ = some (.int .u64 (ya : Int)) := ky.c0
      have yc1 : wo0.cell? ⟨kN, 1, none⟩ = some (.int .u64 (yb : Int)) := ky.c1
      have yc2 : wo0.cell? ⟨kN, 2, none⟩ = some (.int .u64 (yc : Int)) := ky.c2
      have yc3 : wo0.cell? ⟨kN, 3, none⟩ = some (.int .u64 (yd : Int)) := ky.c3
      have yf := ky.f
      have zy := ky.lt
      clear ky
      go_wp2_with fail
      clear fc0 fc1 fc2 fc3 fd0 fd1 fd2 fd3 ff zF mc0 mc1 mc2 mc3 mf zm yc0 yc1 yc2 yc3 yf zy tc0 tc1 tc2 tc3 tf zt
      replace K := K.puts (j := kA) (a := 0) (b := 0) (c := 0) (d := 0) (l' := [⟨kB, 0, 0, 0, 0, 0⟩, ⟨kC, 0, 0, 0, 0, 0⟩, ⟨kD, 0, 0, 0, 0, 0⟩, ⟨kF, 0, p0, p1, p2, p3⟩, ⟨kF, 4, c0, c1, c2, c3⟩, ⟨kM, 0, xa, xb, xc, xd⟩, ⟨kN, 0, ya, yb, yc, yd⟩]) (by simp) (Nat.le_refl _) (by simp only [List.mem_cons, List.not_mem_nil, or_false]; rintro x (rfl | rfl | rfl | rfl | rfl | rfl | rfl); exact ⟨by simp, nAB⟩; exact ⟨by simp, nAC⟩; exact ⟨by simp, nAD⟩; exact ⟨by simp, nFA.symm⟩; exact ⟨by simp, nFA.symm⟩; exact ⟨by simp, nMA.symm⟩; exact ⟨by simp, nNA.symm⟩) sa sb sc sd
      generalize World.setCell _ _ _ = WS0 at K ⊢
      refine (rSub_any p0 p1 p2 p3 c0 c1 c2 c3 P _ _ _ _ HR.out HS.out.2 HT.out.2 HT.out.1.2 _).mono ?_
      rintro e wo1 ⟨v, rfl, hb, hF⟩
      obtain ⟨da, db, dc, dd, rfl, -⟩ := _root_.id hF
      have HDIF : Hid (Four _ _) := hF
      replace K := K.call hb
      clear hb hF
      have kt := K.at' ⟨kB, 0, 0, 0, 0, 0⟩ (by simp)
      have tc0 : wo1.cell? ⟨kB, 0, none⟩ = some (.int .u64 0) := kt.c0
      have tc1 : wo1.cell? ⟨kB, 1, none⟩ = some (.int .u64 0) := kt.c1
      have tc2 : wo1.cell? ⟨kB, 2, none⟩ = some (.int .u64 0) := kt.c2
      have tc3 : wo1.cell? ⟨kB, 3, none⟩ = some (.int .u64 0) := kt.c3
      have tf := kt.f
      have zt := kt.lt
      clear kt
      have kf0 := K.at' ⟨kF, 0, p0, p1, p2, p3⟩ (by simp)
      have kf4 := K.at' ⟨kF, 4, c0, c1, c2, c3⟩ (by simp)
      have fc0 : wo1.cell? ⟨kF, 0, none⟩ = some (.int .u64 (p0 : Int)) := kf0.c0
      have fc1 : wo1.cell? ⟨kF, 1, none⟩ = some (.int .u64 (p1 : Int)) := kf0.c1
      have fc2 : wo1.cell? ⟨kF, 2, none⟩ = some (.int .u64 (p2 : Int)) := kf0.c2
      have fc3 : wo1.cell? ⟨kF, 3, none⟩ = some (.int .u64 (p3 : Int)) := kf0.c3
      have fd0 : wo1.cell? ⟨kF, 4, none⟩ = some (.int .u64 (c0 : Int)) := kf4.c0
      have fd1 : wo1.cell? ⟨kF, 5, none⟩ = some (.int .u64 (c1 : Int)) := kf4.c1
      have fd2 : wo1.cell? ⟨kF, 6, none⟩ = some (.int .u64 (c2 : Int)) := kf4.c2
      have fd3 : wo1.cell? ⟨kF, 7, none⟩ = some (.int .u64 (c3 : Int)) := kf4.c3
      have ff := kf0.f
      have zF := kf0.lt
      clear kf0 kf4
      have km := K.at' ⟨kM, 0, xa, xb, xc, xd⟩ (by simp)
      have mc0 : wo1.cell? ⟨kM, 0, none⟩ = some (.int .u64 (xa : Int)) := km.c0
      have mc1 : wo1.cell? ⟨kM, 1, none⟩ = some (.int .u64 (xb : Int)) := km.c1
      have mc2 : wo1.cell? ⟨kM, 2, none⟩ = some (.int .u64 (xc : Int)) := km.c2
      have mc3 : wo1.cell? ⟨kM, 3, none⟩ = some (.int .u64 (xd : Int)) := km.c3
      have mf := km.f
      have zm := km.lt
      clear km
      have ky := K.at' ⟨kN, 0, ya, yb, yc, yd⟩ (by simp)
      have yc0 : wo1.cell? ⟨kN, 0, none⟩ = some (.int .u64 (ya : Int)) := ky.c0
      have yc1 : wo1.cell? ⟨kN, 1, none⟩ = some (.int .u64 (yb : Int)) := ky.c1
      have yc2 : wo1.cell? ⟨kN, 2, none⟩ = some (.int .u64 (yc : Int)) := ky.c2
      have yc3 : wo1.cell? ⟨kN, 3, none⟩ = some (.int .u64 (yd : Int)) := ky.c3
      have yf := ky.f
      have zy := ky.lt
      clear ky
      go_wp2_with fail
      clear fc0 fc1 fc2 fc3 fd0 fd1 fd2 fd3 ff zF mc0 mc1 mc2 mc3 mf zm yc0 yc1 yc2 yc3 yf zy tc0 tc1 tc2 tc3 tf zt
      replace K := K.puts (j := kB) (a := 0) (b := 0) (c := 0) (d := 0) (l' := [⟨kA, 0, sa, sb, sc, sd⟩, ⟨kC, 0, 0, 0, 0, 0⟩, ⟨kD, 0, 0, 0, 0, 0⟩, ⟨kF, 0, p0, p1, p2, p3⟩, ⟨kF, 4, c0, c1, c2, c3⟩, ⟨kM, 0, xa, xb, xc, xd⟩, ⟨kN, 0, ya, yb, yc, yd⟩]) (by simp) QB.out (by simp only [List.mem_cons, List.not_mem_nil, or_false]; rintro x (rfl | rfl | rfl | rfl | rfl | rfl | rfl); exact ⟨by simp, nAB.symm⟩; exact ⟨by simp, nBC⟩; exact ⟨by simp, nBD⟩; exact ⟨by simp, nFB.symm⟩; exact ⟨by simp, nFB.symm⟩; exact ⟨by simp, nMB.symm⟩; exact ⟨by simp, nNB.symm⟩) da db dc dd
      generalize World.setCell _ _ _ = WS1 at K ⊢
      refine (rMul_R HR.out HS.out.2 HT.out.2 _).mono ?_
      rintro e wo2 ⟨v, rfl, hb, hF⟩
      obtain ⟨ra, rb, rc, rd, rfl, -⟩ := _root_.id hF
      have HPRO : Hid (Four _ _) := hF
      replace K := K.call hb
      clear hb hF
      have kt := K.at' ⟨kC, 0, 0, 0, 0, 0⟩ (by simp)
      have tc0 : wo2.cell? ⟨kC, 0, none⟩ = some (.int .u64 0) := kt.c0
      have tc1 : wo2.cell? ⟨kC, 1, none⟩ = some (.int .u64 0) := kt.c1
      have tc2 : wo2.cell? ⟨kC, 2, none⟩ = some (.int .u64 0) := kt.c2
      have tc3 : wo2.cell? ⟨kC, 3, none⟩ = some (.int .u64 0) := kt.c3
      have tf := kt.f
      have zt := kt.lt
      clear kt
      have kf0 := K.at' ⟨kF, 0, p0, p1, p2, p3⟩ (by simp)
      have kf4 := K.at' ⟨kF, 4, c0, c1, c2, c3⟩ (by simp)
      have fc0 : wo2.cell? ⟨kF, 0, none⟩ = some (.int .u64 (p0 : Int)) := kf0.c0
      have fc1 : wo2.cell? ⟨kF, 1, none⟩ = some (.int .u64 (p1 : Int)) := kf0.c1
      have fc2 : wo2.cell? ⟨kF, 2, none⟩ = some (.int .u64 (p2 : Int)) := kf0.c2
      have fc3 : wo2.cell? ⟨kF, 3, none⟩ = some (.int .u64 (p3 : Int)) := kf0.c3
      have fd0 : wo2.cell? ⟨kF, 4, none⟩ = some (.int .u64 (c0 : Int)) := kf4.c0
      have fd1 : wo2.cell? ⟨kF, 5, none⟩ = some (.int .u64 (c1 : Int)) := kf4.c1
      have fd2 : wo2.cell? ⟨kF, 6, none⟩ = some (.int .u64 (c2 : Int)) := kf4.c2
      have fd3 : wo2.cell? ⟨kF, 7, none⟩ = some (.int .u64 (c3 : Int)) := kf4.c3
      have ff := kf0.f
      have zF := kf0.lt
      clear kf0 kf4
      have km := K.at' ⟨kM, 0, xa, xb, xc, xd⟩ (by simp)
      have mc0 : wo2.cell? ⟨kM, 0, none⟩ = some (.int .u64 (xa : Int)) := km.c0
      have mc1 : wo2.cell? ⟨kM, 1, none⟩ = some (.int .u64 (xb : Int)) := km.c1
      have mc2 : wo2.cell? ⟨kM, 2, none⟩ = some (.int .u64 (xc : Int)) := km.c2
      have mc3 : wo2.cell? ⟨kM, 3, none⟩ = some (.int .u64 (xd : Int)) := km.c3
      have mf := km.f
      have zm := km.lt
      clear km
      go_wp2_with fail
      clear fc0 fc1 fc2 fc3 fd0 fd1 fd2 fd3 ff zF mc0 mc1 mc2 mc3 mf zm tc0 tc1 tc2 tc3 tf zt
      replace K := K.puts (j := kC) (a := 0) (b := 0) (c := 0) (d := 0) (l' := [⟨kA, 0, sa, sb, sc, sd⟩, ⟨kB, 0, da, db, dc, dd⟩, ⟨kD, 0, 0, 0, 0, 0⟩, ⟨kF, 0, p0, p1, p2, p3⟩, ⟨kF, 4, c0, c1, c2, c3⟩, ⟨kM, 0, xa, xb, xc, xd⟩, ⟨kN, 0, ya, yb, yc, yd⟩]) (by simp) QC.out (by simp only [List.mem_cons, List.not_mem_nil, or_false]; rintro x (rfl | rfl | rfl | rfl | rfl | rfl | rfl); exact ⟨by simp, nAC.symm⟩; exact ⟨by simp, nBC.symm⟩; exact ⟨by simp, nCD⟩; exact ⟨by simp, nFC.symm⟩; exact ⟨by simp, nFC.symm⟩; exact ⟨by simp, nMC.symm⟩; exact ⟨by simp, nNC.symm⟩) ra rb rc rd
      generalize World.setCell _ _ _ = WS2 at K ⊢
      refine (rInv_any p0 p1 p2 p3 c0 c1 c2 c3 P _ _ HR.out HS.out.2 _).mono ?_
      rintro e wo3 ⟨v, rfl, hb, hF⟩
      obtain ⟨ia, ib, ic, id, rfl, -⟩ := _root_.id hF
      have HINV : Hid (Four _ _) := hF
      replace K := K.call hb
      clear hb hF
      have kt := K.at' ⟨kD, 0, 0, 0, 0, 0⟩ (by simp)
      have tc0 : wo3.cell? ⟨kD, 0, none⟩ = some (.int .u64 0) := kt.c0
      have tc1 : wo3.cell? ⟨kD, 1, none⟩ = some (.int .u64 0) := kt.c1
      have tc2 : wo3.cell? ⟨kD, 2, none⟩ = some (.int .u64 0) := kt.c2
      have tc3 : wo3.cell? ⟨kD, 3, none⟩ = some (.int .u64 0) := kt.c3
      have tf := kt.f
      have zt := kt.lt
      clear kt
      have kat := K.at' ⟨kA, 0, sa, sb, sc, sd⟩ (by simp)
      have atc0 : wo3.cell? ⟨kA, 0, none⟩ = some (.int .u64 (sa : Int)) := kat.c0
      have atc1 : wo3.cell? ⟨kA, 1, none⟩ = some (.int .u64 (sb : Int)) := kat.c1
      have atc2 : wo3.cell? ⟨kA, 2, none⟩ = some (.int .u64 (sc : Int)) := kat.c2
      have atc3 : wo3.cell? ⟨kA, 3, none⟩ = some (.int .u64 (sd : Int)) := kat.c3
      have atf := kat.f
      have zat := kat.lt
      clear kat
      go_wp2_with fail
      clear atc0 atc1 atc2 atc3 atf zat tc0 tc1 tc2 tc3 tf zt
      replace K := K.puts (j := kD) (a := 0) (b := 0) (c := 0) (d := 0) (l' := [⟨kA, 0, sa, sb, sc, sd⟩, ⟨kB, 0, da, db, dc, dd⟩, ⟨kC, 0, ra, rb, rc, rd⟩, ⟨kF, 0, p0, p1, p2, p3⟩, ⟨kF, 4, c0, c1, c2, c3⟩, ⟨kM, 0, xa, xb, xc, xd⟩, ⟨kN, 0, ya, yb, yc, yd⟩]) (by simp) QD.out (by simp only [List.mem_cons, List.not_mem_nil, or_false]; rintro x (rfl | rfl | rfl | rfl | rfl | rfl | rfl); exact ⟨by simp, nAD.symm⟩; exact ⟨by simp, nBD.symm⟩; exact ⟨by simp, nCD.symm⟩; exact ⟨by simp, nFD.symm⟩; exact ⟨by simp, nFD.symm⟩; exact ⟨by simp, nMD.symm⟩; exact ⟨by simp, nND.symm⟩) ia ib ic id
      generalize World.setCell _ _ _ = WS3 at K ⊢
      refine (told_yes (HAA.out.call (by rw [HKA.out]; exact K.bl)) ⟨HS.out.1, HT.out.1⟩ HSUM.out).mono ?_
      rintro e wtA ⟨v, rfl, hb, rfl⟩
      replace K := K.call hb
      clear hb
      have kbt := K.at' ⟨kB, 0, da, db, dc, dd⟩ (by simp)
      have btc0 : wtA.cell? ⟨kB, 0, none⟩ = some (.int .u64 (da : Int)) := kbt.c0
      have btc1 : wtA.cell? ⟨kB, 1, none⟩ = some (.int .u64 (db : Int)) := kbt.c1
      have btc2 : wtA.cell? ⟨kB, 2, none⟩ = some (.int .u64 (dc : Int)) := kbt.c2
      have btc3 : wtA.cell? ⟨kB, 3, none⟩ = some (.int .u64 (dd : Int)) := kbt.c3
      have btf := kbt.f
      have zbt := kbt.lt
      clear kbt
      go_wp2_with fail
      clear btc0 btc1 btc2 btc3 btf zbt
      refine (told_yes (HAB.out.call (by rw [HKA.out]; exact K.bl)) ⟨HS.out.1, HT.out.1⟩ HDIF.out).mono ?_
      rintro e wtB ⟨v, rfl, hb, rfl⟩
      replace K := K.call hb
      clear hb
      have kct := K.at' ⟨kC, 0, ra, rb, rc, rd⟩ (by simp)
      have ctc0 : wtB.cell? ⟨kC, 0, none⟩ = some (.int .u64 (ra : Int)) := kct.c0
      have ctc1 : wtB.cell? ⟨kC, 1, none⟩ = some (.int .u64 (rb : Int)) := kct.c1
      have ctc2 : wtB.cell? ⟨kC, 2, none⟩ = some (.int .u64 (rc : Int)) := kct.c2
      have ctc3 : wtB.cell? ⟨kC, 3, none⟩ = some (.int .u64 (rd : Int)) := kct.c3
      have ctf := kct.f
      have zct := kct.lt
      clear kct
      go_wp2_with fail
      clear ctc0 ctc1 ctc2 ctc3 ctf zct
      refine (told_yes (HAC.out.call (by rw [HKA.out]; exact K.bl)) ⟨HS.out.1, HT.out.1⟩ HPRO.out).mono ?_
      rintro e wtC ⟨v, rfl, hb, rfl⟩
      replace K := K.call hb
      clear hb
      have kdt := K.at' ⟨kD, 0, ia, ib, ic, id⟩ (by simp)
      have dtc0 : wtC.cell? ⟨kD, 0, none⟩ = some (.int .u64 (ia : Int)) := kdt.c0
      have dtc1 : wtC.cell? ⟨kD, 1, none⟩ = some (.int .u64 (ib : Int)) := kdt.c1
      have dtc2 : wtC.cell? ⟨kD, 2, none⟩ = some (.int .u64 (ic : Int)) := kdt.c2
      have dtc3 : wtC.cell? ⟨kD, 3, none⟩ = some (.int .u64 (id : Int)) := kdt.c3
      have dtf := kdt.f
      have zdt := kdt.lt
      clear kdt
      go_wp2_with fail
      clear dtc0 dtc1 dtc2 dtc3 dtf zdt
      refine (told_yes (HAD.out.call (by rw [HKA.out]; exact K.bl)) HS.out.1 HINV.out).mono ?_
      rintro e wtD ⟨v, rfl, hb, rfl⟩
      replace K := K.call hb
      clear hb
      go_wp2
      go_ret
      exact ⟨by simp, HB0.out.trans (K.bl.mono (by rw [← HKA.out]; exact HB0.out.size))⟩
end Go.Proofs.Ytppdcphfphcbbab
