import Derived.Test.YtfclmmkgmhlbbaaR2
namespace Go.Proofs.Ytfclmmkgmhlbbaa
open Go.RowKit Go.Sort Go.Deep
attribute [local go_sem] bits_xor64 bits_and64 bits_or64 bits_not64 wrap_u

theorem slice61 : Try.prog.underlying 61 = some (.slice 56) := by kernel_rfl
theorem info56 : (Try.prog.info? 56).map (fun i => (i.zero, i.size, i.bytes)) = some (some (.int .u64 0), 1, 8) := by kernel_rfl

set_option maxHeartbeats 2000000 in
set_option maxRecDepth 100000 in
theorem round_any (ab tb : Nat) (a : St) (tn : Array Nat) (c : BitVec 64) (w : World) (ha : a.size = 25) (ht : tn.size = 25) (hA : Holds enc w ab 0 a) (hT : Holds encI w tb 0 tn) (h64 : ∀ i, i < 25 → tn[i]! < 64) :
    Calls Try.prog 29 #[.slice (some ⟨ab, 0, none⟩) 25 25, .slice (some ⟨tb, 0, none⟩) 25 25, .int .u64 (u c)] w fun e w' => ∃ r, e = .returned (.slice (some ⟨r, 0, none⟩) 25 25) ∧ w.heap.size ≤ r ∧ Below w.heap.size w w' ∧ Holds enc w' r 0 (refRound a tn c) := by
  have hab := Holds.lt hA (by omega)
  have htb := Holds.lt hT (by omega)
  have hmk5 : ∀ w : World, (Instr.makeSlice 61 (.int .i64 5) (.int .i64 5)).run Try.prog w = .ok (.slice (some ⟨w.heap.size, 0, none⟩) 5 5) (w.alloc (.cells (madeCells #[.int .u64 0] 5) 56)) :=
    run_make_row' (P := Try.prog) 61 56 (.int .u64 0) 8 slice61 info56 rfl .i64 .i64 5 (by omega) (by omega)
  have hmk25 : ∀ w : World, (Instr.makeSlice 61 (.int .i64 25) (.int .i64 25)).run Try.prog w = .ok (.slice (some ⟨w.heap.size, 0, none⟩) 25 25) (w.alloc (.cells (madeCells #[.int .u64 0] 25) 56)) :=
    run_make_row' (P := Try.prog) 61 56 (.int .u64 0) 8 slice61 info56 rfl .i64 .i64 25 (by omega) (by omega)
  have HM25 : Hid _ := hmk25
  clear hmk25
  go_enter Try.func29, Try.ntmps29
  go_wp2
  clear hmk5
  have hC1 : Holds enc (w.alloc (.cells (madeCells #[.int .u64 0] 5) 56)) w.heap.size 0 (colTo a 0) := Holds.made (enc := enc) w 56 5 0
  have hb1 : Below w.heap.size w (w.alloc (.cells (madeCells #[.int .u64 0] 5) 56)) := (Below.refl _ _).alloc (Nat.le_refl _) _
  generalize hW1 : (w.alloc _) = W1 at hC1 hb1 ⊢
  have hs1 : w.heap.size < W1.heap.size := by rw [← hW1]; simp
  have hA1 := Holds.below hA hb1 hab
  have hT1 := Holds.below hT hb1 htb
  clear hW1
  go_loopg [8] 5 (fun g s8 wr => ∃ (x : Nat) (ck : St), x + g = 5 ∧ s8 = .int .i64 x ∧ Holds enc wr w.heap.size 0 ck ∧ Only w.heap.size 0 5 W1 wr ∧ Hid (ck = colTo a x))
  case atStart => exact ⟨0, _, rfl, rfl, hC1, Only.refl _ _ _ _, rfl⟩
  case round =>
    obtain ⟨x, ck, hx, rfl, hC, hO, HE⟩ := hrel
    have hcs : ck.size = 5 := by rw [HE.out, colTo_size]
    by_cases hlt : x < 5
    · have l5 : (x : Int) < 5 := by omega
      go_wp2
      go_loopg [9] 5 (fun g s9 wq => ∃ (y : Nat) (cy : St), y + g = 5 ∧ s9 = .int .i64 y ∧ Holds enc wq w.heap.size 0 cy ∧ Only w.heap.size 0 5 W1 wq ∧ Hid (cy = colIn a x ck y))
      case atStart => exact ⟨0, ck, rfl, rfl, hC, hO, rfl⟩
      case round =>
        obtain ⟨y, cy, hy, rfl, hCy, hOy, HEy⟩ := hrel
        have hcys : cy.size = 5 := by rw [HEy.out, colIn_size, hcs]
        by_cases hlty : y < 5
        · have hAy := Holds.other hA1 hOy (by omega) (by omega)
          obtain ⟨z, hz⟩ : ∃ z, a[x + 5 * y]! = z := ⟨_, rfl⟩
          obtain ⟨v, hv⟩ : ∃ z, cy[x]! = z := ⟨_, rfl⟩
          obtain ⟨c0, f0⟩ := at_word hAy (x + 5 * y) (by omega) hz
          obtain ⟨c1, f1⟩ := at_word hCy x (by omega) hv
          rw [Nat.zero_add] at c0 c1 f1
          have HZ : Hid (a[x + 5 * y]! = z) := hz
          have HV : Hid (cy[x]! = v) := hv
          obtain ⟨i, hi⟩ : ∃ i, x + 5 * y = i := ⟨_, rfl⟩
          rw [hi] at c0
          have Hi : Hid (x + 5 * y = i) := hi
          have i25 : i < 25 := by omega
          have i25' : (i : Int) < 25 := by omega
          have y5 : (y : Int) < 5 := by omega
          clear hz hv hi f0
          go_wp2_with fail
          refine wp_region_still_tail 14 mixed (by kernel_rfl) ?_
          simp only [List.take_succ_cons, List.take_zero, List.drop_succ_cons, List.drop_zero]
          repeat still_step
          still_call (place_any (x : Int) (y : Int) i _ (by omega) (by omega) (by have := Hi.out; omega))
          repeat still_step
          refine wpStill_nil ?_
          go_wp2
          go_roundg (gk - 1)
          case measure => omega
          case rel =>
            refine ⟨y + 1, xorAt cy x z, by omega, by go_num, ?_, ?_, ?_⟩
            · have := Holds.xor hCy (i := x) (by omega) HV.out z
              rw [Nat.zero_add] at this
              exact Holds.drew this
            · exact (hOy.setCell (o := x) (by omega) (by omega) _).drew
            · show _ = xorAt (colIn a x ck y) x a[x + 5 * y]!
              rw [HZ.out, HEy.out]
        · have hy5 : y = 5 := by omega
          subst hy5
          go_wp2
          go_roundg (4 - x)
          case measure => omega
          case rel =>
            refine ⟨x + 1, cy, by omega, by go_num, hCy, hOy, ?_⟩
            show _ = colIn a x (colTo a x) 5
            rw [HEy.out, HE.out]
    · have hx5 : x = 5 := by omega
      subst hx5
      have hb2 : Below w.heap.size w wr := hb1.trans (hO.below (by omega) (Nat.le_refl _))
      have hs2 : w.heap.size < wr.heap.size := Nat.lt_of_lt_of_le hs1 hO.size
      clear hlt hx hC1 hb1 hs1 hA1 hT1 hO
      have hmk := HM25.out
      go_wp2
      clear hmk
      have hM3 : Holds enc (wr.alloc (.cells (madeCells #[.int .u64 0] 25) 56)) wr.heap.size 0 (movTo a tn ck 0) := Holds.made (enc := enc) wr 56 25 0
      have hb3' : Below wr.heap.size wr (wr.alloc (.cells (madeCells #[.int .u64 0] 25) 56)) := (Below.refl _ _).alloc (Nat.le_refl _) _
      generalize hW3 : (wr.alloc _) = W3 at hM3 hb3' ⊢
      have hs3 : wr.heap.size < W3.heap.size := by rw [← hW3]; simp
      have hC3 := Holds.below hC hb3' hs2
      have hb3 := hb2.trans (hb3'.mono (by omega))
      have hA3 := Holds.below hA hb3 hab
      have hT3 := Holds.below hT hb3 htb
      clear hW3 hb3' hb2 hC
      generalize hMB : wr.heap.size = MB at *
      go_loopg [11] 5 (fun g s11 wr => ∃ (x : Nat) (mk : St), x + g = 5 ∧ s11 = .int .i64 x ∧ Holds enc wr MB 0 mk ∧ Only MB 0 25 W3 wr ∧ Hid (mk = movTo a tn ck x))
      case atStart => exact ⟨0, _, rfl, rfl, hM3, Only.refl _ _ _ _, rfl⟩
      case round =>
        obtain ⟨x, mk, hx, rfl, hM, hO, HEx⟩ := hrel
        have hms : mk.size = 25 := by rw [HEx.out, movTo_size]
        by_cases hlt : x < 5
        · have hCw := Holds.other hC3 hO (by omega) (by omega)
          obtain ⟨y0, hy0⟩ : ∃ z, ck[(x + 4) % 5]! = z := ⟨_, rfl⟩
          obtain ⟨y1, hy1⟩ : ∃ z, ck[(x + 1) % 5]! = z := ⟨_, rfl⟩
          obtain ⟨c0, f0⟩ := at_word hCw ((x + 4) % 5) (by omega) hy0
          obtain ⟨c1, f1⟩ := at_word hCw ((x + 1) % 5) (by omega) hy1
          rw [Nat.zero_add] at c0 c1
          have HD : Hid (dcol ck x = y0 ^^^ rol y1 1) := by rw [← hy0, ← hy1]; rfl
          clear hy0 hy1 f0 f1
          have l5 : (x : Int) < 5 := by omega
          have q1 : 0 ≤ ((x : Int) + 4) % 5 := by omega
          have q2 : ((x : Int) + 4) % 5 < 5 := by omega
          have q3 : (((x : Int) + 4) % 5).toNat = (x + 4) % 5 := by omega
          have q4 : 0 ≤ ((x : Int) + 1) % 5 := by omega
          have q5 : ((x : Int) + 1) % 5 < 5 := by omega
          have q6 : (((x : Int) + 1) % 5).toNat = (x + 1) % 5 := by omega
          go_wp2_with fail
          go_quiet ((go_at_call 44; exact Calls.quiet_of (left_any _ 1 _ (by decide))))
          clear c0 c1 q1 q2 q3 q4 q5 q6
          go_wp2
          have hM1 := Holds.drewN hM nq
          have hO1 := hO.drewN nq
          generalize y0 ^^^ rol y1 1 = dv at *
          go_loopg [13] 5 (fun g s13 wq => ∃ (y : Nat) (my : St), y + g = 5 ∧ s13 = .int .i64 y ∧ Holds enc wq MB 0 my ∧ Only MB 0 25 W3 wq ∧ Hid (my = movIn a tn x dv mk y))
          case atStart => exact ⟨0, mk, rfl, rfl, hM1, hO1, rfl⟩
          case round =>
            obtain ⟨y, my, hy, rfl, hMy, hOy, HEy⟩ := hrel
            have hmys : my.size = 25 := by rw [HEy.out, movIn_size, hms]
            by_cases hlty : y < 5
            · have hAy := Holds.other hA3 hOy (by omega) (by omega)
              have hTy := Holds.other hT3 hOy (by omega) (by omega)
              obtain ⟨z, hz⟩ : ∃ z, a[x + 5 * y]! = z := ⟨_, rfl⟩
              obtain ⟨tv, htv⟩ : ∃ z, tn[x + 5 * y]! = z := ⟨_, rfl⟩
              obtain ⟨c0, f0⟩ := at_word hAy (x + 5 * y) (by omega) hz
              obtain ⟨c1, f1⟩ := at_int hTy (x + 5 * y) (by omega) htv
              have t64 : tv < 64 := by rw [← htv]; exact h64 _ (by omega)
              obtain ⟨i, hi⟩ : ∃ i, x + 5 * y = i := ⟨_, rfl⟩
              obtain ⟨j, hj⟩ : ∃ j, y % 5 + 5 * ((2 * x + 3 * y) % 5) = j := ⟨_, rfl⟩
              obtain ⟨c2, f2⟩ := hMy j (by omega)
              rw [Nat.zero_add] at c0 c1 c2 f2
              rw [hi] at c0 c1
              have Hi : Hid (x + 5 * y = i) := hi
              have Hj : Hid (y % 5 + 5 * ((2 * x + 3 * y) % 5) = j) := hj
              have HZ : Hid (a[x + 5 * y]! = z) := hz
              have HT : Hid (tn[x + 5 * y]! = tv) := htv
              have i25 : i < 25 := by omega
              have j25 : j < 25 := by omega
              have i25' : (i : Int) < 25 := by omega
              have j25' : (j : Int) < 25 := by omega
              have y5 : (y : Int) < 5 := by omega
              have s1 : IntKind.i64.wrap (2 * (x : Int)) = 2 * (x : Int) := IntWalk.i64_in _ (by omega)
              have s2 : IntKind.i64.wrap (3 * (y : Int)) = 3 * (y : Int) := IntWalk.i64_in _ (by omega)
              have s3 : IntKind.i64.wrap (2 * (x : Int) + 3 * (y : Int)) = 2 * (x : Int) + 3 * (y : Int) := IntWalk.i64_in _ (by omega)
              clear hz htv hi hj f0 f1
              go_wp2_with fail
              have P1 : ∀ w, Hid (Calls Try.prog 43 #[.int .i64 (y : Int), .int .i64 (2 * (x : Int) + 3 * (y : Int))] w fun e w' => e = .returned (.int .i64 (j : Int)) ∧ w' = w) := fun w => place_any _ _ j w (by omega) (by omega) (by have := Hj.out; omega)
              have P2 : ∀ w, Hid (Calls Try.prog 43 #[.int .i64 (x : Int), .int .i64 (y : Int)] w fun e w' => e = .returned (.int .i64 (i : Int)) ∧ w' = w) := fun w => place_any _ _ i w (by omega) (by omega) (by have := Hi.out; omega)
              go_region_with (first | (go_at_call_of 43 (Value.int IntKind.i64 (x : Int)); refine Calls.mono (P2 _).out ?_; rintro e w2 ⟨rfl, rfl⟩) | (go_at_call 43; refine Calls.mono (P1 _).out ?_; rintro e w2 ⟨rfl, rfl⟩) | (go_at_call 44; refine (left_any (z ^^^ dv) tv _ t64).mono ?_; rintro e w2 ⟨rfl, n2, rfl⟩))
              all_goals
                go_wp2
                go_roundg (gk - 1)
                case measure => omega
                case rel =>
                  refine ⟨y + 1, my.setIfInBounds j (rol (z ^^^ dv) tv), by omega, by go_num, ?_, ?_, ?_⟩
                  · have := Holds.set (Holds.drewN hMy (1 + n2)) (i := j) (by omega) (rol (z ^^^ dv) tv)
                    rw [Nat.zero_add] at this
                    exact this
                  · exact (hOy.drewN (1 + n2)).setCell (o := j) (by omega) (by omega) _
                  · show _ = (movIn a tn x dv mk y).setIfInBounds (y % 5 + 5 * ((2 * x + 3 * y) % 5)) (rol (a[x + 5 * y]! ^^^ dv) tn[x + 5 * y]!)
                    rw [HZ.out, HT.out, Hj.out, HEy.out]
            · have hy5 : y = 5 := by omega
              subst hy5
              go_wp2
              go_roundg (4 - x)
              case measure => omega
              case rel =>
                refine ⟨x + 1, my, by omega, by go_num, hMy, hOy, ?_⟩
                show _ = movIn a tn x (dcol ck x) (movTo a tn ck x) 5
                rw [HEy.out, HEx.out, HD.out]
        · have hx5 : x = 5 := by omega
          subst hx5
          have hb4 : Below w.heap.size w wr := hb3.trans (hO.below (by omega) (by omega))
          have hs4 : MB < wr.heap.size := Nat.lt_of_lt_of_le hs3 hO.size
          clear hlt hx hb3 hs3 hA3 hT3 hC3 hM3 hO
          have hmk := HM25.out
          go_wp2
          clear hmk
          have hU5 : Holds enc (wr.alloc (.cells (madeCells #[.int .u64 0] 25) 56)) wr.heap.size 0 (outTo mk 0) := Holds.made (enc := enc) wr 56 25 0
          have hb5' : Below wr.heap.size wr (wr.alloc (.cells (madeCells #[.int .u64 0] 25) 56)) := (Below.refl _ _).alloc (Nat.le_refl _) _
          generalize hW5 : (wr.alloc _) = W5 at hU5 hb5' ⊢
          have hs5 : wr.heap.size < W5.heap.size := by rw [← hW5]; simp
          have hM5 := Holds.below hM hb5' hs4
          have hb5 := hb4.trans (hb5'.mono (by omega))
          clear hW5 hb5' hb4 hM
          generalize hOB : wr.heap.size = OB at *
          go_loopg [15] 5 (fun g s15 wr => ∃ (x : Nat) (ok : St), x + g = 5 ∧ s15 = .int .i64 x ∧ Holds enc wr OB 0 ok ∧ Only OB 0 25 W5 wr ∧ Hid (ok = outTo mk x))
          case atStart => exact ⟨0, _, rfl, rfl, hU5, Only.refl _ _ _ _, rfl⟩
          case round =>
            obtain ⟨x, ok, hx, rfl, hU, hO, HEu⟩ := hrel
            have hus : ok.size = 25 := by rw [HEu.out, outTo_size]
            by_cases hlt : x < 5
            · have l5 : (x : Int) < 5 := by omega
              go_wp2
              go_loopg [16] 5 (fun g s16 wq => ∃ (y : Nat) (oy : St), y + g = 5 ∧ s16 = .int .i64 y ∧ Holds enc wq OB 0 oy ∧ Only OB 0 25 W5 wq ∧ Hid (oy = outIn mk x ok y))
              case atStart => exact ⟨0, ok, rfl, rfl, hU, hO, rfl⟩
              case round =>
                obtain ⟨y, oy, hy, rfl, hUy, hOy, HEy⟩ := hrel
                have hoys : oy.size = 25 := by rw [HEy.out, outIn_size, hus]
                by_cases hlty : y < 5
                · have hMy := Holds.other hM5 hOy (by omega) (by omega)
                  obtain ⟨i0, hi0⟩ : ∃ i, x + 5 * y = i := ⟨_, rfl⟩
                  obtain ⟨i1, hi1⟩ : ∃ i, (x + 1) % 5 + 5 * y = i := ⟨_, rfl⟩
                  obtain ⟨i2, hi2⟩ : ∃ i, (x + 2) % 5 + 5 * y = i := ⟨_, rfl⟩
                  obtain ⟨z0, hz0⟩ : ∃ z, mk[i0]! = z := ⟨_, rfl⟩
                  obtain ⟨z1, hz1⟩ : ∃ z, mk[i1]! = z := ⟨_, rfl⟩
                  obtain ⟨z2, hz2⟩ : ∃ z, mk[i2]! = z := ⟨_, rfl⟩
                  obtain ⟨c0, f0⟩ := at_word hMy i0 (by omega) hz0
                  obtain ⟨c1, f1⟩ := at_word hMy i1 (by omega) hz1
                  obtain ⟨c2, f2⟩ := at_word hMy i2 (by omega) hz2
                  obtain ⟨c3, f3⟩ := hUy i0 (by omega)
                  rw [Nat.zero_add] at c0 c1 c2 c3 f3
                  have H0 : Hid (x + 5 * y = i0) := hi0
                  have H1 : Hid ((x + 1) % 5 + 5 * y = i1) := hi1
                  have H2 : Hid ((x + 2) % 5 + 5 * y = i2) := hi2
                  have HV : Hid (mk[x + 5 * y]! ^^^ (~~~mk[(x + 1) % 5 + 5 * y]! &&& mk[(x + 2) % 5 + 5 * y]!) = z0 ^^^ (~~~z1 &&& z2)) := by
                    show _ = _
                    rw [hi0, hi1, hi2, hz0, hz1, hz2]
                  have b0 : i0 < 25 := by omega
                  have b0' : (i0 : Int) < 25 := by omega
                  have b1' : (i1 : Int) < 25 := by omega
                  have b2' : (i2 : Int) < 25 := by omega
                  have y5 : (y : Int) < 5 := by omega
                  have s1 : IntKind.i64.wrap ((x : Int) + 1) = (x : Int) + 1 := IntWalk.i64_in _ (by omega)
                  have s2 : IntKind.i64.wrap ((x : Int) + 2) = (x : Int) + 2 := IntWalk.i64_in _ (by omega)
                  clear hz0 hz1 hz2 hi0 hi1 hi2 f0 f1 f2
                  go_wp2_with fail
                  refine wp_region_still_tail 28 mixed (by kernel_rfl) ?_
                  simp only [List.take_succ_cons, List.take_zero, List.drop_succ_cons, List.drop_zero]
                  repeat still_step
                  still_call (place_any (x : Int) (y : Int) i0 _ (by omega) (by omega) (by have := H0.out; omega))
                  repeat still_step
                  still_call (place_any (x : Int) (y : Int) i0 _ (by omega) (by omega) (by have := H0.out; omega))
                  repeat still_step
                  still_call (place_any ((x : Int) + 1) (y : Int) i1 _ (by omega) (by omega) (by have := H1.out; omega))
                  repeat still_step
                  still_call (place_any ((x : Int) + 2) (y : Int) i2 _ (by omega) (by omega) (by have := H2.out; omega))
                  repeat still_step
                  refine wpStill_nil ?_
                  go_wp2
                  go_roundg (gk - 1)
                  case measure => omega
                  case rel =>
                    refine ⟨y + 1, oy.setIfInBounds i0 (z0 ^^^ (~~~z1 &&& z2)), by omega, by go_num, ?_, ?_, ?_⟩
                    · have := Holds.set hUy (i := i0) (by omega) (z0 ^^^ (~~~z1 &&& z2))
                      rw [Nat.zero_add] at this
                      exact Holds.drew this
                    · exact (hOy.setCell (o := i0) (by omega) (by omega) _).drew
                    · show _ = (outIn mk x ok y).setIfInBounds (x + 5 * y) (mk[x + 5 * y]! ^^^ (~~~mk[(x + 1) % 5 + 5 * y]! &&& mk[(x + 2) % 5 + 5 * y]!))
                      rw [HV.out, H0.out, HEy.out]
                · have hy5 : y = 5 := by omega
                  subst hy5
                  go_wp2
                  go_roundg (4 - x)
                  case measure => omega
                  case rel =>
                    refine ⟨x + 1, oy, by omega, by go_num, hUy, hOy, ?_⟩
                    show _ = outIn mk x (outTo mk x) 5
                    rw [HEy.out, HEu.out]
            · have hx5 : x = 5 := by omega
              subst hx5
              obtain ⟨z, hz⟩ : ∃ z, ok[0]! = z := ⟨_, rfl⟩
              obtain ⟨c0, f0⟩ := at_word hU 0 (by omega) hz
              rw [Nat.zero_add] at c0 f0
              have HZ : Hid (ok[0]! = z) := hz
              clear hz
              go_wp2
              go_ret
              refine ⟨OB, rfl, by omega, ?_, ?_⟩
              · exact (hb5.trans (hO.below (by omega) (by omega))).setCell (p := ⟨OB, 0, none⟩) (by show _ ≤ OB; omega) _
              · have e : refRound a tn c = xorAt ok 0 c := by unfold refRound; rw [HEu.out, HEx.out, HE.out]
                rw [e]
                exact Holds.xor (i := 0) hU (by omega) HZ.out c
end Go.Proofs.Ytfclmmkgmhlbbaa
