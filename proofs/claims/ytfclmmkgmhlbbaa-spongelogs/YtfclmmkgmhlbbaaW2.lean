import Derived.Test.YtfclmmkgmhlbbaaW1
namespace Go.Proofs.Ytfclmmkgmhlbbaa
open Go.RowKit Go.Sort

theorem holds_zero5 (w : World) (t : TypeId) : Holds enc (w.alloc (.cells #[.int .u64 0, .int .u64 0, .int .u64 0, .int .u64 0, .int .u64 0] t)) w.heap.size 0 (#[0, 0, 0, 0, 0] : St) := by
  have h := Holds.new (enc := enc) w t (#[0, 0, 0, 0, 0] : St)
  have e : Array.map enc (#[0, 0, 0, 0, 0] : St) = #[.int .u64 0, .int .u64 0, .int .u64 0, .int .u64 0, .int .u64 0] := by simp [enc, u]
  rw [e] at h
  exact h

attribute [local go_sem] bits_xor64 bits_and64 bits_or64

set_option maxHeartbeats 1000000 in
set_option maxRecDepth 100000 in
theorem mixColumns_any (b off : Nat) (d : St) (w : World) (hd : d.size = 25) (hH : Holds enc w b off d) :
    Calls Try.prog 39 #[.pointer (some ⟨b, off, none⟩)] w fun e w' => e = .returned (.tuple #[]) ∧ Only b off 25 w w' ∧ Holds enc w' b off (theta d) := by
  have hb := Holds.lt hH (by omega)
  go_enter Try.func39, Try.ntmps39
  go_wp2
  generalize hW1 : (w.alloc _) = W1
  go_loopg [7] 5 (fun g s7 wr => ∃ k sk, k + g = 5 ∧ s7 = .int .i64 (k : Nat) ∧ Holds enc wr w.heap.size 0 sk ∧ Only w.heap.size 0 5 W1 wr ∧ Hid (sk = sumsTo d k))
  case atStart =>
    refine ⟨0, #[0, 0, 0, 0, 0], rfl, rfl, ?_, Only.refl _ _ _ _, rfl⟩
    rw [← hW1]
    exact holds_zero5 w 83
  case round =>
    obtain ⟨k, sk, hk, rfl, hS, hO, HE⟩ := hrel
    have hHw : Holds enc wr b off d := Holds.other (by rw [← hW1]; exact Holds.below hH ((Below.refl _ _).alloc (Nat.le_refl _) _) hb) hO (by omega) (by omega)
    by_cases hlt : k < 5
    · obtain ⟨x0, hx0⟩ : ∃ x, d[k]! = x := ⟨_, rfl⟩
      obtain ⟨x1, hx1⟩ : ∃ x, d[k + 5]! = x := ⟨_, rfl⟩
      obtain ⟨x2, hx2⟩ : ∃ x, d[k + 10]! = x := ⟨_, rfl⟩
      obtain ⟨x3, hx3⟩ : ∃ x, d[k + 15]! = x := ⟨_, rfl⟩
      obtain ⟨x4, hx4⟩ : ∃ x, d[k + 20]! = x := ⟨_, rfl⟩
      obtain ⟨x5, hx5⟩ : ∃ x, sk[k]! = x := ⟨_, rfl⟩
      have hss : sk.size = 5 := by rw [HE.out, sumsTo_size]
      obtain ⟨c0, f0⟩ := at_word hHw k (by omega) hx0
      obtain ⟨c1, f1⟩ := at_word hHw (k + 5) (by omega) hx1
      obtain ⟨c2, f2⟩ := at_word hHw (k + 10) (by omega) hx2
      obtain ⟨c3, f3⟩ := at_word hHw (k + 15) (by omega) hx3
      obtain ⟨c4, f4⟩ := at_word hHw (k + 20) (by omega) hx4
      obtain ⟨c5, f5⟩ := at_word hS k (by omega) hx5
      rw [Nat.zero_add] at c5 f5
      have HX : Hid (colsum d k = x0 ^^^ x1 ^^^ x2 ^^^ x3 ^^^ x4) := by rw [← hx0, ← hx1, ← hx2, ← hx3, ← hx4]; rfl
      clear hx0 hx1 hx2 hx3 hx4 hx5 hHw
      have k5 : (k : Int) < 5 := by omega
      have b0 : (k : Int) < 25 := by omega
      have b1 : (k : Int) + 5 < 25 := by omega
      have b2 : (k : Int) + 10 < 25 := by omega
      have b3 : (k : Int) + 15 < 25 := by omega
      have b4 : (k : Int) + 20 < 25 := by omega
      have p1 : 0 ≤ (k : Int) + 5 := by omega
      have p2 : 0 ≤ (k : Int) + 10 := by omega
      have p3 : 0 ≤ (k : Int) + 15 := by omega
      have p4 : 0 ≤ (k : Int) + 20 := by omega
      have e1 : ((k : Int) + 5).toNat = k + 5 := by omega
      have e2 : ((k : Int) + 10).toNat = k + 10 := by omega
      have e3 : ((k : Int) + 15).toNat = k + 15 := by omega
      have e4 : ((k : Int) + 20).toNat = k + 20 := by omega
      have v1 : IntKind.i64.wrap ((k : Int) + 5) = (k : Int) + 5 := IntWalk.i64_in _ (by omega)
      have v2 : IntKind.i64.wrap ((k : Int) + 10) = (k : Int) + 10 := IntWalk.i64_in _ (by omega)
      have v3 : IntKind.i64.wrap ((k : Int) + 15) = (k : Int) + 15 := IntWalk.i64_in _ (by omega)
      have v4 : IntKind.i64.wrap ((k : Int) + 20) = (k : Int) + 20 := IntWalk.i64_in _ (by omega)
      go_wp2_with fail
      go_still_tail 35, mixed
      go_wp2
      go_roundg (gk - 1)
      case measure => omega
      case rel =>
        refine ⟨k + 1, sk.setIfInBounds k (x0 ^^^ x1 ^^^ x2 ^^^ x3 ^^^ x4), by omega, by go_num, ?_, ?_, ?_⟩
        · have := Holds.set hS (i := k) (by omega) (x0 ^^^ x1 ^^^ x2 ^^^ x3 ^^^ x4)
          rw [Nat.zero_add] at this
          exact Holds.drew this
        · exact (hO.setCell (Nat.zero_le _) (by omega) _).drew
        · show _ = (sumsTo d k).setIfInBounds k (colsum d k)
          rw [HX.out, HE.out]
    · have hk5 : k = 5 := by omega
      subst hk5
      have HS : Hid (sk = sumsTo d 5) := HE
      have hO2 : Only b off 25 w wr := by
        rw [← hW1] at hO
        exact Only.of_below hO.fresh rfl hb
      clear hk hlt HE hO hW1
      go_wp2
      go_loopg [46] 5 (fun g s46 wq => ∃ k dk, k + g = 5 ∧ s46 = .int .i64 (k : Nat) ∧ Holds enc wq b off dk ∧ Only b off 25 wr wq ∧ Hid (dk = thetaTo sk d k))
      case atStart => exact ⟨0, d, rfl, rfl, hHw, Only.refl _ _ _ _, rfl⟩
      case round =>
        obtain ⟨k, dk, hk, rfl, hD, hO, HE⟩ := hrel
        by_cases hlt : k < 5
        · have hss : sk.size = 5 := by rw [HS.out, sumsTo_size]
          have hSw := Holds.other hS hO (by omega) (by omega)
          obtain ⟨y0, hy0⟩ : ∃ x, sk[(k + 4) % 5]! = x := ⟨_, rfl⟩
          obtain ⟨y1, hy1⟩ : ∃ x, sk[(k + 1) % 5]! = x := ⟨_, rfl⟩
          obtain ⟨c0, f0⟩ := at_word hSw ((k + 4) % 5) (by omega) hy0
          obtain ⟨c1, f1⟩ := at_word hSw ((k + 1) % 5) (by omega) hy1
          rw [Nat.zero_add] at c0 c1
          have HD : Hid (dcol sk k = y0 ^^^ rol y1 1) := by rw [← hy0, ← hy1]; rfl
          clear hy0 hy1 f0 f1
          have k5 : (k : Int) < 5 := by omega
          go_wp2_with fail
          go_quiet ((go_at_call 47; exact Calls.quiet_of_same (rotl_any _ 1 _ (by decide))))
          clear c0 c1
          go_wp2
          have hO1 := hO.drewN nq
          have hD1 := Holds.drewN hD nq
          have hds : dk.size = 25 := by rw [HE.out, thetaTo_size, hd]
          go_loopg [6] 5 (fun g s6 wq => ∃ m dm, m + g = 5 ∧ s6 = .int .i64 ((k + 5 * m : Nat) : Int) ∧ Holds enc wq b off dm ∧ Only b off 25 wr wq ∧ Hid (dm = innerTo (y0 ^^^ rol y1 1) k dk m))
          case atStart => exact ⟨0, dk, rfl, rfl, hD1, (Only.refl _ _ _ _).drewN _, rfl⟩
          case round =>
            obtain ⟨m, dm, hm, rfl, hM, hOm, HM⟩ := hrel
            by_cases hlt2 : m < 5
            · have hms : dm.size = 25 := by rw [HM.out, innerTo_size, hds]
              obtain ⟨z, hz⟩ : ∃ x, dm[k + 5 * m]! = x := ⟨_, rfl⟩
              obtain ⟨c, f⟩ := at_word hM (k + 5 * m) (by omega) hz
              have HZ : Hid (dm[k + 5 * m]! = z) := hz
              clear hz
              have r1 : ((k + 5 * m : Nat) : Int) < 25 := by omega
              generalize hi : k + 5 * m = i at *
              have Hi : Hid (k + 5 * m = i) := hi
              clear hi
              go_wp2_with fail
              go_still_tail 9, mixed
              go_wp2
              go_roundg (gk - 1)
              case measure => omega
              case rel =>
                refine ⟨m + 1, dm.setIfInBounds i (z ^^^ (y0 ^^^ rol y1 1)), by omega, ?_, ?_, ?_, ?_⟩
                · rw [← Hi.out]; go_num
                · exact Holds.drew (Holds.set hM (by omega) _)
                · exact (hOm.setCell (Nat.le_add_right _ _) (by omega) _).drew
                · show _ = xorAt (innerTo (y0 ^^^ rol y1 1) k dk m) (k + 5 * m) (y0 ^^^ rol y1 1)
                  rw [← HM.out, Hi.out, ← HZ.out]
                  rfl
            · have hm5 : m = 5 := by omega
              subst hm5
              have r1 : (25 : Int) ≤ ((k + 5 * 5 : Nat) : Int) := by omega
              generalize hi : k + 5 * 5 = i at *
              go_wp2
              go_roundg (4 - k)
              case measure => omega
              case rel =>
                refine ⟨k + 1, dm, by omega, by go_num, hM, hO.trans hOm, ?_⟩
                show _ = innerTo (dcol sk k) k (thetaTo sk d k) 5
                rw [← HE.out, HD.out]
                exact HM.out
        · have hk5 : k = 5 := by omega
          subst hk5
          go_wp2
          go_end0
          refine ⟨rfl, hO2.trans hO, ?_⟩
          have : theta d = dk := by rw [HE.out, HS.out]; rfl
          rw [this]
          exact hD
end Go.Proofs.Ytfclmmkgmhlbbaa
