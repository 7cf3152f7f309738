import Derived.Test.YtfclmmkgmhlbbaaP
import Derived.Test.YtfclmmkgmhlbbaaW2
import Derived.Test.YtfclmmkgmhlbbaaW3
import Derived.Test.YtfclmmkgmhlbbaaW4
namespace Go.Proofs.Ytfclmmkgmhlbbaa
open Go.RowKit Go.Sort
attribute [local go_sem] bits_xor64 bits_and64 bits_or64 wrap_u

theorem place_int (j : Nat) (hj : j < 7) : ∃ p : Nat, wrap64 (wrap64 ((2 : Int) ^ j) - 1) = (p : Int) ∧ p ≤ 63 ∧ Hid (2 ^ j - 1 = p) := by
  have H : ∀ j : Fin 7, wrap64 (wrap64 ((2 : Int) ^ j.val) - 1) = ((2 ^ j.val - 1 : Nat) : Int) ∧ 2 ^ j.val - 1 ≤ 63 := by decide +kernel
  exact ⟨_, (H ⟨j, hj⟩).1, (H ⟨j, hj⟩).2, rfl⟩

set_option maxHeartbeats 1000000 in
set_option maxRecDepth 100000 in
theorem roundConstant_any (r : Nat) (w : World) (hr : r < 256) :
    Calls Try.prog 42 #[.int .i64 (r : Int)] w fun e w' => e = .returned (.tuple #[.int .u64 (u (rcC r)), .int .i64 (rcN r : Int)]) ∧ w' = w := by
  go_enter Try.func42, Try.ntmps42
  go_wp2
  go_loop [0, 2, 6] (fun s0 s2 s6 => ∃ j : Nat, j ≤ 7 ∧ ∃ (c : BitVec 64) (q : Nat), s6 = .int .i64 j ∧ s2 = .int .u64 (u c) ∧ s0 = .int .i64 q ∧ q < 256 ∧ Hid (rcTo r j = (c, q))) (fun _ _ s6 => 7 - (intOf s6).toNat)
  case atStart => exact ⟨0, by decide, 0, r, rfl, rfl, rfl, hr, rfl⟩
  case round =>
    obtain ⟨j, hj, c, q, rfl, rfl, rfl, hq, HE⟩ := hrel
    by_cases hlt : j < 7
    · have a1 := rc_and q hq
      have a2 := rc_xor q hq
      obtain ⟨p, a3, hp, HP⟩ := place_int j hlt
      have HC : Hid (rcTo r (j + 1) = (c ||| BitVec.ofNat 64 (q % 2) <<< p, rcReg q)) := by
        show ((rcTo r j).1 ||| BitVec.ofNat 64 ((rcTo r j).2 % 2) <<< (2 ^ j - 1), rcReg (rcTo r j).2) = _
        rw [HE.out, HP.out]
      have hs := shl64 (BitVec.ofNat 64 (q % 2)) p
      have hlt2 := rcReg_lt q hq
      by_cases h255 : 255 < 2 * q
      · have HR : Hid (rcReg q = 2 * q ^^^ 369) := if_pos h255
        rw [HR.out] at hlt2
        generalize 2 * q ^^^ 369 = q2 at *
        go_wp2
        go_round
        case rel => exact ⟨j + 1, by omega, _, q2, by go_num, rfl, rfl, hlt2, by rw [HC.out, HR.out]; rfl⟩
        case measure => simp [intOf]; omega
      · have HR : Hid (rcReg q = 2 * q) := if_neg h255
        go_wp2
        go_round
        case rel => exact ⟨j + 1, by omega, _, 2 * q, by go_num, rfl, by go_num, by omega, by rw [HC.out, HR.out]; rfl⟩
        case measure => simp [intOf]; omega
    · have hj7 : j = 7 := by omega
      subst hj7
      go_wp2
      go_ret2
      unfold rcC rcN
      rw [HE.out]
      exact ⟨rfl, rfl⟩

set_option maxHeartbeats 1000000 in
set_option maxRecDepth 100000 in
theorem permute_any (b off : Nat) (d : St) (w : World) (hd : d.size = 25) (hH : Holds enc w b off d) :
    Calls Try.prog 26 #[.pointer (some ⟨b, off, none⟩)] w fun e w' => e = .returned (.tuple #[]) ∧ Only b off 25 w w' ∧ Holds enc w' b off (perm d) := by
  go_enter Try.func26, Try.ntmps26
  go_wp2
  go_loopg [2, 3, 4] 24 (fun g sc sr sk wr => ∃ (k : Nat) (c : BitVec 64) (dk : St), k + g = 24 ∧ sk = .int .i64 k ∧ sc = .int .u64 (u c) ∧ sr = .int .i64 (rcAt k : Nat) ∧ Holds enc wr b off dk ∧ Only b off 25 w wr ∧ Hid (dk = permTo d k))
  case atStart => exact ⟨0, 0, d, rfl, rfl, rfl, rfl, hH, Only.refl _ _ _ _, rfl⟩
  case round =>
    obtain ⟨k, c, dk, hk, rfl, rfl, rfl, hD, hO, HE⟩ := hrel
    have hs : dk.size = 25 := by rw [HE.out, permTo_size d hd]
    by_cases hlt : k < 24
    · have k24 : (k : Int) < 24 := by omega
      go_wp2_with fail
      refine (mixColumns_any b off dk _ hs hD).mono ?_
      rintro e w1 ⟨rfl, hO1, hD1⟩
      go_wp2_with fail
      refine (turnAndMove_any b off _ _ (by rw [theta_size, hs]) hD1).mono ?_
      rintro e w2 ⟨rfl, hO2, hD2⟩
      go_wp2_with fail
      refine (mixRows_any b off _ _ (rhopi_size _ (by rw [theta_size, hs])) hD2).mono ?_
      rintro e w3 ⟨rfl, hO3, hD3⟩
      have HN : Hid (rcAt (k + 1) = rcN (rcAt k)) := rfl
      have HK : Hid (permTo d (k + 1) = kround (permTo d k) (rcC (rcAt k))) := rfl
      have hrl := rcAt_lt k
      generalize rcAt k = r at *
      go_wp2_with fail
      refine (roundConstant_any r _ hrl).mono ?_
      rintro e w4 ⟨rfl, rfl⟩
      have hs3 : (chi (rhopi (theta dk))).size = 25 := by rw [chi_size, rhopi_size _ (by rw [theta_size, hs])]
      obtain ⟨x, hx⟩ : ∃ x, (chi (rhopi (theta dk)))[0]! = x := ⟨_, rfl⟩
      obtain ⟨c0, f0⟩ := at_word hD3 0 (by omega) hx
      rw [Nat.add_zero] at c0 f0
      have HX : Hid ((chi (rhopi (theta dk)))[0]! = x) := hx
      clear hx
      go_wp2_with fail
      go_region
      go_wp2
      go_roundg (gk - 1)
      case measure => omega
      case rel =>
        refine ⟨k + 1, rcC r, kround dk (rcC r), by omega, by go_num, rfl, by rw [HN.out], ?_, ?_, ?_⟩
        · exact Holds.drew (Holds.xor (i := 0) hD3 (by omega) HX.out (rcC r))
        · exact ((((hO.trans hO1).trans hO2).trans hO3).setCell (o := off) (by omega) (by omega) _).drew
        · rw [HK.out, HE.out]; rfl
    · have hk24 : k = 24 := by omega
      subst hk24
      go_wp2
      go_end0
      refine ⟨rfl, hO, ?_⟩
      unfold perm
      rw [← HE.out]
      exact hD
end Go.Proofs.Ytfclmmkgmhlbbaa
