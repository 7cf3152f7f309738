import Derived.Test.YtfclmmkgmhlbbaaW1
import Derived.Test.YtfclmmkgmhlbbaaQ
import Derived.Deep.RegionWith
import Derived.Deep.OwnRows
namespace Go.Proofs.Ytfclmmkgmhlbbaa
open Go.RowKit Go.Sort Go.Deep
attribute [local go_sem] bits_xor64 bits_and64 bits_or64 wrap_u

theorem place_any (a b : Int) (n : Nat) (w : World) (ha : 0 ≤ a ∧ a ≤ 1000) (hb : 0 ≤ b ∧ b ≤ 1000) (h : a % 5 + 5 * (b % 5) = (n : Int)) :
    Calls Try.prog 43 #[.int .i64 a, .int .i64 b] w fun e w' => e = .returned (.int .i64 (n : Int)) ∧ w' = w := by
  obtain ⟨a1, a2⟩ := ha
  obtain ⟨b1, b2⟩ := hb
  rw [← h]
  clear h
  go_enter Try.func43, Try.ntmps43
  go_wp2
  go_ret
  exact ⟨rfl, rfl⟩

theorem left_any (x : BitVec 64) (k : Nat) (w : World) (hk : k < 64) :
    Calls Try.prog 44 #[.int .u64 (u x), .int .i64 (k : Int)] w fun e w' => e = .returned (.int .u64 (u (rol x k))) ∧ ∃ n, w' = w.drewN n := by
  have h1 : (0 : Int) ≤ 64 - (k : Int) := by omega
  have h2 : (64 : Int) - (k : Int) ≤ 64 := by omega
  have h3 : (k : Int) ≤ 64 := by omega
  have h4 : IntKind.i64.wrap (64 - (k : Int)) = 64 - (k : Int) := IntWalk.i64_in _ (by omega)
  have h5 : ((64 : Int) - (k : Int)).toNat = 64 - k := by omega
  have s1 := shl64 x k
  have s2 := shr64 x (64 - k)
  go_enter Try.func44, Try.ntmps44
  go_wp2
  go_quiet (fail)
  go_wp2
  go_ret
  refine ⟨ret_int ?_, _, rfl⟩

  rfl

set_option maxHeartbeats 1000000 in
theorem bit_any (t : Nat) (w : World) (ht : t ≤ 1000) :
    Calls Try.prog 45 #[.int .i64 (t : Int)] w fun e w' => e = .returned (.int .u64 (u (bitL t))) ∧ w' = w := by
  go_enter Try.func45, Try.ntmps45
  go_wp2
  go_loop [3, 4] (fun s3 s4 => ∃ (i q : Nat), i ≤ t ∧ s4 = .int .i64 i ∧ s3 = .int .i64 q ∧ q < 256 ∧ Hid (regTo i = q)) (fun _ s4 => t - (intOf s4).toNat)
  case atStart => exact ⟨0, 1, by omega, rfl, rfl, by decide, rfl⟩
  case round =>
    obtain ⟨i, q, hi, rfl, rfl, hq, HE⟩ := hrel
    by_cases hlt : i < t
    · have a2 := rc_xor q hq
      rw [Int.mul_comm] at a2
      have hlt2 := rcReg_lt q hq
      have HC : Hid (regTo (i + 1) = rcReg q) := by show rcReg (regTo i) = _; rw [HE.out]
      by_cases h255 : 255 < 2 * q
      · have HR : Hid (rcReg q = 2 * q ^^^ 369) := if_pos h255
        rw [HR.out] at hlt2
        generalize 2 * q ^^^ 369 = q2 at *
        go_wp2
        go_round
        case rel => exact ⟨i + 1, q2, by omega, by go_num, rfl, hlt2, by rw [HC.out, HR.out]; rfl⟩
        case measure => simp [intOf]; omega
      · have HR : Hid (rcReg q = 2 * q) := if_neg h255
        go_wp2
        go_round
        case rel => exact ⟨i + 1, 2 * q, by omega, by go_num, by go_num, by omega, by rw [HC.out, HR.out]; rfl⟩
        case measure => simp [intOf]; omega
    · have a1 := rc_and q hq
      have hit : i = t := by omega
      subst hit
      go_wp2
      go_ret
      unfold bitL
      rw [HE.out]
      exact ⟨rfl, rfl⟩
end Go.Proofs.Ytfclmmkgmhlbbaa
