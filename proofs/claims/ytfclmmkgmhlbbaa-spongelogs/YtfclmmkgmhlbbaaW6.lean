import Derived.Test.YtfclmmkgmhlbbaaW1
import Derived.Test.YtfclmmkgmhlbbaaP
import Derived.Deep.RegionWith
import Derived.Deep.OwnRows
namespace Go.Proofs.Ytfclmmkgmhlbbaa
open Go.RowKit Go.Sort Go.Deep
attribute [local go_sem] bits_xor64 bits_and64 bits_or64 wrap_u wrap_ub

theorem at_byte {w : World} {b off : Nat} {d : Bs} (h : Holds encB w b off d) (i : Nat) (hi : i < d.size) {x : UInt8} (hx : d[i]! = x) :
    w.cell? ⟨b, off + i, none⟩ = some (.int .u8 (ub x)) ∧ w.frozen? ⟨b, off + i, none⟩ = false := by
  rw [← hx]; exact h i hi

set_option maxHeartbeats 1000000 in
set_option maxRecDepth 100000 in
theorem word_any (sb so o len cap : Nat) (bs : Bs) (w : World) (hB : Holds encB w sb so bs) (h8 : 8 ≤ len) (ho : o + 8 ≤ bs.size) (hl : len ≤ 4611686018427387904) :
    Calls Try.prog 38 #[.slice (some ⟨sb, so + o, none⟩) len cap] w fun e w' => e = .returned (.int .u64 (u (wordOf bs o))) ∧ w' = w := by
  go_enter Try.func38, Try.ntmps38
  go_wp2
  go_loop [3, 5] (fun s3 s5 => ∃ (k : Nat) (c : BitVec 64), k ≤ 8 ∧ s5 = .int .i64 k ∧ s3 = .int .u64 (u c) ∧ Hid (wordTo bs o k = c)) (fun _ s5 => 8 - (intOf s5).toNat)
  case atStart => exact ⟨0, 0, by decide, rfl, rfl, rfl⟩
  case round =>
    obtain ⟨k, c, hk, rfl, rfl, HE⟩ := hrel
    by_cases hlt : k < 8
    · obtain ⟨x, hx⟩ : ∃ x, bs[o + k]! = x := ⟨_, rfl⟩
      obtain ⟨c0, f0⟩ := at_byte hB (o + k) (by omega) hx
      rw [← Nat.add_assoc] at c0
      have HC : Hid (wordTo bs o (k + 1) = c ||| wide x <<< (8 * k)) := by
        show wordTo bs o k ||| wide bs[o + k]! <<< (8 * k) = _
        rw [HE.out, hx]
      clear hx f0
      have hs := shl64 (wide x) (8 * k)
      have k8 : (k : Int) < (len : Int) := by omega
      go_wp2
      go_round
      case rel => exact ⟨k + 1, _, by omega, by go_num, rfl, HC⟩
      case measure => simp [intOf]; omega
    · have hk8 : k = 8 := by omega
      subst hk8
      go_wp2
      go_ret
      unfold wordOf
      rw [HE.out]
      exact ⟨rfl, rfl⟩

set_option maxHeartbeats 1000000 in
set_option maxRecDepth 100000 in
theorem mix_any (b off sb so len cap : Nat) (bs : Bs) (d : St) (w : World) (hd : d.size = 25) (hH : Holds enc w b off d) (hB : Holds encB w sb so bs) (hl : bs.size = len) (hlen : len ≤ 200) (hcap : len ≤ cap)
    (hdis : sb ≠ b ∨ so + len ≤ off ∨ off + 25 ≤ so) :
    Calls Try.prog 25 #[.pointer (some ⟨b, off, none⟩), .slice (some ⟨sb, so, none⟩) len cap] w fun e w' => e = .returned (.tuple #[]) ∧ Only b off 25 w w' ∧ Holds enc w' b off (mixTo bs d (len / 8)) := by
  go_enter Try.func25, Try.ntmps25
  go_wp2
  go_loopg [8] (len / 8) (fun g s8 wr => ∃ (k : Nat) (dk : St), k + g = len / 8 ∧ s8 = .int .i64 k ∧ Holds enc wr b off dk ∧ Only b off 25 w wr ∧ Hid (dk = mixTo bs d k))
  case atStart => exact ⟨0, d, by omega, rfl, hH, Only.refl _ _ _ _, rfl⟩
  case round =>
    obtain ⟨k, dk, hk, rfl, hD, hO, HE⟩ := hrel
    have hs : dk.size = 25 := by rw [HE.out, mixTo_size, hd]
    by_cases hlt : k < len / 8
    · have hBr : Holds encB wr sb so bs := by
        by_cases hsb : sb = b
        · subst hsb
          exact Holds.same hB hO (by omega)
        · exact Holds.other hB hO hsb (by omega)
      obtain ⟨x, hx⟩ : ∃ x, dk[k]! = x := ⟨_, rfl⟩
      obtain ⟨c0, f0⟩ := at_word hD k (by omega) hx
      have HX : Hid (dk[k]! = x) := hx
      clear hx
      have r0 : (k : Int) < 25 := by omega
      have r1 : (0 : Int) ≤ (k : Int) * 8 := by omega
      have r2 : (k : Int) * 8 ≤ (len : Int) := by omega
      have r3 : ((k : Int) * 8).toNat = 8 * k := by omega
      have s1 : IntKind.i64.wrap ((k : Int) * 8) = (k : Int) * 8 := IntWalk.i64_in _ (by omega)
      have lt : (k : Int) < (len : Int) / 8 := by omega
      go_wp2_with fail
      have hne : (cap = 8 * k) = False := eq_false (by omega)
      have HB : Hid (Holds encB wr.drew sb so bs) := Holds.drew hBr
      have Q4 : Hid (8 * k + 8 ≤ bs.size) := by show _ ≤ _; omega
      clear hBr
      go_region_with (go_at_call 38; refine (word_any sb so (8 * k) (len - 8 * k) (cap - 8 * k) bs _ HB.out (by omega) Q4.out (by omega)).mono ?_; rintro e w2 ⟨rfl, rfl⟩)
      all_goals
        go_wp2
        go_roundg (gk - 1)
        case measure => omega
        case rel =>
          refine ⟨k + 1, xorAt dk k (wordOf bs (8 * k)), by omega, by go_num, ?_, ?_, ?_⟩
          · exact Holds.drew (Holds.xor hD (by omega) HX.out _)
          · exact (hO.setCell (o := off + k) (by omega) (by omega) _).drew
          · rw [HE.out]; rfl
    · have hk8 : k = len / 8 := by omega
      have lt : (len : Int) / 8 ≤ (k : Int) := by omega
      go_wp2
      go_end0
      refine ⟨rfl, hO, ?_⟩
      rw [← hk8, ← HE.out]
      exact hD

theorem slice22 : Try.prog.underlying 22 = some (.slice 5) := by kernel_rfl
theorem info5 : (Try.prog.info? 5).map (fun i => (i.zero, i.size, i.bytes)) = some (some (.int .u8 0), 1, 1) := by kernel_rfl
theorem encB_zero : encB 0 = .int .u8 0 := rfl

attribute [local go_sem] low_u
set_option maxHeartbeats 1000000 in
set_option maxRecDepth 100000 in
theorem front_any (b off n : Nat) (d : St) (w : World) (hd : d.size = 25) (hH : Holds enc w b off d) (hn : n ≤ 200) :
    Calls Try.prog 27 #[.pointer (some ⟨b, off, none⟩), .int .i64 (n : Int)] w fun e w' => e = .returned (.slice (some ⟨w.heap.size, 0, none⟩) n n) ∧ Below w.heap.size w w' ∧ Holds encB w' w.heap.size 0 (front d n) := by
  have hb := Holds.lt hH (by omega)
  have hmk := run_make_row' (P := Try.prog) 22 5 (.int .u8 0) 1 slice22 info5 rfl .i64 .i64 n (by omega) (by omega)
  go_enter Try.func27, Try.ntmps27
  go_wp2
  generalize hW1 : (w.alloc _) = W1
  go_loopg [11] n (fun g s11 wr => ∃ (k : Nat) (bs : Bs), k + g = n ∧ s11 = .int .i64 k ∧ Holds encB wr w.heap.size 0 bs ∧ Only w.heap.size 0 n W1 wr ∧ Hid (bs = frontTo d n k))
  case atStart =>
    refine ⟨0, _, by omega, rfl, ?_, Only.refl _ _ _ _, rfl⟩
    rw [← hW1]
    exact Holds.made (enc := encB) w 5 n 0
  case round =>
    obtain ⟨k, bs, hk, rfl, hB, hO, HE⟩ := hrel
    have hs : bs.size = n := by rw [HE.out, frontTo_size]
    have hD : Holds enc wr b off d := Holds.other (by rw [← hW1]; exact Holds.below hH ((Below.refl _ _).alloc (Nat.le_refl _) _) hb) hO (by omega) (by omega)
    by_cases hlt : k < n
    · obtain ⟨x, hx⟩ : ∃ x, d[k / 8]! = x := ⟨_, rfl⟩
      obtain ⟨c0, f0⟩ := at_word hD (k / 8) (by omega) hx
      obtain ⟨c1, f1⟩ := hB k (by omega)
      rw [Nat.zero_add] at c1 f1
      have HX : Hid (byteOf d k = low (x >>> (8 * (k % 8)))) := by show low _ = _; rw [hx]
      clear hx f0
      have r0 : (k : Int) / 8 < 25 := by omega
      have r1 : (k : Int) < (n : Int) := by omega
      have hsr := shr64 x (8 * (k % 8))
      go_wp2
      go_roundg (gk - 1)
      case measure => omega
      case rel =>
        refine ⟨k + 1, bs.setIfInBounds k (low (x >>> (8 * (k % 8)))), by omega, by go_num, ?_, ?_, ?_⟩
        · have := Holds.set hB (i := k) (by omega) (low (x >>> (8 * (k % 8))))
          rw [Nat.zero_add] at this
          exact this
        · exact hO.setCell (o := k) (by omega) (by omega) _
        · show _ = (frontTo d n k).setIfInBounds k (byteOf d k)
          rw [HX.out, HE.out]
    · have hkn : k = n := by omega
      have lt : (n : Int) ≤ (k : Int) := by omega
      go_wp2
      go_ret
      refine ⟨rfl, ?_, ?_⟩
      · rw [← hW1] at hO
        exact hO.fresh
      · unfold front
        rw [HE.out, hkn] at hB
        exact hB
end Go.Proofs.Ytfclmmkgmhlbbaa
