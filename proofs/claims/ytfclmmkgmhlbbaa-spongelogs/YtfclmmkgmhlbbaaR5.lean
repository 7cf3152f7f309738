import Derived.Test.YtfclmmkgmhlbbaaR3
import Derived.Test.YtfclmmkgmhlbbaaR4
import Derived.Test.YtfclmmkgmhlbbaaQ2
namespace Go.Proofs.Ytfclmmkgmhlbbaa
open Go.RowKit Go.Sort Go.Deep
attribute [local go_sem] bits_xor64 bits_and64 bits_or64 bits_not64 wrap_u wrap_ub low_u

set_option maxHeartbeats 2000000 in
set_option maxRecDepth 100000 in
theorem refPermute_any (s : ByteArray) (w : World) (hs : s.size = 200) :
    Calls Try.prog 11 #[.string s] w fun e w' => e = .returned (.string ⟨permB s.data⟩) ∧ Below w.heap.size w w' := by
  have hmk25 : ∀ w : World, (Instr.makeSlice 61 (.int .i64 25) (.int .i64 25)).run Try.prog w = .ok (.slice (some ⟨w.heap.size, 0, none⟩) 25 25) (w.alloc (.cells (madeCells #[.int .u64 0] 25) 56)) :=
    run_make_row' (P := Try.prog) 61 56 (.int .u64 0) 8 slice61 info56 rfl .i64 .i64 25 (by omega) (by omega)
  have hmk200 : ∀ w : World, (Instr.makeSlice 22 (.int .i64 200) (.int .i64 200)).run Try.prog w = .ok (.slice (some ⟨w.heap.size, 0, none⟩) 200 200) (w.alloc (.cells (madeCells #[.int .u8 0] 200) 5)) :=
    run_make_row' (P := Try.prog) 22 5 (.int .u8 0) 1 slice22 info5 rfl .i64 .i64 200 (by omega) (by omega)
  have HM200 : Hid _ := hmk200
  clear hmk200
  go_enter Try.func11, Try.ntmps11
  go_wp2
  clear hmk25
  have hA1 : Holds enc (w.alloc (.cells (madeCells #[.int .u64 0] 25) 56)) w.heap.size 0 (orTo s.data 0) := Holds.made (enc := enc) w 56 25 0
  have hb1 : Below w.heap.size w (w.alloc (.cells (madeCells #[.int .u64 0] 25) 56)) := (Below.refl _ _).alloc (Nat.le_refl _) _
  generalize hW1 : (w.alloc _) = W1 at hA1 hb1 ⊢
  have hs1 : w.heap.size < W1.heap.size := by rw [← hW1]; simp
  clear hW1
  go_loopg [4] 200 (fun g s4 wr => ∃ (i : Nat) (dk : St), i + g = 200 ∧ s4 = .int .i64 i ∧ Holds enc wr w.heap.size 0 dk ∧ Only w.heap.size 0 25 W1 wr ∧ Hid (dk = orTo s.data i))
  case atStart => exact ⟨0, _, rfl, rfl, hA1, Only.refl _ _ _ _, rfl⟩
  case round =>
    obtain ⟨i, dk, hi, rfl, hD, hO, HE⟩ := hrel
    have hds : dk.size = 25 := by rw [HE.out, orTo_size]
    by_cases hlt : i < 200
    · obtain ⟨x, hx⟩ : ∃ x, dk[i / 8]! = x := ⟨_, rfl⟩
      obtain ⟨c0, f0⟩ := at_word hD (i / 8) (by omega) hx
      rw [Nat.zero_add] at c0 f0
      have HX : Hid (dk[i / 8]! = x) := hx
      clear hx
      have l200 : (i : Int) < 200 := by omega
      have p0 : 0 ≤ (i : Int) / 8 := by omega
      have p1 : (i : Int) / 8 < 25 := by omega
      have p2 : ((i : Int) / 8).toNat = i / 8 := by omega
      have s1 : IntKind.i64.wrap ((i : Int) / 8) = (i : Int) / 8 := IntWalk.i64_in _ (by omega)
      have s2 : IntKind.i64.wrap (8 * ((i : Int) % 8)) = 8 * ((i : Int) % 8) := IntWalk.i64_in _ (by omega)
      have s3 : 0 ≤ 8 * ((i : Int) % 8) := by omega
      have s4 : 8 * ((i : Int) % 8) ≤ 64 := by omega
      have s5 : (8 * ((i : Int) % 8)).toNat = 8 * (i % 8) := by omega
      have his : (i : Int) < (s.size : Int) := by omega
      have his' : i < s.size := by omega
      have tm : (i : Int).tmod 8 = (i : Int) % 8 := Int.tmod_eq_emod_of_nonneg (by omega)
      obtain ⟨y, hy⟩ : ∃ y, wide s.data[i]! = y := ⟨_, rfl⟩
      have hsb : IntKind.u64.wrap (s[i].toNat : Int) = u y := by
        have e : s.data[i]! = s[i] := getElem!_pos s.data i his'
        rw [← hy, e]
        exact wrap_ub s[i]
      have HY : Hid (wide s.data[i]! = y) := hy
      clear hy
      have sh := shl64 y (8 * (i % 8))
      go_wp2_with fail
      go_still_tail 18, mixed
      go_wp2
      go_roundg (gk - 1)
      case measure => omega
      case rel =>
        refine ⟨i + 1, dk.setIfInBounds (i / 8) (x ||| y <<< (8 * (i % 8))), by omega, by go_num, ?_, ?_, ?_⟩
        · have := Holds.set hD (i := i / 8) (by omega) (x ||| y <<< (8 * (i % 8)))
          rw [Nat.zero_add] at this
          exact Holds.drew this
        · exact (hO.setCell (o := i / 8) (by omega) (by omega) _).drew
        · show _ = (orTo s.data i).setIfInBounds (i / 8) ((orTo s.data i)[i / 8]! ||| wide s.data[i]! <<< (8 * (i % 8)))
          rw [HY.out, ← HE.out, HX.out]
    · have hi200 : i = 200 := by omega
      subst hi200
      have hb2 : Below w.heap.size w wr := hb1.trans (hO.below (by omega) (Nat.le_refl _))
      have hs2 : w.heap.size < wr.heap.size := Nat.lt_of_lt_of_le hs1 hO.size
      clear hlt hi hA1 hb1 hs1 hO
      go_wp2_with fail
      refine (offsets_any _).mono ?_
      rintro e w3 ⟨rfl, hb3, hT⟩
      have hD3 := Holds.below hD hb3 hs2
      have hb4 := hb2.trans (hb3.mono (by omega))
      have hs3 : wr.heap.size < w3.heap.size := Holds.lt hT (by rw [offsets_size]; omega)
      generalize hTB : wr.heap.size = TB at *
      clear hb2 hb3 hD
      go_wp2
      go_loopg [3, 6] 24 (fun g s3 s6 wr => ∃ (k ab : Nat) (dk : St), k + g = 24 ∧ s6 = .int .i64 k ∧ s3 = .slice (some ⟨ab, 0, none⟩) 25 25 ∧ Holds enc wr ab 0 dk ∧ w.heap.size ≤ ab ∧ Holds encI wr TB 0 offsetsL ∧ Below w.heap.size w wr ∧ Hid (dk = refTo (orTo s.data 200) k))
      case atStart => exact ⟨0, w.heap.size, dk, rfl, rfl, rfl, hD3, Nat.le_refl _, hT, hb4, HE⟩
      case round =>
        clear hT hb4 hD3 HE hds dk
        obtain ⟨k, ab, dk, hk, rfl, rfl, hD, hab, hT, hb, HE⟩ := hrel
        have hds : dk.size = 25 := by
          rw [HE.out]
          cases k with
          | zero => exact orTo_size _ _
          | succ k => exact refRound_size _ _ _
        by_cases hlt : k < 24
        · have l24 : (k : Int) < 24 := by omega
          go_wp2_with fail
          refine (constant_any k _ hlt).mono ?_
          rintro e w4 ⟨rfl, rfl⟩
          go_wp2_with fail
          refine (round_any ab TB dk offsetsL (conL k) _ hds offsets_size hD hT offsets_lt).mono ?_
          rintro e w5 ⟨r, rfl, hr, hb5, hR⟩
          have hTl := Holds.lt hT (by rw [offsets_size]; omega)
          have hsz := hb.size
          go_wp2
          go_roundg (gk - 1)
          case measure => omega
          case rel =>
            refine ⟨k + 1, r, refRound dk offsetsL (conL k), by omega, by go_num, rfl, hR, by omega, Holds.below hT hb5 hTl, hb.trans (hb5.mono (by omega)), ?_⟩
            rw [HE.out]; rfl
        · have hk24 : k = 24 := by omega
          subst hk24
          have hmk := HM200.out
          go_wp2
          clear hmk
          have hsz := hb.size
          have hal := Holds.lt hD (by omega)
          have hF1 : Holds encB (wr.alloc (.cells (madeCells #[.int .u8 0] 200) 5)) wr.heap.size 0 (frontTo dk 200 0) := Holds.made (enc := encB) wr 5 200 0
          have hb6 : Below wr.heap.size wr (wr.alloc (.cells (madeCells #[.int .u8 0] 200) 5)) := (Below.refl _ _).alloc (Nat.le_refl _) _
          generalize hW6 : (wr.alloc _) = W6 at hF1 hb6 ⊢
          have hs6 : wr.heap.size < W6.heap.size := by rw [← hW6]; simp
          have hD6 := Holds.below hD hb6 hal
          have hb7 := hb.trans (hb6.mono hsz)
          clear hW6 hb6 hb hD hT
          generalize hFB : wr.heap.size = FB at *
          go_loopg [8] 200 (fun g s8 wr => ∃ (i : Nat) (bs : Bs), i + g = 200 ∧ s8 = .int .i64 i ∧ Holds encB wr FB 0 bs ∧ Only FB 0 200 W6 wr ∧ Hid (bs = frontTo dk 200 i))
          case atStart => exact ⟨0, _, rfl, rfl, hF1, Only.refl _ _ _ _, rfl⟩
          case round =>
            obtain ⟨i, bs, hi, rfl, hB, hO, HEb⟩ := hrel
            have hbs : bs.size = 200 := by rw [HEb.out, frontTo_size]
            by_cases hlt : i < 200
            · have hDw := Holds.other hD6 hO (by omega) (by omega)
              obtain ⟨x, hx⟩ : ∃ x, dk[i / 8]! = x := ⟨_, rfl⟩
              obtain ⟨c0, f0⟩ := at_word hDw (i / 8) (by omega) hx
              obtain ⟨c1, f1⟩ := hB i (by omega)
              rw [Nat.zero_add] at c0 c1 f1
              have HX : Hid (byteOf dk i = low (x >>> (8 * (i % 8)))) := by show low _ = _; rw [hx]
              clear hx f0
              have p1 : (i : Int) / 8 < 25 := by omega
              have l200 : (i : Int) < 200 := by omega
              have hsr := shr64 x (8 * (i % 8))
              go_wp2
              go_roundg (gk - 1)
              case measure => omega
              case rel =>
                refine ⟨i + 1, bs.setIfInBounds i (low (x >>> (8 * (i % 8)))), by omega, by go_num, ?_, ?_, ?_⟩
                · have := Holds.set hB (i := i) (by omega) (low (x >>> (8 * (i % 8))))
                  rw [Nat.zero_add] at this
                  exact this
                · exact hO.setCell (o := i) (by omega) (by omega) _
                · show _ = (frontTo dk 200 i).setIfInBounds i (byteOf dk i)
                  rw [HX.out, HEb.out]
            · have hi200 : i = 200 := by omega
              subst hi200
              have kc := conv_str Try.prog 22 9 5 slice22 int5 str9 wr FB 0 200 200 bs hB hbs
              go_wp2
              go_ret
              have e1 : bs = permB s.data := by rw [HEb.out, HE.out]; exact ref_permB s.data
              rw [e1]
              exact ⟨rfl, hb7.trans (hO.below (by omega) (by omega))⟩
end Go.Proofs.Ytfclmmkgmhlbbaa
