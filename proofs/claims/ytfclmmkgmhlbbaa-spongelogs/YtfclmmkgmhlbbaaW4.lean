import Derived.Test.YtfclmmkgmhlbbaaW1
namespace Go.Proofs.Ytfclmmkgmhlbbaa
open Go.RowKit Go.Sort
attribute [local go_sem] bits_xor64 bits_and64 bits_or64 bits_not64

set_option maxHeartbeats 1000000 in
set_option maxRecDepth 100000 in
theorem mixRows_any (b off : Nat) (d : St) (w : World) (hd : d.size = 25) (hH : Holds enc w b off d) :
    Calls Try.prog 41 #[.pointer (some ⟨b, off, none⟩)] w fun e w' => e = .returned (.tuple #[]) ∧ Only b off 25 w w' ∧ Holds enc w' b off (chi d) := by
  go_enter Try.func41, Try.ntmps41
  go_wp2
  go_loopg [2] 5 (fun g si wr => ∃ k dk, k + g = 5 ∧ si = .int .i64 ((5 * k : Nat) : Int) ∧ Holds enc wr b off dk ∧ Only b off 25 w wr ∧ Hid (dk = chiTo d k))
  case atStart => exact ⟨0, d, rfl, rfl, hH, Only.refl _ _ _ _, rfl⟩
  case round =>
    obtain ⟨k, dk, hk, rfl, hD, hO, HE⟩ := hrel
    have hs : dk.size = 25 := by rw [HE.out, chiTo_size, hd]
    by_cases hlt : k < 5
    · obtain ⟨i, hi⟩ : ∃ i, 5 * k = i := ⟨_, rfl⟩
      rw [hi]
      have Hi : Hid (5 * k = i) := hi
      obtain ⟨x0, hx0⟩ : ∃ x, dk[i]! = x := ⟨_, rfl⟩
      obtain ⟨x1, hx1⟩ : ∃ x, dk[i + 1]! = x := ⟨_, rfl⟩
      obtain ⟨x2, hx2⟩ : ∃ x, dk[i + 2]! = x := ⟨_, rfl⟩
      obtain ⟨x3, hx3⟩ : ∃ x, dk[i + 3]! = x := ⟨_, rfl⟩
      obtain ⟨x4, hx4⟩ : ∃ x, dk[i + 4]! = x := ⟨_, rfl⟩
      obtain ⟨c0, f0⟩ := at_word hD i (by omega) hx0
      obtain ⟨c1, f1⟩ := at_word hD (i + 1) (by omega) hx1
      obtain ⟨c2, f2⟩ := at_word hD (i + 2) (by omega) hx2
      obtain ⟨c3, f3⟩ := at_word hD (i + 3) (by omega) hx3
      obtain ⟨c4, f4⟩ := at_word hD (i + 4) (by omega) hx4
      have HX0 : Hid (dk[i]! = x0) := hx0
      have HX1 : Hid (dk[i + 1]! = x1) := hx1
      have HX2 : Hid (dk[i + 2]! = x2) := hx2
      have HX3 : Hid (dk[i + 3]! = x3) := hx3
      have HX4 : Hid (dk[i + 4]! = x4) := hx4
      have Q0 := HX0
      have Q1 := HX1
      have Q2 := HX2
      have Q3 := HX3
      have Q4 := HX4
      have i20 : i ≤ 20 := by omega
      clear hx0 hx1 hx2 hx3 hx4 hi
      have b0 : (i : Int) < 25 := by omega
      have b1 : (i : Int) + 1 < 25 := by omega
      have p1 : 0 ≤ (i : Int) + 1 := by omega
      have e1 : ((i : Int) + 1).toNat = i + 1 := by omega
      have v1 : IntKind.i64.wrap ((i : Int) + 1) = (i : Int) + 1 := IntWalk.i64_in _ (by omega)
      have b2 : (i : Int) + 2 < 25 := by omega
      have p2 : 0 ≤ (i : Int) + 2 := by omega
      have e2 : ((i : Int) + 2).toNat = i + 2 := by omega
      have v2 : IntKind.i64.wrap ((i : Int) + 2) = (i : Int) + 2 := IntWalk.i64_in _ (by omega)
      have b3 : (i : Int) + 3 < 25 := by omega
      have p3 : 0 ≤ (i : Int) + 3 := by omega
      have e3 : ((i : Int) + 3).toNat = i + 3 := by omega
      have v3 : IntKind.i64.wrap ((i : Int) + 3) = (i : Int) + 3 := IntWalk.i64_in _ (by omega)
      have b4 : (i : Int) + 4 < 25 := by omega
      have p4 : 0 ≤ (i : Int) + 4 := by omega
      have e4 : ((i : Int) + 4).toNat = i + 4 := by omega
      have v4 : IntKind.i64.wrap ((i : Int) + 4) = (i : Int) + 4 := IntWalk.i64_in _ (by omega)
      go_wp2_with fail
      go_quiet (fail)
      clear c1 c2 c3 c4 f1 f2 f3 f4 b1 p1 e1 v1 b2 p2 e2 v2 b3 p3 e3 v3 b4 p4 e4 v4
      go_wp2_with fail
      go_region
      go_wp2_with fail
      generalize hW0 : World.setCell _ _ _ = W0
      have hs0 : (xorAt dk i (~~~x1 &&& x2)).size = 25 := by rw [xorAt_size]; omega
      have hD0 : Holds enc W0 b off (xorAt dk i (~~~x1 &&& x2)) := by rw [← hW0]; exact Holds.xor (Holds.drewN hD _) (by omega) HX0.out _
      have hO0 : Only b off 25 w W0 := by rw [← hW0]; exact (hO.drewN _).setCell (o := off + i) (by omega) (by omega) _
      generalize hd0 : xorAt dk i (~~~x1 &&& x2) = d0 at *
      have Hd0 : Hid (xorAt dk i (~~~x1 &&& x2) = d0) := hd0
      have HX1 : Hid (d0[i + 1]! = x1) := by show _ = _; rw [← hd0, xorAt_other _ _ _ _ (by omega)]; exact HX1.out
      have HX2 : Hid (d0[i + 2]! = x2) := by show _ = _; rw [← hd0, xorAt_other _ _ _ _ (by omega)]; exact HX2.out
      have HX3 : Hid (d0[i + 3]! = x3) := by show _ = _; rw [← hd0, xorAt_other _ _ _ _ (by omega)]; exact HX3.out
      have HX4 : Hid (d0[i + 4]! = x4) := by show _ = _; rw [← hd0, xorAt_other _ _ _ _ (by omega)]; exact HX4.out
      obtain ⟨c1, f1⟩ := at_word hD0 (i + 1) (by omega) HX1.out
      clear hd0 hW0 c0 f0
      have b1 : (i : Int) + 1 < 25 := by omega
      have p1 : 0 ≤ (i : Int) + 1 := by omega
      have e1 : ((i : Int) + 1).toNat = i + 1 := by omega
      have v1 : IntKind.i64.wrap ((i : Int) + 1) = (i : Int) + 1 := IntWalk.i64_in _ (by omega)
      go_region
      go_wp2_with fail
      generalize hW1 : World.setCell _ _ _ = W1
      have hs1 : (xorAt d0 (i + 1) (~~~x2 &&& x3)).size = 25 := by rw [xorAt_size]; omega
      have hD1 : Holds enc W1 b off (xorAt d0 (i + 1) (~~~x2 &&& x3)) := by rw [← hW1]; exact Holds.xor hD0 (by omega) HX1.out _
      have hO1 : Only b off 25 w W1 := by rw [← hW1]; exact (hO0).setCell (o := off + (i + 1)) (by omega) (by omega) _
      generalize hd1 : xorAt d0 (i + 1) (~~~x2 &&& x3) = d1 at *
      have Hd1 : Hid (xorAt d0 (i + 1) (~~~x2 &&& x3) = d1) := hd1
      have HX2 : Hid (d1[i + 2]! = x2) := by show _ = _; rw [← hd1, xorAt_other _ _ _ _ (by omega)]; exact HX2.out
      have HX3 : Hid (d1[i + 3]! = x3) := by show _ = _; rw [← hd1, xorAt_other _ _ _ _ (by omega)]; exact HX3.out
      have HX4 : Hid (d1[i + 4]! = x4) := by show _ = _; rw [← hd1, xorAt_other _ _ _ _ (by omega)]; exact HX4.out
      obtain ⟨c2, f2⟩ := at_word hD1 (i + 2) (by omega) HX2.out
      clear hd1 hW1 c1 f1
      clear b1 p1 e1 v1
      have b2 : (i : Int) + 2 < 25 := by omega
      have p2 : 0 ≤ (i : Int) + 2 := by omega
      have e2 : ((i : Int) + 2).toNat = i + 2 := by omega
      have v2 : IntKind.i64.wrap ((i : Int) + 2) = (i : Int) + 2 := IntWalk.i64_in _ (by omega)
      go_region
      go_wp2_with fail
      generalize hW2 : World.setCell _ _ _ = W2
      have hs2 : (xorAt d1 (i + 2) (~~~x3 &&& x4)).size = 25 := by rw [xorAt_size]; omega
      have hD2 : Holds enc W2 b off (xorAt d1 (i + 2) (~~~x3 &&& x4)) := by rw [← hW2]; exact Holds.xor hD1 (by omega) HX2.out _
      have hO2 : Only b off 25 w W2 := by rw [← hW2]; exact (hO1).setCell (o := off + (i + 2)) (by omega) (by omega) _
      generalize hd2 : xorAt d1 (i + 2) (~~~x3 &&& x4) = d2 at *
      have Hd2 : Hid (xorAt d1 (i + 2) (~~~x3 &&& x4) = d2) := hd2
      have HX3 : Hid (d2[i + 3]! = x3) := by show _ = _; rw [← hd2, xorAt_other _ _ _ _ (by omega)]; exact HX3.out
      have HX4 : Hid (d2[i + 4]! = x4) := by show _ = _; rw [← hd2, xorAt_other _ _ _ _ (by omega)]; exact HX4.out
      obtain ⟨c3, f3⟩ := at_word hD2 (i + 3) (by omega) HX3.out
      clear hd2 hW2 c2 f2
      clear b2 p2 e2 v2
      have b3 : (i : Int) + 3 < 25 := by omega
      have p3 : 0 ≤ (i : Int) + 3 := by omega
      have e3 : ((i : Int) + 3).toNat = i + 3 := by omega
      have v3 : IntKind.i64.wrap ((i : Int) + 3) = (i : Int) + 3 := IntWalk.i64_in _ (by omega)
      go_region
      go_wp2_with fail
      generalize hW3 : World.setCell _ _ _ = W3
      have hs3 : (xorAt d2 (i + 3) (~~~x4 &&& x0)).size = 25 := by rw [xorAt_size]; omega
      have hD3 : Holds enc W3 b off (xorAt d2 (i + 3) (~~~x4 &&& x0)) := by rw [← hW3]; exact Holds.xor hD2 (by omega) HX3.out _
      have hO3 : Only b off 25 w W3 := by rw [← hW3]; exact (hO2).setCell (o := off + (i + 3)) (by omega) (by omega) _
      generalize hd3 : xorAt d2 (i + 3) (~~~x4 &&& x0) = d3 at *
      have Hd3 : Hid (xorAt d2 (i + 3) (~~~x4 &&& x0) = d3) := hd3
      have HX4 : Hid (d3[i + 4]! = x4) := by show _ = _; rw [← hd3, xorAt_other _ _ _ _ (by omega)]; exact HX4.out
      obtain ⟨c4, f4⟩ := at_word hD3 (i + 4) (by omega) HX4.out
      clear hd3 hW3 c3 f3
      clear b3 p3 e3 v3
      have b4 : (i : Int) + 4 < 25 := by omega
      have p4 : 0 ≤ (i : Int) + 4 := by omega
      have e4 : ((i : Int) + 4).toNat = i + 4 := by omega
      have v4 : IntKind.i64.wrap ((i : Int) + 4) = (i : Int) + 4 := IntWalk.i64_in _ (by omega)
      go_region
      go_wp2
      generalize hW4 : World.setCell _ _ _ = W4
      have hs4 : (xorAt d3 (i + 4) (~~~x0 &&& x1)).size = 25 := by rw [xorAt_size]; omega
      have hD4 : Holds enc W4 b off (xorAt d3 (i + 4) (~~~x0 &&& x1)) := by rw [← hW4]; exact Holds.xor hD3 (by omega) HX4.out _
      have hO4 : Only b off 25 w W4 := by rw [← hW4]; exact (hO3).setCell (o := off + (i + 4)) (by omega) (by omega) _
      generalize hd4 : xorAt d3 (i + 4) (~~~x0 &&& x1) = d4 at *
      have Hd4 : Hid (xorAt d3 (i + 4) (~~~x0 &&& x1) = d4) := hd4
      clear hd4 hW4 c4 f4
      clear b4 p4 e4 v4
      go_roundg (gk - 1)
      case measure => omega
      case rel =>
        refine ⟨k + 1, d4, by omega, ?_, ?_, ?_, ?_⟩
        · rw [← Hi.out]; go_num
        · exact hD4
        · exact hO4.drewN 4
        · show d4 = rowAt (chiTo d k) (5 * k)
          rw [← HE.out, Hi.out]
          unfold rowAt
          rw [Q0.out, Q1.out, Q2.out, Q3.out, Q4.out, Hd0.out, Hd1.out, Hd2.out, Hd3.out, Hd4.out]
    · have hk5 : k = 5 := by omega
      subst hk5
      go_wp2
      go_end0
      refine ⟨rfl, hO, ?_⟩
      show Holds enc _ b off (chiTo d 5)
      rw [← HE.out]
      exact hD
end Go.Proofs.Ytfclmmkgmhlbbaa
