import Derived.Test.YtfclmmkgmhlbbaaW1
namespace Go.Proofs.Ytfclmmkgmhlbbaa
open Go.RowKit Go.Sort
attribute [local go_sem] bits_xor64 bits_and64 bits_or64

theorem offs_int (t : Nat) (h : t < 24) : (wrap64 ((wrap64 (((t : Int) + 1) * ((t : Int) + 2))).tdiv 2)).tmod 64 = (offs t : Int) := by
  have H : ∀ j : Fin 24, (wrap64 ((wrap64 (((j.val : Int) + 1) * ((j.val : Int) + 2))).tdiv 2)).tmod 64 = (offs j.val : Int) := by decide +kernel
  exact H ⟨t, h⟩

set_option maxHeartbeats 1000000 in
set_option maxRecDepth 100000 in
theorem turnAndMove_any (b off : Nat) (d : St) (w : World) (hd : d.size = 25) (hH : Holds enc w b off d) :
    Calls Try.prog 40 #[.pointer (some ⟨b, off, none⟩)] w fun e w' => e = .returned (.tuple #[]) ∧ Only b off 25 w w' ∧ Holds enc w' b off (rhopi d) := by
  obtain ⟨x1, hx1⟩ : ∃ x, d[1]! = x := ⟨_, rfl⟩
  obtain ⟨c1, f1⟩ := at_word hH 1 (by omega) hx1
  go_enter Try.func40, Try.ntmps40
  go_wp2
  go_loopg [2, 3, 4, 12] 24 (fun g sx sy sm st wr => ∃ t T, t + g = 24 ∧ st = .int .i64 (t : Nat) ∧ sx = .int .i64 (T.x : Nat) ∧ sy = .int .i64 (T.y : Nat) ∧ sm = .int .u64 (u T.m) ∧ Holds enc wr b off T.d ∧ Only b off 25 w wr ∧ Hid (T = tmTo d t))
  case atStart => exact ⟨0, tmTo d 0, rfl, rfl, rfl, rfl, by rw [← hx1]; rfl, hH, Only.refl _ _ _ _, rfl⟩
  case round =>
    obtain ⟨t, ⟨x, y, m, dk⟩, ht, rfl, rfl, rfl, rfl, hD, hO, HE⟩ := hrel
    have hok := tmTo_ok d hd t
    rw [← HE.out] at hok
    obtain ⟨hx, hy, hs⟩ := hok
    dsimp only at hx hy hs hD
    clear c1 f1 hx1
    by_cases hlt : t < 24
    · obtain ⟨i, hi⟩ : ∃ i, y + 5 * ((2 * x + 3 * y) % 5) = i := ⟨_, rfl⟩
      obtain ⟨z, hz⟩ : ∃ z, dk[i]! = z := ⟨_, rfl⟩
      have hib : i < 25 := by omega
      obtain ⟨c, f⟩ := at_word hD i (by omega) hz
      have Hz : Hid (dk[i]! = z) := hz
      have Hi : Hid (y + 5 * ((2 * x + 3 * y) % 5) = i) := hi
      have l24 : (t : Int) < 24 := by omega
      clear hz hi
      go_wp2_with fail
      rw [offs_int t hlt]
      refine (rotl_any m (offs t) _ (Nat.mod_lt _ (by decide))).mono ?_
      rintro e w' ⟨rfl, rfl⟩
      go_wp2_with fail
      obtain ⟨y2, hy2⟩ : ∃ n, (2 * x + 3 * y) % 5 = n := ⟨_, rfl⟩
      have hy2' : (2 * (x : Int) + 3 * (y : Int)) % 5 = (y2 : Int) := by omega
      rw [hy2']
      have Hy2 : Hid ((2 * x + 3 * y) % 5 = y2) := hy2
      have r0 : y2 < 5 := by omega
      clear hy2 hy2'
      have r1 : (0 : Int) ≤ (y : Int) + 5 * (y2 : Int) := by omega
      have r2 : (y : Int) + 5 * (y2 : Int) < 25 := by omega
      have r3 : ((y : Int) + 5 * (y2 : Int)).toNat = i := by have := Hi.out; have := Hy2.out; omega
      have s1 : IntKind.i64.wrap (5 * (y2 : Int)) = 5 * (y2 : Int) := IntWalk.i64_in _ (by omega)
      have s2 : IntKind.i64.wrap ((y : Int) + 5 * (y2 : Int)) = (y : Int) + 5 * (y2 : Int) := IntWalk.i64_in _ (by omega)
      go_region
      go_wp2
      go_roundg (gk - 1)
      case measure => omega
      case rel =>
        refine ⟨t + 1, ⟨y, y2, z, dk.setIfInBounds i (rol m (offs t))⟩, by omega, by go_num, rfl, rfl, rfl, ?_, ?_, ?_⟩
        · exact Holds.drew (Holds.set hD (by omega) _)
        · exact (hO.setCell (Nat.le_add_right _ _) (by omega) _).drew
        · show _ = tmStep t (tmTo d t)
          rw [← HE.out]
          simp only [tmStep, Hy2.out]
          have e : y + 5 * y2 = i := by have := Hi.out; have := Hy2.out; omega
          rw [e, Hz.out]
    · have ht24 : t = 24 := by omega
      subst ht24
      go_wp2
      go_end0
      refine ⟨rfl, hO, ?_⟩
      show Holds enc _ b off (tmTo d 24).d
      rw [← HE.out]
      exact hD
end Go.Proofs.Ytfclmmkgmhlbbaa
