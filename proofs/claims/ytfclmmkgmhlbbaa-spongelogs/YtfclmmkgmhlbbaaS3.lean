import Derived.Test.YtfclmmkgmhlbbaaS2
namespace Go.Proofs.Ytfclmmkgmhlbbaa
open Go.RowKit Go.Sort Go.Deep

theorem ofInt_toNat8 (x : UInt8) : BitVec.ofInt 8 (x.toNat : Int) = x.toBitVec := by
  apply BitVec.eq_of_toNat_eq
  rw [BitVec.ofInt_natCast, BitVec.toNat_ofNat]
  exact Nat.mod_eq_of_lt x.toNat_lt

theorem bits_xor8 (x y : UInt8) : bits .xor .u8 (ub x) (ub y) = ub (x ^^^ y) := by
  show IntKind.u8.wrap ((BitVec.ofInt 8 (x.toNat : Int) ^^^ BitVec.ofInt 8 (y.toNat : Int)).toNat : Int) = _
  rw [ofInt_toNat8, ofInt_toNat8, ← UInt8.toBitVec_xor]
  have h : ((x ^^^ y).toNat : Int) < 256 := by have := (x ^^^ y).toNat_lt; omega
  have e : ∀ n : Int, IntKind.u8.wrap n = n % 256 := fun n => by simp [IntKind.wrap, IntKind.bits, IntKind.signed]
  rw [e]
  exact Int.emod_eq_of_lt (Int.natCast_nonneg _) h

theorem xor80 (x : UInt8) : bits .xor .u8 (ub x) 128 = ub (x ^^^ 128) := bits_xor8 x 128

theorem zero5 : ∀ w : World, (zeroValue 5).run Try.prog w = .ok (.int .u8 0) w := fun _ => by kernel_rfl

theorem clear_piece {w : World} {b q : Nat} {p : Bs} (hP : Holds encB w b 25 p) (hp : p.size = 136) (hq : q < 136) (ty : TypeId) :
    (Builtin.clear_ #[22] ty #[.slice (some ⟨b, 25 + q, none⟩) (136 - q) (136 - q)]).run Try.prog w = .ok (.tuple #[]) (w.setCells b (25 + q) ((List.replicate (136 - q) (0 : UInt8)).map encB)) := by
  have h := Lib.run_clear_slice (P := Try.prog) w 22 5 ty (.int .u8 0) slice22 zero5 rfl rfl b (25 + q) (136 - q) (136 - q) (by omega)
    (fun j hj => by
      have := (hP (q + j) (by omega)).1
      rw [← Nat.add_assoc] at this
      rw [this]; rfl)
    (fun j hj => by
      have := (hP (q + j) (by omega)).2
      rw [← Nat.add_assoc] at this
      exact this)
  rw [List.map_replicate]
  exact h

set_option maxHeartbeats 2000000 in
set_option maxRecDepth 100000 in
theorem end_any (b : Nat) (S : Sp) (e : UInt8) (w : World) (hok : Ok S) (hS : HSp w b S) :
    Calls Try.prog 32 #[.pointer (some ⟨b, 0, none⟩), .int .u8 (ub e)] w fun r w' => r = .returned (.tuple #[]) ∧ Only b 0 162 w w' ∧ HSp w' b (finalL S e) := by
  obtain ⟨d, p, q⟩ := S
  have h25 : d.size = 25 := hok.d25
  have h136 : p.size = 136 := hok.p136
  have hq : q < 136 := hok.hlt
  have hD : Holds enc w b 0 d := hS.d
  have hP : Holds encB w b 25 p := hS.p
  have hc : w.cell? ⟨b, 161, none⟩ = some (.int .i64 (q : Int)) := hS.h
  have hf := hS.f
  have hcl := clear_piece (Holds.drew hP) h136 hq 0
  have hOx : Only b 25 136 w (w.drew.setCells b (25 + q) ((List.replicate (136 - q) (0 : UInt8)).map encB)) := ((Only.refl b 25 136 w).drew).setCells _ _ (by omega) (by rw [List.length_map, List.length_replicate]; omega)
  have hP1 := holds_splice (Holds.drew hP) q (List.replicate (136 - q) (0 : UInt8)) (by rw [List.length_replicate]; omega)
  have hs1 : (splice p q (List.replicate (136 - q) 0)).size = 136 := by rw [splice_size, h136]
  have HF : Hid (finalL ⟨d, p, q⟩ e = soakL ⟨d, ((splice p q (List.replicate (136 - q) 0)).setIfInBounds q e).setIfInBounds 135 (((splice p q (List.replicate (136 - q) 0)).setIfInBounds q e)[135]! ^^^ 128), q⟩) := by
    show _ = _
    unfold finalL ended
    rfl
  generalize w.drew.setCells b (25 + q) ((List.replicate (136 - q) (0 : UInt8)).map encB) = W1 at hcl hOx hP1
  generalize splice p q (List.replicate (136 - q) 0) = sp at hP1 hs1 HF
  have hne136 : (136 = q) = False := eq_false (by omega)
  have hq136 : (q : Int) ≤ 136 := by omega
  have hq136' : (q : Int) < 136 := by omega
  have c1 : W1.cell? ⟨b, 161, none⟩ = some (.int .i64 (q : Int)) := by rw [hOx.cell 161 (by omega)]; exact hc
  obtain ⟨c2, f2⟩ := hP1 q (by omega)
  obtain ⟨sp2, hsp2⟩ : ∃ s, sp.setIfInBounds q e = s := ⟨_, rfl⟩
  rw [hsp2] at HF
  have hs2 : sp2.size = 136 := by rw [← hsp2, Array.size_setIfInBounds, hs1]
  obtain ⟨x, hx⟩ : ∃ x, sp2[135]! = x := ⟨_, rfl⟩
  rw [hx] at HF
  have hx80 := xor80 x
  have hP2 := Holds.set hP1 (i := q) (by omega) e
  rw [hsp2] at hP2
  have hO2 : Only b 25 136 w (W1.setCell ⟨b, 25 + q, none⟩ (.int .u8 (ub e))) := hOx.setCell (o := 25 + q) (by omega) (by omega) _
  have hP2' : Holds encB (W1.setCell ⟨b, 25 + q, none⟩ (.int .u8 (ub e))) b 25 sp2 := hP2
  have HX : Hid (sp2[135]! = x) := hx
  rw [HF.out]
  clear hS hok hP hsp2 hx hP2 HF
  have hs3 : (sp2.setIfInBounds 135 (x ^^^ 128)).size = 136 := by rw [Array.size_setIfInBounds, hs2]
  go_enter Try.func32, Try.ntmps32
  go_wp2
  go_still_tail 8, mixed
  go_wp2_with fail
  go_region
  go_wp2_with fail
  generalize W1.setCell ⟨b, 25 + q, none⟩ (.int .u8 (ub e)) = W2 at hP2' hO2 ⊢
  obtain ⟨c3, f3⟩ := at_byte hP2' 135 (by omega) HX.out
  clear c1 c2 f2 hcl hP1
  go_region
  go_wp2_with fail
  have hP3 := Holds.set hP2' (i := 135) (by omega) (x ^^^ 128)
  have hO3 : Only b 25 136 w (W2.setCell ⟨b, 160, none⟩ (.int .u8 (ub (x ^^^ 128)))) := hO2.setCell (o := 160) (by omega) (by omega) _
  have hP3' : Holds encB (W2.setCell ⟨b, 160, none⟩ (.int .u8 (ub (x ^^^ 128)))) b 25 (sp2.setIfInBounds 135 (x ^^^ 128)) := hP3
  generalize W2.setCell ⟨b, 160, none⟩ (.int .u8 (ub (x ^^^ 128))) = W3 at hP3' hO3 ⊢
  have hD3 : Holds enc W3 b 0 d := Holds.same hD hO3 (Or.inl (by omega))
  have hS3 : HSp W3 b ⟨d, sp2.setIfInBounds 135 (x ^^^ 128), q⟩ := ⟨hD3, hP3', by rw [hO3.cell 161 (by omega)]; exact hc, by rw [hO3.froz]; exact hf⟩
  refine (soak_any b ⟨d, sp2.setIfInBounds 135 (x ^^^ 128), q⟩ _ h25 hs3 hS3.drew.drew).mono ?_
  rintro r w4 ⟨rfl, hO4, hS4⟩
  go_wp2
  go_end0
  exact ⟨rfl, (hO3.drew.drew.widen (by omega) (by omega)).trans hO4, hS4⟩
end Go.Proofs.Ytfclmmkgmhlbbaa
