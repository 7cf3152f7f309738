import Derived.Test.YtfclmmkgmhlbbaaW7
import Derived.Test.YtfclmmkgmhlbbaaR4
import Derived.Test.YtfclmmkgmhlbbaaH
import Derived.Lib.SliceRun
namespace Go.Proofs.Ytfclmmkgmhlbbaa
open Go.RowKit Go.Sort Go.Deep

theorem Only.widen {b o n o' n' : Nat} {w w' : World} (h : Only b o n w w') (h1 : o' ≤ o) (h2 : o + n ≤ o' + n') : Only b o' n' w w' :=
  ⟨h.os, h.tape, h.output, h.size, h.block, fun q hq => h.cell q (by omega), h.froz⟩

/-- A sponge lies in block b. -/
structure HSp (w : World) (b : Nat) (S : Sp) : Prop where
  d : Holds enc w b 0 S.d
  p : Holds encB w b 25 S.p
  h : w.cell? ⟨b, 161, none⟩ = some (.int .i64 (S.h : Int))
  f : w.frozen? ⟨b, 161, none⟩ = false

theorem HSp.drew {w : World} {b : Nat} {S : Sp} (h : HSp w b S) : HSp w.drew b S := ⟨h.d, h.p, h.h, h.f⟩
theorem HSp.drewN {w : World} {b : Nat} {S : Sp} (h : HSp w b S) (q : Nat) : HSp (w.drewN q) b S := ⟨h.d, h.p, h.h, h.f⟩
theorem HSp.lt {w : World} {b : Nat} {S : Sp} (h : HSp w b S) : b < w.heap.size := World.block_lt_of_cell? _ _ h.h
theorem HSp.below {w w' : World} {b B : Nat} {S : Sp} (h : HSp w b S) (k : Below B w w') (hb : b < B) : HSp w' b S :=
  ⟨Holds.below h.d k hb, Holds.below h.p k hb, by rw [k.cell (p := ⟨b, 161, none⟩) hb]; exact h.h, by rw [k.frozen (p := ⟨b, 161, none⟩) hb]; exact h.f⟩

set_option maxHeartbeats 1000000 in
set_option maxRecDepth 100000 in
theorem soak_any (b : Nat) (S : Sp) (w : World) (h25 : S.d.size = 25) (h136 : S.p.size = 136) (hS : HSp w b S) :
    Calls Try.prog 46 #[.pointer (some ⟨b, 0, none⟩)] w fun e w' => e = .returned (.tuple #[]) ∧ Only b 0 162 w w' ∧ HSp w' b (soakL S) := by
  obtain ⟨d, p, h⟩ := S
  dsimp only at h25 h136
  have hD : Holds enc w b 0 d := hS.d
  have hP : Holds encB w b 25 p := hS.p
  have hc := hS.h
  have hf := hS.f
  dsimp only at hc
  rw [soak_mk]
  clear hS
  have hps : (perm (mixTo p d 17)).size = 25 := perm_size _ (by rw [mixTo_size, h25])
  generalize hpm : perm (mixTo p d 17) = pd at hps ⊢
  have HPM : Hid (perm (mixTo p d 17) = pd) := hpm
  clear hpm
  go_enter Try.func46, Try.ntmps46
  go_wp2
  go_still_tail 7, mixed
  go_wp2_with fail
  refine (mix_any b 0 b 25 136 136 p d _ h25 (Holds.drew hD) (Holds.drew hP) h136 (by decide) (Nat.le_refl _) (by omega)).mono ?_
  rintro e w1 ⟨rfl, hO1, hD1⟩
  have hO1' : Only b 0 25 w w1 := ((Only.refl b 0 25 w).drew).trans hO1
  have hD1' : Holds enc w1 b 0 (mixTo p d 17) := hD1
  have hP1 := Holds.same hP hO1' (by omega)
  have c1 : w1.cell? ⟨b, 161, none⟩ = some (.int .i64 (h : Int)) := by rw [hO1'.cell 161 (by omega)]; exact hc
  have f1 : w1.frozen? ⟨b, 161, none⟩ = false := by rw [hO1'.froz]; exact hf
  clear hO1 hD1
  go_wp2_with fail
  refine (permute_any b 0 _ _ (by rw [mixTo_size, h25]) hD1').mono ?_
  rintro e w2 ⟨rfl, hO2, hD2⟩
  rw [HPM.out] at hD2
  have hP2 := Holds.same hP1 hO2 (by omega)
  have c2 : w2.cell? ⟨b, 161, none⟩ = some (.int .i64 (h : Int)) := by rw [hO2.cell 161 (by omega)]; exact c1
  have f2 : w2.frozen? ⟨b, 161, none⟩ = false := by rw [hO2.froz]; exact f1
  go_wp2
  go_end0
  have hO3 : Only b 161 1 w2 (w2.setCell ⟨b, 161, none⟩ (.int .i64 0)) := (Only.refl b 161 1 w2).setCell (by omega) (by omega) _
  have hD3 : Holds enc _ b 0 pd := Holds.same hD2 hO3 (Or.inl (by omega))
  have hP3 : Holds encB _ b 25 p := Holds.same hP2 hO3 (Or.inl (by omega))
  exact ⟨rfl, ((hO1'.trans hO2).widen (Nat.le_refl _) (by omega)).trans (hO3.widen (by omega) (by omega)), ⟨hD3, hP3, World.cell?_setCell_same _ _ _ c2, by rw [World.frozen?_setCell]; exact f2⟩⟩

end Go.Proofs.Ytfclmmkgmhlbbaa
