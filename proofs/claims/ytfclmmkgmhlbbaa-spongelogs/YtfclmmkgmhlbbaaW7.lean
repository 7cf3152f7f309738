import Derived.Test.YtfclmmkgmhlbbaaW5
import Derived.Test.YtfclmmkgmhlbbaaW6
import Derived.Test.YtfclmmkgmhlbbaaQ2
namespace Go.Proofs.Ytfclmmkgmhlbbaa
open Go.RowKit Go.Sort

set_option maxHeartbeats 1000000 in
set_option maxRecDepth 100000 in
theorem Permute_no (a : Option Addr) (len cap : Nat) (w : World) (hl : len ≠ 200) :
    Calls Try.prog 9 #[.slice a len cap] w fun e w' => e = .returned (.tuple #[.slice none 0 0, .int .i64 2]) ∧ w' = w := by
  have h : ((len : Int) != 200) = true := by rw [bne_iff_ne]; omega
  go_enter Try.func9, Try.ntmps9
  go_wp2
  go_ret2
  exact ⟨rfl, rfl⟩

theorem holds_zero25 (w : World) (t : TypeId) : Holds enc (w.alloc (.cells #[.int .u64 0, .int .u64 0, .int .u64 0, .int .u64 0, .int .u64 0, .int .u64 0, .int .u64 0, .int .u64 0, .int .u64 0, .int .u64 0, .int .u64 0, .int .u64 0, .int .u64 0, .int .u64 0, .int .u64 0, .int .u64 0, .int .u64 0, .int .u64 0, .int .u64 0, .int .u64 0, .int .u64 0, .int .u64 0, .int .u64 0, .int .u64 0, .int .u64 0] t)) w.heap.size 0 zero25 := by
  have h := Holds.new (enc := enc) w t zero25
  have e : Array.map enc zero25 = #[.int .u64 0, .int .u64 0, .int .u64 0, .int .u64 0, .int .u64 0, .int .u64 0, .int .u64 0, .int .u64 0, .int .u64 0, .int .u64 0, .int .u64 0, .int .u64 0, .int .u64 0, .int .u64 0, .int .u64 0, .int .u64 0, .int .u64 0, .int .u64 0, .int .u64 0, .int .u64 0, .int .u64 0, .int .u64 0, .int .u64 0, .int .u64 0, .int .u64 0] := by
    simp [zero25, Array.replicate, List.replicate]
    rfl
  rw [e] at h
  exact h

set_option maxHeartbeats 1000000 in
set_option maxRecDepth 100000 in
theorem Permute_yes (sb so cap : Nat) (bs : Bs) (w : World) (hs : bs.size = 200) (hB : Holds encB w sb so bs) (hc : 200 ≤ cap) :
    Calls Try.prog 9 #[.slice (some ⟨sb, so, none⟩) 200 cap] w fun e w' => ∃ r, e = .returned (.tuple #[.slice (some ⟨r, 0, none⟩) 200 200, .int .i64 0]) ∧ w.heap.size ≤ r ∧ Below w.heap.size w w' ∧ Holds encB w' r 0 (permB bs) := by
  have hsb := Holds.lt hB (by omega)
  go_enter Try.func9, Try.ntmps9
  go_wp2_with fail
  have hz := holds_zero25 w 58
  have hbl : Below w.heap.size w (w.alloc (.cells #[.int .u64 0, .int .u64 0, .int .u64 0, .int .u64 0, .int .u64 0, .int .u64 0, .int .u64 0, .int .u64 0, .int .u64 0, .int .u64 0, .int .u64 0, .int .u64 0, .int .u64 0, .int .u64 0, .int .u64 0, .int .u64 0, .int .u64 0, .int .u64 0, .int .u64 0, .int .u64 0, .int .u64 0, .int .u64 0, .int .u64 0, .int .u64 0, .int .u64 0] 58)) := (Below.refl _ _).alloc (Nat.le_refl _) _
  have hsz : w.heap.size < (w.alloc (.cells #[.int .u64 0, .int .u64 0, .int .u64 0, .int .u64 0, .int .u64 0, .int .u64 0, .int .u64 0, .int .u64 0, .int .u64 0, .int .u64 0, .int .u64 0, .int .u64 0, .int .u64 0, .int .u64 0, .int .u64 0, .int .u64 0, .int .u64 0, .int .u64 0, .int .u64 0, .int .u64 0, .int .u64 0, .int .u64 0, .int .u64 0, .int .u64 0, .int .u64 0] 58)).heap.size := by simp
  generalize w.alloc _ = W1 at hz hbl hsz ⊢
  have hB1 : Holds encB W1 sb so bs := Holds.below hB hbl hsb
  refine (mix_any w.heap.size 0 sb so 200 cap bs zero25 W1 (by simp [zero25]) hz hB1 hs (by decide) hc (by omega)).mono ?_
  rintro e w1 ⟨rfl, hO1, hD1⟩
  go_wp2_with fail
  refine (permute_any w.heap.size 0 _ _ (by rw [mixTo_size]; simp [zero25]) hD1).mono ?_
  rintro e w2 ⟨rfl, hO2, hD2⟩
  go_wp2_with fail
  refine (front_any w.heap.size 0 200 _ _ (perm_size _ (by rw [mixTo_size]; simp [zero25])) hD2 (by decide)).mono ?_
  rintro e w3 ⟨rfl, hb3, hF⟩
  go_wp2
  go_ret2
  have s1 := hO1.size
  have s2 := hO2.size
  exact ⟨w2.heap.size, rfl, by omega, (hbl.trans ((hO1.trans hO2).below (by omega) (Nat.le_refl _))).trans (hb3.mono (by omega)), hF⟩
end Go.Proofs.Ytfclmmkgmhlbbaa
