import Derived.Test.YtfclmmkgmhlbbaaS4
namespace Go.Proofs.Ytfclmmkgmhlbbaa
open Go.RowKit Go.Sort Go.Deep

/-- A sponge's cells at its birth. -/
def spZero : Array Value := Array.replicate 25 (.int .u64 0) ++ Array.replicate 136 (.int .u8 0) ++ #[.int .i64 0]
theorem zero68 : ∀ w : World, (zeroValue 68).run Try.prog w = .ok (.agg spZero) w := fun _ => by kernel_rfl

theorem spZero_d (j : Nat) (hj : j < 25) : spZero[j]? = some (.int .u64 0) := by
  have h1 : j < (Array.replicate 25 (Value.int .u64 0)).size := by rw [Array.size_replicate]; exact hj
  unfold spZero
  rw [Array.append_assoc, Array.getElem?_append_left h1, Array.getElem?_eq_getElem h1, Array.getElem_replicate]
theorem spZero_p (j : Nat) (hj : j < 136) : spZero[25 + j]? = some (.int .u8 0) := by
  have h1 : j < (Array.replicate 136 (Value.int .u8 0)).size := by rw [Array.size_replicate]; exact hj
  unfold spZero
  rw [Array.append_assoc, Array.getElem?_append_right (by rw [Array.size_replicate]; omega), Array.size_replicate, Nat.add_sub_cancel_left, Array.getElem?_append_left h1, Array.getElem?_eq_getElem h1, Array.getElem_replicate]
theorem spZero_h : spZero[161]? = some (.int .i64 0) := by
  unfold spZero
  rw [Array.getElem?_append_right (by rw [Array.size_append, Array.size_replicate, Array.size_replicate]; decide), Array.size_append, Array.size_replicate, Array.size_replicate]
  rfl

theorem hsp_new (w : World) (t : TypeId) : HSp (w.alloc (.cells spZero t)) w.heap.size S0 := by
  refine ⟨fun j hj => ?_, fun j hj => ?_, ?_, ?_⟩
  · have hj' : j < 25 := by simpa [S0, zero25] using hj
    rw [World.cell?_alloc_new, World.frozen?_alloc_new, Nat.zero_add, spZero_d j hj']
    refine ⟨?_, rfl⟩
    have e : S0.d[j]! = 0 := zero25_at j hj'
    rw [e]
    rfl
  · have hj' : j < 136 := by simpa [S0] using hj
    rw [World.cell?_alloc_new, World.frozen?_alloc_new, spZero_p j hj']
    refine ⟨?_, rfl⟩
    have e : S0.p[j]! = 0 := rep_at 136 j hj'
    rw [e]
    rfl
  · rw [World.cell?_alloc_new, spZero_h]; rfl
  · rw [World.frozen?_alloc_new]

set_option maxHeartbeats 2000000 in
set_option maxRecDepth 100000 in
theorem Hash_any (a : Option Addr) (sb so len cap : Nat) (bs : Bs) (w : World) (hl : bs.size = len) (hcap : len ≤ cap) (hbig : len ≤ 1099511627776) (hsrc : len = 0 ∨ (a = some ⟨sb, so, none⟩ ∧ Holds encB w sb so bs)) :
    Calls Try.prog 12 #[.slice a len cap] w fun e w' => ∃ r, e = .returned (.slice (some ⟨r, 0, none⟩) 32 32) ∧ w.heap.size ≤ r ∧ Below w.heap.size w w' ∧ Holds encB w' r 0 (hashL bs.toList) := by
  have hS0 := hsp_new w 68
  have hb0 : Below w.heap.size w (w.alloc (.cells spZero 68)) := (Below.refl _ _).alloc (Nat.le_refl _) _
  have hs0 : w.heap.size < (w.alloc (.cells spZero 68)).heap.size := by simp
  have hsrc' : len = 0 ∨ (a = some ⟨sb, so, none⟩ ∧ sb ≠ w.heap.size ∧ Holds encB (w.alloc (.cells spZero 68)) sb so bs) := by
    by_cases h0 : len = 0
    · exact Or.inl h0
    · rcases hsrc with h | ⟨h1, h2⟩
      · exact Or.inl h
      · have hlt := Holds.lt h2 (by omega)
        exact Or.inr ⟨h1, by omega, Holds.below h2 hb0 hlt⟩
  have zv := zero68
  go_enter Try.func12, Try.ntmps12
  go_wp2_with fail
  generalize w.alloc (.cells spZero 68) = W1 at hS0 hb0 hs0 hsrc' ⊢
  refine (take_any w.heap.size S0 a sb so len cap bs W1 S0_ok hS0 hl hcap hbig hsrc').mono ?_
  rintro e w1 ⟨rfl, hO1, hS1⟩
  go_wp2_with fail
  refine (end_any w.heap.size (takeL S0 bs.toList) 6 w1 (takeL_ok S0_ok _) hS1).mono ?_
  rintro e w2 ⟨rfl, hO2, hS2⟩
  have hD2 : Holds enc w2 w.heap.size 0 (absorb bs.toList 6) := hS2.d
  clear hS2
  go_wp2_with fail
  refine (front_any w.heap.size 0 32 _ _ (absorb_size _ _) hD2 (by decide)).mono ?_
  rintro e w3 ⟨rfl, hb3, hF⟩
  go_wp2
  go_ret
  have s1 := hO1.size
  have s2 := hO2.size
  exact ⟨w2.heap.size, rfl, by omega, (hb0.trans ((hO1.trans hO2).below (by omega) (Nat.le_refl _))).trans (hb3.mono (by omega)), hF⟩

set_option maxHeartbeats 2000000 in
set_option maxRecDepth 100000 in
theorem Stream_no (a : Option Addr) (len cap : Nat) (n : Int) (w : World) (hn : n < 0 ∨ 16384 < n) :
    Calls Try.prog 13 #[.slice a len cap, .int .i64 n] w fun e w' => e = .returned (.tuple #[.slice none 0 0, .int .i64 1]) ∧ w' = w := by
  by_cases h0 : n < 0
  · have d0 : decide (n < 0) = true := decide_eq_true h0
    go_enter Try.func13, Try.ntmps13
    go_wp2
    go_ret2
    exact ⟨rfl, rfl⟩
  · have h1 : 16384 < n := by omega
    have d0 : decide (n < 0) = false := decide_eq_false h0
    go_enter Try.func13, Try.ntmps13
    go_wp2
    go_ret2
    exact ⟨rfl, rfl⟩

set_option maxHeartbeats 2000000 in
set_option maxRecDepth 100000 in
theorem Stream_yes (a : Option Addr) (sb so len cap n : Nat) (bs : Bs) (w : World) (hn : n ≤ 16384) (hl : bs.size = len) (hcap : len ≤ cap) (hbig : len ≤ 1099511627776) (hsrc : len = 0 ∨ (a = some ⟨sb, so, none⟩ ∧ Holds encB w sb so bs)) :
    Calls Try.prog 13 #[.slice a len cap, .int .i64 (n : Int)] w fun e w' => ∃ r, e = .returned (.tuple #[.slice (some ⟨r, 0, none⟩) n n, .int .i64 0]) ∧ w.heap.size ≤ r ∧ Below w.heap.size w w' ∧ Holds encB w' r 0 (strmL bs.toList n) := by
  have hS0 := hsp_new w 68
  have hb0 : Below w.heap.size w (w.alloc (.cells spZero 68)) := (Below.refl _ _).alloc (Nat.le_refl _) _
  have hs0 : w.heap.size < (w.alloc (.cells spZero 68)).heap.size := by simp
  have hsrc' : len = 0 ∨ (a = some ⟨sb, so, none⟩ ∧ sb ≠ w.heap.size ∧ Holds encB (w.alloc (.cells spZero 68)) sb so bs) := by
    by_cases h0 : len = 0
    · exact Or.inl h0
    · rcases hsrc with h | ⟨h1, h2⟩
      · exact Or.inl h
      · have hlt := Holds.lt h2 (by omega)
        exact Or.inr ⟨h1, by omega, Holds.below h2 hb0 hlt⟩
  have d0 : decide ((n : Int) < 0) = false := decide_eq_false (by omega)
  have d1 : ¬ (16384 : Int) < (n : Int) := by omega
  have zv := zero68
  go_enter Try.func13, Try.ntmps13
  go_wp2_with fail
  generalize w.alloc (.cells spZero 68) = W1 at hS0 hb0 hs0 hsrc' ⊢
  refine (take_any w.heap.size S0 a sb so len cap bs W1 S0_ok hS0 hl hcap hbig hsrc').mono ?_
  rintro e w1 ⟨rfl, hO1, hS1⟩
  go_wp2_with fail
  refine (end_any w.heap.size (takeL S0 bs.toList) 31 w1 (takeL_ok S0_ok _) hS1).mono ?_
  rintro e w2 ⟨rfl, hO2, hS2⟩
  have hD2 : Holds enc w2 w.heap.size 0 (absorb bs.toList 31) := hS2.d
  clear hS2
  go_wp2_with fail
  refine (give_any w.heap.size _ n _ (absorb_size _ _) hD2 hn).mono ?_
  rintro e w3 ⟨rfl, hO3, hF⟩
  go_wp2
  go_ret2
  have s1 := hO1.size
  have s2 := hO2.size
  exact ⟨w2.heap.size, rfl, by omega, (hb0.trans ((hO1.trans hO2).below (by omega) (Nat.le_refl _))).trans (hO3.below (by omega) (Nat.le_refl _)), hF⟩
end Go.Proofs.Ytfclmmkgmhlbbaa
