import Derived.Deep.AppendSrc
import Derived.BigQuiet
import Derived.StillTailTactics
import Derived.Lib.AppendZeros
import Derived.ChangeOld
import Derived.Below
import Derived.WalkKit
import Derived.ProofKit
import Derived.OpenShut
import Derived.ShutString
import Derived.SliceStrings
import Derived.SizedLaws
import Derived.Test.YtbimbalfdmffaabLs3
set_option linter.unusedVariables false
set_option linter.unusedSimpArgs false
namespace Go.Proofs.Ytbimbalfdmffaab
open Go.RowKit Go.Sort Go.Deep

theorem zeros_one {z : Value} (e : z.cells = #[z]) (n : Nat) : Builtin.zeroCells z.cells n = Array.replicate n z := by
  unfold Builtin.zeroCells
  rw [e]
  apply Array.ext
  · simp
  · intro k h2 h3
    simp [Nat.mod_one]
def encV (v : Value) : Value := v
theorem slice46 : Try.prog.underlying 46 = some (.slice 23) := by kernel_rfl
theorem slice45 : Try.prog.underlying 45 = some (.slice 9) := by kernel_rfl
theorem info23 : (Try.prog.info? 23).map (fun i => (i.zero, i.size, i.bytes)) = some (some (.slice none 0 0), 1, 24) := by kernel_rfl
theorem info9 : (Try.prog.info? 9).map (fun i => (i.zero, i.size, i.bytes)) = some (some (.string ⟨#[]⟩), 1, 16) := by kernel_rfl
/-- A list of values of one's own, in block g. -/
structure ListAt (w : World) (g cap : Nat) (vs : List Value) (cur : Array Value) : Prop where
  lt : g < w.heap.size
  size : cur.size = cap
  fits : vs.length ≤ cap
  holds : Holds encV w g 0 cur
  front : ∀ j, j < vs.length → cur[j]! = vs[j]!

theorem ListAt.below {w w1 : World} {g cap : Nat} {vs : List Value} {cur : Array Value} (h : ListAt w g cap vs cur) (k : Below w.heap.size w w1) : ListAt w1 g cap vs cur :=
  ⟨Nat.lt_of_lt_of_le h.lt k.size, h.size, h.fits, Holds.below h.holds k h.lt, h.front⟩

theorem val_front (a b : List Value) (j : Nat) (h : j < a.length) : (a ++ b)[j]! = a[j]! := by
  rw [getElem!_pos (a ++ b) j (by rw [List.length_append]; omega), getElem!_pos a j h, List.getElem_append_left h]
theorem val_last (a : List Value) (x : Value) : (a ++ [x])[a.length]! = x := by
  rw [getElem!_pos (a ++ [x]) a.length (by simp)]
  simp
theorem arr_list_at (T : List Value) (n j : Nat) (z : Value) (h : j < T.length) : (T.toArray ++ Array.replicate n z)[j]! = T[j]! := by
  rw [getElem!_pos _ j (by simp; omega), getElem!_pos T j h, Array.getElem_append_left (by simpa using h)]
  simp

theorem src_oneG {w : World} {T E : TypeId} (hT : Try.prog.underlying T = some (.slice E)) {r : Nat} {x : Value} (hx : w.cell? ⟨r, 0, none⟩ = some x) (h1 : x.oneCell' = true) : Src Try.prog 1 T (.slice (some ⟨r, 0, none⟩) 1 1) 1 [x] w := by
  refine Src.ofSlice w hT ⟨r, 0, none⟩ 1 1 _ rfl (fun j u hj => ?_) (fun u hu => ?_)
  · cases j with
    | zero =>
      have : u = x := by simpa using hj.symm
      rw [this]
      exact hx
    | succ j => simp at hj
  · have : u = x := by simpa using hu
    rw [this]
    exact h1

/-- 'append(l, x)', l a list of slices of one's own. -/
theorem append_valS {T E : TypeId} {z : Value} (hT : Try.prog.underlying T = some (.slice E)) (hE : (Try.prog.info? E).map (fun i => (i.zero, i.size, i.bytes)) = some (some z, 1, 16)) (hzc : z.cells = #[z]) {w : World} {g cap r : Nat} {vs : List Value} {cur : Array Value} {x : Value} (h : ListAt w g cap vs cur) (hx : w.cell? ⟨r, 0, none⟩ = some x) (h1 : x.oneCell' = true) (hbig : vs.length ≤ 1048576) :
    ∃ g' cap' cur' w', (Builtin.append_ #[T, T] T #[.slice (some ⟨g, 0, none⟩) vs.length cap, .slice (some ⟨r, 0, none⟩) 1 1]).run Try.prog w = .ok (.slice (some ⟨g', 0, none⟩) (vs.length + 1) cap') w' ∧
      ListAt w' g' cap' (vs ++ [x]) cur' ∧ Only g 0 cap w w' ∧ (g' = g ∨ w.heap.size ≤ g') := by
  obtain ⟨i, hi, hz, hsz, hby⟩ := info_parts hE
  have hsrc := src_oneG hT (r := r) hx h1
  by_cases hroom : vs.length + 1 ≤ cap
  · have hap := run_append_room_src (P := Try.prog) w T T T E i hT hi g 0 vs.length cap (.slice (some ⟨r, 0, none⟩) 1 1) 1 [x] (by rw [hsz]; exact hsrc) hroom
      (fun j hj => by
        have hj0 : j = 0 := by simpa using hj
        subst hj0
        rw [hsz, Nat.mul_one, Nat.add_zero, (h.holds vs.length (by rw [h.size]; omega)).1]; rfl)
      (fun j hj => by
        have hj0 : j = 0 := by simpa using hj
        subst hj0
        rw [hsz, Nat.mul_one, Nat.add_zero]
        exact (h.holds vs.length (by rw [h.size]; omega)).2)
    rw [hsz, Nat.mul_one, Nat.zero_add] at hap
    have hset : w.setCells g vs.length [x] = w.setCell ⟨g, vs.length, none⟩ x := rfl
    rw [hset] at hap
    have hH := Holds.set h.holds (i := vs.length) (by rw [h.size]; omega) x
    rw [Nat.zero_add] at hH
    refine ⟨g, cap, cur.setIfInBounds vs.length x, _, hap, ⟨by rw [World.size_setCell]; exact h.lt, by rw [Array.size_setIfInBounds, h.size], by rw [List.length_append]; exact hroom, hH, fun j hj => ?_⟩, (Only.refl _ _ _ _).setCell (by omega) (by omega) _, Or.inl rfl⟩
    rw [List.length_append, List.length_singleton] at hj
    by_cases hj1 : j = vs.length
    · rw [hj1, val_last, getElem!_set_same _ _ _ (by rw [h.size]; omega)]
    · rw [getElem!_set_other _ _ _ _ hj1, val_front _ _ _ (by omega), h.front j (by omega)]
  · have hold : (Builtin.firstCells i.size vs.length (.slice (some ⟨g, 0, none⟩) vs.length cap)).run Try.prog w.drew = .ok vs.toArray w.drew := by
      rw [hsz]
      refine run_firstCells_some w.drew 1 vs.length ⟨g, 0, none⟩ vs.length cap vs (by rw [Nat.mul_one]) (fun j u hj => ?_)
      obtain ⟨h2, h3⟩ := List.getElem?_eq_some_iff.1 hj
      have hc := (h.holds j (by rw [h.size]; have := h.fits; omega)).1
      rw [h.front j h2, getElem!_pos vs j h2, h3] at hc
      have e1 : (⟨g, 0, none⟩ : Addr).add j = ⟨g, 0 + j, none⟩ := by
        unfold Addr.add
        by_cases h0 : j = 0
        · subst h0; rw [if_pos rfl]
        · rw [if_neg h0]
      rw [e1, World.cell?_drew, hc]
      rfl
    have hf := h.fits
    have hnc : Builtin.nextslicecap (vs.length + 1) cap ≤ 2 * (vs.length + 1) + 768 := by
      unfold Builtin.nextslicecap
      split
      · omega
      · split
        · omega
        · simp only [Builtin.growBy]
          repeat' split
          all_goals omega
    have hap := run_append_grow_src (P := Try.prog) w T T T E i z hT hi hz (some ⟨g, 0, none⟩) vs.length cap vs hold _ 1 [x] (by rw [hsz]; exact hsrc) (by omega) (by omega) (by rw [hby]; omega)
    generalize hG : grownCap w (vs.length + 1) cap E = G at hap
    have hGl : vs.length + 1 ≤ G := by
      rw [← hG]
      unfold grownCap Question.cut
      exact Nat.le_add_right _ _
    have hcells : (vs ++ [x]).toArray ++ Builtin.zeroCells z.cells (G - (vs.length + 1)) = ((vs ++ [x]).toArray ++ Array.replicate (G - (vs.length + 1)) (z)).map encV := by
      have e0 : ∀ a : Array Value, a.map encV = a := fun a => by
        have : encV = id := rfl
        rw [this, Array.map_id]
      rw [e0, zeros_one hzc]
    rw [hcells] at hap
    refine ⟨w.heap.size, G, (vs ++ [x]).toArray ++ Array.replicate (G - (vs.length + 1)) (z), _, hap, ⟨by simp, ?_, by rw [List.length_append]; exact hGl, ?_, fun j hj => arr_list_at _ _ _ _ hj⟩, ?_, Or.inr (Nat.le_refl _)⟩
    · simp; omega
    · exact Holds.new (enc := encV) w.drew E _
    · exact (Only.refl g 0 cap w).drew.alloc h.lt _

/-- .. and the first of them. -/
theorem append_firstS {T E : TypeId} {z : Value} (hT : Try.prog.underlying T = some (.slice E)) (hE : (Try.prog.info? E).map (fun i => (i.zero, i.size, i.bytes)) = some (some z, 1, 16)) (hzc : z.cells = #[z]) {w : World} {r : Nat} {x : Value} (hx : w.cell? ⟨r, 0, none⟩ = some x) (h1 : x.oneCell' = true) :
    ∃ cap' cur' w', (Builtin.append_ #[T, T] T #[.slice none 0 0, .slice (some ⟨r, 0, none⟩) 1 1]).run Try.prog w = .ok (.slice (some ⟨w.heap.size, 0, none⟩) 1 cap') w' ∧
      ListAt w' w.heap.size cap' [x] cur' ∧ Below w.heap.size w w' := by
  obtain ⟨i, hi, hz, hsz, hby⟩ := info_parts hE
  have hsrc := src_oneG hT (r := r) hx h1
  have hold : (Builtin.firstCells i.size 0 (.slice none 0 0)).run Try.prog w.drew = .ok ([] : List Value).toArray w.drew := run_firstCells_none w.drew i.size 0 0 0
  have hnc : Builtin.nextslicecap (0 + 1) 0 ≤ 770 := by decide
  have hap := run_append_grow_src (P := Try.prog) w T T T E i z hT hi hz none 0 0 [] hold _ 1 [x] (by rw [hsz]; exact hsrc) (by omega) (by omega) (by rw [hby]; omega)
  rw [Nat.zero_add] at hap
  generalize hG : grownCap w 1 0 E = G at hap
  have hGl : 1 ≤ G := by
    rw [← hG]
    unfold grownCap Question.cut
    exact Nat.le_add_right _ _
  have hcells : (([] : List Value) ++ [x]).toArray ++ Builtin.zeroCells z.cells (G - 1) = ([x].toArray ++ Array.replicate (G - 1) (z)).map encV := by
    have e0 : ∀ a : Array Value, a.map encV = a := fun a => by
      have : encV = id := rfl
      rw [this, Array.map_id]
    rw [e0, List.nil_append, zeros_one hzc]
  rw [hcells] at hap
  refine ⟨G, [x].toArray ++ Array.replicate (G - 1) (z), _, hap, ⟨by simp, ?_, hGl, ?_, fun j hj => arr_list_at [x] _ _ _ hj⟩, ?_⟩
  · simp; omega
  · exact Holds.new (enc := encV) w.drew E _
  · exact ((Below.refl w.heap.size w).drew).alloc (Nat.le_refl _) _
/-- 'append(l, x)', l a list of slices of one's own. -/
theorem append_valL {T E : TypeId} {z : Value} (hT : Try.prog.underlying T = some (.slice E)) (hE : (Try.prog.info? E).map (fun i => (i.zero, i.size, i.bytes)) = some (some z, 1, 24)) (hzc : z.cells = #[z]) {w : World} {g cap r : Nat} {vs : List Value} {cur : Array Value} {x : Value} (h : ListAt w g cap vs cur) (hx : w.cell? ⟨r, 0, none⟩ = some x) (h1 : x.oneCell' = true) (hbig : vs.length ≤ 1048576) :
    ∃ g' cap' cur' w', (Builtin.append_ #[T, T] T #[.slice (some ⟨g, 0, none⟩) vs.length cap, .slice (some ⟨r, 0, none⟩) 1 1]).run Try.prog w = .ok (.slice (some ⟨g', 0, none⟩) (vs.length + 1) cap') w' ∧
      ListAt w' g' cap' (vs ++ [x]) cur' ∧ Only g 0 cap w w' ∧ (g' = g ∨ w.heap.size ≤ g') := by
  obtain ⟨i, hi, hz, hsz, hby⟩ := info_parts hE
  have hsrc := src_oneG hT (r := r) hx h1
  by_cases hroom : vs.length + 1 ≤ cap
  · have hap := run_append_room_src (P := Try.prog) w T T T E i hT hi g 0 vs.length cap (.slice (some ⟨r, 0, none⟩) 1 1) 1 [x] (by rw [hsz]; exact hsrc) hroom
      (fun j hj => by
        have hj0 : j = 0 := by simpa using hj
        subst hj0
        rw [hsz, Nat.mul_one, Nat.add_zero, (h.holds vs.length (by rw [h.size]; omega)).1]; rfl)
      (fun j hj => by
        have hj0 : j = 0 := by simpa using hj
        subst hj0
        rw [hsz, Nat.mul_one, Nat.add_zero]
        exact (h.holds vs.length (by rw [h.size]; omega)).2)
    rw [hsz, Nat.mul_one, Nat.zero_add] at hap
    have hset : w.setCells g vs.length [x] = w.setCell ⟨g, vs.length, none⟩ x := rfl
    rw [hset] at hap
    have hH := Holds.set h.holds (i := vs.length) (by rw [h.size]; omega) x
    rw [Nat.zero_add] at hH
    refine ⟨g, cap, cur.setIfInBounds vs.length x, _, hap, ⟨by rw [World.size_setCell]; exact h.lt, by rw [Array.size_setIfInBounds, h.size], by rw [List.length_append]; exact hroom, hH, fun j hj => ?_⟩, (Only.refl _ _ _ _).setCell (by omega) (by omega) _, Or.inl rfl⟩
    rw [List.length_append, List.length_singleton] at hj
    by_cases hj1 : j = vs.length
    · rw [hj1, val_last, getElem!_set_same _ _ _ (by rw [h.size]; omega)]
    · rw [getElem!_set_other _ _ _ _ hj1, val_front _ _ _ (by omega), h.front j (by omega)]
  · have hold : (Builtin.firstCells i.size vs.length (.slice (some ⟨g, 0, none⟩) vs.length cap)).run Try.prog w.drew = .ok vs.toArray w.drew := by
      rw [hsz]
      refine run_firstCells_some w.drew 1 vs.length ⟨g, 0, none⟩ vs.length cap vs (by rw [Nat.mul_one]) (fun j u hj => ?_)
      obtain ⟨h2, h3⟩ := List.getElem?_eq_some_iff.1 hj
      have hc := (h.holds j (by rw [h.size]; have := h.fits; omega)).1
      rw [h.front j h2, getElem!_pos vs j h2, h3] at hc
      have e1 : (⟨g, 0, none⟩ : Addr).add j = ⟨g, 0 + j, none⟩ := by
        unfold Addr.add
        by_cases h0 : j = 0
        · subst h0; rw [if_pos rfl]
        · rw [if_neg h0]
      rw [e1, World.cell?_drew, hc]
      rfl
    have hf := h.fits
    have hnc : Builtin.nextslicecap (vs.length + 1) cap ≤ 2 * (vs.length + 1) + 768 := by
      unfold Builtin.nextslicecap
      split
      · omega
      · split
        · omega
        · simp only [Builtin.growBy]
          repeat' split
          all_goals omega
    have hap := run_append_grow_src (P := Try.prog) w T T T E i z hT hi hz (some ⟨g, 0, none⟩) vs.length cap vs hold _ 1 [x] (by rw [hsz]; exact hsrc) (by omega) (by omega) (by rw [hby]; omega)
    generalize hG : grownCap w (vs.length + 1) cap E = G at hap
    have hGl : vs.length + 1 ≤ G := by
      rw [← hG]
      unfold grownCap Question.cut
      exact Nat.le_add_right _ _
    have hcells : (vs ++ [x]).toArray ++ Builtin.zeroCells z.cells (G - (vs.length + 1)) = ((vs ++ [x]).toArray ++ Array.replicate (G - (vs.length + 1)) (z)).map encV := by
      have e0 : ∀ a : Array Value, a.map encV = a := fun a => by
        have : encV = id := rfl
        rw [this, Array.map_id]
      rw [e0, zeros_one hzc]
    rw [hcells] at hap
    refine ⟨w.heap.size, G, (vs ++ [x]).toArray ++ Array.replicate (G - (vs.length + 1)) (z), _, hap, ⟨by simp, ?_, by rw [List.length_append]; exact hGl, ?_, fun j hj => arr_list_at _ _ _ _ hj⟩, ?_, Or.inr (Nat.le_refl _)⟩
    · simp; omega
    · exact Holds.new (enc := encV) w.drew E _
    · exact (Only.refl g 0 cap w).drew.alloc h.lt _

/-- .. and the first of them. -/
theorem append_firstL {T E : TypeId} {z : Value} (hT : Try.prog.underlying T = some (.slice E)) (hE : (Try.prog.info? E).map (fun i => (i.zero, i.size, i.bytes)) = some (some z, 1, 24)) (hzc : z.cells = #[z]) {w : World} {r : Nat} {x : Value} (hx : w.cell? ⟨r, 0, none⟩ = some x) (h1 : x.oneCell' = true) :
    ∃ cap' cur' w', (Builtin.append_ #[T, T] T #[.slice none 0 0, .slice (some ⟨r, 0, none⟩) 1 1]).run Try.prog w = .ok (.slice (some ⟨w.heap.size, 0, none⟩) 1 cap') w' ∧
      ListAt w' w.heap.size cap' [x] cur' ∧ Below w.heap.size w w' := by
  obtain ⟨i, hi, hz, hsz, hby⟩ := info_parts hE
  have hsrc := src_oneG hT (r := r) hx h1
  have hold : (Builtin.firstCells i.size 0 (.slice none 0 0)).run Try.prog w.drew = .ok ([] : List Value).toArray w.drew := run_firstCells_none w.drew i.size 0 0 0
  have hnc : Builtin.nextslicecap (0 + 1) 0 ≤ 770 := by decide
  have hap := run_append_grow_src (P := Try.prog) w T T T E i z hT hi hz none 0 0 [] hold _ 1 [x] (by rw [hsz]; exact hsrc) (by omega) (by omega) (by rw [hby]; omega)
  rw [Nat.zero_add] at hap
  generalize hG : grownCap w 1 0 E = G at hap
  have hGl : 1 ≤ G := by
    rw [← hG]
    unfold grownCap Question.cut
    exact Nat.le_add_right _ _
  have hcells : (([] : List Value) ++ [x]).toArray ++ Builtin.zeroCells z.cells (G - 1) = ([x].toArray ++ Array.replicate (G - 1) (z)).map encV := by
    have e0 : ∀ a : Array Value, a.map encV = a := fun a => by
      have : encV = id := rfl
      rw [this, Array.map_id]
    rw [e0, List.nil_append, zeros_one hzc]
  rw [hcells] at hap
  refine ⟨G, [x].toArray ++ Array.replicate (G - 1) (z), _, hap, ⟨by simp, ?_, hGl, ?_, fun j hj => arr_list_at [x] _ _ _ hj⟩, ?_⟩
  · simp; omega
  · exact Holds.new (enc := encV) w.drew E _
  · exact ((Below.refl w.heap.size w).drew).alloc (Nat.le_refl _) _
/-- 'append(l, x)', l a list of slices of one's own. -/
theorem append_valB {T E : TypeId} {z : Value} (hT : Try.prog.underlying T = some (.slice E)) (hE : (Try.prog.info? E).map (fun i => (i.zero, i.size, i.bytes)) = some (some z, 1, 1)) (hzc : z.cells = #[z]) {w : World} {g cap r : Nat} {vs : List Value} {cur : Array Value} {x : Value} (h : ListAt w g cap vs cur) (hx : w.cell? ⟨r, 0, none⟩ = some x) (h1 : x.oneCell' = true) (hbig : vs.length ≤ 1048576) :
    ∃ g' cap' cur' w', (Builtin.append_ #[T, T] T #[.slice (some ⟨g, 0, none⟩) vs.length cap, .slice (some ⟨r, 0, none⟩) 1 1]).run Try.prog w = .ok (.slice (some ⟨g', 0, none⟩) (vs.length + 1) cap') w' ∧
      ListAt w' g' cap' (vs ++ [x]) cur' ∧ Only g 0 cap w w' ∧ (vs.length + 1 ≤ cap ∧ g' = g ∨ w.heap.size ≤ g' ∧ Below w.heap.size w w') := by
  obtain ⟨i, hi, hz, hsz, hby⟩ := info_parts hE
  have hsrc := src_oneG hT (r := r) hx h1
  by_cases hroom : vs.length + 1 ≤ cap
  · have hap := run_append_room_src (P := Try.prog) w T T T E i hT hi g 0 vs.length cap (.slice (some ⟨r, 0, none⟩) 1 1) 1 [x] (by rw [hsz]; exact hsrc) hroom
      (fun j hj => by
        have hj0 : j = 0 := by simpa using hj
        subst hj0
        rw [hsz, Nat.mul_one, Nat.add_zero, (h.holds vs.length (by rw [h.size]; omega)).1]; rfl)
      (fun j hj => by
        have hj0 : j = 0 := by simpa using hj
        subst hj0
        rw [hsz, Nat.mul_one, Nat.add_zero]
        exact (h.holds vs.length (by rw [h.size]; omega)).2)
    rw [hsz, Nat.mul_one, Nat.zero_add] at hap
    have hset : w.setCells g vs.length [x] = w.setCell ⟨g, vs.length, none⟩ x := rfl
    rw [hset] at hap
    have hH := Holds.set h.holds (i := vs.length) (by rw [h.size]; omega) x
    rw [Nat.zero_add] at hH
    refine ⟨g, cap, cur.setIfInBounds vs.length x, _, hap, ⟨by rw [World.size_setCell]; exact h.lt, by rw [Array.size_setIfInBounds, h.size], by rw [List.length_append]; exact hroom, hH, fun j hj => ?_⟩, (Only.refl _ _ _ _).setCell (by omega) (by omega) _, Or.inl ⟨hroom, rfl⟩⟩
    rw [List.length_append, List.length_singleton] at hj
    by_cases hj1 : j = vs.length
    · rw [hj1, val_last, getElem!_set_same _ _ _ (by rw [h.size]; omega)]
    · rw [getElem!_set_other _ _ _ _ hj1, val_front _ _ _ (by omega), h.front j (by omega)]
  · have hold : (Builtin.firstCells i.size vs.length (.slice (some ⟨g, 0, none⟩) vs.length cap)).run Try.prog w.drew = .ok vs.toArray w.drew := by
      rw [hsz]
      refine run_firstCells_some w.drew 1 vs.length ⟨g, 0, none⟩ vs.length cap vs (by rw [Nat.mul_one]) (fun j u hj => ?_)
      obtain ⟨h2, h3⟩ := List.getElem?_eq_some_iff.1 hj
      have hc := (h.holds j (by rw [h.size]; have := h.fits; omega)).1
      rw [h.front j h2, getElem!_pos vs j h2, h3] at hc
      have e1 : (⟨g, 0, none⟩ : Addr).add j = ⟨g, 0 + j, none⟩ := by
        unfold Addr.add
        by_cases h0 : j = 0
        · subst h0; rw [if_pos rfl]
        · rw [if_neg h0]
      rw [e1, World.cell?_drew, hc]
      rfl
    have hf := h.fits
    have hnc : Builtin.nextslicecap (vs.length + 1) cap ≤ 2 * (vs.length + 1) + 768 := by
      unfold Builtin.nextslicecap
      split
      · omega
      · split
        · omega
        · simp only [Builtin.growBy]
          repeat' split
          all_goals omega
    have hap := run_append_grow_src (P := Try.prog) w T T T E i z hT hi hz (some ⟨g, 0, none⟩) vs.length cap vs hold _ 1 [x] (by rw [hsz]; exact hsrc) (by omega) (by omega) (by rw [hby]; omega)
    generalize hG : grownCap w (vs.length + 1) cap E = G at hap
    have hGl : vs.length + 1 ≤ G := by
      rw [← hG]
      unfold grownCap Question.cut
      exact Nat.le_add_right _ _
    have hcells : (vs ++ [x]).toArray ++ Builtin.zeroCells z.cells (G - (vs.length + 1)) = ((vs ++ [x]).toArray ++ Array.replicate (G - (vs.length + 1)) (z)).map encV := by
      have e0 : ∀ a : Array Value, a.map encV = a := fun a => by
        have : encV = id := rfl
        rw [this, Array.map_id]
      rw [e0, zeros_one hzc]
    rw [hcells] at hap
    refine ⟨w.heap.size, G, (vs ++ [x]).toArray ++ Array.replicate (G - (vs.length + 1)) (z), _, hap, ⟨by simp, ?_, by rw [List.length_append]; exact hGl, ?_, fun j hj => arr_list_at _ _ _ _ hj⟩, ?_, Or.inr ⟨Nat.le_refl _, ((Below.refl w.heap.size w).drew).alloc (Nat.le_refl _) _⟩⟩
    · simp; omega
    · exact Holds.new (enc := encV) w.drew E _
    · exact (Only.refl g 0 cap w).drew.alloc h.lt _

/-- .. and the first of them. -/
theorem append_firstB {T E : TypeId} {z : Value} (hT : Try.prog.underlying T = some (.slice E)) (hE : (Try.prog.info? E).map (fun i => (i.zero, i.size, i.bytes)) = some (some z, 1, 1)) (hzc : z.cells = #[z]) {w : World} {r : Nat} {x : Value} (hx : w.cell? ⟨r, 0, none⟩ = some x) (h1 : x.oneCell' = true) :
    ∃ cap' cur' w', (Builtin.append_ #[T, T] T #[.slice none 0 0, .slice (some ⟨r, 0, none⟩) 1 1]).run Try.prog w = .ok (.slice (some ⟨w.heap.size, 0, none⟩) 1 cap') w' ∧
      ListAt w' w.heap.size cap' [x] cur' ∧ Below w.heap.size w w' := by
  obtain ⟨i, hi, hz, hsz, hby⟩ := info_parts hE
  have hsrc := src_oneG hT (r := r) hx h1
  have hold : (Builtin.firstCells i.size 0 (.slice none 0 0)).run Try.prog w.drew = .ok ([] : List Value).toArray w.drew := run_firstCells_none w.drew i.size 0 0 0
  have hnc : Builtin.nextslicecap (0 + 1) 0 ≤ 770 := by decide
  have hap := run_append_grow_src (P := Try.prog) w T T T E i z hT hi hz none 0 0 [] hold _ 1 [x] (by rw [hsz]; exact hsrc) (by omega) (by omega) (by rw [hby]; omega)
  rw [Nat.zero_add] at hap
  generalize hG : grownCap w 1 0 E = G at hap
  have hGl : 1 ≤ G := by
    rw [← hG]
    unfold grownCap Question.cut
    exact Nat.le_add_right _ _
  have hcells : (([] : List Value) ++ [x]).toArray ++ Builtin.zeroCells z.cells (G - 1) = ([x].toArray ++ Array.replicate (G - 1) (z)).map encV := by
    have e0 : ∀ a : Array Value, a.map encV = a := fun a => by
      have : encV = id := rfl
      rw [this, Array.map_id]
    rw [e0, List.nil_append, zeros_one hzc]
  rw [hcells] at hap
  refine ⟨G, [x].toArray ++ Array.replicate (G - 1) (z), _, hap, ⟨by simp, ?_, hGl, ?_, fun j hj => arr_list_at [x] _ _ _ hj⟩, ?_⟩
  · simp; omega
  · exact Holds.new (enc := encV) w.drew E _
  · exact ((Below.refl w.heap.size w).drew).alloc (Nat.le_refl _) _
end Go.Proofs.Ytbimbalfdmffaab
namespace Go.Proofs.Ytbimbalfdmffaab
open Go.RowKit Go.Sort Go.Deep

/-- n slices of 32 bytes in block kl, each in a block of its own. -/
structure Rack (W : World) (kl n : Nat) (G : Nat → Nat) (T : Nat → Bs) : Prop where
  cell : ∀ j, j < n → W.cell? ⟨kl, j, none⟩ = some (.slice (some ⟨G j, 0, none⟩) 32 32)
  hold : ∀ j, j < n → Holds encB W (G j) 0 (T j)
  sz : ∀ j, j < n → (T j).size = 32
  ne : ∀ j, j < n → G j ≠ kl
  inj : ∀ j j', j < n → j' < n → G j = G j' → j = j'

theorem Rack.lt {W : World} {kl n : Nat} {G : Nat → Nat} {T : Nat → Bs} (h : Rack W kl n G T) {j : Nat} (hj : j < n) : G j < W.heap.size := Holds.lt (h.hold j hj) (by rw [h.sz j hj]; omega)

theorem Rack.below {W w1 : World} {kl n B : Nat} {G : Nat → Nat} {T : Nat → Bs} (h : Rack W kl n G T) (hb : Below B W w1) (hk : kl < B) (hG : ∀ j, j < n → G j < B) : Rack w1 kl n G T :=
  ⟨fun j hj => by rw [hb.cell (p := ⟨kl, j, none⟩) hk]; exact h.cell j hj, fun j hj => Holds.below (h.hold j hj) hb (hG j hj), h.sz, h.ne, h.inj⟩

theorem Rack.drew {W : World} {kl n : Nat} {G : Nat → Nat} {T : Nat → Bs} (h : Rack W kl n G T) : Rack W.drew kl n G T := ⟨h.cell, h.hold, h.sz, h.ne, h.inj⟩
theorem Rack.drewN {W : World} {kl n : Nat} {G : Nat → Nat} {T : Nat → Bs} (h : Rack W kl n G T) (q : Nat) : Rack (W.drewN q) kl n G T := ⟨h.cell, h.hold, h.sz, h.ne, h.inj⟩
/-- Row i's byte k written anew. -/
def upd (T : Nat → Bs) (i : Nat) (b : Bs) : Nat → Bs := fun j => if j = i then b else T j
theorem upd_same (T : Nat → Bs) (i : Nat) (b : Bs) : upd T i b i = b := by simp [upd]
theorem upd_other (T : Nat → Bs) (i j : Nat) (b : Bs) (h : j ≠ i) : upd T i b j = T j := by simp [upd, h]

theorem Rack.set {W : World} {kl n i k : Nat} {G : Nat → Nat} {T : Nat → Bs} (h : Rack W kl n G T) (hi : i < n) (hk : k < 32) (x : UInt8) : Rack (W.setCell ⟨G i, k, none⟩ (encB x)) kl n G (upd T i ((T i).setIfInBounds k x)) := by
  have hO : Only (G i) 0 32 W (W.setCell ⟨G i, k, none⟩ (encB x)) := (Only.refl _ _ _ _).setCell (Nat.zero_le _) (by omega) _
  refine ⟨fun j hj => ?_, fun j hj => ?_, fun j hj => ?_, h.ne, h.inj⟩
  · rw [World.cell?_setCell_other _ _ _ _ (by intro e; simp only [Addr.mk.injEq, and_true] at e; exact h.ne i hi e.1)]
    exact h.cell j hj
  · by_cases e : j = i
    · subst e
      rw [upd_same]
      have := Holds.set (h.hold j hj) (i := k) (by rw [h.sz j hj]; exact hk) x
      rw [Nat.zero_add] at this
      exact this
    · rw [upd_other _ _ _ _ e]
      exact Holds.other (h.hold j hj) hO (fun e' => e (h.inj j i hj hi e')) (by rw [h.sz j hj]; omega)
  · by_cases e : j = i
    · subst e
      rw [upd_same, Array.size_setIfInBounds, h.sz j hj]
    · rw [upd_other _ _ _ _ e, h.sz j hj]

/-- A list of texts that grows, in a block from B on. -/
def SL (W : World) (B k : Nat) (v : Value) (S : Nat → ByteArray) : Prop :=
  (k = 0 ∧ v = .slice none 0 0) ∨ ∃ g cap vs cur, v = .slice (some ⟨g, 0, none⟩) k cap ∧ vs.length = k ∧ 0 < k ∧ B ≤ g ∧ ListAt W g cap vs cur ∧ ∀ j, j < k → vs[j]! = .string (S j)

theorem ListAt.cell {W : World} {g cap : Nat} {vs : List Value} {cur : Array Value} (h : ListAt W g cap vs cur) {j : Nat} (hj : j < vs.length) : W.cell? ⟨g, j, none⟩ = some vs[j]! := by
  have := (h.holds j (by rw [h.size]; have := h.fits; omega)).1
  rw [h.front j hj, Nat.zero_add] at this
  exact this
theorem ListAt.other {W w1 : World} {g cap b o m : Nat} {vs : List Value} {cur : Array Value} (h : ListAt W g cap vs cur) (k : Only b o m W w1) (hb : g ≠ b) (hv : 0 < vs.length) : ListAt w1 g cap vs cur :=
  ⟨Nat.lt_of_lt_of_le h.lt k.size, h.size, h.fits, Holds.other h.holds k hb (by rw [h.size]; have := h.fits; omega), h.front⟩

theorem SL.below {W w1 : World} {B k : Nat} {v : Value} {S : Nat → ByteArray} (h : SL W B k v S) (hb : Below W.heap.size W w1) : SL w1 B k v S := by
  rcases h with h | ⟨g, cap, vs, cur, h1, h2, h3, h4, h5, h6⟩
  · exact Or.inl h
  · exact Or.inr ⟨g, cap, vs, cur, h1, h2, h3, h4, h5.below hb, h6⟩
theorem SL.drewN {W : World} {B k : Nat} {v : Value} {S : Nat → ByteArray} (h : SL W B k v S) (q : Nat) : SL (W.drewN q) B k v S := h.below ⟨rfl, rfl, rfl, Nat.le_refl _, fun _ _ => rfl⟩
theorem SL.drew {W : World} {B k : Nat} {v : Value} {S : Nat → ByteArray} (h : SL W B k v S) : SL W.drew B k v S := h.below ⟨rfl, rfl, rfl, Nat.le_refl _, fun _ _ => rfl⟩
/-- What turns in one block that holds no text at its beginning turns no list of texts. -/
theorem SL.only {W w1 : World} {B k b o m : Nat} {v : Value} {S : Nat → ByteArray} (h : SL W B k v S) (hO : Only b o m W w1) (hb : ∀ s, W.cell? ⟨b, 0, none⟩ ≠ some (.string s)) : SL w1 B k v S := by
  rcases h with h | ⟨g, cap, vs, cur, h1, h2, h3, h4, h5, h6⟩
  · exact Or.inl h
  · refine Or.inr ⟨g, cap, vs, cur, h1, h2, h3, h4, h5.other hO (fun e => ?_) (by omega), h6⟩
    have := h5.cell (j := 0) (by omega)
    rw [h6 0 h3, e] at this
    exact hb _ this
theorem SL.push {W : World} {B k : Nat} {v : Value} {S : Nat → ByteArray} (h : SL W B k v S) (hB : B ≤ W.heap.size) (hk : k ≤ 1048576) {x : ByteArray} (hx : x = S k) :
    ∃ v' w', (Builtin.append_ #[45, 45] 45 #[v, .slice (some ⟨W.heap.size, 0, none⟩) 1 1]).run Try.prog (W.alloc (.cells #[.string x] 9)) = .ok v' w' ∧ SL w' B (k + 1) v' S ∧ Below B W w' := by
  have hr : (W.alloc (.cells #[.string x] 9)).cell? ⟨W.heap.size, 0, none⟩ = some (.string x) := by simp
  have hb0 : Below W.heap.size W (W.alloc (.cells #[.string x] 9)) := (Below.refl _ _).alloc (Nat.le_refl _) _
  have hs0 : (W.alloc (.cells #[.string x] 9)).heap.size = W.heap.size + 1 := by simp
  have hx1 : (Value.string x).oneCell' = true := rfl
  rcases h with ⟨rfl, rfl⟩ | ⟨g, cap, vs, cur, rfl, h2, h3, h4, h5, h6⟩
  · obtain ⟨cap', cur', w', hap, hL, hb2⟩ := append_firstS slice45 info9 rfl hr hx1
    have hbb := hb0.trans (hb2.mono (by omega))
    refine ⟨_, w', hap, Or.inr ⟨_, cap', _, cur', rfl, rfl, by omega, by omega, hL, fun j hj => ?_⟩, hbb.mono hB⟩
    have hj0 : j = 0 := by omega
    subst hj0
    rw [hx]; rfl
  · have h5' := h5.below hb0
    subst h2
    obtain ⟨g', cap', cur', w', hap, hL, hO, hg'⟩ := append_valS slice45 info9 rfl h5' hr hx1 hk
    have hg := h5.lt
    refine ⟨_, w', hap, Or.inr ⟨g', cap', _, cur', rfl, by rw [List.length_append]; rfl, by omega, by omega, hL, fun j hj => ?_⟩, (hb0.mono hB).trans (hO.below (by omega) h4)⟩
    by_cases hj1 : j = vs.length
    · rw [hj1, val_last, hx]
    · rw [val_front _ _ _ (by omega)]; exact h6 j (by omega)

/-- A list of slices that grows, in a block from B on; each of them in a block of its own, from B on. -/
def GL (W : World) (B k : Nat) (v : Value) (T : Nat → Bs) : Prop :=
  (k = 0 ∧ v = .slice none 0 0) ∨ ∃ g cap vs cur, v = .slice (some ⟨g, 0, none⟩) k cap ∧ vs.length = k ∧ 0 < k ∧ B ≤ g ∧ ListAt W g cap vs cur ∧ ∀ j, j < k → ∃ gx c, vs[j]! = .slice (some ⟨gx, 0, none⟩) (T j).size c ∧ B ≤ gx ∧ 0 < (T j).size ∧ Holds encB W gx 0 (T j)

theorem Holds.ne_of_cell {W : World} {g b : Nat} {T : Bs} (h : Holds encB W g 0 T) (hT : 0 < T.size) (hb : ∀ i, W.cell? ⟨b, 0, none⟩ ≠ some (.int .u8 i)) : g ≠ b := fun e => by
  have := (h 0 hT).1
  rw [e] at this
  exact hb _ this

theorem GL.below {W w1 : World} {B k : Nat} {v : Value} {T : Nat → Bs} (h : GL W B k v T) (hb : Below W.heap.size W w1) : GL w1 B k v T := by
  rcases h with h | ⟨g, cap, vs, cur, h1, h2, h3, h4, h5, h6⟩
  · exact Or.inl h
  · refine Or.inr ⟨g, cap, vs, cur, h1, h2, h3, h4, h5.below hb, fun j hj => ?_⟩
    obtain ⟨gx, c, e1, e2, e3, e4⟩ := h6 j hj
    exact ⟨gx, c, e1, e2, e3, Holds.below e4 hb (Holds.lt e4 e3)⟩

theorem GL.drewN {W : World} {B k : Nat} {v : Value} {T : Nat → Bs} (h : GL W B k v T) (q : Nat) : GL (W.drewN q) B k v T := h.below ⟨rfl, rfl, rfl, Nat.le_refl _, fun _ _ => rfl⟩
/-- 'grown = append(grown, g)': texts in another list stay. -/
theorem GL.push {W : World} {B k m gx c : Nat} {v u : Value} {T : Nat → Bs} {S : Nat → ByteArray} (h : GL W B k v T) (hS : SL W B m u S) (hB : B ≤ W.heap.size) (hk : k ≤ 1048576) (hgx : B ≤ gx) (hT : 0 < (T k).size) (hH : Holds encB W gx 0 (T k)) {l : Nat} (hl : l = (T k).size) :
    ∃ v' w', (Builtin.append_ #[46, 46] 46 #[v, .slice (some ⟨W.heap.size, 0, none⟩) 1 1]).run Try.prog (W.alloc (.cells #[.slice (some ⟨gx, 0, none⟩) l c] 23)) = .ok v' w' ∧ GL w' B (k + 1) v' T ∧ SL w' B m u S ∧ Below B W w' := by
  subst hl
  have hr : (W.alloc (.cells #[.slice (some ⟨gx, 0, none⟩) (T k).size c] 23)).cell? ⟨W.heap.size, 0, none⟩ = some (.slice (some ⟨gx, 0, none⟩) (T k).size c) := by simp
  have hb0 : Below W.heap.size W (W.alloc (.cells #[.slice (some ⟨gx, 0, none⟩) (T k).size c] 23)) := (Below.refl _ _).alloc (Nat.le_refl _) _
  have hs0 : (W.alloc (.cells #[.slice (some ⟨gx, 0, none⟩) (T k).size c] 23)).heap.size = W.heap.size + 1 := by simp
  have hx1 : (Value.slice (some ⟨gx, 0, none⟩) (T k).size c).oneCell' = true := rfl
  have hgl := Holds.lt hH hT
  rcases h with ⟨rfl, rfl⟩ | ⟨g, cap, vs, cur, rfl, h2, h3, h4, h5, h6⟩
  · obtain ⟨cap', cur', w', hap, hL, hb2⟩ := append_firstL slice46 info23 rfl hr hx1
    have hbb := hb0.trans (hb2.mono (by omega))
    refine ⟨_, w', hap, Or.inr ⟨_, cap', _, cur', rfl, rfl, by omega, by omega, hL, fun j hj => ?_⟩, hS.below hbb, hbb.mono hB⟩
    have hj0 : j = 0 := by omega
    subst hj0
    exact ⟨gx, c, rfl, hgx, hT, Holds.below hH hbb hgl⟩
  · have h5' := h5.below hb0
    have hS' := hS.below hb0
    subst h2
    obtain ⟨g', cap', cur', w', hap, hL, hO, hg'⟩ := append_valL slice46 info23 rfl h5' hr hx1 hk
    have hg := h5.lt
    have hc0 := h5'.cell (j := 0) h3
    obtain ⟨g0, c0, e0, -⟩ := h6 0 h3
    rw [e0] at hc0
    have hnb : ∀ {y : Nat} {U : Bs}, Holds encB (W.alloc (.cells #[.slice (some ⟨gx, 0, none⟩) (T vs.length).size c] 23)) y 0 U → 0 < U.size → Holds encB w' y 0 U := fun hU hu =>
      Holds.other hU hO (Holds.ne_of_cell hU hu (fun i e => by rw [hc0] at e; cases e)) hu
    refine ⟨_, w', hap, Or.inr ⟨g', cap', _, cur', rfl, by rw [List.length_append]; rfl, by omega, by omega, hL, fun j hj => ?_⟩, hS'.only hO (fun s e => by rw [hc0] at e; cases e), (hb0.mono hB).trans (hO.below (by omega) h4)⟩
    by_cases hj1 : j = vs.length
    · subst hj1
      rw [val_last]
      exact ⟨gx, c, rfl, hgx, hT, hnb (Holds.below hH hb0 hgl) hT⟩
    · obtain ⟨gy, d, e1, e2, e3, e4⟩ := h6 j (by omega)
      rw [val_front _ _ _ (by omega)]
      exact ⟨gy, d, e1, e2, e3, hnb (Holds.below e4 hb0 (Holds.lt e4 e3)) e3⟩
end Go.Proofs.Ytbimbalfdmffaab
namespace Go.Proofs.Ytbimbalfdmffaab
open Go.RowKit Go.Sort Go.Deep

/-- What Apart lays behind list i, at place j. -/
def fillB (i j : Nat) : UInt8 := UInt8.ofNat ((i * 37 + j) % 253) ^^^ 90
theorem fillB_int (i j : Nat) : bits .xor .u8 (((i : Int) * 37 + (j : Int)) % 253) 90 = ub (fillB i j) := by
  have H : ∀ j : Fin 253, bits .xor .u8 (j.val : Int) 90 = ub (UInt8.ofNat j.val ^^^ 90) := by decide +kernel
  have := H ⟨(i * 37 + j) % 253, Nat.mod_lt _ (by decide)⟩
  have e : (((i * 37 + j) % 253 : Nat) : Int) = ((i : Int) * 37 + (j : Int)) % 253 := by omega
  simp only [e] at this
  exact this

def rowL (b : Bs) (i : Nat) : Nat → List UInt8
  | 0 => b.toList
  | j + 1 => rowL b i j ++ [fillB i j]
theorem rowL_length (b : Bs) (i : Nat) (hb : b.size = 32) : ∀ j, (rowL b i j).length = 32 + j
  | 0 => by rw [rowL, Array.length_toList, hb]
  | j + 1 => by rw [rowL, List.length_append, rowL_length b i hb j]; rfl
theorem u8_front (a b : List UInt8) (j : Nat) (h : j < a.length) : (a ++ b)[j]! = a[j]! := by
  rw [getElem!_pos (a ++ b) j (by rw [List.length_append]; omega), getElem!_pos a j h, List.getElem_append_left h]
theorem u8_last (a : List UInt8) (x : UInt8) : (a ++ [x])[a.length]! = x := by
  rw [getElem!_pos (a ++ [x]) a.length (by simp)]
  simp
theorem rowL_low (b : Bs) (i : Nat) (hb : b.size = 32) (k : Nat) (hk : k < 32) : ∀ j, (rowL b i j)[k]! = b[k]!
  | 0 => by
    rw [rowL, getElem!_pos b.toList k (by rw [Array.length_toList]; omega), getElem!_pos b k (by omega), Array.getElem_toList]
  | j + 1 => by rw [rowL, u8_front _ _ _ (by rw [rowL_length b i hb]; omega), rowL_low b i hb k hk j]
theorem rowL_high (b : Bs) (i : Nat) (hb : b.size = 32) (k : Nat) : ∀ j, k < j → (rowL b i j)[32 + k]! = fillB i k
  | 0, h => absurd h (by omega)
  | j + 1, h => by
    rw [rowL]
    by_cases e : k = j
    · subst e
      rw [← rowL_length b i hb k, u8_last]
    · rw [u8_front _ _ _ (by rw [rowL_length b i hb]; omega), rowL_high b i hb k j (by omega)]

theorem map_enc_at (l : List UInt8) (j : Nat) (h : j < l.length) : (l.map encB)[j]! = encB l[j]! := by
  rw [getElem!_pos (l.map encB) j (by rw [List.length_map]; exact h), getElem!_pos l j h, List.getElem_map]
theorem list_arr (l : List UInt8) (j : Nat) (h : j < l.length) : l.toArray[j]! = l[j]! := by
  rw [getElem!_pos l.toArray j (by simpa using h), getElem!_pos l j h]
  simp

/-- A list of bytes, as values. -/
theorem ListAt.bytes {W : World} {g cap : Nat} {l : List UInt8} {cur : Array Value} (h : ListAt W g cap (l.map encB) cur) : Holds encB W g 0 l.toArray := fun j hj => by
  have hj' : j < l.length := by simpa using hj
  have h1 := h.holds j (by rw [h.size]; have := h.fits; rw [List.length_map] at this; omega)
  rw [h.front j (by rw [List.length_map]; exact hj'), map_enc_at _ _ hj'] at h1
  rw [list_arr _ _ hj']
  exact h1
theorem ListAt.of {W : World} {g : Nat} {b : Bs} (h : Holds encB W g 0 b) (hb : 0 < b.size) : ListAt W g b.size (b.toList.map encB) (b.map encB) := by
  have e : ∀ j, j < b.size → (b.map encB)[j]! = encB b[j]! := fun j hj => by
    rw [getElem!_pos (b.map encB) j (by simpa using hj), getElem!_pos b j hj, Array.getElem_map]
  refine ⟨Holds.lt h hb, by simp, by simp, fun j hj => ?_, fun j hj => ?_⟩
  · have hj' : j < b.size := by simpa using hj
    rw [e j hj']
    exact h j hj'
  · have hj' : j < b.size := by simpa using hj
    rw [e j hj', map_enc_at _ _ (by simpa using hj'), getElem!_pos b j hj', getElem!_pos b.toList j (by simpa using hj'), Array.getElem_toList]

/-- A list that grows: as yet what was handed in, or a copy from block N on. -/
def GB (W : World) (N gi : Nat) (v : Value) (b : Bs) (i j : Nat) : Prop :=
  (j = 0 ∧ v = .slice (some ⟨gi, 0, none⟩) 32 32) ∨ (0 < j ∧ ∃ g cap cur, v = .slice (some ⟨g, 0, none⟩) (32 + j) cap ∧ N ≤ g ∧ ListAt W g cap ((rowL b i j).map encB) cur)

theorem GB.push {W : World} {N gi i j : Nat} {v : Value} {b : Bs} (h : GB W N gi v b i j) (hH : Holds encB W gi 0 b) (hb : b.size = 32) (hN : N ≤ W.heap.size) (hj : j ≤ 1048000) {x : Value} (hx : x = encB (fillB i j)) :
    ∃ v' w', (Builtin.append_ #[23, 23] 23 #[v, .slice (some ⟨W.heap.size, 0, none⟩) 1 1]).run Try.prog (W.alloc (.cells #[x] 5)) = .ok v' w' ∧ GB w' N gi v' b i (j + 1) ∧ Below N W w' := by
  subst hx
  have hr : (W.alloc (.cells #[encB (fillB i j)] 5)).cell? ⟨W.heap.size, 0, none⟩ = some (encB (fillB i j)) := by simp
  have hb0 : Below W.heap.size W (W.alloc (.cells #[encB (fillB i j)] 5)) := (Below.refl _ _).alloc (Nat.le_refl _) _
  have hs0 : (W.alloc (.cells #[encB (fillB i j)] 5)).heap.size = W.heap.size + 1 := by simp
  have hx1 : (encB (fillB i j)).oneCell' = true := rfl
  have hl := rowL_length b i hb j
  have hnext : (rowL b i (j + 1)).map encB = (rowL b i j).map encB ++ [encB (fillB i j)] := by rw [rowL, List.map_append]; rfl
  rcases h with ⟨rfl, rfl⟩ | ⟨h0, g, cap, cur, rfl, hg, hL⟩
  · have hgl := Holds.lt hH (by omega)
    have hL := ListAt.of (Holds.below hH hb0 hgl) (by omega)
    obtain ⟨g', cap', cur', w', hap, hL2, hO, hg'⟩ := append_valB slice22 info5 rfl hL hr hx1 (by rw [List.length_map, Array.length_toList, hb]; omega)
    rw [List.length_map, Array.length_toList, hb] at hap hg'
    rcases hg' with ⟨h1, -⟩ | ⟨h1, h2⟩
    · omega
    · refine ⟨_, w', hap, Or.inr ⟨by omega, g', cap', cur', rfl, by omega, ?_⟩, (hb0.trans (h2.mono (by omega))).mono hN⟩
      rw [hnext]
      exact hL2
  · have hL1 := hL.below hb0
    obtain ⟨g', cap', cur', w', hap, hL2, hO, hg'⟩ := append_valB slice22 info5 rfl hL1 hr hx1 (by rw [List.length_map, hl]; omega)
    rw [List.length_map, hl] at hap hg'
    refine ⟨_, w', hap, Or.inr ⟨by omega, g', cap', cur', rfl, ?_, ?_⟩, (hb0.mono hN).trans (hO.below (by omega) hg)⟩
    · rcases hg' with ⟨-, h1⟩ | ⟨h1, -⟩ <;> omega
    · rw [hnext]
      exact hL2
theorem GB.done {W : World} {N gi i : Nat} {v : Value} {b : Bs} (h : GB W N gi v b i 80) : ∃ g cap, v = .slice (some ⟨g, 0, none⟩) 112 cap ∧ N ≤ g ∧ Holds encB W g 0 (rowL b i 80).toArray := by
  rcases h with ⟨h0, -⟩ | ⟨-, g, cap, cur, h1, h2, h3⟩
  · exact absurd h0 (by decide)
  · exact ⟨g, cap, h1, h2, h3.bytes⟩
theorem GB.drewN {W : World} {N gi i j : Nat} {v : Value} {b : Bs} (h : GB W N gi v b i j) (q : Nat) : GB (W.drewN q) N gi v b i j := by
  rcases h with h0 | ⟨h0, g, cap, cur, h1, h2, h3⟩
  · exact Or.inl h0
  · exact Or.inr ⟨h0, g, cap, cur, h1, h2, h3.below ⟨rfl, rfl, rfl, Nat.le_refl _, fun _ _ => rfl⟩⟩
theorem SL.at {W : World} {B k : Nat} {v : Value} {S : Nat → ByteArray} (h : SL W B k v S) (hk : 0 < k) : ∃ g cap, v = .slice (some ⟨g, 0, none⟩) k cap ∧ ∀ j, j < k → W.cell? ⟨g, j, none⟩ = some (.string (S j)) := by
  rcases h with ⟨h0, -⟩ | ⟨g, cap, vs, cur, h1, h2, h3, h4, h5, h6⟩
  · omega
  · exact ⟨g, cap, h1, fun j hj => by rw [← h6 j hj]; exact h5.cell (by omega)⟩
theorem GL.at {W : World} {B k : Nat} {v : Value} {T : Nat → Bs} (h : GL W B k v T) (hk : 0 < k) : ∃ g cap, v = .slice (some ⟨g, 0, none⟩) k cap ∧ ∀ j, j < k → ∃ gx c, W.cell? ⟨g, j, none⟩ = some (.slice (some ⟨gx, 0, none⟩) (T j).size c) ∧ Holds encB W gx 0 (T j) := by
  rcases h with ⟨h0, -⟩ | ⟨g, cap, vs, cur, h1, h2, h3, h4, h5, h6⟩
  · omega
  · refine ⟨g, cap, h1, fun j hj => ?_⟩
    obtain ⟨gx, c, e1, -, -, e4⟩ := h6 j hj
    exact ⟨gx, c, by rw [← e1]; exact h5.cell (by omega), e4⟩
end Go.Proofs.Ytbimbalfdmffaab
namespace Go.Proofs.Ytbimbalfdmffaab
open Go.RowKit Go.Sort Go.Deep

/-- The first k bytes of a row, each one more. -/
def incTo (b : Bs) : Nat → Bs
  | 0 => b
  | k + 1 => (incTo b k).setIfInBounds k (b[k]! + 1)
theorem incTo_size (b : Bs) : ∀ k, (incTo b k).size = b.size
  | 0 => rfl
  | k + 1 => by rw [incTo, Array.size_setIfInBounds, incTo_size b k]
theorem incTo_at (b : Bs) : ∀ k j, k ≤ b.size → (incTo b k)[j]! = if j < k then b[j]! + 1 else b[j]!
  | 0, j, _ => by simp [incTo]
  | k + 1, j, hk => by
    rw [incTo]
    by_cases e : j = k
    · subst e
      rw [getElem!_set_same _ _ _ (by rw [incTo_size]; omega), if_pos (by omega)]
    · rw [getElem!_set_other _ _ _ _ e, incTo_at b k j (by omega)]
      by_cases h : j < k
      · rw [if_pos h, if_pos (by omega)]
      · rw [if_neg h, if_neg (by omega)]

/-- The rows, where i of them are done, and k bytes of row i. -/
def T2 (T : Nat → Bs) (i k : Nat) : Nat → Bs := fun j => if j < i then incTo (T j) 32 else if j = i then incTo (T j) k else T j
theorem T2_zero (T : Nat → Bs) : T2 T 0 0 = T := by
  funext j
  unfold T2
  rw [if_neg (by omega)]
  by_cases h : j = 0
  · rw [if_pos h]; rfl
  · rw [if_neg h]
theorem T2_next (T : Nat → Bs) (i : Nat) : T2 T i 32 = T2 T (i + 1) 0 := by
  funext j
  unfold T2
  by_cases h : j < i
  · rw [if_pos h, if_pos (by omega)]
  · rw [if_neg h]
    by_cases h2 : j = i
    · rw [if_pos h2, if_pos (by omega)]
    · rw [if_neg h2, if_neg (by omega)]
      by_cases h3 : j = i + 1
      · rw [if_pos h3]; rfl
      · rw [if_neg h3]
theorem T2_own (T : Nat → Bs) (i k : Nat) : T2 T i k i = incTo (T i) k := by unfold T2; rw [if_neg (by omega), if_pos rfl]
theorem T2_step (T : Nat → Bs) (i k : Nat) : upd (T2 T i k) i ((T2 T i k i).setIfInBounds k ((T i)[k]! + 1)) = T2 T i (k + 1) := by
  funext j
  by_cases h : j = i
  · subst h
    rw [upd_same, T2_own, T2_own]
    rfl
  · rw [upd_other _ _ _ _ h]
    unfold T2
    rw [if_neg h, if_neg h]

/-- What has grown of row j. -/
def T3 (T : Nat → Bs) (j : Nat) : Bs := (rowL (incTo (T j) 32) j 80).toArray
theorem T3_size (T : Nat → Bs) (j : Nat) (h : (T j).size = 32) : (T3 T j).size = 112 := by unfold T3; rw [List.size_toArray, rowL_length _ _ (by rw [incTo_size, h])]
theorem T2_all (T : Nat → Bs) (n j : Nat) (h : j < n) : T2 T n 0 j = incTo (T j) 32 := by unfold T2; rw [if_pos h]

theorem ub_succ (x : UInt8) : IntKind.u8.wrap (ub x + 1) = ub (x + 1) := by
  have H : ∀ j : Fin 256, IntKind.u8.wrap ((j.val : Int) + 1) = (((UInt8.ofNat j.val + 1).toNat : Nat) : Int) := by decide +kernel
  have := H ⟨x.toNat, x.toNat_lt⟩
  unfold ub
  simp only [UInt8.ofNat_toNat] at this
  exact this

/-- All that stands behind the writing. -/
structure Stand (w W : World) (B kl n : Nat) (G : Nat → Nat) (T : Nat → Bs) (sv gv : Value) : Prop where
  bl : Below B w W
  r : Rack W kl n G (T2 T n 0)
  s : SL W w.heap.size n sv (fun j => ⟨T j⟩)
  g : GL W w.heap.size n gv (T3 T)
theorem Stand.drewN {w W : World} {B kl n : Nat} {G : Nat → Nat} {T : Nat → Bs} {sv gv : Value} (h : Stand w W B kl n G T sv gv) (q : Nat) : Stand w (W.drewN q) B kl n G T sv gv :=
  ⟨⟨h.bl.os, h.bl.tape, h.bl.output, h.bl.size, h.bl.block⟩, h.r.drewN q, h.s.drewN q, h.g.drewN q⟩
/-- Row p, as it is looked at. -/
structure Look (W : World) (kl gs gg p g gx cx : Nat) (s : ByteArray) (b b3 : Bs) : Prop where
  cl : W.cell? ⟨kl, p, none⟩ = some (.slice (some ⟨g, 0, none⟩) 32 32)
  cs : W.cell? ⟨gs, p, none⟩ = some (.string s)
  cg : W.cell? ⟨gg, p, none⟩ = some (.slice (some ⟨gx, 0, none⟩) 112 cx)
  hl : Holds encB W g 0 b
  hg : Holds encB W gx 0 b3
theorem Look.drewN {W : World} {kl gs gg p g gx cx : Nat} {s : ByteArray} {b b3 : Bs} (h : Look W kl gs gg p g gx cx s b b3) (q : Nat) : Look (W.drewN q) kl gs gg p g gx cx s b b3 := ⟨h.cl, h.cs, h.cg, h.hl, h.hg⟩

set_option maxHeartbeats 4000000 in
set_option maxRecDepth 100000 in
theorem Apart_any (kl n c B : Nat) (q : Option Addr) (G : Nat → Nat) (T : Nat → Bs) (w : World) (hn : n ≤ 256) (hq : 0 < n → q = some ⟨kl, 0, none⟩ ∧ kl < w.heap.size) (hR : Rack w kl n G T) (hB : ∀ j, j < n → B ≤ G j) (hBw : B ≤ w.heap.size) :
    Calls Try.prog 29 #[.slice q n c] w (Ret fun e w' => Below B w w' ∧ e = .bool true) := by
  have HR : Hid (Rack w kl n G T) := hR
  have HB : Hid (∀ j, j < n → B ≤ G j) := hB
  have HQ : Hid (0 < n → q = some ⟨kl, 0, none⟩ ∧ kl < w.heap.size) := hq
  have HGL : Hid (∀ j, j < n → G j < w.heap.size) := fun j hj => hR.lt hj
  clear hR hB hq
  go_enter Try.func29, Try.ntmps29
  go_wp2
  go_loopg [3, 4] n (fun gk s3 s4 wr => ∃ (i : Nat) (sv : Value), i + gk = n ∧ sv = s3 ∧ s4 = .int .i64 (i : Int) ∧ Below w.heap.size w wr ∧ Hid (SL wr w.heap.size i sv (fun j => ⟨T j⟩)))
  case atStart => exact ⟨0, _, Nat.zero_add _, rfl, rfl, Below.refl _ _, Or.inl ⟨rfl, rfl⟩⟩
  case round =>
    obtain ⟨i, sv, hi, rfl, rfl, hb, HS⟩ := hrel
    by_cases hlt : i < n
    · have hlt' : (i : Int) < (n : Int) := by omega
      obtain ⟨rfl, hkl⟩ := HQ.out (by omega)
      have hc : wr.cell? ⟨kl, i, none⟩ = some (.slice (some ⟨G i, 0, none⟩) 32 32) := by rw [hb.cell (p := ⟨kl, i, none⟩) hkl]; exact HR.out.cell i hlt
      have hcv := conv_str Try.prog 23 9 5 slice22 int5 str9 wr (G i) 0 32 32 _ (Holds.below (HR.out.hold i hlt) hb (HGL.out i hlt)) (HR.out.sz i hlt)
      obtain ⟨v', w3, hap, hL3, hb3⟩ := SL.push HS.out hb.size (by omega) (x := ⟨T i⟩) rfl
      have HL3 : Hid _ := hL3
      generalize G i = g at hc hcv
      generalize (⟨T i⟩ : ByteArray) = s at hcv hap
      clear hkl hL3
      go_wp2_with (at_builtin; refine Lib.wpList_append_run _ rfl _ _ 45 45 rfl _ _ rfl rfl _ _ hap ?_)
      go_roundg (gk - 1)
      case measure => omega
      case rel => exact ⟨i + 1, _, by omega, rfl, rfl, hb.trans hb3, HL3.out⟩
    · have hge : ¬ (i : Int) < (n : Int) := by omega
      have hin : i = n := by omega
      subst hin
      have HR1 : Hid (Rack wr kl i G (T2 T 0 0)) := by
        unfold Hid
        rw [T2_zero]
        by_cases h0 : 0 < i
        · exact HR.out.below hb (HQ.out h0).2 HGL.out
        · exact ⟨fun j hj => absurd hj (by omega), fun j hj => absurd hj (by omega), fun j hj => absurd hj (by omega), fun j hj => absurd hj (by omega), fun j j' hj => absurd hj (by omega)⟩
      have HS1 : Hid (SL wr w.heap.size i sv (fun j => ⟨T j⟩)) := HS
      have hbB : Below B w wr := hb.mono hBw
      have hsz := hb.size
      clear HR HS hb hi hlt
      go_wp2
      clear hge
      go_loopg [5] i (fun gk s5 wr => ∃ k : Nat, k + gk = i ∧ s5 = .int .i64 (k : Int) ∧ Below B w wr ∧ w.heap.size ≤ wr.heap.size ∧ Hid (Rack wr kl i G (T2 T k 0)) ∧ Hid (SL wr w.heap.size i sv (fun j => ⟨T j⟩)))
      case atStart => exact ⟨0, Nat.zero_add _, rfl, hbB, hsz, HR1, HS1⟩
      case round =>
        clear HR1 HS1 hbB hsz
        obtain ⟨k, hk, rfl, hbB, hsz, HR1, HS1⟩ := hrel
        by_cases hlt : k < i
        · have hlt' : (k : Int) < (i : Int) := by omega
          obtain ⟨rfl, hkl⟩ := HQ.out (by omega)
          go_wp2
          go_loopg [6] 32 (fun gj s6 wr => ∃ j : Nat, j + gj = 32 ∧ s6 = .int .i64 (j : Int) ∧ Below B w wr ∧ w.heap.size ≤ wr.heap.size ∧ Hid (Rack wr kl i G (T2 T k j)) ∧ Hid (SL wr w.heap.size i sv (fun j => ⟨T j⟩)))
          case atStart => exact ⟨0, Nat.zero_add _, rfl, hbB, hsz, HR1, HS1⟩
          case round =>
            clear HR1 HS1 hbB hsz
            obtain ⟨j, hj, rfl, hbB, hsz, HR1, HS1⟩ := hrel
            have hc : wr.cell? ⟨kl, k, none⟩ = some (.slice (some ⟨G k, 0, none⟩) 32 32) := HR1.out.cell k hlt
            by_cases hj2 : j < 32
            · have hj3 : (j : Int) < 32 := by omega
              obtain ⟨x, hx⟩ : ∃ x, (T k)[j]! = x := ⟨_, rfl⟩
              have hh := HR1.out.hold k hlt j (by rw [HR1.out.sz k hlt]; exact hj2)
              have hsk : (T k).size = 32 := by have := HR1.out.sz k hlt; rw [T2_own, incTo_size] at this; exact this
              rw [T2_own, incTo_at _ _ _ (by omega), if_neg (by omega), hx, Nat.zero_add] at hh
              obtain ⟨hb0, hf0⟩ := hh
              unfold encB at hb0
              have hw := ub_succ x
              have HR2 : Hid (Rack (wr.setCell ⟨G k, j, none⟩ (encB (x + 1))) kl i G (T2 T k (j + 1))) := by
                unfold Hid
                rw [← T2_step, hx]
                exact HR1.out.set hlt hj2 (x + 1)
              have HS2 : Hid (SL (wr.setCell ⟨G k, j, none⟩ (encB (x + 1))) w.heap.size i sv (fun j => ⟨T j⟩)) := by
                refine SL.only HS1.out ((Only.refl (G k) 0 32 wr).setCell (o := j) (by omega) (by omega) _) (fun s e => ?_)
                have h0 := (HR1.out.hold k hlt 0 (by rw [HR1.out.sz k hlt]; omega)).1
                rw [Nat.zero_add, e] at h0
                cases h0
              have HB2 : Hid (Below B w (wr.setCell ⟨G k, j, none⟩ (encB (x + 1)))) := hbB.trans (((Only.refl (G k) 0 32 wr).setCell (o := j) (by omega) (by omega) _).below (by omega) (HB.out k hlt))
              unfold encB at HR2 HS2 HB2
              generalize G k = g at hc hb0 hf0 HR2 HS2 HB2
              clear HR1 HS1 hbB hsk hx
              generalize ub x = u at hb0 hw
              go_wp2_with fail
              go_still_tail 14, mixed
              go_wp2
              go_roundg (gk - 1)
              case measure => omega
              case rel => exact ⟨j + 1, by omega, rfl, HB2.out.drew, by simp only [World.size_setCell, World.size_drew]; exact hsz, HR2.out.drew, HS2.out.drew⟩
            · have hj3 : ¬ (j : Int) < 32 := by omega
              have hj4 : j = 32 := by omega
              subst hj4
              go_wp2
              go_roundg (i - (k + 1))
              case measure => omega
              case rel => exact ⟨k + 1, by omega, rfl, hbB, hsz, by rw [← T2_next]; exact HR1, HS1⟩
        · have hge : ¬ (k : Int) < (i : Int) := by omega
          have hki : k = i := by omega
          subst hki
          clear hlt hk
          go_wp2
          clear hge
          go_loopg [7, 8] k (fun gk s7 s8 wr => ∃ (i : Nat) (gv : Value), i + gk = k ∧ gv = s7 ∧ s8 = .int .i64 (i : Int) ∧ Below B w wr ∧ w.heap.size ≤ wr.heap.size ∧ Hid (Rack wr kl k G (T2 T k 0)) ∧ Hid (SL wr w.heap.size k sv (fun j => ⟨T j⟩)) ∧ Hid (GL wr w.heap.size i gv (T3 T)))
          case atStart => exact ⟨0, _, Nat.zero_add _, rfl, rfl, hbB, hsz, HR1, HS1, Or.inl ⟨rfl, rfl⟩⟩
          case round =>
            clear HR1 HS1 hbB hsz
            obtain ⟨i, gv, hi, rfl, rfl, hbB, hsz, HR1, HS1, HG1⟩ := hrel
            by_cases hlt : i < k
            · have hlt' : (i : Int) < (k : Int) := by omega
              obtain ⟨rfl, hkl⟩ := HQ.out (by omega)
              have hc : wr.cell? ⟨kl, i, none⟩ = some (.slice (some ⟨G i, 0, none⟩) 32 32) := HR1.out.cell i hlt
              have HT : Hid ((T i).size = 32) := by have := HR1.out.sz i hlt; rw [T2_all _ _ _ hlt, incTo_size] at this; exact this
              have HH : Hid (Holds encB wr (G i) 0 (incTo (T i) 32)) := by have := HR1.out.hold i hlt; rw [T2_all _ _ _ hlt] at this; exact this
              go_wp2
              clear hc
              generalize wr = w5 at hbB hsz HR1 HS1 HG1 HH ⊢
              go_loopg [9, 10] 80 (fun gk s9 s10 wr => ∃ (j : Nat) (bv : Value), j + gk = 80 ∧ bv = s9 ∧ s10 = .int .i64 (j : Int) ∧ Below w5.heap.size w5 wr ∧ Hid (GB wr w5.heap.size (G i) bv (incTo (T i) 32) i j))
              case atStart => exact ⟨0, _, Nat.zero_add _, rfl, rfl, Below.refl _ _, Or.inl ⟨rfl, rfl⟩⟩
              case round =>
                obtain ⟨j, bv, hj, rfl, rfl, hb5, HGB⟩ := hrel
                by_cases hj2 : j < 80
                · have hj3 : (j : Int) < 80 := by omega
                  have hf := fillB_int i j
                  obtain ⟨v', w3, hap, hL3, hb3⟩ := GB.push HGB.out (Holds.below HH.out hb5 (Holds.lt HH.out (by rw [incTo_size, HT.out]; omega))) (by rw [incTo_size, HT.out]) hb5.size (by omega) (x := .int .u8 (ub (fillB i j))) rfl
                  have HL3 : Hid _ := hL3
                  clear hL3
                  generalize ub (fillB i j) = u at hf hap
                  go_wp2_with (at_builtin; refine Lib.wpList_append_run _ rfl _ _ 23 23 rfl _ _ rfl rfl _ _ hap ?_)
                  go_roundg (gk - 1)
                  case measure => omega
                  case rel => exact ⟨j + 1, _, by omega, rfl, rfl, hb5.trans hb3, HL3.out⟩
                · have hj3 : ¬ (j : Int) < 80 := by omega
                  have hj4 : j = 80 := by omega
                  subst hj4
                  obtain ⟨g, cap, rfl, hg, hH⟩ := HGB.out.done
                  have hs5 := hb5.size
                  have hTs := T3_size T i HT.out
                  obtain ⟨v', w3, hap, hL3, hS3, hb3⟩ := GL.push (HG1.out.below hb5) (HS1.out.below hb5) (by omega) (by omega) (gx := g) (c := cap) (by omega) (by omega) hH (l := 112) hTs.symm
                  have HL3 : Hid _ := hL3
                  have HS3 : Hid _ := hS3
                  have hb6 : Below w.heap.size w5 w3 := (hb5.mono hsz).trans hb3
                  have HR3 : Hid (Rack w3 kl k G (T2 T k 0)) := HR1.out.below hb6 hkl HGL.out
                  have hs3 := hb6.size
                  clear hL3 hS3 hH HGB HH hTs
                  go_wp2_with (at_builtin; refine Lib.wpList_append_run _ rfl _ _ 46 46 rfl _ _ rfl rfl _ _ hap ?_)
                  go_roundg (k - (i + 1))
                  case measure => omega
                  case rel => exact ⟨i + 1, _, by omega, rfl, rfl, hbB.trans (hb6.mono hBw), by omega, HR3, HS3.out, HL3.out⟩
            · have hge : ¬ (i : Int) < (k : Int) := by omega
              have hki : i = k := by omega
              subst hki
              clear hlt hi
              go_wp2
              clear hge
              go_loopg [11] i (fun gk s11 wr => ∃ p : Nat, p + gk = i ∧ s11 = .int .i64 (p : Int) ∧ Hid (Stand w wr B kl i G T sv gv))
              case atStart => exact ⟨0, Nat.zero_add _, rfl, hbB, HR1, HS1, HG1⟩
              case round =>
                clear HR1 HS1 HG1 hbB hsz
                obtain ⟨p, hp, rfl, HST⟩ := hrel
                by_cases hlt : p < i
                · have hlt' : (p : Int) < (i : Int) := by omega
                  obtain ⟨rfl, hkl⟩ := HQ.out (by omega)
                  obtain ⟨gs, cs, rfl, hS⟩ := HST.out.s.at (by omega)
                  obtain ⟨gg, cg, rfl, hG⟩ := HST.out.g.at (by omega)
                  obtain ⟨gx, cx, hcg, hHg⟩ := hG p hlt
                  have hcs := hS p hlt
                  have hcl := HST.out.r.cell p hlt
                  have hHl := HST.out.r.hold p hlt
                  have hT : (T p).size = 32 := by have := HST.out.r.sz p hlt; rw [T2_all _ _ _ hlt, incTo_size] at this; exact this
                  rw [T2_all _ _ _ hlt] at hHl
                  rw [T3_size T p hT] at hcg
                  have HLK : Hid (Look wr kl gs gg p (G p) gx cx ⟨T p⟩ (incTo (T p) 32) (T3 T p)) := ⟨hcl, hcs, hcg, hHl, hHg⟩
                  have HB1 : Hid (∀ j, j < 32 → (incTo (T p) 32)[j]! = (T p)[j]! + 1) := fun j hj => by rw [incTo_at _ _ _ (by omega), if_pos hj]
                  have HB2 : Hid (∀ j, j < 32 → (T3 T p)[j]! = (T p)[j]! + 1) := fun j hj => by
                    unfold T3
                    rw [list_arr _ _ (by rw [rowL_length _ _ (by rw [incTo_size, hT])]; omega), rowL_low _ _ (by rw [incTo_size, hT]) _ hj, incTo_at _ _ _ (by omega), if_pos hj]
                  have HB3 : Hid (∀ j, j < 80 → (T3 T p)[32 + j]! = fillB p j) := fun j hj => by
                    unfold T3
                    rw [list_arr _ _ (by rw [rowL_length _ _ (by rw [incTo_size, hT])]; omega), rowL_high _ _ (by rw [incTo_size, hT]) _ _ hj]
                  have HSS : Hid ((incTo (T p) 32).size = 32 ∧ (T3 T p).size = 112) := ⟨by rw [incTo_size, hT], T3_size T p hT⟩
                  generalize incTo (T p) 32 = b at HLK HB1 HSS
                  generalize T3 T p = b3 at HLK HB2 HB3 HSS
                  generalize G p = g at HLK hcl
                  obtain ⟨s, hs⟩ : ∃ s : ByteArray, s = ⟨T p⟩ := ⟨_, rfl⟩
                  rw [← hs] at HLK hcs
                  have hsz : s.size = 32 := by rw [hs]; exact hT
                  have hsz' : (s.size : Int) = 32 := by omega
                  have HSX : Hid (∀ j (h : j < s.size), s[j] = (T p)[j]!) := fun j h => by
                    subst hs
                    have h' : j < (T p).size := h
                    rw [getElem!_pos (T p) j h']
                    rfl
                  clear hS hG hHg hHl hT hs
                  go_wp2_with fail
                  go_quiet (fail)
                  have HST1 : Hid _ := HST.out.drewN nq
                  have HLK1 : Hid _ := HLK.out.drewN nq
                  clear HST HLK hcs hcg hcl
                  generalize wr.drewN nq = w6 at HST1 HLK1 ⊢
                  go_wp2
                  go_loopg [12] 32 (fun gk s12 wr => ∃ j : Nat, j + gk = 32 ∧ s12 = .int .i64 (j : Int) ∧ Hid (Stand w wr B kl i G T (.slice (some ⟨gs, 0, none⟩) i cs) (.slice (some ⟨gg, 0, none⟩) i cg)) ∧ Hid (Look wr kl gs gg p g gx cx s b b3))
                  case atStart => exact ⟨0, Nat.zero_add _, rfl, HST1, HLK1⟩
                  case round =>
                    clear HST1 HLK1
                    obtain ⟨j, hj, rfl, HST, HLK⟩ := hrel
                    have hcs := HLK.out.cs
                    by_cases hj2 : j < 32
                    · have hj3 : (j : Int) < 32 := by omega
                      have hj4 : j < s.size := by omega
                      have hj5 : (j : Int) < (s.size : Int) := by omega
                      have hj6 : (j : Int) < 112 := by omega
                      have hcl := HLK.out.cl
                      have hcg := HLK.out.cg
                      obtain ⟨h1, -⟩ := HLK.out.hl j (by rw [HSS.out.1]; exact hj2)
                      obtain ⟨h2, -⟩ := HLK.out.hg j (by rw [HSS.out.2]; omega)
                      rw [HB1.out j hj2, Nat.zero_add] at h1
                      rw [HB2.out j hj2, Nat.zero_add] at h2
                      have hw : IntKind.u8.wrap ((s[j].toNat : Int) + 1) = ub ((T p)[j]! + 1) := by rw [HSX.out j hj4]; exact ub_succ _
                      unfold encB at h1 h2
                      generalize ub ((T p)[j]! + 1) = u at h1 h2 hw
                      go_wp2_with fail
                      go_quiet (fail)
                      have HST1 : Hid _ := HST.out.drewN nq
                      have HLK1 : Hid _ := HLK.out.drewN nq
                      clear HST HLK hcs hcg hcl h1 h2 hw
                      generalize wr.drewN nq = w7 at HST1 HLK1 ⊢
                      go_wp2
                      go_roundg (gk - 1)
                      case measure => omega
                      case rel => exact ⟨j + 1, by omega, rfl, HST1, HLK1⟩
                    · have hj3 : ¬ (j : Int) < 32 := by omega
                      go_wp2
                      clear hcs hj3
                      go_loopg [13] 80 (fun gk s13 wr => ∃ j : Nat, j + gk = 80 ∧ s13 = .int .i64 (j : Int) ∧ Hid (Stand w wr B kl i G T (.slice (some ⟨gs, 0, none⟩) i cs) (.slice (some ⟨gg, 0, none⟩) i cg)) ∧ Hid (Look wr kl gs gg p g gx cx s b b3))
                      case atStart => exact ⟨0, Nat.zero_add _, rfl, HST, HLK⟩
                      case round =>
                        clear HST HLK hj hj2
                        obtain ⟨j, hj, rfl, HST, HLK⟩ := hrel
                        by_cases hj2 : j < 80
                        · have hj3 : (j : Int) < 80 := by omega
                          have hcs := HLK.out.cs
                          have hcg := HLK.out.cg
                          obtain ⟨m, hm⟩ : ∃ m, 32 + j = m := ⟨_, rfl⟩
                          have i1 : (32 : Int) + (j : Int) = (m : Int) := by omega
                          have i2 : (m : Int) < 112 := by omega
                          obtain ⟨h2, -⟩ := HLK.out.hg m (by rw [HSS.out.2]; omega)
                          rw [← hm, HB3.out j hj2, hm, Nat.zero_add] at h2
                          have hf := fillB_int p j
                          unfold encB at h2
                          generalize ub (fillB p j) = u at h2 hf
                          go_wp2_with fail
                          go_quiet (fail)
                          have HST1 : Hid _ := HST.out.drewN nq
                          have HLK1 : Hid _ := HLK.out.drewN nq
                          clear HST HLK hcs hcg h2 hf
                          generalize wr.drewN nq = w7 at HST1 HLK1 ⊢
                          go_wp2
                          go_roundg (gk - 1)
                          case measure => omega
                          case rel => exact ⟨j + 1, by omega, rfl, HST1, HLK1⟩
                        · have hj3 : ¬ (j : Int) < 80 := by omega
                          go_wp2
                          go_roundg (i - (p + 1))
                          case measure => omega
                          case rel => exact ⟨p + 1, by omega, rfl, HST⟩
                · have hge : ¬ (p : Int) < (i : Int) := by omega
                  go_wp2
                  go_ret
                  exact ⟨_, rfl, HST.out.bl, by simp⟩
end Go.Proofs.Ytbimbalfdmffaab
namespace Go.Proofs.Ytbimbalfdmffaab
open Go.RowKit Go.Sort Go.Deep

/-- A list of bytes' slices that grows, each made of a text. -/
def AL (W : World) (B k : Nat) (v : Value) (S : Nat → ByteArray) : Prop :=
  (k = 0 ∧ v = .slice none 0 0) ∨ ∃ g cap vs cur, v = .slice (some ⟨g, 0, none⟩) k cap ∧ vs.length = k ∧ 0 < k ∧ B ≤ g ∧ ListAt W g cap vs cur ∧ ∀ j, j < k → ∃ gx c, vs[j]! = .slice (some ⟨gx, 0, none⟩) (S j).size c ∧ (S j).size ≤ c ∧ gx ≠ g ∧ gx < W.heap.size ∧ Holds encB W gx 0 (S j).data

theorem AL.below {W w1 : World} {B k : Nat} {v : Value} {S : Nat → ByteArray} (h : AL W B k v S) (hb : Below W.heap.size W w1) : AL w1 B k v S := by
  rcases h with h | ⟨g, cap, vs, cur, h1, h2, h3, h4, h5, h6⟩
  · exact Or.inl h
  · refine Or.inr ⟨g, cap, vs, cur, h1, h2, h3, h4, h5.below hb, fun j hj => ?_⟩
    obtain ⟨gx, c, e1, e2, e3, e4, e5⟩ := h6 j hj
    exact ⟨gx, c, e1, e2, e3, Nat.lt_of_lt_of_le e4 hb.size, Holds.below e5 hb e4⟩

theorem Holds.other0 {W w1 : World} {b o m g : Nat} {T : Bs} (h : Holds encB W g 0 T) (k : Only b o m W w1) (hne : g ≠ b) : Holds encB w1 g 0 T := by
  by_cases h0 : 0 < T.size
  · exact Holds.other h k hne h0
  · exact fun j hj => absurd hj (by omega)

theorem AL.push {wr W : World} {B k cap : Nat} {v : Value} {s : ByteArray} {S : Nat → ByteArray} (h : AL wr B k v S) (hB : B ≤ wr.heap.size) (hk : k ≤ 1048576) (hb : Below wr.heap.size wr W) (hlt : wr.heap.size < W.heap.size) (hc : s.size ≤ cap) (hH : Holds encB W wr.heap.size 0 s.data) (hs : s = S k) :
    ∃ v' w', (Builtin.append_ #[46, 46] 46 #[v, .slice (some ⟨W.heap.size, 0, none⟩) 1 1]).run Try.prog (W.alloc (.cells #[.slice (some ⟨wr.heap.size, 0, none⟩) s.size cap] 23)) = .ok v' w' ∧ AL w' B (k + 1) v' S ∧ Below B wr w' := by
  have hr : (W.alloc (.cells #[.slice (some ⟨wr.heap.size, 0, none⟩) s.size cap] 23)).cell? ⟨W.heap.size, 0, none⟩ = some (.slice (some ⟨wr.heap.size, 0, none⟩) s.size cap) := by simp
  have hb0 : Below W.heap.size W (W.alloc (.cells #[.slice (some ⟨wr.heap.size, 0, none⟩) s.size cap] 23)) := (Below.refl _ _).alloc (Nat.le_refl _) _
  have hs0 : (W.alloc (.cells #[.slice (some ⟨wr.heap.size, 0, none⟩) s.size cap] 23)).heap.size = W.heap.size + 1 := by simp
  have hx1 : (Value.slice (some ⟨wr.heap.size, 0, none⟩) s.size cap).oneCell' = true := rfl
  have hb1 : Below wr.heap.size wr (W.alloc (.cells #[.slice (some ⟨wr.heap.size, 0, none⟩) s.size cap] 23)) := hb.trans (hb0.mono (by omega))
  have hH1 := Holds.below hH hb0 hlt
  rcases h with ⟨rfl, rfl⟩ | ⟨g, cp, vs, cur, rfl, h2, h3, h4, h5, h6⟩
  · obtain ⟨cap', cur', w', hap, hL, hb2⟩ := append_firstL slice46 info23 rfl hr hx1
    refine ⟨_, w', hap, Or.inr ⟨_, cap', _, cur', rfl, rfl, by omega, by omega, hL, fun j hj => ?_⟩, (hb1.mono hB).trans (hb2.mono (by omega))⟩
    have hj0 : j = 0 := by omega
    subst hj0
    have := hb2.size
    exact ⟨wr.heap.size, cap, by rw [← hs]; rfl, by rw [← hs]; exact hc, by omega, by omega, by rw [← hs]; exact Holds.below hH1 hb2 (by omega)⟩
  · have hg := h5.lt
    have h5' := h5.below hb1
    subst h2
    obtain ⟨g', cap', cur', w', hap, hL, hO, hg'⟩ := append_valL slice46 info23 rfl h5' hr hx1 hk
    have hsz := hO.size
    refine ⟨_, w', hap, Or.inr ⟨g', cap', _, cur', rfl, by rw [List.length_append]; rfl, by omega, by omega, hL, fun j hj => ?_⟩, (hb1.mono hB).trans (hO.below (by omega) h4)⟩
    by_cases hj1 : j = vs.length
    · subst hj1
      rw [val_last, ← hs]
      exact ⟨wr.heap.size, cap, rfl, hc, by omega, by omega, Holds.other0 hH1 hO (by omega)⟩
    · obtain ⟨gy, d, e1, e2, e3, e4, e5⟩ := h6 j (by omega)
      rw [val_front _ _ _ (by omega)]
      exact ⟨gy, d, e1, e2, by omega, by omega, Holds.other0 (Holds.below e5 hb1 e4) hO e3⟩

theorem AL.args {W : World} {B k : Nat} {v : Value} {S : Nat → ByteArray} (h : AL W B k v S) : ∃ q c, v = .slice q k c ∧ Args W q k (fun j => (S j).data) := by
  rcases h with ⟨h0, h1⟩ | ⟨g, cap, vs, cur, h1, h2, h3, h4, h5, h6⟩
  · exact ⟨none, 0, by rw [h1, h0], fun h => absurd h (by omega)⟩
  · refine ⟨_, cap, h1, fun _ => ⟨g, rfl, h5.lt, fun j hj => ?_⟩⟩
    obtain ⟨gx, c, e1, e2, e3, e4, e5⟩ := h6 j hj
    exact ⟨_, h5.cell (by omega), by rw [e1]; exact ⟨_, _, _, rfl, rfl, fun h => ⟨gx, 0, rfl, by omega, e4, e5⟩⟩⟩

/-- What Powers answered. -/
def PAns (W : World) (P : Nat) (s : ByteArray) (n : Int) (B : Nat) (q : Option Addr) (l c : Nat) (ep : Int) : Prop :=
  (IsNum P s.data ∧ ep = 0 ∧ ∃ kl : Nat, q = some ⟨kl, 0, none⟩ ∧ n = (l : Int) ∧ c = l ∧ l ≤ 256 ∧ B ≤ kl ∧ Shelf W kl l l (fun j => beV s.data.toList ^ j % P)) ∨
  (l = 0 ∧ (((n < 0 ∨ 256 < n) ∧ ep = 1) ∨ ((0 ≤ n ∧ n ≤ 256) ∧ ¬ IsNum P s.data ∧ ep = 3)))
theorem PAns.call {W w1 : World} {P B l c : Nat} {s : ByteArray} {n ep : Int} {q : Option Addr} (h : PAns W P s n B q l c ep) (hb : Below W.heap.size W w1) : PAns w1 P s n B q l c ep := by
  rcases h with ⟨h1, h2, kl, h3, h4, h5, h6, h7, h8⟩ | h
  · exact Or.inl ⟨h1, h2, kl, h3, h4, h5, h6, h7, h8.call hb⟩
  · exact Or.inr h
theorem Powers_all (k n : Int) (g0 g1 g2 P : Nat) (va : Value) (s : ByteArray) (hG : Gap g0 g1 g2 P) (w : World) (hp : PrimeOf k g0 g1 g2) (ha : Arg w va s.data) :
    Calls Try.prog 25 #[.int .i64 k, va, .int .i64 n] w (Ret fun e w' => Below w.heap.size w w' ∧ ∃ (q : Option Addr) (l c : Nat) (ep : Int), e = .tuple #[.slice q l c, .int .i64 ep] ∧ PAns w' P s n w.heap.size q l c ep) := by
  by_cases hn : n < 0 ∨ 256 < n
  · refine (Powers_long k g0 g1 g2 n va w hn hp).mono ?_
    rintro e w1 ⟨v, rfl, hb, rfl⟩
    exact ⟨_, rfl, hb, none, 0, 0, 1, rfl, Or.inr ⟨rfl, Or.inl ⟨hn, rfl⟩⟩⟩
  · obtain ⟨m, rfl⟩ : ∃ m : Nat, n = (m : Int) := ⟨n.toNat, by omega⟩
    have hm : m ≤ 256 := by omega
    refine (Powers_any k g0 g1 g2 P m va s.data hG w hm hp ha).mono ?_
    rintro e w1 ⟨v, rfl, hb, ⟨h1, kl, h2, rfl, h3⟩ | ⟨h1, rfl⟩⟩
    · exact ⟨_, rfl, hb, _, m, m, 0, rfl, Or.inl ⟨h1, rfl, kl, rfl, rfl, rfl, hm, h2, h3⟩⟩
    · exact ⟨_, rfl, hb, none, 0, 0, 3, rfl, Or.inr ⟨rfl, Or.inr ⟨⟨by omega, by omega⟩, h1, rfl⟩⟩⟩
theorem lpowers_all (p0 p1 p2 p3 c0 c1 c2 c3 P : Nat) (x : ByteArray) (hR : RefP p0 p1 p2 p3 c0 c1 c2 c3 P) (n ep : Int) (B l c : Nat) (q : Option Addr) (w : World) (h : PAns w P x n B q l c ep) :
    Calls Try.prog 27 #[.agg #[.int .u64 (p0 : Int), .int .u64 (p1 : Int), .int .u64 (p2 : Int), .int .u64 (p3 : Int), .int .u64 (c0 : Int), .int .u64 (c1 : Int), .int .u64 (c2 : Int), .int .u64 (c3 : Int)], .string x, .int .i64 n, .slice q l c, .int .i64 ep] w (Ret fun e w' => Below w.heap.size w w' ∧ e = .bool true) := by
  rcases h with ⟨h1, rfl, kl, rfl, rfl, rfl, h6, -, h8⟩ | ⟨rfl, h⟩
  · exact lpowers_ok p0 p1 p2 p3 c0 c1 c2 c3 P x hR _ kl h6 w h1 h8
  · exact lpowers_err p0 p1 p2 p3 c0 c1 c2 c3 P x hR n ep c q w h
theorem Apart_all {W : World} {P B l c : Nat} {s : ByteArray} {n ep : Int} {q : Option Addr} (h : PAns W P s n B q l c ep) (hB : B ≤ W.heap.size) :
    Calls Try.prog 29 #[.slice q l c] W (Ret fun e w' => Below B W w' ∧ e = .bool true) := by
  rcases h with ⟨h1, rfl, kl, rfl, rfl, rfl, h6, h7, hk, hf, hlt, G, hG, hinj⟩ | ⟨rfl, h⟩
  · refine Apart_any kl _ _ B _ G (fun j => bytesOf (beV s.data.toList ^ j % P)) W h6 (fun _ => ⟨rfl, hlt⟩) ⟨fun j hj => (hG j hj).1, fun j hj => (hG j hj).2.1.2, fun j hj => bytesOf_size _, fun j hj => ?_, fun j j' hj hj' e => ?_⟩ (fun j hj => ?_) hB
    · have := (hG j hj).2.2; omega
    · rcases Nat.lt_trichotomy j j' with h | h | h
      · have := hinj j j' hj' h; omega
      · exact h
      · have := hinj j' j hj h; omega
    · have := (hG j hj).2.2; omega
  · exact Apart_any 0 0 c B q (fun _ => 0) (fun _ => #[]) W (by omega) (fun h => absurd h (by omega)) ⟨fun j hj => absurd hj (by omega), fun j hj => absurd hj (by omega), fun j hj => absurd hj (by omega), fun j hj => absurd hj (by omega), fun j j' hj => absurd hj (by omega)⟩ (fun j hj => absurd hj (by omega)) hB

/-- What Dot answered, for lists of any length. -/
def EAns (W : World) (P n m : Nat) (S T : Nat → ByteArray) (q : Option Addr) (k c : Nat) (ep : Int) : Prop :=
  (n ≤ 256 ∧ m ≤ 256 ∧ DAns W P n m S T q k c ep) ∨ ((256 < n ∨ 256 < m) ∧ ep = 1 ∧ k = 0)
theorem EAns.call {W w1 : World} {P n m k c : Nat} {S T : Nat → ByteArray} {q : Option Addr} {ep : Int} (h : EAns W P n m S T q k c ep) (hb : Below W.heap.size W w1) : EAns w1 P n m S T q k c ep := by
  rcases h with ⟨h1, h2, h3⟩ | h
  · refine Or.inl ⟨h1, h2, ?_⟩
    rcases h3 with ⟨a, b, d, e, f⟩ | h3
    · exact Or.inl ⟨a, b, d, e, f.call hb⟩
    · exact Or.inr h3
  · exact Or.inr h
theorem Dot_all (k : Int) (g0 g1 g2 P n m ca cb : Nat) (qa qb : Option Addr) (S T : Nat → ByteArray) (hG : Gap g0 g1 g2 P) (w : World) (hp : PrimeOf k g0 g1 g2) (hA : Args w qa n (fun j => (S j).data)) (hB : Args w qb m (fun j => (T j).data)) :
    Calls Try.prog 26 #[.int .i64 k, .slice qa n ca, .slice qb m cb] w (Ret fun e w' => Below w.heap.size w w' ∧ ∃ (q : Option Addr) (l c : Nat) (ep : Int), e = .tuple #[.slice q l c, .int .i64 ep] ∧ EAns w' P n m S T q l c ep) := by
  by_cases hn : 256 < n ∨ 256 < m
  · refine (Dot_long k g0 g1 g2 n m ca cb qa qb w hn hp).mono ?_
    rintro e w1 ⟨v, rfl, hb, rfl⟩
    exact ⟨_, rfl, hb, none, 0, 0, 1, rfl, Or.inr ⟨hn, rfl, rfl⟩⟩
  · have h1 : n ≤ 256 := by omega
    have h2 : m ≤ 256 := by omega
    refine (Dot_any k g0 g1 g2 P n m ca cb qa qb _ _ hG w h1 h2 hp hA hB).mono ?_
    rintro e w1 ⟨v, rfl, hb, ⟨a, b, d, v, rfl, h⟩ | ⟨a, b, d, rfl⟩ | ⟨a, rfl⟩⟩
    · obtain ⟨g, x0, x1, x2, x3, rfl, y, z, t⟩ := h
      exact ⟨_, rfl, hb, _, _, _, 0, rfl, Or.inl ⟨h1, h2, Or.inl ⟨a, b, d, rfl, ⟨g, x0, x1, x2, x3, rfl, Nat.zero_le _, z, t⟩⟩⟩⟩
    · exact ⟨_, rfl, hb, none, 0, 0, 2, rfl, Or.inl ⟨h1, h2, Or.inr (Or.inl ⟨a, b, d, rfl, rfl⟩)⟩⟩
    · exact ⟨_, rfl, hb, none, 0, 0, 3, rfl, Or.inl ⟨h1, h2, Or.inr (Or.inr ⟨a, rfl, rfl⟩)⟩⟩
theorem ldot_all (n m cn cm k cd : Nat) (qn qm qd : Option Addr) (ep : Int) (p0 p1 p2 p3 c0 c1 c2 c3 P : Nat) (hR : RefP p0 p1 p2 p3 c0 c1 c2 c3 P) (S T : Nat → ByteArray) (w : World) (hn : n ≤ 300) (hm : m ≤ 300) (hS : Texts w qn n S) (hT : Texts w qm m T) (hA : EAns w P n m S T qd k cd ep) :
    Calls Try.prog 28 #[.agg #[.int .u64 (p0 : Int), .int .u64 (p1 : Int), .int .u64 (p2 : Int), .int .u64 (p3 : Int), .int .u64 (c0 : Int), .int .u64 (c1 : Int), .int .u64 (c2 : Int), .int .u64 (c3 : Int)], .slice qn n cn, .slice qm m cm, .slice qd k cd, .int .i64 ep] w (Ret fun e w' => Below w.heap.size w w' ∧ e = .bool true) := by
  rcases hA with ⟨h1, h2, h3⟩ | ⟨h1, rfl, rfl⟩
  · exact ldot_any n m cn cm k cd qn qm qd ep p0 p1 p2 p3 c0 c1 c2 c3 P hR S T w h1 h2 hS hT h3
  · exact ldot_long n m cn cm qn qm qd cd p0 p1 p2 p3 c0 c1 c2 c3 w h1 ⟨hn, hm⟩
theorem Texts.below {w w1 : World} {q : Option Addr} {n : Nat} {S : Nat → ByteArray} (h : Texts w q n S) (hb : Below w.heap.size w w1) : Texts w1 q n S := fun hn => by
  obtain ⟨gg, oo, h1, h2, h3⟩ := h hn
  exact ⟨gg, oo, h1, Nat.lt_of_lt_of_le h2 hb.size, fun j hj => by rw [hb.cell (p := ⟨gg, oo + j, none⟩) h2]; exact h3 j hj⟩
end Go.Proofs.Ytbimbalfdmffaab
namespace Go.Proofs.Ytbimbalfdmffaab
open Go.RowKit Go.Sort Go.Deep

/-- What a kind is. -/
def KindIs (k : Int) : Prop :=
  (decide (k = 0 ∨ k = 1) = true ∧ ∃ g0 g1 g2 P p0 p1 p2 p3 c0 c1 c2 c3 : Nat, Gap g0 g1 g2 P ∧ PrimeOf k g0 g1 g2 ∧ RefP p0 p1 p2 p3 c0 c1 c2 c3 P ∧ ∀ w, Calls Try.prog 16 #[.int .i64 k] w (Ret fun e w' => Below w.heap.size w w' ∧ e = .agg #[.int .u64 (p0 : Int), .int .u64 (p1 : Int), .int .u64 (p2 : Int), .int .u64 (p3 : Int), .int .u64 (c0 : Int), .int .u64 (c1 : Int), .int .u64 (c2 : Int), .int .u64 (c3 : Int)])) ∨
  (decide (k = 0 ∨ k = 1) = false ∧ (k < 0 ∨ 2 ≤ k))
theorem kind_is (k : Int) : KindIs k := by
  by_cases h0 : k = 0
  · subst h0
    exact Or.inl ⟨rfl, _, _, _, _, _, _, _, _, _, _, _, _, gap0, primeOf_0, refP0, rMake0⟩
  · by_cases h1 : k = 1
    · subst h1
      exact Or.inl ⟨rfl, _, _, _, _, _, _, _, _, _, _, _, _, gap1, primeOf_1, refP1, rMake1⟩
    · exact Or.inr ⟨decide_eq_false (by omega), by omega⟩

set_option maxHeartbeats 8000000 in
set_option maxRecDepth 100000 in
theorem lists_few (k : Int) (s : ByteArray) (n : Int) (ql qm : Option Addr) (nl nm cl cm : Nat) (S T : Nat → ByteArray) (w0 : World) (hs : s.size ≤ 16384) (hl : nl ≤ 300) (hm : nm ≤ 300) (hS : Texts w0 ql nl S) (hT : Texts w0 qm nm T) (hSs : ∀ j, j < nl → (S j).size ≤ 140737488355328) (hTs : ∀ j, j < nm → (T j).size ≤ 140737488355328) :
    Calls Try.prog 5 #[.int .i64 k, .string s, .int .i64 n, .slice ql nl cl, .slice qm nm cm] w0 fun e w' => e = .returned (.bool true) ∧ Below w0.heap.size w0 w' := by
  have HS : Hid (Texts w0 ql nl S) := hS
  have HT : Hid (Texts w0 qm nm T) := hT
  have HSZ : Hid (∀ j, j < nl → (S j).size ≤ 140737488355328) := hSs
  have HTZ : Hid (∀ j, j < nm → (T j).size ≤ 140737488355328) := hTs
  have h1 : ¬ (16384 : Int) < (s.size : Int) := by omega
  have h2 : ¬ (300 : Int) < (nl : Int) := by omega
  have h3 : ¬ (300 : Int) < (nm : Int) := by omega
  clear hS hT hSs hTs
  go_enter Try.func5, Try.ntmps5
  go_wp2
  clear h1 h2 h3
  go_loopg [11, 13] nl (fun gk s11 s13 wr => ∃ (i : Nat) (va : Value), i + gk = nl ∧ va = s11 ∧ s13 = .int .i64 (i : Int) ∧ Below w0.heap.size w0 wr ∧ Hid (AL wr w0.heap.size i va S))
  case atStart => exact ⟨0, _, Nat.zero_add _, rfl, rfl, Below.refl _ _, Or.inl ⟨rfl, rfl⟩⟩
  case round =>
    obtain ⟨i, va, hi, rfl, rfl, hb, HAL⟩ := hrel
    by_cases hlt : i < nl
    · have hlt' : (i : Int) < (nl : Int) := by omega
      obtain ⟨gl, ol, rfl, hgl, hcl⟩ := HS.out (by omega)
      have hc : wr.cell? ⟨gl, ol + i, none⟩ = some (.string (S i)) := by rw [hb.cell (p := ⟨gl, ol + i, none⟩) hgl]; exact hcl i hlt
      have hsz := HSZ.out i hlt
      obtain ⟨t, ht⟩ : ∃ t, t = S i := ⟨_, rfl⟩
      rw [← ht] at hc hsz
      clear hcl
      by_cases h64 : (64 : Int) < (t.size : Int)
      · clear ht
        go_wp2
        go_ret
        exact ⟨by simp, hb⟩
      · obtain ⟨cap, W1, hcv, hcap, hbc, hH, hltc⟩ := conv_of t wr
        obtain ⟨v', w3, hap, hL3, hb3⟩ := AL.push HAL.out hb.size (by omega) hbc hltc hcap hH ht
        have hc1 : W1.cell? ⟨gl, ol + i, none⟩ = some (.string t) := by rw [hbc.cell (p := ⟨gl, ol + i, none⟩) (Nat.lt_of_lt_of_le hgl hb.size)]; exact hc
        have HL3 : Hid _ := hL3
        clear hL3 ht hH hcap hltc hbc
        go_wp2_with (at_builtin; refine Lib.wpList_append_run _ rfl _ _ 46 46 rfl _ _ rfl rfl _ _ hap ?_)
        go_roundg (gk - 1)
        case measure => omega
        case rel => exact ⟨i + 1, _, by omega, rfl, rfl, hb.trans hb3, HL3.out⟩
    · have hge : ¬ (i : Int) < (nl : Int) := by omega
      have hin : i = nl := by omega
      subst hin
      clear hlt hi
      go_wp2
      clear hge
      generalize wr = w2 at hb HAL ⊢
      go_loopg [12, 14] nm (fun gk s12 s14 wr => ∃ (j : Nat) (vb : Value), j + gk = nm ∧ vb = s12 ∧ s14 = .int .i64 (j : Int) ∧ Below w2.heap.size w2 wr ∧ Hid (AL wr w2.heap.size j vb T))
      case atStart => exact ⟨0, _, Nat.zero_add _, rfl, rfl, Below.refl _ _, Or.inl ⟨rfl, rfl⟩⟩
      case round =>
        obtain ⟨j, vb, hj, rfl, rfl, hb2, HBL⟩ := hrel
        have hbb : Below w0.heap.size w0 wr := hb.trans (hb2.mono hb.size)
        by_cases hlt : j < nm
        · have hlt' : (j : Int) < (nm : Int) := by omega
          obtain ⟨gl, ol, rfl, hgl, hcl⟩ := HT.out (by omega)
          have hc : wr.cell? ⟨gl, ol + j, none⟩ = some (.string (T j)) := by rw [hbb.cell (p := ⟨gl, ol + j, none⟩) hgl]; exact hcl j hlt
          have hsz := HTZ.out j hlt
          obtain ⟨t, ht⟩ : ∃ t, t = T j := ⟨_, rfl⟩
          rw [← ht] at hc hsz
          clear hcl
          by_cases h64 : (64 : Int) < (t.size : Int)
          · clear ht
            go_wp2
            go_ret
            exact ⟨by simp, hbb⟩
          · obtain ⟨cap, W1, hcv, hcap, hbc, hH, hltc⟩ := conv_of t wr
            obtain ⟨v', w3, hap, hL3, hb3⟩ := AL.push HBL.out hb2.size (by omega) hbc hltc hcap hH ht
            have HL3 : Hid _ := hL3
            clear hL3 ht hH hcap hltc hbc
            go_wp2_with (at_builtin; refine Lib.wpList_append_run _ rfl _ _ 46 46 rfl _ _ rfl rfl _ _ hap ?_)
            go_roundg (gk - 1)
            case measure => omega
            case rel => exact ⟨j + 1, _, by omega, rfl, rfl, hb2.trans hb3, HL3.out⟩
        · have hge : ¬ (j : Int) < (nm : Int) := by omega
          have hin : j = nm := by omega
          subst hin
          clear hlt hj
          obtain ⟨qa, ca, rfl, hA⟩ := (HAL.out.below hb2).args
          obtain ⟨qb, cb, rfl, hB⟩ := HBL.out.args
          obtain ⟨cap, wc, hcv, hcap, hbc, hH, hltc⟩ := conv_of s wr
          have HARG : Hid (Arg wc (.slice (some ⟨wr.heap.size, 0, none⟩) s.size cap) s.data) := ⟨_, _, _, rfl, rfl, fun h => ⟨wr.heap.size, 0, rfl, by omega, hltc, hH⟩⟩
          have HA : Hid (Args wc qa i (fun j => (S j).data)) := hA.below hbc
          have HB : Hid (Args wc qb j (fun j => (T j).data)) := hB.below hbc
          have HBC : Hid (Below w0.heap.size w0 wc) := hbb.trans (hbc.mono hbb.size)
          clear hA hB hcap hbc hH hltc HAL HBL hb2 hb hbb
          go_wp2_with fail
          clear hcv hge
          rcases kind_is k with ⟨hk, g0, g1, g2, P, p0, p1, p2, p3, c0, c1, c2, c3, hG, hp, hR, hmk⟩ | ⟨hk, hno⟩
          · have HK : Hid (decide (k = 0 ∨ k = 1) = true) := hk
            have HG : Hid (Gap g0 g1 g2 P) := hG
            have HP : Hid (PrimeOf k g0 g1 g2) := hp
            have HR : Hid (RefP p0 p1 p2 p3 c0 c1 c2 c3 P) := hR
            have HMK : Hid _ := hmk
            clear hk hG hp hR hmk
            refine (Powers_all k n g0 g1 g2 P _ s HG.out _ HP.out HARG.out).mono ?_
            rintro e w5 ⟨v, rfl, hb5, q5, l5, e5, ep5, rfl, hans⟩
            have HPA : Hid (PAns w5 P s n wc.heap.size q5 l5 e5 ep5) := hans
            have HA5 : Hid (Args w5 qa i (fun j => (S j).data)) := HA.out.below hb5
            have HB5 : Hid (Args w5 qb j (fun j => (T j).data)) := HB.out.below hb5
            have HC5 : Hid (Below w0.heap.size w0 w5 ∧ wc.heap.size ≤ w5.heap.size ∧ w0.heap.size ≤ wc.heap.size) := ⟨HBC.out.trans (hb5.mono HBC.out.size), hb5.size, HBC.out.size⟩
            clear hans hb5 HA HB HBC HARG
            generalize wc.heap.size = N at HPA HC5
            go_wp2_with fail
            refine (Dot_all k g0 g1 g2 P i j ca cb qa qb S T HG.out _ HP.out HA5.out HB5.out).mono ?_
            rintro e w6 ⟨v, rfl, hb6, q6, l6, e6, ep6, rfl, hans⟩
            have HEA : Hid (EAns w6 P i j S T q6 l6 e6 ep6) := hans
            have HPA6 : Hid (PAns w6 P s n N q5 l5 e5 ep5) := HPA.out.call hb6
            have HC6 : Hid (Below w0.heap.size w0 w6 ∧ N ≤ w6.heap.size ∧ w0.heap.size ≤ N) := ⟨HC5.out.1.trans (hb6.mono HC5.out.1.size), Nat.le_trans HC5.out.2.1 hb6.size, HC5.out.2.2⟩
            clear hans hb6 HPA HC5 HA5 HB5
            go_wp2_with fail
            refine (Known_law k _).mono ?_
            rintro e w7 ⟨rfl, rfl⟩
            rw [HK.out]
            go_wp2_with fail
            refine (HMK.out _).mono ?_
            rintro e w8 ⟨v, rfl, hb8, rfl⟩
            go_wp2_with fail
            have A7 := At8.made w8 35 p0 p1 p2 p3 c0 c1 c2 c3 rfl
            have K : Kept w7 w7.heap.size [⟨w8.heap.size, 0, p0, p1, p2, p3⟩, ⟨w8.heap.size, 4, c0, c1, c2, c3⟩] _ := (((Kept.mk1 hb8 hb8.size).alloc (.cells #[.int .u64 (p0 : Int), .int .u64 (p1 : Int), .int .u64 (p2 : Int), .int .u64 (p3 : Int), .int .u64 (c0 : Int), .int .u64 (c1 : Int), .int .u64 (c2 : Int), .int .u64 (c3 : Int)] 35)).cons (x := ⟨w8.heap.size, 4, c0, c1, c2, c3⟩) ⟨A7.c4, A7.c5, A7.c6, A7.c7, A7.fz⟩).cons (x := ⟨w8.heap.size, 0, p0, p1, p2, p3⟩) ⟨A7.c0, A7.c1, A7.c2, A7.c3, A7.fz⟩
            clear A7 hb8
            generalize World.alloc _ _ = W2 at K ⊢
            generalize w8.heap.size = kF at K ⊢
            refine (lpowers_all p0 p1 p2 p3 c0 c1 c2 c3 P s HR.out n ep5 N l5 e5 q5 _ (HPA6.out.call K.bl)).mono ?_
            rintro e w9 ⟨v, rfl, hb9, rfl⟩
            replace K := K.call hb9
            clear hb9
            have fb := K.tail.head
            obtain ⟨fc0, fc1, fc2, fc3, ff⟩ := K.head.at4
            have fd0 : w9.cell? ⟨kF, 4, none⟩ = some (.int .u64 (c0 : Int)) := fb.c0
            have fd1 : w9.cell? ⟨kF, 5, none⟩ = some (.int .u64 (c1 : Int)) := fb.c1
            have fd2 : w9.cell? ⟨kF, 6, none⟩ = some (.int .u64 (c2 : Int)) := fb.c2
            have fd3 : w9.cell? ⟨kF, 7, none⟩ = some (.int .u64 (c3 : Int)) := fb.c3
            have zf := K.head.lt
            have HL : Hid (i ≤ 300 ∧ j ≤ 300) := ⟨hl, hm⟩
            go_wp2_with fail
            clear fb fc0 fc1 fc2 fc3 ff fd0 fd1 fd2 fd3 zf
            refine (ldot_all i j cl cm l6 e6 ql qm q6 ep6 p0 p1 p2 p3 c0 c1 c2 c3 P HR.out S T _ HL.out.1 HL.out.2 (HS.out.below (HC6.out.1.trans (K.bl.mono HC6.out.1.size))) (HT.out.below (HC6.out.1.trans (K.bl.mono HC6.out.1.size))) (HEA.out.call K.bl)).mono ?_
            rintro e w10 ⟨v, rfl, hb10, rfl⟩
            replace K := K.call hb10
            clear hb10
            go_wp2_with fail
            refine (Apart_all (HPA6.out.call K.bl) (Nat.le_trans HC6.out.2.1 K.bl.size)).mono ?_
            rintro e w11 ⟨v, rfl, hb11, rfl⟩
            have HBF : Hid (Below w0.heap.size w0 w11) := (HC6.out.1.trans (K.bl.mono HC6.out.1.size)).trans (hb11.mono HC6.out.2.2)
            clear K hb11 HC6 HPA6 HEA
            go_wp2
            go_ret
            exact ⟨by simp, HBF.out⟩
          · have HK : Hid (decide (k = 0 ∨ k = 1) = false) := hk
            have HN : Hid (k < 0 ∨ 2 ≤ k) := hno
            clear hk hno
            refine (Powers_no k HN.out _ _ _).mono ?_
            rintro e w5 ⟨v, rfl, hb5, rfl⟩
            have HC5 : Hid (Below w0.heap.size w0 w5) := HBC.out.trans (hb5.mono HBC.out.size)
            clear hb5 HA HB HBC HARG
            go_wp2_with fail
            refine (Dot_no k HN.out _ _ _).mono ?_
            rintro e w6 ⟨v, rfl, hb6, rfl⟩
            have HC6 : Hid (Below w0.heap.size w0 w6) := HC5.out.trans (hb6.mono HC5.out.size)
            clear hb6 HC5
            go_wp2_with fail
            refine (Known_law k _).mono ?_
            rintro e w7 ⟨rfl, rfl⟩
            rw [HK.out]
            go_wp2
            go_ret
            exact ⟨by simp, HC6.out⟩

set_option maxHeartbeats 2000000 in
set_option maxRecDepth 100000 in
theorem lists_any (k : Int) (s : ByteArray) (n : Int) (ql qm : Option Addr) (nl nm cl cm : Nat) (S T : Nat → ByteArray) (w0 : World) (hnl : nl ≤ 140737488355328) (hnm : nm ≤ 140737488355328) (hss : s.size ≤ 140737488355328) (hS : Texts w0 ql nl S) (hT : Texts w0 qm nm T) (hSs : ∀ j, j < nl → (S j).size ≤ 140737488355328) (hTs : ∀ j, j < nm → (T j).size ≤ 140737488355328) :
    Calls Try.prog 5 #[.int .i64 k, .string s, .int .i64 n, .slice ql nl cl, .slice qm nm cm] w0 fun e w' => e = .returned (.bool true) ∧ Below w0.heap.size w0 w' := by
  by_cases hs : s.size ≤ 16384
  · have h1 : ¬ (16384 : Int) < (s.size : Int) := by omega
    by_cases hl : nl ≤ 300
    · have h2 : ¬ (300 : Int) < (nl : Int) := by omega
      by_cases hm : nm ≤ 300
      · exact lists_few k s n ql qm nl nm cl cm S T w0 hs hl hm hS hT hSs hTs
      · have h3 : (300 : Int) < (nm : Int) := by omega
        clear hS hT hSs hTs
        go_enter Try.func5, Try.ntmps5
        go_wp2
        go_ret
        exact ⟨by simp, Below.refl _ _⟩
    · have h2 : (300 : Int) < (nl : Int) := by omega
      clear hS hT hSs hTs
      go_enter Try.func5, Try.ntmps5
      go_wp2
      go_ret
      exact ⟨by simp, Below.refl _ _⟩
  · have h1 : (16384 : Int) < (s.size : Int) := by omega
    clear hS hT hSs hTs
    go_enter Try.func5, Try.ntmps5
    go_wp2
    go_ret
    exact ⟨by simp, Below.refl _ _⟩
end Go.Proofs.Ytbimbalfdmffaab
/-
  THE ROW OF 'NumLists' round its walk: a number, a string, a number, two slices of strings; the reach pays the sums.
-/
namespace Go.Proofs.Ytbimbalfdmffaab.numLists
open Go.ChangeShapes Go.WideShapes Go.ChangeAt Go.RowKit
open Go.ChangeMaps (open_string shut_string)

theorem own : ownKnob Try.prog.godebug = none := by kernel_rfl
theorem laidOut : laidOutB Try.prog = true := by kernel_rfl
theorem cells9 : Try.prog.cellsOf 9 = 1 := by kernel_rfl
theorem bytes9 : Try.prog.bytesOf 9 = 16 := by kernel_rfl

theorem strs_weigh {H : Type} {P : Program} {e : TypeId} {x : ByteArray} : ∀ {ss : List ByteArray}, x ∈ ss → x.size ∈ DataW.weightsAll (H := H) P e (strs ss)
  | s :: r, h => by
    show x.size ∈ DataW.weights P e (.lit (.string s.data.toList)) ++ DataW.weightsAll P e (strs r)
    rw [List.mem_append]
    rcases List.mem_cons.1 h with rfl | h
    · left
      simp [DataW.weights]
    · exact Or.inr (strs_weigh h)

theorem sized_strs {H : Type} {P : Program} {ts : List TypeId} {ds : List (DataW H)} (h : (DataW.weightsEach P ts ds).all (· ≤ reachBytes) = true) {j : Nat} {t e : TypeId} {a b : List ByteArray} (ht : ts[j]? = some t) (hd : ds[j]? = some (.slice (strs a) (strs b))) (hu : P.underlying t = some (.slice e))
    (x : ByteArray) (hx : x ∈ a) : x.size ≤ reachBytes := by
  have := List.all_eq_true.1 h _ (DataW.weights_mem_each ht hd x.size (by
    simp only [DataW.weights, hu]
    exact List.mem_cons_of_mem _ (List.mem_append_left _ (strs_weigh hx))))
  simpa using this

set_option maxRecDepth 100000 in
theorem lifted (os : Os) (started : os.Started) (H : Type) (enc : TypeId × Value → H) :
    ReturnsInHanded {} Try.checked os 5 .any (Rows.numListsSpec.pre6 enc Try.prog Try.f5 Rows.numListsRow.domain false) (Rows.numListsSpec.post enc Try.prog Try.f5 false true false false) := by
  refine returnsInHanded_of_change_sized (C := Try.checked) own started (by kernel_rfl) Try.func5
    (ChangeSpec.witness6 (enc := enc) (C := Try.checked) false ⟨#[], #[.int .i64 0, .string ByteArray.empty, .int .i64 0, .slice none 0 0, .slice none 0 0], []⟩ 8 (by kernel_rfl) (by kernel_rfl) (by kernel_rfl) (by kernel_rfl)) ?_
  intro W base args ds gs before hval0 hW _ hsz0 _
  have hsz : (DataW.weightsEach Try.prog (Try.f5.params.toList ++ Rows.numListsSpec.plain.varTypes Try.prog) (ds ++ gs)).all (· ≤ reachBytes) = true := hsz0
  clear hsz0
  have hval : ∀ (j : Nat) t v, Try.f5.params[j]? = some t → args[j]? = some v → Value.okWide Try.prog W .any base t v := hval0
  have hW' := hW
  obtain ⟨p, q, hA0, hV, rfl, hfz, hnd⟩ := hW
  have hA : DataW.TrodAll enc Try.prog W 0 (fun _ => true) true Try.f5.params.toList args.toList ds p := hA0
  rw [Try.params5] at hA hval hsz
  obtain ⟨v0, vs0, d0, ds0, p0, q0, hargs, rfl, rfl, h0, r0⟩ := trodAll_cons hA
  obtain ⟨v1, vs1, d1, ds1, p1, q1, rfl, rfl, rfl, h1, r1⟩ := trodAll_cons r0
  obtain ⟨v2, vs2, d2, ds2, p2, q2, rfl, rfl, rfl, h2, r2⟩ := trodAll_cons r1
  obtain ⟨v3, vs3, d3, ds3, p3, q3, rfl, rfl, rfl, h3, r3⟩ := trodAll_cons r2
  obtain ⟨v4, vs4, d4, ds4, p4, q4, rfl, rfl, rfl, h4, r4⟩ := trodAll_cons r3
  obtain ⟨rfl, rfl, rfl⟩ := trodAll_nil r4
  obtain rfl : args = #[v0, v1, v2, v3, v4] := by cases args; simp_all
  obtain ⟨rfl, rfl⟩ := trodVars_none hV
  obtain ⟨a0, rfl, rfl, rfl, w0⟩ := open_int Try.underlying3 (hval 0 3 v0 rfl rfl) h0
  obtain ⟨a1, rfl, rfl, rfl, w1⟩ := open_string Try.underlying9 (hval 1 9 v1 rfl rfl) h1
  obtain ⟨a2, rfl, rfl, rfl, w2⟩ := open_int Try.underlying3 (hval 2 3 v2 rfl rfl) h2
  obtain ⟨a3, len3, cap3, rfl⟩ := okWide_slice Try.underlying45 (hval 3 45 v3 rfl rfl)
  obtain ⟨a4, len4, cap4, rfl⟩ := okWide_slice Try.underlying45 (hval 4 45 v4 rfl rfl)
  have k3 := h3
  have k4 := h4
  have lt3 : ∀ x ∈ p3, x.block < W.heap.size := by obtain ⟨m, hm⟩ := k3; exact DataW.trod_lt m _ _ _ hm
  have lt4 : ∀ x ∈ p4, x.block < W.heap.size := by obtain ⟨m, hm⟩ := k4; exact DataW.trod_lt m _ _ _ hm
  have hl1 : a1.size ≤ 140737488355328 := by
    have := sized_string hsz (j := 1) (t := 9) (bytes := a1.data.toList) rfl rfl
    have e : a1.data.toList.length = a1.size := Array.length_toList
    rw [e] at this
    unfold reachBytes at this
    omega
  have hx3 : ∃ S : Nat → ByteArray, Texts W a3 len3 S ∧ (∀ j, j < len3 → (S j).size ≤ 140737488355328) ∧ len3 ≤ 140737488355328 := by
    obtain ⟨fuel, hf⟩ := h3
    rcases open_strings Try.underlying45 Try.underlying9 cells9 hf with ⟨hcs, hx⟩ | ⟨a, l, c, ss, hcs, _, hl, hm, hz, hx, hcell, hws⟩
    · simp [Value.cells] at hcs
      obtain ⟨rfl, rfl, rfl⟩ := hcs
      exact ⟨fun _ => ByteArray.empty, fun h => absurd h (by omega), fun j hj => absurd hj (by omega), by omega⟩
    · simp [Value.cells] at hcs
      obtain ⟨rfl, rfl, rfl⟩ := hcs
      simp only [Prod.mk.injEq] at hx
      obtain ⟨rfl, rfl⟩ := hx
      simp only [if_true] at hz
      have hn : (ss.take len3).length = len3 := by rw [List.length_take]; omega
      have hat : ∀ j, j < len3 → (ss.take len3)[j]! = ss.getD j ByteArray.empty := fun j hj => by
        rw [getElem!_pos (ss.take len3) j (by omega), List.getElem_take, List.getD_eq_getElem?_getD, List.getElem?_eq_getElem (by omega)]
        rfl
      have hreach : len3 * 16 ≤ 140737488355328 := by
        have := sized_slice hsz (j := 3) (t := 45) (e := 9) rfl rfl Try.underlying45
        rw [bytes9] at this
        simp only [strs, List.length_map, List.length_take, List.length_drop, reachBytes] at this
        omega
      have hs : ∀ j, j < len3 → ((ss.take len3)[j]!).size ≤ 140737488355328 := fun j hj => by
        have := sized_strs hsz (j := 3) (t := 45) (e := 9) (a := ss.take len3) (b := ss.drop len3) rfl rfl Try.underlying45 (ss.take len3)[j]! (by rw [getElem!_pos (ss.take len3) j (by omega)]; exact List.getElem_mem _)
        unfold reachBytes at this
        omega
      refine ⟨fun j => (ss.take len3)[j]!, fun h00 => ?_, hs, by omega⟩
      obtain ⟨b, off, spot⟩ := a
      have hspot : spot = none := by simpa [Addr.add] using World.cell?_spot (hcell 0 (by omega))
      subst hspot
      have hP : ∀ j, j < len3 → W.cell? ⟨b, off + j, none⟩ = some (.string (ss.take len3)[j]!) := fun j hj => by
        rw [hat j hj, ← hcell j (by omega)]
        congr 1
        unfold Addr.add
        by_cases hj0 : j = 0
        · subst hj0; rfl
        · rw [if_neg hj0]
      exact ⟨b, off, rfl, World.block_lt_of_cell? _ _ (hP 0 h00), hP⟩
  have hx4 : ∃ S : Nat → ByteArray, Texts W a4 len4 S ∧ (∀ j, j < len4 → (S j).size ≤ 140737488355328) ∧ len4 ≤ 140737488355328 := by
    obtain ⟨fuel, hf⟩ := h4
    rcases open_strings Try.underlying45 Try.underlying9 cells9 hf with ⟨hcs, hx⟩ | ⟨a, l, c, ss, hcs, _, hl, hm, hz, hx, hcell, hws⟩
    · simp [Value.cells] at hcs
      obtain ⟨rfl, rfl, rfl⟩ := hcs
      exact ⟨fun _ => ByteArray.empty, fun h => absurd h (by omega), fun j hj => absurd hj (by omega), by omega⟩
    · simp [Value.cells] at hcs
      obtain ⟨rfl, rfl, rfl⟩ := hcs
      simp only [Prod.mk.injEq] at hx
      obtain ⟨rfl, rfl⟩ := hx
      simp only [if_true] at hz
      have hn : (ss.take len4).length = len4 := by rw [List.length_take]; omega
      have hat : ∀ j, j < len4 → (ss.take len4)[j]! = ss.getD j ByteArray.empty := fun j hj => by
        rw [getElem!_pos (ss.take len4) j (by omega), List.getElem_take, List.getD_eq_getElem?_getD, List.getElem?_eq_getElem (by omega)]
        rfl
      have hreach : len4 * 16 ≤ 140737488355328 := by
        have := sized_slice hsz (j := 4) (t := 45) (e := 9) rfl rfl Try.underlying45
        rw [bytes9] at this
        simp only [strs, List.length_map, List.length_take, List.length_drop, reachBytes] at this
        omega
      have hs : ∀ j, j < len4 → ((ss.take len4)[j]!).size ≤ 140737488355328 := fun j hj => by
        have := sized_strs hsz (j := 4) (t := 45) (e := 9) (a := ss.take len4) (b := ss.drop len4) rfl rfl Try.underlying45 (ss.take len4)[j]! (by rw [getElem!_pos (ss.take len4) j (by omega)]; exact List.getElem_mem _)
        unfold reachBytes at this
        omega
      refine ⟨fun j => (ss.take len4)[j]!, fun h00 => ?_, hs, by omega⟩
      obtain ⟨b, off, spot⟩ := a
      have hspot : spot = none := by simpa [Addr.add] using World.cell?_spot (hcell 0 (by omega))
      subst hspot
      have hP : ∀ j, j < len4 → W.cell? ⟨b, off + j, none⟩ = some (.string (ss.take len4)[j]!) := fun j hj => by
        rw [hat j hj, ← hcell j (by omega)]
        congr 1
        unfold Addr.add
        by_cases hj0 : j = 0
        · subst hj0; rfl
        · rw [if_neg hj0]
      exact ⟨b, off, rfl, World.block_lt_of_cell? _ _ (hP 0 h00), hP⟩
  obtain ⟨S, hS, hSs, hSl⟩ := hx3
  obtain ⟨T, hT, hTs, hTl⟩ := hx4
  clear hA0 hval0
  refine (lists_any a0 a1 a2 a3 a4 len3 len4 cap3 cap4 S T W hSl hTl hl1 hS hT hSs hTs).mono fun e W' ⟨he, bel⟩ => ?_
  subst he
  exact ⟨_, rfl, _, _, _, [], _, [], hW', trodAll_mk1 (shut_bool Try.underlying4 _), (trodAll_cons_mk (shut_int Try.underlying3 w0) (trodAll_cons_mk (shut_string Try.underlying9 w1) (trodAll_cons_mk (shut_int Try.underlying3 w2) (trodAll_cons_mk (Below.trod laidOut (by kernel_rfl) (of_decide_eq_true (by kernel_rfl)) k3 bel lt3) (trodAll_cons_mk (Below.trod laidOut (by kernel_rfl) (of_decide_eq_true (by kernel_rfl)) k4 bel lt4) trodAll_mk0))))), rfl, bel.frame _, fun h => by cases h⟩

theorem over : Rows.numListsRow.holds Try.pinned (OpenSpec.ofChange Rows.numListsSpec) :=
  OpenClaim.holds_of_wide 5 Try.f5 rfl rfl rfl rfl rfl rfl rfl ⟨rfl, rfl, rfl, rfl, rfl⟩ rfl rfl rfl rfl rfl (by kernel_rfl) Try.func5 (by kernel_rfl)
    (of_decide_eq_true (by kernel_rfl)) (by unfold Func.isWrapper; first | (rw [if_pos (by decide +kernel)]; kernel_rfl) | (rw [if_neg (by decide +kernel)]; exact ⟨rfl, rfl⟩))
    (fun os started H enc _ => lifted os started H enc)

theorem proved : Rows.NumListsSaid :=
  over
end Go.Proofs.Ytbimbalfdmffaab.numLists

namespace Go.Proofs.Ytbimbalfdmffaab
/-- THE STATEMENT. -/
theorem numLists_holds : Rows.NumListsSaid := numLists.proved
#print axioms numLists_holds
end Go.Proofs.Ytbimbalfdmffaab
