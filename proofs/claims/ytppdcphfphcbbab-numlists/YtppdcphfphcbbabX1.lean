import Derived.Test.YtppdcphfphcbbabY1
import Derived.Deep.AppendSrc
namespace Go.Proofs.Ytppdcphfphcbbab
open Go.RowKit Go.Sort Go.Deep

theorem zeros_one {z : Value} (e : z.cells = #[z]) (n : Nat) : Builtin.zeroCells z.cells n = Array.replicate n z := by
  unfold Builtin.zeroCells
  rw [e]
  apply Array.ext
  · simp
  · intro k h2 h3
    simp [Nat.mod_one]
def encV (v : Value) : Value := v
theorem slice46 : Try.prog.underlying 46 = some (.slice 23) := by kernel_rfl
theorem slice45 : Try.prog.underlying 45 = some (.slice 9) := by kernel_rfl
theorem info23 : (Try.prog.info? 23).map (fun i => (i.zero, i.size, i.bytes)) = some (some (.slice none 0 0), 1, 24) := by kernel_rfl
theorem info9 : (Try.prog.info? 9).map (fun i => (i.zero, i.size, i.bytes)) = some (some (.string ⟨#[]⟩), 1, 16) := by kernel_rfl
/-- A list of values of one's own, in block g. -/
structure ListAt (w : World) (g cap : Nat) (vs : List Value) (cur : Array Value) : Prop where
  lt : g < w.heap.size
  size : cur.size = cap
  fits : vs.length ≤ cap
  holds : Holds encV w g 0 cur
  front : ∀ j, j < vs.length → cur[j]! = vs[j]!

theorem ListAt.below {w w1 : World} {g cap : Nat} {vs : List Value} {cur : Array Value} (h : ListAt w g cap vs cur) (k : Below w.heap.size w w1) : ListAt w1 g cap vs cur :=
  ⟨Nat.lt_of_lt_of_le h.lt k.size, h.size, h.fits, Holds.below h.holds k h.lt, h.front⟩

theorem val_front (a b : List Value) (j : Nat) (h : j < a.length) : (a ++ b)[j]! = a[j]! := by
  rw [getElem!_pos (a ++ b) j (by rw [List.length_append]; omega), getElem!_pos a j h, List.getElem_append_left h]
theorem val_last (a : List Value) (x : Value) : (a ++ [x])[a.length]! = x := by
  rw [getElem!_pos (a ++ [x]) a.length (by simp)]
  simp
theorem arr_list_at (T : List Value) (n j : Nat) (z : Value) (h : j < T.length) : (T.toArray ++ Array.replicate n z)[j]! = T[j]! := by
  rw [getElem!_pos _ j (by simp; omega), getElem!_pos T j h, Array.getElem_append_left (by simpa using h)]
  simp

theorem src_oneG {w : World} {T E : TypeId} (hT : Try.prog.underlying T = some (.slice E)) {r : Nat} {x : Value} (hx : w.cell? ⟨r, 0, none⟩ = some x) (h1 : x.oneCell' = true) : Src Try.prog 1 T (.slice (some ⟨r, 0, none⟩) 1 1) 1 [x] w := by
  refine Src.ofSlice w hT ⟨r, 0, none⟩ 1 1 _ rfl (fun j u hj => ?_) (fun u hu => ?_)
  · cases j with
    | zero =>
      have : u = x := by simpa using hj.symm
      rw [this]
      exact hx
    | succ j => simp at hj
  · have : u = x := by simpa using hu
    rw [this]
    exact h1

/-- 'append(l, x)', l a list of slices of one's own. -/
theorem append_valS {T E : TypeId} {z : Value} (hT : Try.prog.underlying T = some (.slice E)) (hE : (Try.prog.info? E).map (fun i => (i.zero, i.size, i.bytes)) = some (some z, 1, 16)) (hzc : z.cells = #[z]) {w : World} {g cap r : Nat} {vs : List Value} {cur : Array Value} {x : Value} (h : ListAt w g cap vs cur) (hx : w.cell? ⟨r, 0, none⟩ = some x) (h1 : x.oneCell' = true) (hbig : vs.length ≤ 1048576) :
    ∃ g' cap' cur' w', (Builtin.append_ #[T, T] T #[.slice (some ⟨g, 0, none⟩) vs.length cap, .slice (some ⟨r, 0, none⟩) 1 1]).run Try.prog w = .ok (.slice (some ⟨g', 0, none⟩) (vs.length + 1) cap') w' ∧
      ListAt w' g' cap' (vs ++ [x]) cur' ∧ Only g 0 cap w w' ∧ (g' = g ∨ w.heap.size ≤ g') := by
  obtain ⟨i, hi, hz, hsz, hby⟩ := info_parts hE
  have hsrc := src_oneG hT (r := r) hx h1
  by_cases hroom : vs.length + 1 ≤ cap
  · have hap := run_append_room_src (P := Try.prog) w T T T E i hT hi g 0 vs.length cap (.slice (some ⟨r, 0, none⟩) 1 1) 1 [x] (by rw [hsz]; exact hsrc) hroom
      (fun j hj => by
        have hj0 : j = 0 := by simpa using hj
        subst hj0
        rw [hsz, Nat.mul_one, Nat.add_zero, (h.holds vs.length (by rw [h.size]; omega)).1]; rfl)
      (fun j hj => by
        have hj0 : j = 0 := by simpa using hj
        subst hj0
        rw [hsz, Nat.mul_one, Nat.add_zero]
        exact (h.holds vs.length (by rw [h.size]; omega)).2)
    rw [hsz, Nat.mul_one, Nat.zero_add] at hap
    have hset : w.setCells g vs.length [x] = w.setCell ⟨g, vs.length, none⟩ x := rfl
    rw [hset] at hap
    have hH := Holds.set h.holds (i := vs.length) (by rw [h.size]; omega) x
    rw [Nat.zero_add] at hH
    refine ⟨g, cap, cur.setIfInBounds vs.length x, _, hap, ⟨by rw [World.size_setCell]; exact h.lt, by rw [Array.size_setIfInBounds, h.size], by rw [List.length_append]; exact hroom, hH, fun j hj => ?_⟩, (Only.refl _ _ _ _).setCell (by omega) (by omega) _, Or.inl rfl⟩
    rw [List.length_append, List.length_singleton] at hj
    by_cases hj1 : j = vs.length
    · rw [hj1, val_last, getElem!_set_same _ _ _ (by rw [h.size]; omega)]
    · rw [getElem!_set_other _ _ _ _ hj1, val_front _ _ _ (by omega), h.front j (by omega)]
  · have hold : (Builtin.firstCells i.size vs.length (.slice (some ⟨g, 0, none⟩) vs.length cap)).run Try.prog w.drew = .ok vs.toArray w.drew := by
      rw [hsz]
      refine run_firstCells_some w.drew 1 vs.length ⟨g, 0, none⟩ vs.length cap vs (by rw [Nat.mul_one]) (fun j u hj => ?_)
      obtain ⟨h2, h3⟩ := List.getElem?_eq_some_iff.1 hj
      have hc := (h.holds j (by rw [h.size]; have := h.fits; omega)).1
      rw [h.front j h2, getElem!_pos vs j h2, h3] at hc
      have e1 : (⟨g, 0, none⟩ : Addr).add j = ⟨g, 0 + j, none⟩ := by
        unfold Addr.add
        by_cases h0 : j = 0
        · subst h0; rw [if_pos rfl]
        · rw [if_neg h0]
      rw [e1, World.cell?_drew, hc]
      rfl
    have hf := h.fits
    have hnc : Builtin.nextslicecap (vs.length + 1) cap ≤ 2 * (vs.length + 1) + 768 := by
      unfold Builtin.nextslicecap
      split
      · omega
      · split
        · omega
        · simp only [Builtin.growBy]
          repeat' split
          all_goals omega
    have hap := run_append_grow_src (P := Try.prog) w T T T E i z hT hi hz (some ⟨g, 0, none⟩) vs.length cap vs hold _ 1 [x] (by rw [hsz]; exact hsrc) (by omega) (by omega) (by rw [hby]; omega)
    generalize hG : grownCap w (vs.length + 1) cap E = G at hap
    have hGl : vs.length + 1 ≤ G := by
      rw [← hG]
      unfold grownCap Question.cut
      exact Nat.le_add_right _ _
    have hcells : (vs ++ [x]).toArray ++ Builtin.zeroCells z.cells (G - (vs.length + 1)) = ((vs ++ [x]).toArray ++ Array.replicate (G - (vs.length + 1)) (z)).map encV := by
      have e0 : ∀ a : Array Value, a.map encV = a := fun a => by
        have : encV = id := rfl
        rw [this, Array.map_id]
      rw [e0, zeros_one hzc]
    rw [hcells] at hap
    refine ⟨w.heap.size, G, (vs ++ [x]).toArray ++ Array.replicate (G - (vs.length + 1)) (z), _, hap, ⟨by simp, ?_, by rw [List.length_append]; exact hGl, ?_, fun j hj => arr_list_at _ _ _ _ hj⟩, ?_, Or.inr (Nat.le_refl _)⟩
    · simp; omega
    · exact Holds.new (enc := encV) w.drew E _
    · exact (Only.refl g 0 cap w).drew.alloc h.lt _

/-- .. and the first of them. -/
theorem append_firstS {T E : TypeId} {z : Value} (hT : Try.prog.underlying T = some (.slice E)) (hE : (Try.prog.info? E).map (fun i => (i.zero, i.size, i.bytes)) = some (some z, 1, 16)) (hzc : z.cells = #[z]) {w : World} {r : Nat} {x : Value} (hx : w.cell? ⟨r, 0, none⟩ = some x) (h1 : x.oneCell' = true) :
    ∃ cap' cur' w', (Builtin.append_ #[T, T] T #[.slice none 0 0, .slice (some ⟨r, 0, none⟩) 1 1]).run Try.prog w = .ok (.slice (some ⟨w.heap.size, 0, none⟩) 1 cap') w' ∧
      ListAt w' w.heap.size cap' [x] cur' ∧ Below w.heap.size w w' := by
  obtain ⟨i, hi, hz, hsz, hby⟩ := info_parts hE
  have hsrc := src_oneG hT (r := r) hx h1
  have hold : (Builtin.firstCells i.size 0 (.slice none 0 0)).run Try.prog w.drew = .ok ([] : List Value).toArray w.drew := run_firstCells_none w.drew i.size 0 0 0
  have hnc : Builtin.nextslicecap (0 + 1) 0 ≤ 770 := by decide
  have hap := run_append_grow_src (P := Try.prog) w T T T E i z hT hi hz none 0 0 [] hold _ 1 [x] (by rw [hsz]; exact hsrc) (by omega) (by omega) (by rw [hby]; omega)
  rw [Nat.zero_add] at hap
  generalize hG : grownCap w 1 0 E = G at hap
  have hGl : 1 ≤ G := by
    rw [← hG]
    unfold grownCap Question.cut
    exact Nat.le_add_right _ _
  have hcells : (([] : List Value) ++ [x]).toArray ++ Builtin.zeroCells z.cells (G - 1) = ([x].toArray ++ Array.replicate (G - 1) (z)).map encV := by
    have e0 : ∀ a : Array Value, a.map encV = a := fun a => by
      have : encV = id := rfl
      rw [this, Array.map_id]
    rw [e0, List.nil_append, zeros_one hzc]
  rw [hcells] at hap
  refine ⟨G, [x].toArray ++ Array.replicate (G - 1) (z), _, hap, ⟨by simp, ?_, hGl, ?_, fun j hj => arr_list_at [x] _ _ _ hj⟩, ?_⟩
  · simp; omega
  · exact Holds.new (enc := encV) w.drew E _
  · exact ((Below.refl w.heap.size w).drew).alloc (Nat.le_refl _) _
/-- 'append(l, x)', l a list of slices of one's own. -/
theorem append_valL {T E : TypeId} {z : Value} (hT : Try.prog.underlying T = some (.slice E)) (hE : (Try.prog.info? E).map (fun i => (i.zero, i.size, i.bytes)) = some (some z, 1, 24)) (hzc : z.cells = #[z]) {w : World} {g cap r : Nat} {vs : List Value} {cur : Array Value} {x : Value} (h : ListAt w g cap vs cur) (hx : w.cell? ⟨r, 0, none⟩ = some x) (h1 : x.oneCell' = true) (hbig : vs.length ≤ 1048576) :
    ∃ g' cap' cur' w', (Builtin.append_ #[T, T] T #[.slice (some ⟨g, 0, none⟩) vs.length cap, .slice (some ⟨r, 0, none⟩) 1 1]).run Try.prog w = .ok (.slice (some ⟨g', 0, none⟩) (vs.length + 1) cap') w' ∧
      ListAt w' g' cap' (vs ++ [x]) cur' ∧ Only g 0 cap w w' ∧ (g' = g ∨ w.heap.size ≤ g') := by
  obtain ⟨i, hi, hz, hsz, hby⟩ := info_parts hE
  have hsrc := src_oneG hT (r := r) hx h1
  by_cases hroom : vs.length + 1 ≤ cap
  · have hap := run_append_room_src (P := Try.prog) w T T T E i hT hi g 0 vs.length cap (.slice (some ⟨r, 0, none⟩) 1 1) 1 [x] (by rw [hsz]; exact hsrc) hroom
      (fun j hj => by
        have hj0 : j = 0 := by simpa using hj
        subst hj0
        rw [hsz, Nat.mul_one, Nat.add_zero, (h.holds vs.length (by rw [h.size]; omega)).1]; rfl)
      (fun j hj => by
        have hj0 : j = 0 := by simpa using hj
        subst hj0
        rw [hsz, Nat.mul_one, Nat.add_zero]
        exact (h.holds vs.length (by rw [h.size]; omega)).2)
    rw [hsz, Nat.mul_one, Nat.zero_add] at hap
    have hset : w.setCells g vs.length [x] = w.setCell ⟨g, vs.length, none⟩ x := rfl
    rw [hset] at hap
    have hH := Holds.set h.holds (i := vs.length) (by rw [h.size]; omega) x
    rw [Nat.zero_add] at hH
    refine ⟨g, cap, cur.setIfInBounds vs.length x, _, hap, ⟨by rw [World.size_setCell]; exact h.lt, by rw [Array.size_setIfInBounds, h.size], by rw [List.length_append]; exact hroom, hH, fun j hj => ?_⟩, (Only.refl _ _ _ _).setCell (by omega) (by omega) _, Or.inl rfl⟩
    rw [List.length_append, List.length_singleton] at hj
    by_cases hj1 : j = vs.length
    · rw [hj1, val_last, getElem!_set_same _ _ _ (by rw [h.size]; omega)]
    · rw [getElem!_set_other _ _ _ _ hj1, val_front _ _ _ (by omega), h.front j (by omega)]
  · have hold : (Builtin.firstCells i.size vs.length (.slice (some ⟨g, 0, none⟩) vs.length cap)).run Try.prog w.drew = .ok vs.toArray w.drew := by
      rw [hsz]
      refine run_firstCells_some w.drew 1 vs.length ⟨g, 0, none⟩ vs.length cap vs (by rw [Nat.mul_one]) (fun j u hj => ?_)
      obtain ⟨h2, h3⟩ := List.getElem?_eq_some_iff.1 hj
      have hc := (h.holds j (by rw [h.size]; have := h.fits; omega)).1
      rw [h.front j h2, getElem!_pos vs j h2, h3] at hc
      have e1 : (⟨g, 0, none⟩ : Addr).add j = ⟨g, 0 + j, none⟩ := by
        unfold Addr.add
        by_cases h0 : j = 0
        · subst h0; rw [if_pos rfl]
        · rw [if_neg h0]
      rw [e1, World.cell?_drew, hc]
      rfl
    have hf := h.fits
    have hnc : Builtin.nextslicecap (vs.length + 1) cap ≤ 2 * (vs.length + 1) + 768 := by
      unfold Builtin.nextslicecap
      split
      · omega
      · split
        · omega
        · simp only [Builtin.growBy]
          repeat' split
          all_goals omega
    have hap := run_append_grow_src (P := Try.prog) w T T T E i z hT hi hz (some ⟨g, 0, none⟩) vs.length cap vs hold _ 1 [x] (by rw [hsz]; exact hsrc) (by omega) (by omega) (by rw [hby]; omega)
    generalize hG : grownCap w (vs.length + 1) cap E = G at hap
    have hGl : vs.length + 1 ≤ G := by
      rw [← hG]
      unfold grownCap Question.cut
      exact Nat.le_add_right _ _
    have hcells : (vs ++ [x]).toArray ++ Builtin.zeroCells z.cells (G - (vs.length + 1)) = ((vs ++ [x]).toArray ++ Array.replicate (G - (vs.length + 1)) (z)).map encV := by
      have e0 : ∀ a : Array Value, a.map encV = a := fun a => by
        have : encV = id := rfl
        rw [this, Array.map_id]
      rw [e0, zeros_one hzc]
    rw [hcells] at hap
    refine ⟨w.heap.size, G, (vs ++ [x]).toArray ++ Array.replicate (G - (vs.length + 1)) (z), _, hap, ⟨by simp, ?_, by rw [List.length_append]; exact hGl, ?_, fun j hj => arr_list_at _ _ _ _ hj⟩, ?_, Or.inr (Nat.le_refl _)⟩
    · simp; omega
    · exact Holds.new (enc := encV) w.drew E _
    · exact (Only.refl g 0 cap w).drew.alloc h.lt _

/-- .. and the first of them. -/
theorem append_firstL {T E : TypeId} {z : Value} (hT : Try.prog.underlying T = some (.slice E)) (hE : (Try.prog.info? E).map (fun i => (i.zero, i.size, i.bytes)) = some (some z, 1, 24)) (hzc : z.cells = #[z]) {w : World} {r : Nat} {x : Value} (hx : w.cell? ⟨r, 0, none⟩ = some x) (h1 : x.oneCell' = true) :
    ∃ cap' cur' w', (Builtin.append_ #[T, T] T #[.slice none 0 0, .slice (some ⟨r, 0, none⟩) 1 1]).run Try.prog w = .ok (.slice (some ⟨w.heap.size, 0, none⟩) 1 cap') w' ∧
      ListAt w' w.heap.size cap' [x] cur' ∧ Below w.heap.size w w' := by
  obtain ⟨i, hi, hz, hsz, hby⟩ := info_parts hE
  have hsrc := src_oneG hT (r := r) hx h1
  have hold : (Builtin.firstCells i.size 0 (.slice none 0 0)).run Try.prog w.drew = .ok ([] : List Value).toArray w.drew := run_firstCells_none w.drew i.size 0 0 0
  have hnc : Builtin.nextslicecap (0 + 1) 0 ≤ 770 := by decide
  have hap := run_append_grow_src (P := Try.prog) w T T T E i z hT hi hz none 0 0 [] hold _ 1 [x] (by rw [hsz]; exact hsrc) (by omega) (by omega) (by rw [hby]; omega)
  rw [Nat.zero_add] at hap
  generalize hG : grownCap w 1 0 E = G at hap
  have hGl : 1 ≤ G := by
    rw [← hG]
    unfold grownCap Question.cut
    exact Nat.le_add_right _ _
  have hcells : (([] : List Value) ++ [x]).toArray ++ Builtin.zeroCells z.cells (G - 1) = ([x].toArray ++ Array.replicate (G - 1) (z)).map encV := by
    have e0 : ∀ a : Array Value, a.map encV = a := fun a => by
      have : encV = id := rfl
      rw [this, Array.map_id]
    rw [e0, List.nil_append, zeros_one hzc]
  rw [hcells] at hap
  refine ⟨G, [x].toArray ++ Array.replicate (G - 1) (z), _, hap, ⟨by simp, ?_, hGl, ?_, fun j hj => arr_list_at [x] _ _ _ hj⟩, ?_⟩
  · simp; omega
  · exact Holds.new (enc := encV) w.drew E _
  · exact ((Below.refl w.heap.size w).drew).alloc (Nat.le_refl _) _
/-- 'append(l, x)', l a list of slices of one's own. -/
theorem append_valB {T E : TypeId} {z : Value} (hT : Try.prog.underlying T = some (.slice E)) (hE : (Try.prog.info? E).map (fun i => (i.zero, i.size, i.bytes)) = some (some z, 1, 1)) (hzc : z.cells = #[z]) {w : World} {g cap r : Nat} {vs : List Value} {cur : Array Value} {x : Value} (h : ListAt w g cap vs cur) (hx : w.cell? ⟨r, 0, none⟩ = some x) (h1 : x.oneCell' = true) (hbig : vs.length ≤ 1048576) :
    ∃ g' cap' cur' w', (Builtin.append_ #[T, T] T #[.slice (some ⟨g, 0, none⟩) vs.length cap, .slice (some ⟨r, 0, none⟩) 1 1]).run Try.prog w = .ok (.slice (some ⟨g', 0, none⟩) (vs.length + 1) cap') w' ∧
      ListAt w' g' cap' (vs ++ [x]) cur' ∧ Only g 0 cap w w' ∧ (vs.length + 1 ≤ cap ∧ g' = g ∨ w.heap.size ≤ g' ∧ Below w.heap.size w w') := by
  obtain ⟨i, hi, hz, hsz, hby⟩ := info_parts hE
  have hsrc := src_oneG hT (r := r) hx h1
  by_cases hroom : vs.length + 1 ≤ cap
  · have hap := run_append_room_src (P := Try.prog) w T T T E i hT hi g 0 vs.length cap (.slice (some ⟨r, 0, none⟩) 1 1) 1 [x] (by rw [hsz]; exact hsrc) hroom
      (fun j hj => by
        have hj0 : j = 0 := by simpa using hj
        subst hj0
        rw [hsz, Nat.mul_one, Nat.add_zero, (h.holds vs.length (by rw [h.size]; omega)).1]; rfl)
      (fun j hj => by
        have hj0 : j = 0 := by simpa using hj
        subst hj0
        rw [hsz, Nat.mul_one, Nat.add_zero]
        exact (h.holds vs.length (by rw [h.size]; omega)).2)
    rw [hsz, Nat.mul_one, Nat.zero_add] at hap
    have hset : w.setCells g vs.length [x] = w.setCell ⟨g, vs.length, none⟩ x := rfl
    rw [hset] at hap
    have hH := Holds.set h.holds (i := vs.length) (by rw [h.size]; omega) x
    rw [Nat.zero_add] at hH
    refine ⟨g, cap, cur.setIfInBounds vs.length x, _, hap, ⟨by rw [World.size_setCell]; exact h.lt, by rw [Array.size_setIfInBounds, h.size], by rw [List.length_append]; exact hroom, hH, fun j hj => ?_⟩, (Only.refl _ _ _ _).setCell (by omega) (by omega) _, Or.inl ⟨hroom, rfl⟩⟩
    rw [List.length_append, List.length_singleton] at hj
    by_cases hj1 : j = vs.length
    · rw [hj1, val_last, getElem!_set_same _ _ _ (by rw [h.size]; omega)]
    · rw [getElem!_set_other _ _ _ _ hj1, val_front _ _ _ (by omega), h.front j (by omega)]
  · have hold : (Builtin.firstCells i.size vs.length (.slice (some ⟨g, 0, none⟩) vs.length cap)).run Try.prog w.drew = .ok vs.toArray w.drew := by
      rw [hsz]
      refine run_firstCells_some w.drew 1 vs.length ⟨g, 0, none⟩ vs.length cap vs (by rw [Nat.mul_one]) (fun j u hj => ?_)
      obtain ⟨h2, h3⟩ := List.getElem?_eq_some_iff.1 hj
      have hc := (h.holds j (by rw [h.size]; have := h.fits; omega)).1
      rw [h.front j h2, getElem!_pos vs j h2, h3] at hc
      have e1 : (⟨g, 0, none⟩ : Addr).add j = ⟨g, 0 + j, none⟩ := by
        unfold Addr.add
        by_cases h0 : j = 0
        · subst h0; rw [if_pos rfl]
        · rw [if_neg h0]
      rw [e1, World.cell?_drew, hc]
      rfl
    have hf := h.fits
    have hnc : Builtin.nextslicecap (vs.length + 1) cap ≤ 2 * (vs.length + 1) + 768 := by
      unfold Builtin.nextslicecap
      split
      · omega
      · split
        · omega
        · simp only [Builtin.growBy]
          repeat' split
          all_goals omega
    have hap := run_append_grow_src (P := Try.prog) w T T T E i z hT hi hz (some ⟨g, 0, none⟩) vs.length cap vs hold _ 1 [x] (by rw [hsz]; exact hsrc) (by omega) (by omega) (by rw [hby]; omega)
    generalize hG : grownCap w (vs.length + 1) cap E = G at hap
    have hGl : vs.length + 1 ≤ G := by
      rw [← hG]
      unfold grownCap Question.cut
      exact Nat.le_add_right _ _
    have hcells : (vs ++ [x]).toArray ++ Builtin.zeroCells z.cells (G - (vs.length + 1)) = ((vs ++ [x]).toArray ++ Array.replicate (G - (vs.length + 1)) (z)).map encV := by
      have e0 : ∀ a : Array Value, a.map encV = a := fun a => by
        have : encV = id := rfl
        rw [this, Array.map_id]
      rw [e0, zeros_one hzc]
    rw [hcells] at hap
    refine ⟨w.heap.size, G, (vs ++ [x]).toArray ++ Array.replicate (G - (vs.length + 1)) (z), _, hap, ⟨by simp, ?_, by rw [List.length_append]; exact hGl, ?_, fun j hj => arr_list_at _ _ _ _ hj⟩, ?_, Or.inr ⟨Nat.le_refl _, ((Below.refl w.heap.size w).drew).alloc (Nat.le_refl _) _⟩⟩
    · simp; omega
    · exact Holds.new (enc := encV) w.drew E _
    · exact (Only.refl g 0 cap w).drew.alloc h.lt _

/-- .. and the first of them. -/
theorem append_firstB {T E : TypeId} {z : Value} (hT : Try.prog.underlying T = some (.slice E)) (hE : (Try.prog.info? E).map (fun i => (i.zero, i.size, i.bytes)) = some (some z, 1, 1)) (hzc : z.cells = #[z]) {w : World} {r : Nat} {x : Value} (hx : w.cell? ⟨r, 0, none⟩ = some x) (h1 : x.oneCell' = true) :
    ∃ cap' cur' w', (Builtin.append_ #[T, T] T #[.slice none 0 0, .slice (some ⟨r, 0, none⟩) 1 1]).run Try.prog w = .ok (.slice (some ⟨w.heap.size, 0, none⟩) 1 cap') w' ∧
      ListAt w' w.heap.size cap' [x] cur' ∧ Below w.heap.size w w' := by
  obtain ⟨i, hi, hz, hsz, hby⟩ := info_parts hE
  have hsrc := src_oneG hT (r := r) hx h1
  have hold : (Builtin.firstCells i.size 0 (.slice none 0 0)).run Try.prog w.drew = .ok ([] : List Value).toArray w.drew := run_firstCells_none w.drew i.size 0 0 0
  have hnc : Builtin.nextslicecap (0 + 1) 0 ≤ 770 := by decide
  have hap := run_append_grow_src (P := Try.prog) w T T T E i z hT hi hz none 0 0 [] hold _ 1 [x] (by rw [hsz]; exact hsrc) (by omega) (by omega) (by rw [hby]; omega)
  rw [Nat.zero_add] at hap
  generalize hG : grownCap w 1 0 E = G at hap
  have hGl : 1 ≤ G := by
    rw [← hG]
    unfold grownCap Question.cut
    exact Nat.le_add_right _ _
  have hcells : (([] : List Value) ++ [x]).toArray ++ Builtin.zeroCells z.cells (G - 1) = ([x].toArray ++ Array.replicate (G - 1) (z)).map encV := by
    have e0 : ∀ a : Array Value, a.map encV = a := fun a => by
      have : encV = id := rfl
      rw [this, Array.map_id]
    rw [e0, List.nil_append, zeros_one hzc]
  rw [hcells] at hap
  refine ⟨G, [x].toArray ++ Array.replicate (G - 1) (z), _, hap, ⟨by simp, ?_, hGl, ?_, fun j hj => arr_list_at [x] _ _ _ hj⟩, ?_⟩
  · simp; omega
  · exact Holds.new (enc := encV) w.drew E _
  · exact ((Below.refl w.heap.size w).drew).alloc (Nat.le_refl _) _
end Go.Proofs.Ytppdcphfphcbbab
