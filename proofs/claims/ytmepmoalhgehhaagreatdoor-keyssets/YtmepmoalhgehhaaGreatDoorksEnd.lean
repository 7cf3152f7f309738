import Derived.Deep.AppendSrc
import Derived.Laws.AppendOwn
import Derived.Test.YtmepmoalhgehhaaGreatDoorTie
import Derived.Test.YtmepmoalhgehhaaGreatDoorCards
import Derived.ChangeOld
import Derived.ChangeMaps
import Derived.ProofKit
import Derived.LaidMore
import Derived.OpenShut
import Derived.Stop.Joined
import Derived.SevenTiedAt
import Derived.Lib.LaidTab
import Derived.Test.YtmepmoalhgehhaaGreatDoorks14
set_option linter.unusedVariables false
set_option linter.unusedSimpArgs false
namespace Go.Proofs.YtmepmoalhgehhaaGreatDoor
open Go.RowKit Go.Sort Go.Deep
theorem part_size {w : World} {q : Option Addr} {n c : Nat} {b : Bs} (h : SP.PartOk w (.slice q n c) b.toList) : n = b.size := by
  obtain ⟨a, sb, so, cap, bs, h1, h2, -⟩ := h
  cases h1
  rw [Array.ext' h2]
theorem part_conv {w : World} {q : Option Addr} {n c : Nat} {b : Bs} (h : SP.PartOk w (.slice q n c) b.toList) : (convert 24 9 (.slice q n c)).run Tryz.prog w = .ok (.string ⟨b⟩) w := by
  obtain ⟨a, sb, so, cap, bs, h1, h2, h3, -, h5⟩ := h
  cases h1
  obtain rfl := Array.ext' h2
  rcases h5 with h5 | ⟨rfl, h6⟩
  · have hb : bs = #[] := Array.eq_empty_of_size_eq_zero h5
    subst hb
    cases q with
    | none => exact run_convert_bytes_nil (P := Tryz.prog) (w := w) 24 5 slice22 int5 0 c 9 str9
    | some a => exact run_convert_bytes_back (P := Tryz.prog) w 24 9 5 a c [] slice22 int5 str9 (fun j hj => by cases hj)
  · exact SP.conv_str Tryz.prog 24 9 5 slice22 int5 str9 w sb so bs.size c bs h6 rfl
theorem beq3 (a b : Bs) : ((⟨a⟩ : ByteArray).toList == (⟨b⟩ : ByteArray).toList) = decide (a = b) := by
  by_cases h : a = b
  · subst h
    simp
  · rw [decide_eq_false h]
    have : ¬ ((⟨a⟩ : ByteArray).toList = (⟨b⟩ : ByteArray).toList) := fun e => by
      rw [ByteArray.toList_eq, ByteArray.toList_eq] at e
      exact h (Array.toList_inj.1 e)
    simpa using this
/-- What Lies answers. -/
def liesT (root leaf : Bs) (n i : Int) (S : Nat → Bs) (m : Nat) : Bool :=
  if (1 ≤ n ∧ n ≤ 1048576) ∧ (0 ≤ i ∧ i ≤ n - 1) ∧ (∀ j, j < m → (S j).size = 32) then (lead leaf (revL S m) n.toNat i.toNat).2 && decide ((lead leaf (revL S m) n.toNat i.toNat).1 = root) else false
end Go.Proofs.YtmepmoalhgehhaaGreatDoor
namespace Go.Proofs.YtmepmoalhgehhaaGreatDoor
open Go.RowKit Go.Sort Go.Deep
theorem zeros_one {z : Value} (e : z.cells = #[z]) (n : Nat) : Builtin.zeroCells z.cells n = Array.replicate n z := by
  unfold Builtin.zeroCells
  rw [e]
  apply Array.ext
  · simp
  · intro k h2 h3
    simp [Nat.mod_one]
def encV (v : Value) : Value := v
theorem slice46 : Tryz.prog.underlying 33 = some (.slice 24) := by kernel_rfl
theorem slice45 : Tryz.prog.underlying 38 = some (.slice 9) := by kernel_rfl
theorem info23 : (Tryz.prog.info? 24).map (fun i => (i.zero, i.size, i.bytes)) = some (some (.slice none 0 0), 1, 24) := by kernel_rfl
theorem info9 : (Tryz.prog.info? 9).map (fun i => (i.zero, i.size, i.bytes)) = some (some (.string ⟨#[]⟩), 1, 16) := by kernel_rfl
/-- A list of values of one's own, in block g. -/
structure ListAt (w : World) (g cap : Nat) (vs : List Value) (cur : Array Value) : Prop where
  lt : g < w.heap.size
  size : cur.size = cap
  fits : vs.length ≤ cap
  holds : Holds encV w g 0 cur
  front : ∀ j, j < vs.length → cur[j]! = vs[j]!
theorem ListAt.below {w w1 : World} {g cap : Nat} {vs : List Value} {cur : Array Value} (h : ListAt w g cap vs cur) (k : Below w.heap.size w w1) : ListAt w1 g cap vs cur :=
  ⟨Nat.lt_of_lt_of_le h.lt k.size, h.size, h.fits, Holds.below h.holds k h.lt, h.front⟩
theorem val_front (a b : List Value) (j : Nat) (h : j < a.length) : (a ++ b)[j]! = a[j]! := by
  rw [getElem!_pos (a ++ b) j (by rw [List.length_append]; omega), getElem!_pos a j h, List.getElem_append_left h]
theorem val_last (a : List Value) (x : Value) : (a ++ [x])[a.length]! = x := by
  rw [getElem!_pos (a ++ [x]) a.length (by simp)]
  simp
theorem arr_list_at (T : List Value) (n j : Nat) (z : Value) (h : j < T.length) : (T.toArray ++ Array.replicate n z)[j]! = T[j]! := by
  rw [getElem!_pos _ j (by simp; omega), getElem!_pos T j h, Array.getElem_append_left (by simpa using h)]
  simp
theorem src_oneG {w : World} {T E : TypeId} (hT : Tryz.prog.underlying T = some (.slice E)) {r : Nat} {x : Value} (hx : w.cell? ⟨r, 0, none⟩ = some x) (h1 : x.oneCell' = true) : Src Tryz.prog 1 T (.slice (some ⟨r, 0, none⟩) 1 1) 1 [x] w := by
  refine Src.ofSlice w hT ⟨r, 0, none⟩ 1 1 _ rfl (fun j u hj => ?_) (fun u hu => ?_)
  · cases j with
    | zero =>
      have : u = x := by simpa using hj.symm
      rw [this]
      exact hx
    | succ j => simp at hj
  · have : u = x := by simpa using hu
    rw [this]
    exact h1
/-- 'append(l, x)', l a list of slices of one's own. -/
theorem append_valS {T E : TypeId} {z : Value} (hT : Tryz.prog.underlying T = some (.slice E)) (hE : (Tryz.prog.info? E).map (fun i => (i.zero, i.size, i.bytes)) = some (some z, 1, 16)) (hzc : z.cells = #[z]) {w : World} {g cap r : Nat} {vs : List Value} {cur : Array Value} {x : Value} (h : ListAt w g cap vs cur) (hx : w.cell? ⟨r, 0, none⟩ = some x) (h1 : x.oneCell' = true) (hbig : vs.length ≤ 1048576) :
    ∃ g' cap' cur' w', (Builtin.append_ #[T, T] T #[.slice (some ⟨g, 0, none⟩) vs.length cap, .slice (some ⟨r, 0, none⟩) 1 1]).run Tryz.prog w = .ok (.slice (some ⟨g', 0, none⟩) (vs.length + 1) cap') w' ∧
      ListAt w' g' cap' (vs ++ [x]) cur' ∧ Only g 0 cap w w' ∧ (g' = g ∨ w.heap.size ≤ g') := by
  obtain ⟨i, hi, hz, hsz, hby⟩ := info_parts hE
  have hsrc := src_oneG hT (r := r) hx h1
  by_cases hroom : vs.length + 1 ≤ cap
  · have hap := run_append_room_src (P := Tryz.prog) w T T T E i hT hi g 0 vs.length cap (.slice (some ⟨r, 0, none⟩) 1 1) 1 [x] (by rw [hsz]; exact hsrc) hroom
      (fun j hj => by
        have hj0 : j = 0 := by simpa using hj
        subst hj0
        rw [hsz, Nat.mul_one, Nat.add_zero, (h.holds vs.length (by rw [h.size]; omega)).1]; rfl)
      (fun j hj => by
        have hj0 : j = 0 := by simpa using hj
        subst hj0
        rw [hsz, Nat.mul_one, Nat.add_zero]
        exact (h.holds vs.length (by rw [h.size]; omega)).2)
    rw [hsz, Nat.mul_one, Nat.zero_add] at hap
    have hset : w.setCells g vs.length [x] = w.setCell ⟨g, vs.length, none⟩ x := rfl
    rw [hset] at hap
    have hH := Holds.set h.holds (i := vs.length) (by rw [h.size]; omega) x
    rw [Nat.zero_add] at hH
    refine ⟨g, cap, cur.setIfInBounds vs.length x, _, hap, ⟨by rw [World.size_setCell]; exact h.lt, by rw [Array.size_setIfInBounds, h.size], by rw [List.length_append]; exact hroom, hH, fun j hj => ?_⟩, (Only.refl _ _ _ _).setCell (by omega) (by omega) _, Or.inl rfl⟩
    rw [List.length_append, List.length_singleton] at hj
    by_cases hj1 : j = vs.length
    · rw [hj1, val_last, getElem!_set_same _ _ _ (by rw [h.size]; omega)]
    · rw [getElem!_set_other _ _ _ _ hj1, val_front _ _ _ (by omega), h.front j (by omega)]
  · have hold : (Builtin.firstCells i.size vs.length (.slice (some ⟨g, 0, none⟩) vs.length cap)).run Tryz.prog w.drew = .ok vs.toArray w.drew := by
      rw [hsz]
      refine run_firstCells_some w.drew 1 vs.length ⟨g, 0, none⟩ vs.length cap vs (by rw [Nat.mul_one]) (fun j u hj => ?_)
      obtain ⟨h2, h3⟩ := List.getElem?_eq_some_iff.1 hj
      have hc := (h.holds j (by rw [h.size]; have := h.fits; omega)).1
      rw [h.front j h2, getElem!_pos vs j h2, h3] at hc
      have e1 : (⟨g, 0, none⟩ : Addr).add j = ⟨g, 0 + j, none⟩ := by
        unfold Addr.add
        by_cases h0 : j = 0
        · subst h0; rw [if_pos rfl]
        · rw [if_neg h0]
      rw [e1, World.cell?_drew, hc]
      rfl
    have hf := h.fits
    have hnc : Builtin.nextslicecap (vs.length + 1) cap ≤ 2 * (vs.length + 1) + 768 := by
      unfold Builtin.nextslicecap
      split
      · omega
      · split
        · omega
        · simp only [Builtin.growBy]
          repeat' split
          all_goals omega
    have hap := run_append_grow_src (P := Tryz.prog) w T T T E i z hT hi hz (some ⟨g, 0, none⟩) vs.length cap vs hold _ 1 [x] (by rw [hsz]; exact hsrc) (by omega) (by omega) (by rw [hby]; omega)
    generalize hG : grownCap w (vs.length + 1) cap E = G at hap
    have hGl : vs.length + 1 ≤ G := by
      rw [← hG]
      unfold grownCap Question.cut
      exact Nat.le_add_right _ _
    have hcells : (vs ++ [x]).toArray ++ Builtin.zeroCells z.cells (G - (vs.length + 1)) = ((vs ++ [x]).toArray ++ Array.replicate (G - (vs.length + 1)) (z)).map encV := by
      have e0 : ∀ a : Array Value, a.map encV = a := fun a => by
        have : encV = id := rfl
        rw [this, Array.map_id]
      rw [e0, zeros_one hzc]
    rw [hcells] at hap
    refine ⟨w.heap.size, G, (vs ++ [x]).toArray ++ Array.replicate (G - (vs.length + 1)) (z), _, hap, ⟨by simp, ?_, by rw [List.length_append]; exact hGl, ?_, fun j hj => arr_list_at _ _ _ _ hj⟩, ?_, Or.inr (Nat.le_refl _)⟩
    · simp; omega
    · exact Holds.new (enc := encV) w.drew E _
    · exact (Only.refl g 0 cap w).drew.alloc h.lt _
/-- .. and the first of them. -/
theorem append_firstS {T E : TypeId} {z : Value} (hT : Tryz.prog.underlying T = some (.slice E)) (hE : (Tryz.prog.info? E).map (fun i => (i.zero, i.size, i.bytes)) = some (some z, 1, 16)) (hzc : z.cells = #[z]) {w : World} {r : Nat} {x : Value} (hx : w.cell? ⟨r, 0, none⟩ = some x) (h1 : x.oneCell' = true) :
    ∃ cap' cur' w', (Builtin.append_ #[T, T] T #[.slice none 0 0, .slice (some ⟨r, 0, none⟩) 1 1]).run Tryz.prog w = .ok (.slice (some ⟨w.heap.size, 0, none⟩) 1 cap') w' ∧
      ListAt w' w.heap.size cap' [x] cur' ∧ Below w.heap.size w w' := by
  obtain ⟨i, hi, hz, hsz, hby⟩ := info_parts hE
  have hsrc := src_oneG hT (r := r) hx h1
  have hold : (Builtin.firstCells i.size 0 (.slice none 0 0)).run Tryz.prog w.drew = .ok ([] : List Value).toArray w.drew := run_firstCells_none w.drew i.size 0 0 0
  have hnc : Builtin.nextslicecap (0 + 1) 0 ≤ 770 := by decide
  have hap := run_append_grow_src (P := Tryz.prog) w T T T E i z hT hi hz none 0 0 [] hold _ 1 [x] (by rw [hsz]; exact hsrc) (by omega) (by omega) (by rw [hby]; omega)
  rw [Nat.zero_add] at hap
  generalize hG : grownCap w 1 0 E = G at hap
  have hGl : 1 ≤ G := by
    rw [← hG]
    unfold grownCap Question.cut
    exact Nat.le_add_right _ _
  have hcells : (([] : List Value) ++ [x]).toArray ++ Builtin.zeroCells z.cells (G - 1) = ([x].toArray ++ Array.replicate (G - 1) (z)).map encV := by
    have e0 : ∀ a : Array Value, a.map encV = a := fun a => by
      have : encV = id := rfl
      rw [this, Array.map_id]
    rw [e0, List.nil_append, zeros_one hzc]
  rw [hcells] at hap
  refine ⟨G, [x].toArray ++ Array.replicate (G - 1) (z), _, hap, ⟨by simp, ?_, hGl, ?_, fun j hj => arr_list_at [x] _ _ _ hj⟩, ?_⟩
  · simp; omega
  · exact Holds.new (enc := encV) w.drew E _
  · exact ((Below.refl w.heap.size w).drew).alloc (Nat.le_refl _) _
/-- 'append(l, x)', l a list of slices of one's own. -/
theorem append_valL {T E : TypeId} {z : Value} (hT : Tryz.prog.underlying T = some (.slice E)) (hE : (Tryz.prog.info? E).map (fun i => (i.zero, i.size, i.bytes)) = some (some z, 1, 24)) (hzc : z.cells = #[z]) {w : World} {g cap r : Nat} {vs : List Value} {cur : Array Value} {x : Value} (h : ListAt w g cap vs cur) (hx : w.cell? ⟨r, 0, none⟩ = some x) (h1 : x.oneCell' = true) (hbig : vs.length ≤ 1048576) :
    ∃ g' cap' cur' w', (Builtin.append_ #[T, T] T #[.slice (some ⟨g, 0, none⟩) vs.length cap, .slice (some ⟨r, 0, none⟩) 1 1]).run Tryz.prog w = .ok (.slice (some ⟨g', 0, none⟩) (vs.length + 1) cap') w' ∧
      ListAt w' g' cap' (vs ++ [x]) cur' ∧ Only g 0 cap w w' ∧ (g' = g ∨ w.heap.size ≤ g') := by
  obtain ⟨i, hi, hz, hsz, hby⟩ := info_parts hE
  have hsrc := src_oneG hT (r := r) hx h1
  by_cases hroom : vs.length + 1 ≤ cap
  · have hap := run_append_room_src (P := Tryz.prog) w T T T E i hT hi g 0 vs.length cap (.slice (some ⟨r, 0, none⟩) 1 1) 1 [x] (by rw [hsz]; exact hsrc) hroom
      (fun j hj => by
        have hj0 : j = 0 := by simpa using hj
        subst hj0
        rw [hsz, Nat.mul_one, Nat.add_zero, (h.holds vs.length (by rw [h.size]; omega)).1]; rfl)
      (fun j hj => by
        have hj0 : j = 0 := by simpa using hj
        subst hj0
        rw [hsz, Nat.mul_one, Nat.add_zero]
        exact (h.holds vs.length (by rw [h.size]; omega)).2)
    rw [hsz, Nat.mul_one, Nat.zero_add] at hap
    have hset : w.setCells g vs.length [x] = w.setCell ⟨g, vs.length, none⟩ x := rfl
    rw [hset] at hap
    have hH := Holds.set h.holds (i := vs.length) (by rw [h.size]; omega) x
    rw [Nat.zero_add] at hH
    refine ⟨g, cap, cur.setIfInBounds vs.length x, _, hap, ⟨by rw [World.size_setCell]; exact h.lt, by rw [Array.size_setIfInBounds, h.size], by rw [List.length_append]; exact hroom, hH, fun j hj => ?_⟩, (Only.refl _ _ _ _).setCell (by omega) (by omega) _, Or.inl rfl⟩
    rw [List.length_append, List.length_singleton] at hj
    by_cases hj1 : j = vs.length
    · rw [hj1, val_last, getElem!_set_same _ _ _ (by rw [h.size]; omega)]
    · rw [getElem!_set_other _ _ _ _ hj1, val_front _ _ _ (by omega), h.front j (by omega)]
  · have hold : (Builtin.firstCells i.size vs.length (.slice (some ⟨g, 0, none⟩) vs.length cap)).run Tryz.prog w.drew = .ok vs.toArray w.drew := by
      rw [hsz]
      refine run_firstCells_some w.drew 1 vs.length ⟨g, 0, none⟩ vs.length cap vs (by rw [Nat.mul_one]) (fun j u hj => ?_)
      obtain ⟨h2, h3⟩ := List.getElem?_eq_some_iff.1 hj
      have hc := (h.holds j (by rw [h.size]; have := h.fits; omega)).1
      rw [h.front j h2, getElem!_pos vs j h2, h3] at hc
      have e1 : (⟨g, 0, none⟩ : Addr).add j = ⟨g, 0 + j, none⟩ := by
        unfold Addr.add
        by_cases h0 : j = 0
        · subst h0; rw [if_pos rfl]
        · rw [if_neg h0]
      rw [e1, World.cell?_drew, hc]
      rfl
    have hf := h.fits
    have hnc : Builtin.nextslicecap (vs.length + 1) cap ≤ 2 * (vs.length + 1) + 768 := by
      unfold Builtin.nextslicecap
      split
      · omega
      · split
        · omega
        · simp only [Builtin.growBy]
          repeat' split
          all_goals omega
    have hap := run_append_grow_src (P := Tryz.prog) w T T T E i z hT hi hz (some ⟨g, 0, none⟩) vs.length cap vs hold _ 1 [x] (by rw [hsz]; exact hsrc) (by omega) (by omega) (by rw [hby]; omega)
    generalize hG : grownCap w (vs.length + 1) cap E = G at hap
    have hGl : vs.length + 1 ≤ G := by
      rw [← hG]
      unfold grownCap Question.cut
      exact Nat.le_add_right _ _
    have hcells : (vs ++ [x]).toArray ++ Builtin.zeroCells z.cells (G - (vs.length + 1)) = ((vs ++ [x]).toArray ++ Array.replicate (G - (vs.length + 1)) (z)).map encV := by
      have e0 : ∀ a : Array Value, a.map encV = a := fun a => by
        have : encV = id := rfl
        rw [this, Array.map_id]
      rw [e0, zeros_one hzc]
    rw [hcells] at hap
    refine ⟨w.heap.size, G, (vs ++ [x]).toArray ++ Array.replicate (G - (vs.length + 1)) (z), _, hap, ⟨by simp, ?_, by rw [List.length_append]; exact hGl, ?_, fun j hj => arr_list_at _ _ _ _ hj⟩, ?_, Or.inr (Nat.le_refl _)⟩
    · simp; omega
    · exact Holds.new (enc := encV) w.drew E _
    · exact (Only.refl g 0 cap w).drew.alloc h.lt _
/-- .. and the first of them. -/
theorem append_firstL {T E : TypeId} {z : Value} (hT : Tryz.prog.underlying T = some (.slice E)) (hE : (Tryz.prog.info? E).map (fun i => (i.zero, i.size, i.bytes)) = some (some z, 1, 24)) (hzc : z.cells = #[z]) {w : World} {r : Nat} {x : Value} (hx : w.cell? ⟨r, 0, none⟩ = some x) (h1 : x.oneCell' = true) :
    ∃ cap' cur' w', (Builtin.append_ #[T, T] T #[.slice none 0 0, .slice (some ⟨r, 0, none⟩) 1 1]).run Tryz.prog w = .ok (.slice (some ⟨w.heap.size, 0, none⟩) 1 cap') w' ∧
      ListAt w' w.heap.size cap' [x] cur' ∧ Below w.heap.size w w' := by
  obtain ⟨i, hi, hz, hsz, hby⟩ := info_parts hE
  have hsrc := src_oneG hT (r := r) hx h1
  have hold : (Builtin.firstCells i.size 0 (.slice none 0 0)).run Tryz.prog w.drew = .ok ([] : List Value).toArray w.drew := run_firstCells_none w.drew i.size 0 0 0
  have hnc : Builtin.nextslicecap (0 + 1) 0 ≤ 770 := by decide
  have hap := run_append_grow_src (P := Tryz.prog) w T T T E i z hT hi hz none 0 0 [] hold _ 1 [x] (by rw [hsz]; exact hsrc) (by omega) (by omega) (by rw [hby]; omega)
  rw [Nat.zero_add] at hap
  generalize hG : grownCap w 1 0 E = G at hap
  have hGl : 1 ≤ G := by
    rw [← hG]
    unfold grownCap Question.cut
    exact Nat.le_add_right _ _
  have hcells : (([] : List Value) ++ [x]).toArray ++ Builtin.zeroCells z.cells (G - 1) = ([x].toArray ++ Array.replicate (G - 1) (z)).map encV := by
    have e0 : ∀ a : Array Value, a.map encV = a := fun a => by
      have : encV = id := rfl
      rw [this, Array.map_id]
    rw [e0, List.nil_append, zeros_one hzc]
  rw [hcells] at hap
  refine ⟨G, [x].toArray ++ Array.replicate (G - 1) (z), _, hap, ⟨by simp, ?_, hGl, ?_, fun j hj => arr_list_at [x] _ _ _ hj⟩, ?_⟩
  · simp; omega
  · exact Holds.new (enc := encV) w.drew E _
  · exact ((Below.refl w.heap.size w).drew).alloc (Nat.le_refl _) _
/-- 'append(l, x)', l a list of slices of one's own. -/
theorem append_valB {T E : TypeId} {z : Value} (hT : Tryz.prog.underlying T = some (.slice E)) (hE : (Tryz.prog.info? E).map (fun i => (i.zero, i.size, i.bytes)) = some (some z, 1, 1)) (hzc : z.cells = #[z]) {w : World} {g cap r : Nat} {vs : List Value} {cur : Array Value} {x : Value} (h : ListAt w g cap vs cur) (hx : w.cell? ⟨r, 0, none⟩ = some x) (h1 : x.oneCell' = true) (hbig : vs.length ≤ 1048576) :
    ∃ g' cap' cur' w', (Builtin.append_ #[T, T] T #[.slice (some ⟨g, 0, none⟩) vs.length cap, .slice (some ⟨r, 0, none⟩) 1 1]).run Tryz.prog w = .ok (.slice (some ⟨g', 0, none⟩) (vs.length + 1) cap') w' ∧
      ListAt w' g' cap' (vs ++ [x]) cur' ∧ Only g 0 cap w w' ∧ (vs.length + 1 ≤ cap ∧ g' = g ∨ w.heap.size ≤ g' ∧ Below w.heap.size w w') := by
  obtain ⟨i, hi, hz, hsz, hby⟩ := info_parts hE
  have hsrc := src_oneG hT (r := r) hx h1
  by_cases hroom : vs.length + 1 ≤ cap
  · have hap := run_append_room_src (P := Tryz.prog) w T T T E i hT hi g 0 vs.length cap (.slice (some ⟨r, 0, none⟩) 1 1) 1 [x] (by rw [hsz]; exact hsrc) hroom
      (fun j hj => by
        have hj0 : j = 0 := by simpa using hj
        subst hj0
        rw [hsz, Nat.mul_one, Nat.add_zero, (h.holds vs.length (by rw [h.size]; omega)).1]; rfl)
      (fun j hj => by
        have hj0 : j = 0 := by simpa using hj
        subst hj0
        rw [hsz, Nat.mul_one, Nat.add_zero]
        exact (h.holds vs.length (by rw [h.size]; omega)).2)
    rw [hsz, Nat.mul_one, Nat.zero_add] at hap
    have hset : w.setCells g vs.length [x] = w.setCell ⟨g, vs.length, none⟩ x := rfl
    rw [hset] at hap
    have hH := Holds.set h.holds (i := vs.length) (by rw [h.size]; omega) x
    rw [Nat.zero_add] at hH
    refine ⟨g, cap, cur.setIfInBounds vs.length x, _, hap, ⟨by rw [World.size_setCell]; exact h.lt, by rw [Array.size_setIfInBounds, h.size], by rw [List.length_append]; exact hroom, hH, fun j hj => ?_⟩, (Only.refl _ _ _ _).setCell (by omega) (by omega) _, Or.inl ⟨hroom, rfl⟩⟩
    rw [List.length_append, List.length_singleton] at hj
    by_cases hj1 : j = vs.length
    · rw [hj1, val_last, getElem!_set_same _ _ _ (by rw [h.size]; omega)]
    · rw [getElem!_set_other _ _ _ _ hj1, val_front _ _ _ (by omega), h.front j (by omega)]
  · have hold : (Builtin.firstCells i.size vs.length (.slice (some ⟨g, 0, none⟩) vs.length cap)).run Tryz.prog w.drew = .ok vs.toArray w.drew := by
      rw [hsz]
      refine run_firstCells_some w.drew 1 vs.length ⟨g, 0, none⟩ vs.length cap vs (by rw [Nat.mul_one]) (fun j u hj => ?_)
      obtain ⟨h2, h3⟩ := List.getElem?_eq_some_iff.1 hj
      have hc := (h.holds j (by rw [h.size]; have := h.fits; omega)).1
      rw [h.front j h2, getElem!_pos vs j h2, h3] at hc
      have e1 : (⟨g, 0, none⟩ : Addr).add j = ⟨g, 0 + j, none⟩ := by
        unfold Addr.add
        by_cases h0 : j = 0
        · subst h0; rw [if_pos rfl]
        · rw [if_neg h0]
      rw [e1, World.cell?_drew, hc]
      rfl
    have hf := h.fits
    have hnc : Builtin.nextslicecap (vs.length + 1) cap ≤ 2 * (vs.length + 1) + 768 := by
      unfold Builtin.nextslicecap
      split
      · omega
      · split
        · omega
        · simp only [Builtin.growBy]
          repeat' split
          all_goals omega
    have hap := run_append_grow_src (P := Tryz.prog) w T T T E i z hT hi hz (some ⟨g, 0, none⟩) vs.length cap vs hold _ 1 [x] (by rw [hsz]; exact hsrc) (by omega) (by omega) (by rw [hby]; omega)
    generalize hG : grownCap w (vs.length + 1) cap E = G at hap
    have hGl : vs.length + 1 ≤ G := by
      rw [← hG]
      unfold grownCap Question.cut
      exact Nat.le_add_right _ _
    have hcells : (vs ++ [x]).toArray ++ Builtin.zeroCells z.cells (G - (vs.length + 1)) = ((vs ++ [x]).toArray ++ Array.replicate (G - (vs.length + 1)) (z)).map encV := by
      have e0 : ∀ a : Array Value, a.map encV = a := fun a => by
        have : encV = id := rfl
        rw [this, Array.map_id]
      rw [e0, zeros_one hzc]
    rw [hcells] at hap
    refine ⟨w.heap.size, G, (vs ++ [x]).toArray ++ Array.replicate (G - (vs.length + 1)) (z), _, hap, ⟨by simp, ?_, by rw [List.length_append]; exact hGl, ?_, fun j hj => arr_list_at _ _ _ _ hj⟩, ?_, Or.inr ⟨Nat.le_refl _, ((Below.refl w.heap.size w).drew).alloc (Nat.le_refl _) _⟩⟩
    · simp; omega
    · exact Holds.new (enc := encV) w.drew E _
    · exact (Only.refl g 0 cap w).drew.alloc h.lt _
/-- .. and the first of them. -/
theorem append_firstB {T E : TypeId} {z : Value} (hT : Tryz.prog.underlying T = some (.slice E)) (hE : (Tryz.prog.info? E).map (fun i => (i.zero, i.size, i.bytes)) = some (some z, 1, 1)) (hzc : z.cells = #[z]) {w : World} {r : Nat} {x : Value} (hx : w.cell? ⟨r, 0, none⟩ = some x) (h1 : x.oneCell' = true) :
    ∃ cap' cur' w', (Builtin.append_ #[T, T] T #[.slice none 0 0, .slice (some ⟨r, 0, none⟩) 1 1]).run Tryz.prog w = .ok (.slice (some ⟨w.heap.size, 0, none⟩) 1 cap') w' ∧
      ListAt w' w.heap.size cap' [x] cur' ∧ Below w.heap.size w w' := by
  obtain ⟨i, hi, hz, hsz, hby⟩ := info_parts hE
  have hsrc := src_oneG hT (r := r) hx h1
  have hold : (Builtin.firstCells i.size 0 (.slice none 0 0)).run Tryz.prog w.drew = .ok ([] : List Value).toArray w.drew := run_firstCells_none w.drew i.size 0 0 0
  have hnc : Builtin.nextslicecap (0 + 1) 0 ≤ 770 := by decide
  have hap := run_append_grow_src (P := Tryz.prog) w T T T E i z hT hi hz none 0 0 [] hold _ 1 [x] (by rw [hsz]; exact hsrc) (by omega) (by omega) (by rw [hby]; omega)
  rw [Nat.zero_add] at hap
  generalize hG : grownCap w 1 0 E = G at hap
  have hGl : 1 ≤ G := by
    rw [← hG]
    unfold grownCap Question.cut
    exact Nat.le_add_right _ _
  have hcells : (([] : List Value) ++ [x]).toArray ++ Builtin.zeroCells z.cells (G - 1) = ([x].toArray ++ Array.replicate (G - 1) (z)).map encV := by
    have e0 : ∀ a : Array Value, a.map encV = a := fun a => by
      have : encV = id := rfl
      rw [this, Array.map_id]
    rw [e0, List.nil_append, zeros_one hzc]
  rw [hcells] at hap
  refine ⟨G, [x].toArray ++ Array.replicate (G - 1) (z), _, hap, ⟨by simp, ?_, hGl, ?_, fun j hj => arr_list_at [x] _ _ _ hj⟩, ?_⟩
  · simp; omega
  · exact Holds.new (enc := encV) w.drew E _
  · exact ((Below.refl w.heap.size w).drew).alloc (Nat.le_refl _) _
end Go.Proofs.YtmepmoalhgehhaaGreatDoor
namespace Go.Proofs.YtmepmoalhgehhaaGreatDoor
open Go.RowKit Go.Sort Go.Deep
def Texts (w : World) (q : Option Addr) (n : Nat) (S : Nat → ByteArray) : Prop := 0 < n → ∃ gg oo, q = some ⟨gg, oo, none⟩ ∧ gg < w.heap.size ∧ ∀ j, j < n → w.cell? ⟨gg, oo + j, none⟩ = some (.string (S j))
theorem Texts.below {w w1 : World} {q : Option Addr} {n : Nat} {S : Nat → ByteArray} (h : Texts w q n S) (hb : Below w.heap.size w w1) : Texts w1 q n S := fun hn => by
  obtain ⟨gg, oo, h1, h2, h3⟩ := h hn
  exact ⟨gg, oo, h1, Nat.lt_of_lt_of_le h2 hb.size, fun j hj => by rw [hb.cell (p := ⟨gg, oo + j, none⟩) h2]; exact h3 j hj⟩
/-- A list of bytes' slices that grows, each made of a text. -/
def AL (W : World) (B k : Nat) (v : Value) (S : Nat → ByteArray) : Prop :=
  (k = 0 ∧ v = .slice none 0 0) ∨ ∃ g cap vs cur, v = .slice (some ⟨g, 0, none⟩) k cap ∧ vs.length = k ∧ 0 < k ∧ B ≤ g ∧ ListAt W g cap vs cur ∧ ∀ j, j < k → ∃ gx c, vs[j]! = .slice (some ⟨gx, 0, none⟩) (S j).size c ∧ (S j).size ≤ c ∧ gx ≠ g ∧ gx < W.heap.size ∧ Holds encB W gx 0 (S j).data
theorem AL.below {W w1 : World} {B k : Nat} {v : Value} {S : Nat → ByteArray} (h : AL W B k v S) (hb : Below W.heap.size W w1) : AL w1 B k v S := by
  rcases h with h | ⟨g, cap, vs, cur, h1, h2, h3, h4, h5, h6⟩
  · exact Or.inl h
  · refine Or.inr ⟨g, cap, vs, cur, h1, h2, h3, h4, h5.below hb, fun j hj => ?_⟩
    obtain ⟨gx, c, e1, e2, e3, e4, e5⟩ := h6 j hj
    exact ⟨gx, c, e1, e2, e3, Nat.lt_of_lt_of_le e4 hb.size, Holds.below e5 hb e4⟩
theorem Holds.other0 {W w1 : World} {b o m g : Nat} {T : Bs} (h : Holds encB W g 0 T) (k : Only b o m W w1) (hne : g ≠ b) : Holds encB w1 g 0 T := by
  by_cases h0 : 0 < T.size
  · exact Holds.other h k hne h0
  · exact fun j hj => absurd hj (by omega)
theorem AL.push {wr W : World} {B k cap : Nat} {v : Value} {s : ByteArray} {S : Nat → ByteArray} (h : AL wr B k v S) (hB : B ≤ wr.heap.size) (hk : k ≤ 1048576) (hb : Below wr.heap.size wr W) (hlt : wr.heap.size < W.heap.size) (hc : s.size ≤ cap) (hH : Holds encB W wr.heap.size 0 s.data) (hs : s = S k) :
    ∃ v' w', (Builtin.append_ #[33, 33] 33 #[v, .slice (some ⟨W.heap.size, 0, none⟩) 1 1]).run Tryz.prog (W.alloc (.cells #[.slice (some ⟨wr.heap.size, 0, none⟩) s.size cap] 24)) = .ok v' w' ∧ AL w' B (k + 1) v' S ∧ Below B wr w' := by
  have hr : (W.alloc (.cells #[.slice (some ⟨wr.heap.size, 0, none⟩) s.size cap] 24)).cell? ⟨W.heap.size, 0, none⟩ = some (.slice (some ⟨wr.heap.size, 0, none⟩) s.size cap) := by simp
  have hb0 : Below W.heap.size W (W.alloc (.cells #[.slice (some ⟨wr.heap.size, 0, none⟩) s.size cap] 24)) := (Below.refl _ _).alloc (Nat.le_refl _) _
  have hs0 : (W.alloc (.cells #[.slice (some ⟨wr.heap.size, 0, none⟩) s.size cap] 24)).heap.size = W.heap.size + 1 := by simp
  have hx1 : (Value.slice (some ⟨wr.heap.size, 0, none⟩) s.size cap).oneCell' = true := rfl
  have hb1 : Below wr.heap.size wr (W.alloc (.cells #[.slice (some ⟨wr.heap.size, 0, none⟩) s.size cap] 24)) := hb.trans (hb0.mono (by omega))
  have hH1 := Holds.below hH hb0 hlt
  rcases h with ⟨rfl, rfl⟩ | ⟨g, cp, vs, cur, rfl, h2, h3, h4, h5, h6⟩
  · obtain ⟨cap', cur', w', hap, hL, hb2⟩ := append_firstL slice46 info23 rfl hr hx1
    refine ⟨_, w', hap, Or.inr ⟨_, cap', _, cur', rfl, rfl, by omega, by omega, hL, fun j hj => ?_⟩, (hb1.mono hB).trans (hb2.mono (by omega))⟩
    have hj0 : j = 0 := by omega
    subst hj0
    have := hb2.size
    exact ⟨wr.heap.size, cap, by rw [← hs]; rfl, by rw [← hs]; exact hc, by omega, by omega, by rw [← hs]; exact Holds.below hH1 hb2 (by omega)⟩
  · have hg := h5.lt
    have h5' := h5.below hb1
    subst h2
    obtain ⟨g', cap', cur', w', hap, hL, hO, hg'⟩ := append_valL slice46 info23 rfl h5' hr hx1 hk
    have hsz := hO.size
    refine ⟨_, w', hap, Or.inr ⟨g', cap', _, cur', rfl, by rw [List.length_append]; rfl, by omega, by omega, hL, fun j hj => ?_⟩, (hb1.mono hB).trans (hO.below (by omega) h4)⟩
    by_cases hj1 : j = vs.length
    · subst hj1
      rw [val_last, ← hs]
      exact ⟨wr.heap.size, cap, rfl, hc, by omega, by omega, Holds.other0 hH1 hO (by omega)⟩
    · obtain ⟨gy, d, e1, e2, e3, e4, e5⟩ := h6 j (by omega)
      rw [val_front _ _ _ (by omega)]
      exact ⟨gy, d, e1, e2, by omega, by omega, Holds.other0 (Holds.below e5 hb1 e4) hO e3⟩
end Go.Proofs.YtmepmoalhgehhaaGreatDoor
namespace Go.Proofs.YtmepmoalhgehhaaGreatDoor
open Go.RowKit Go.Sort Go.Deep
theorem frames1 (l x : List UInt8) : (SP.framesL l [x]).length = l.length + x.length + 8 := by
  unfold SP.framesL
  simp [SP.frameL_length]
  omega
theorem framesT (l x y : List UInt8) : (SP.framesL l [x, y]).length = l.length + x.length + y.length + 12 := by
  unfold SP.framesL
  simp [SP.frameL_length]
  omega
theorem hf_pow {n k : Nat} (h1 : 2 ^ k < n) (h2 : n ≤ 2 * 2 ^ k) : hf n = 2 ^ k := by
  unfold hf
  have : Nat.log2 (n - 1) = k := (Nat.log2_eq_iff (by have := Nat.two_pow_pos k; omega)).2 ⟨by omega, by rw [Nat.pow_succ]; omega⟩
  rw [this]
theorem leafH_size (b : Bs) : (leafH b).size = 32 := by unfold leafH; exact SP.tagL_size _ _
theorem nodeH_size (a b : Bs) : (nodeH a b).size = 32 := by unfold nodeH; exact SP.tagL_size _ _
theorem pr32 {T : Bs} {b : Bool} (h : T.size = 32) : ((T, b) : Bs × Bool).1.size ≤ 32 := by
  show T.size ≤ 32
  omega
theorem lead_size (lb : Bs) : ∀ (l : List Bs) (n i : Nat), (lead lb l n i).1.size ≤ 32
  | [], n, i => by
    rw [lead]
    by_cases h : n = 1
    · rw [if_pos h]
      exact pr32 (leafH_size lb)
    · rw [if_neg h]
      exact Nat.zero_le _
  | e :: r, n, i => by
    rw [lead]
    by_cases h : n = 1
    · rw [if_pos h]
      exact pr32 (leafH_size lb)
    · rw [if_neg h]
      by_cases h2 : hf n ≤ i
      · rw [if_pos h2]
        exact pr32 (nodeH_size _ _)
      · rw [if_neg h2]
        exact pr32 (nodeH_size _ _)
end Go.Proofs.YtmepmoalhgehhaaGreatDoor
namespace Go.Proofs.YtmepmoalhgehhaaGreatDoor
open Go.RowKit Go.Sort Go.Deep
variable {N : Nat}
/-- What Scalar answers. -/
def ksB (N : Nat) (S : Nat → Nat) (k : Bs) (n : Nat) (l : List UInt8) : Bs := if k.size = 32 ∧ n ≤ 16 then bx (kSc N (derH S k n l)) else #[]
end Go.Proofs.YtmepmoalhgehhaaGreatDoor
namespace Go.Proofs.YtmepmoalhgehhaaGreatDoor
open Go.RowKit Go.Sort Go.Deep
set_option maxHeartbeats 1000000 in
theorem rfour_c (n : Nat) (hn : n < 4294967296) (w : World) : Calls Tryz.prog 54 #[.int .u32 (n : Int)] w (Ret fun e w' => Below w.heap.size w w' ∧ e = .string ⟨num4 n⟩) := by
  have b00 : (n : Int) / 16777216 % 256 = SP.ub (SP.lenB n 16777216) := SP.lenB_int n 16777216
  have b0 : (n : Int) / 16777216 = SP.ub (SP.lenB n 16777216) := by omega
  clear b00
  have b1 : (n : Int) / 65536 % 256 = SP.ub (SP.lenB n 65536) := SP.lenB_int n 65536
  have b2 : (n : Int) / 256 % 256 = SP.ub (SP.lenB n 256) := SP.lenB_int n 256
  have b3 : (n : Int) % 256 = SP.ub (SP.lenB n 1) := SP.lenB_one n
  have h4 := SP.holds_four w (SP.lenB n 16777216) (SP.lenB n 65536) (SP.lenB n 256) (SP.lenB n 1)
  have hcv := SP.conv_str Tryz.prog 24 9 5 slice22 int5 str9 _ _ 0 4 4 _ h4 rfl
  have HN : Hid (num4 n = #[SP.lenB n 16777216, SP.lenB n 65536, SP.lenB n 256, SP.lenB n 1]) := rfl
  rw [HN.out]
  generalize SP.lenB n 16777216 = x0 at *
  generalize SP.lenB n 65536 = x1 at *
  generalize SP.lenB n 256 = x2 at *
  generalize SP.lenB n 1 = x3 at *
  have hb0 : Below w.heap.size w (w.alloc (.cells #[.int .u8 (SP.ub x0), .int .u8 (SP.ub x1), .int .u8 (SP.ub x2), .int .u8 (SP.ub x3)] 5)) := (Below.refl _ _).alloc (Nat.le_refl _) _
  clear h4 HN
  go_enter Tryz.func54, Tryz.ntmps54
  go_wp2
  go_ret
  exact ⟨_, rfl, hb0, rfl⟩
/-- The reference's Tag of two texts that lie in a new row. -/
theorem rtag2 (lab s t : ByteArray) (hlab : lab.size ≤ 16) (hs : s.size ≤ 65536) (ht : t.size ≤ 65536) (w : World) :
    Calls Tryz.prog 25 #[.string lab, .slice (some ⟨w.heap.size, 0, none⟩) 2 2] (w.alloc (.cells #[.string s, .string t] 9)) fun e w' => e = .returned (.string ⟨SP.tagL lab.data.toList [s.data.toList, t.data.toList]⟩) ∧ Below w.heap.size w w' := by
  have hM' := RG.Made.alloc w [.string s, .string t] 9
  have hl : s.data.toList.length = s.size := by rw [Array.length_toList]; rfl
  have hl2 : t.data.toList.length = t.size := by rw [Array.length_toList]; rfl
  have hl3 : lab.data.toList.length = lab.size := by rw [Array.length_toList]; rfl
  refine (SP.refTag_any lab (some ⟨w.heap.size, 0, none⟩) 2 [s, t] _ (by omega) (Nat.le_of_ble_eq_true rfl) (Or.inr ⟨_, _, rfl, fun j hj => ?_⟩) (fun j hj => ?_) ?_).mono ?_
  · have hj2 : j = 0 ∨ j = 1 := by simp at hj; omega
    rcases hj2 with rfl | rfl
    · exact hM'.range 0 _ rfl
    · exact hM'.range 1 _ rfl
  · have hj2 : j = 0 ∨ j = 1 := by simp at hj; omega
    rcases hj2 with rfl | rfl
    · show s.size ≤ _; omega
    · show t.size ≤ _; omega
  · show (SP.framesL lab.data.toList [s.data.toList, t.data.toList]).length ≤ _
    rw [framesT, hl, hl2, hl3]
    omega
  · rintro e w2 ⟨rfl, hb⟩
    exact ⟨rfl, hM'.bel.trans (hb.mono hM'.bel.size)⟩
theorem num4_le (n : Nat) : (num4 n).size ≤ 65536 := Nat.le_of_ble_eq_true rfl
theorem down_le (S : Nat → Nat) (k : Bs) (h : k.size ≤ 65536) : ∀ j, (downH S k j).size ≤ 65536
  | 0 => h
  | j + 1 => by rw [downH]; unfold childH; rw [SP.tagL_size]; decide
set_option maxHeartbeats 600000 in
theorem rDerive_c (s lab : ByteArray) (hlab : lab.size ≤ 65536) (q : Option Addr) (n c : Nat) (S : Nat → Nat) (w : World) (hn : n ≤ 1048576) (hN : NumsK w q n S) :
    Calls Tryz.prog 29 #[.string s, .string lab, .slice q n c] w (Ret fun e w' => Below w.heap.size w w' ∧ e = .tuple #[.string ⟨kdB S s.data n lab.data.toList⟩, .int .i64 (kdE s.data n : Int)]) := by
  by_cases h1 : s.data.size = 32
  · have g1 : (s.size : Int) = 32 := by show ((s.data.size : Nat) : Int) = 32; omega
    by_cases h2 : n ≤ 16
    · have g2 : ¬ (16 : Int) < (n : Int) := by omega
      have hE : kdE s.data n = 0 := by unfold kdE; rw [if_pos h1, if_pos h2]
      have hB : kdB S s.data n lab.data.toList = derH S s.data n lab.data.toList := by unfold kdB; rw [if_pos h1, if_pos h2]
      rw [hE, hB]
      have HN : Hid (NumsK w q n S ∧ s.data.size = 32) := ⟨hN, h1⟩
      clear hN hE hB h1
      go_enter Tryz.func29, Tryz.ntmps29
      go_wp2
      go_loopg [8, 9] n (fun g s8 s9 W => ∃ (i : Nat) (k : Bs), i + g = n ∧ s8 = .string ⟨k⟩ ∧ s9 = .int .i64 (i : Int) ∧ Hid (Below w.heap.size w W ∧ k = downH S s.data i))
      case atStart => exact ⟨0, s.data, by omega, rfl, rfl, Below.refl _ _, rfl⟩
      case round =>
        obtain ⟨i, k, him, rfl, rfl, HB⟩ := hrel
        have hk : k.size ≤ 65536 := by rw [HB.out.2]; exact down_le S s.data (by have := HN.out.2; omega) i
        by_cases hi : i < n
        · have hi' : (i : Int) < (n : Int) := by omega
          obtain ⟨gg, oo, rfl, hgg, hc⟩ := HN.out.1.2 (by omega)
          have hv : wr.cell? ⟨gg, oo + i, none⟩ = some (.int .u32 (S i : Int)) := by rw [HB.out.1.cell (p := ⟨gg, oo + i, none⟩) hgg]; exact hc i hi
          have hix : ∀ w : World, (Instr.indexAt 68 (.slice (some ⟨gg, oo, none⟩) n c) (.int .i64 (i : Int))).run Tryz.prog w = .ok (.pointer (some ⟨gg, oo + i, none⟩)) w := fun w => by
            have h1 : ¬ (i : Int) < 0 := by omega
            have h2 : (i : Int) < (n : Int) := by omega
            go_simp
          have hnu := rfour_c (S i) (HN.out.1.1 i hi) wr
          have HD : Hid (SP.tagL [99, 104, 105, 108, 100] [k.toList, (num4 (S i)).toList] = downH S s.data (i + 1)) := by show _ = _; rw [HB.out.2]; rfl
          have HT := Hid.mk2 (fun w => rtag2 ⟨#[99, 104, 105, 108, 100]⟩ ⟨k⟩ ⟨num4 (S i)⟩ (by decide) hk (num4_le _) w)
          clear hc hgg hk
          generalize S i = x at hv hnu HD HT
          go_wp2_with fail
          refine hnu.mono ?_
          rintro e w2 ⟨v2, rfl, hb2, rfl⟩
          have K2 : Hid (Below w.heap.size w w2) := HB.out.1.trans (hb2.mono HB.out.1.size)
          have hT := HT.out w2
          clear hb2 hnu HB HT
          generalize num4 x = y at hT HD ⊢
          go_wp2_with fail
          refine hT.mono ?_
          rintro e w3 ⟨rfl, hb3⟩
          have K3 : Hid (Below w.heap.size w w3) := K2.out.trans (hb3.mono K2.out.size)
          clear hb3 hT K2
          go_wp2
          go_roundg (gk - 1)
          case measure => omega
          case rel => exact ⟨i + 1, SP.tagL [99, 104, 105, 108, 100] [k.toList, y.toList], by omega, rfl, rfl, K3.out, HD.out⟩
        · have hi' : ¬ (i : Int) < (n : Int) := by omega
          obtain rfl : i = n := by omega
          have HT := Hid.mk2 (rtag2 ⟨#[107, 101, 121]⟩ ⟨k⟩ lab (by decide) hk hlab wr)
          have HR : Hid (SP.tagL [107, 101, 121] [k.toList, lab.data.toList] = derH S s.data i lab.data.toList) := by show _ = _; rw [HB.out.2]; rfl
          have K1 := Hid.mk2 HB.out.1
          clear hk HB
          go_wp2_with fail
          refine HT.out.mono ?_
          rintro e w3 ⟨rfl, hb3⟩
          have K3 : Hid (Below w.heap.size w w3) := K1.out.trans (hb3.mono K1.out.size)
          clear hb3 HT K1
          go_wp2
          go_ret2
          exact ⟨_, rfl, K3.out, by rw [← HR.out]; rfl⟩
    · have g2 : (16 : Int) < (n : Int) := by omega
      have hE : kdE s.data n = 1 := by unfold kdE; rw [if_pos h1, if_neg h2]
      have hB : kdB S s.data n lab.data.toList = #[] := by unfold kdB; rw [if_pos h1, if_neg h2]
      rw [hE, hB]
      clear hN h1
      go_enter Tryz.func29, Tryz.ntmps29
      go_wp2
      go_ret2
      exact ⟨_, rfl, Below.refl _ _, rfl⟩
  · have g1 : ¬ (s.size : Int) = 32 := by show ¬ ((s.data.size : Nat) : Int) = 32; omega
    have g0 : ((s.size : Int) == 32) = false := by simpa using g1
    have hE : kdE s.data n = 2 := by unfold kdE; rw [if_neg h1]
    have hB : kdB S s.data n lab.data.toList = #[] := by unfold kdB; rw [if_neg h1]
    rw [hE, hB]
    clear hN h1
    go_enter Tryz.func29, Tryz.ntmps29
    go_wp2
    go_ret2
    exact ⟨_, rfl, Below.refl _ _, rfl⟩
end Go.Proofs.YtmepmoalhgehhaaGreatDoor
namespace Go.Proofs.YtmepmoalhgehhaaGreatDoor
open Go.RowKit Go.Sort Go.Deep
theorem addK0 (g o j : Nat) : (⟨g, o, none⟩ : Addr).add j = ⟨g, o + j, none⟩ := by
  unfold Addr.add
  by_cases h0 : j = 0
  · subst h0; rw [if_pos rfl]; rfl
  · rw [if_neg h0]
theorem slice32 : Tryz.prog.underlying 68 = some (.slice 22) := by kernel_rfl
theorem info32 : (Tryz.prog.info? 22).map (fun i => (i.zero, i.size, i.bytes)) = some (some (.int .u32 0), 1, 4) := by kernel_rfl
/-- 'append([]uint32{}, path...)': a copy. -/
theorem app_u32 (q : Option Addr) (m c : Nat) (S : Nat → Nat) (w : World) (hm : m ≤ 1100) (hN : NumsK w q m S) :
    ∃ q' cap' w', (Builtin.append_ #[68, 68] 68 #[.slice (some ⟨w.heap.size, 0, none⟩) 0 0, .slice q m c]).run Tryz.prog (w.alloc (.cells #[] 22)) = .ok (.slice q' m cap') w' ∧ Below w.heap.size w w' ∧ NumsK w' q' m S := by
  obtain ⟨i, hi, hz, hsz, hby⟩ := info_parts info32
  have hb0 : Below w.heap.size w (w.alloc (.cells #[] 22)) := (Below.refl _ _).alloc (Nat.le_refl _) _
  by_cases h0 : m = 0
  · subst h0
    have hs : Src Tryz.prog i.size 68 (.slice q 0 c) 0 [] (w.alloc (.cells #[] 22)) := by
      cases q with
      | none => exact Src.ofNil (e' := 22) _ slice32 c
      | some a => exact Src.ofSlice (e' := 22) _ slice32 a 0 c [] (by simp) (fun j u hj => by simp at hj) (fun u hu => by cases hu)
    have hap := run_append_room_src (P := Tryz.prog) (w.alloc (.cells #[] 22)) 68 68 68 22 i slice32 hi w.heap.size 0 0 0 (.slice q 0 c) 0 [] hs (Nat.le_refl _) (fun j hj => by cases hj) (fun j hj => by cases hj)
    exact ⟨_, _, _, hap, hb0, fun j hj => absurd hj (by omega), fun h => absurd h (by omega)⟩
  · obtain ⟨gg, oo, rfl, hgg, hc⟩ := hN.2 (by omega)
    have hown : (w.alloc (.cells #[] 22)).ownsRow w.heap.size 22 1 (.slice (some ⟨w.heap.size, 0, none⟩) 0 0) 0 [] := ⟨rfl, .inr ⟨w.heap.size, 0, #[], rfl, Nat.le_refl _, Array.getElem?_push_size, Nat.le_refl _, Nat.zero_le _, rfl, rfl⟩⟩
    obtain ⟨v', w', hap, hO, hG, -⟩ := run_append_own (P := Tryz.prog) (w.alloc (.cells #[] 22)) w.heap.size 68 68 22 i (.int .u32 0) 1 4 slice32 hi hz hsz hby rfl (by decide) _ 0 [] hown ⟨gg, oo, none⟩ m c ((List.range m).map fun j => Value.int .u32 (S j : Int)) (by simp)
      (fun j u hj => by
        have hjm : j < m := by have := (List.getElem?_eq_some_iff.1 hj).1; simpa using this
        have hu : u = .int .u32 (S j : Int) := by rw [List.getElem?_map, List.getElem?_range hjm] at hj; simpa using hj.symm
        rw [hu, addK0, hb0.cell (p := ⟨gg, oo + j, none⟩) hgg]
        exact hc j hjm)
      (fun u hu => by obtain ⟨j, -, rfl⟩ := List.mem_map.1 hu; rfl) (by unfold maxLen; omega) (by omega) (by rw [World.size_alloc]; omega)
    rw [Nat.zero_add] at hO
    obtain ⟨-, ⟨-, h⟩ | ⟨g, cap, cur, rfl, h1, h2, h3, h4, h5, h6⟩⟩ := id hO
    · exact absurd h h0
    refine ⟨_, _, _, hap, ?_, hN.1, fun _ => ⟨g, 0, rfl, (hO.lt g rfl).2, fun j hj => ?_⟩⟩
    · exact ⟨hG.os, hG.tape, hG.output, by have := hG.size; rw [World.size_alloc] at this; omega, fun k hk => by
        rw [hG.block k (by rw [World.size_alloc]; omega) (by simp [Value.ownBlock]; omega)]
        exact hb0.block k hk⟩
    · have := hO.cells (g := g) rfl j (.int .u32 (S j : Int)) (by rw [List.nil_append, List.getElem?_map, List.getElem?_range hj]; rfl)
      rw [addK0] at this
      exact this
end Go.Proofs.YtmepmoalhgehhaaGreatDoor
namespace Go.Proofs.YtmepmoalhgehhaaGreatDoor
open Go.RowKit Go.Sort Go.Deep
variable {N : Nat}
theorem i33k : (Tryz.prog.info? 58).map (·.size) = some 4 := by kernel_rfl
theorem u33k : (Tryz.prog.underlying 58).map (·.isRow) = some true := by kernel_rfl
theorem i64k : (Tryz.prog.info? 23).map (·.size) = some 1 := by kernel_rfl
theorem kMod_c (O : Ord N) (s : Bs) (hs : s.size ≤ 1048576) : Gives 31 #[rv1, .string ⟨s⟩] (nv (redu N s)) := fun w =>
  (rMod_any _ _ _ _ _ _ _ _ N ⟨s⟩ O.ref hs w).mono (by rintro e w' ⟨v, rfl, hb, hF⟩; exact ⟨_, rfl, hb, hF.nv⟩)
theorem kZero_c (O : Ord N) {m : Nat} (hm : m < N) : Gives 33 #[nv m] (.bool (decide (m = 0))) := fun w => rZero_any (nv m) m (O.four hm) w
def FKs_0 : List RG.It := [.x 6 [] (.string ⟨#[]⟩), .x 7 [] (.int .i64 0)]
def FKs_1 (s lab : ByteArray) (v : Value) (T : Bs) (e : Int) : List RG.It := [.x 13 [] (.string s), .x 14 [] (.string lab), .x 15 [] v, .c 16 [(13, 0), (14, 1), (15, 2)] (.tuple #[.string ⟨T⟩, .int .i64 e]), .x 12 [(16, 3)] (.tuple #[.string ⟨T⟩, .int .i64 e]), .x 17 [(12, 4)] (.string ⟨T⟩), .x 18 [(12, 4)] (.int .i64 e), .x 8 [(17, 5)] (.string ⟨T⟩), .x 9 [(18, 6)] (.int .i64 e)]
def FKs_4 (T S : Bs) (n : Nat) : List RG.It := [.c 22 [] rv1, .x 23 [] (.string ⟨T⟩), .c 24 [(23, 1)] (.string ⟨S⟩), .c 25 [(22, 0), (24, 2)] (nv n), .m 10 [] 0, .u [(10, 4), (25, 3)] 0]
set_option maxHeartbeats 2000000 in
set_option maxRecDepth 100000 in
theorem rScalar_n1 (s lab : ByteArray) (v : Value) (w : World)
    (hD : ∀ w', RG.BelX w.heap.size [] w w' → Calls Tryz.prog 29 #[.string s, .string lab, v] w' (Ret fun e w'' => Below w'.heap.size w' w'' ∧ e = .tuple #[.string ⟨#[]⟩, .int .i64 1])) :
    Calls Tryz.prog 14 #[.string s, .string lab, v] w (Ret fun e w' => Below w.heap.size w w' ∧ e = .tuple #[.string ⟨#[]⟩, .int .i64 1]) := by
  go_enter Tryz.func14, Tryz.ntmps14
  refine RG.M.enter [(0, .v (.string s)), (1, .v (.string lab)), (2, .v v)] 32 (by kernel_rfl) ?_
  intro a0 M0
  repeat refine wp_seq ?_
  refine M0.u FKs_0 [(0, .v (.string s)), (1, .v (.string lab)), (2, .v v)] ⟨RG.st, RG.st, trivial⟩ ?_
  intro a1 w1 M1
  repeat refine wp_seq ?_
  refine M1.u (FKs_1 s lab v #[] 1) [(9, .v (.int .i64 1))] ⟨RG.st, RG.st, RG.st, RG.clB (fun _ _ => by kernel_rfl) hD, RG.st, RG.st, RG.st, RG.st, RG.st, trivial⟩ ?_
  intro a2 w2 M2
  repeat refine wp_seq ?_
  refine M2.u [.x 19 [] (.int .i64 1), .x 20 [(19, 0)] (.bool true)] [(9, .v (.int .i64 1)), (20, .v (.bool true))] ⟨RG.st, RG.st, trivial⟩ ?_
  intro a3 w3 M3
  repeat refine wp_seq ?_
  refine wp_cond_true (M3.ev (v := .bool true) (by kernel_rfl)) ?_
  repeat refine wp_seq ?_
  refine M3.u [.x 21 [] (.int .i64 1), .x 6 [] (.string ⟨#[]⟩), .x 7 [(21, 0)] (.int .i64 1)] [(6, .v (.string ⟨#[]⟩)), (7, .v (.int .i64 1))] ⟨RG.st, RG.st, RG.st, trivial⟩ ?_
  intro a4 w4 M4
  refine wp_ret ?_
  refine bodyPost_ret (v := .tuple #[.string ⟨#[]⟩, .int .i64 1]) (RG.results_tt 6 7 rfl _ _ M4.av M4.av) M4.sl.defers ?_
  exact ⟨_, rfl, M4.st.bel.below, rfl⟩
set_option maxHeartbeats 2000000 in
set_option maxRecDepth 100000 in
theorem rScalar_n2 (s lab : ByteArray) (v : Value) (w : World)
    (hD : ∀ w', RG.BelX w.heap.size [] w w' → Calls Tryz.prog 29 #[.string s, .string lab, v] w' (Ret fun e w'' => Below w'.heap.size w' w'' ∧ e = .tuple #[.string ⟨#[]⟩, .int .i64 2])) :
    Calls Tryz.prog 14 #[.string s, .string lab, v] w (Ret fun e w' => Below w.heap.size w w' ∧ e = .tuple #[.string ⟨#[]⟩, .int .i64 2]) := by
  go_enter Tryz.func14, Tryz.ntmps14
  refine RG.M.enter [(0, .v (.string s)), (1, .v (.string lab)), (2, .v v)] 32 (by kernel_rfl) ?_
  intro a0 M0
  repeat refine wp_seq ?_
  refine M0.u FKs_0 [(0, .v (.string s)), (1, .v (.string lab)), (2, .v v)] ⟨RG.st, RG.st, trivial⟩ ?_
  intro a1 w1 M1
  repeat refine wp_seq ?_
  refine M1.u (FKs_1 s lab v #[] 2) [(9, .v (.int .i64 2))] ⟨RG.st, RG.st, RG.st, RG.clB (fun _ _ => by kernel_rfl) hD, RG.st, RG.st, RG.st, RG.st, RG.st, trivial⟩ ?_
  intro a2 w2 M2
  repeat refine wp_seq ?_
  refine M2.u [.x 19 [] (.int .i64 2), .x 20 [(19, 0)] (.bool true)] [(9, .v (.int .i64 2)), (20, .v (.bool true))] ⟨RG.st, RG.st, trivial⟩ ?_
  intro a3 w3 M3
  repeat refine wp_seq ?_
  refine wp_cond_true (M3.ev (v := .bool true) (by kernel_rfl)) ?_
  repeat refine wp_seq ?_
  refine M3.u [.x 21 [] (.int .i64 2), .x 6 [] (.string ⟨#[]⟩), .x 7 [(21, 0)] (.int .i64 2)] [(6, .v (.string ⟨#[]⟩)), (7, .v (.int .i64 2))] ⟨RG.st, RG.st, RG.st, trivial⟩ ?_
  intro a4 w4 M4
  refine wp_ret ?_
  refine bodyPost_ret (v := .tuple #[.string ⟨#[]⟩, .int .i64 2]) (RG.results_tt 6 7 rfl _ _ M4.av M4.av) M4.sl.defers ?_
  exact ⟨_, rfl, M4.st.bel.below, rfl⟩
set_option maxHeartbeats 2000000 in
set_option maxRecDepth 100000 in
theorem rScalar_y (O : Ord N) (s lab : ByteArray) (v : Value) (T : Bs) (hTs : T.size = 32) (w : World)
    (hD : ∀ w', RG.BelX w.heap.size [] w w' → Calls Tryz.prog 29 #[.string s, .string lab, v] w' (Ret fun e w'' => Below w'.heap.size w' w'' ∧ e = .tuple #[.string ⟨T⟩, .int .i64 0])) :
    Calls Tryz.prog 14 #[.string s, .string lab, v] w (Ret fun e w' => Below w.heap.size w w' ∧ e = .tuple #[.string ⟨bx (kSc N T)⟩, .int .i64 0]) := by
  have hS0 : Gives 32 #[.string ⟨T⟩, .int .i64 64] (.string ⟨SP.strmL T.toList 64⟩) := fun w' => by
    refine (SP.refStream_any ⟨T⟩ 64 w' (by show T.size ≤ _; omega) (by decide)).mono ?_
    rintro e w'' ⟨rfl, hb⟩
    exact ⟨_, rfl, hb, rfl⟩
  have hM := kMod_c O (SP.strmL T.toList 64) (by rw [SP.strm_size]; decide)
  have hlt := redu_lt O (SP.strmL T.toList 64)
  have hZ := kZero_c O hlt
  have hB := qBytes_c O (orOne_lt O hlt)
  unfold kSc
  generalize SP.strmL T.toList 64 = S at hS0 hM hlt hZ hB ⊢
  generalize redu N S = n at hM hlt hZ hB ⊢
  obtain ⟨d, hd⟩ : ∃ d, Hid (decide (n = 0) = d) := ⟨_, rfl⟩
  rw [hd.out] at hZ
  go_enter Tryz.func14, Tryz.ntmps14
  refine RG.M.enter [(0, .v (.string s)), (1, .v (.string lab)), (2, .v v)] 32 (by kernel_rfl) ?_
  intro a0 M0
  repeat refine wp_seq ?_
  refine M0.u FKs_0 [(0, .v (.string s)), (1, .v (.string lab)), (2, .v v)] ⟨RG.st, RG.st, trivial⟩ ?_
  intro a1 w1 M1
  repeat refine wp_seq ?_
  refine M1.u (FKs_1 s lab v T 0) [(8, .v (.string ⟨T⟩)), (9, .v (.int .i64 0))] ⟨RG.st, RG.st, RG.st, RG.clB (fun _ _ => by kernel_rfl) hD, RG.st, RG.st, RG.st, RG.st, RG.st, trivial⟩ ?_
  intro a2 w2 M2
  repeat refine wp_seq ?_
  refine M2.u [.x 19 [] (.int .i64 0), .x 20 [(19, 0)] (.bool false)] [(8, .v (.string ⟨T⟩)), (20, .v (.bool false))] ⟨RG.st, RG.st, trivial⟩ ?_
  intro a3 w3 M3
  repeat refine wp_seq ?_
  refine wp_cond_false (M3.ev (v := .bool false) (by kernel_rfl)) ?_
  refine wp_skip ?_
  repeat refine wp_seq ?_
  refine M3.t (FKs_4 T S n) [(4, RG.z 4)] [(0, 5, wn n)] [wn n] [(10, .p 0 0)] ⟨RG.cl Q3_c, RG.st, RG.cl hS0, RG.cl hM, RG.mk 0 58, RG.pt i33k, trivial⟩ ?_
  intro j4 a4 w4 M4
  repeat refine wp_seq ?_
  refine M4.u [.x 26 [] (nv n), .c 27 [(26, 0)] (.bool d), .x 11 [(27, 1)] (.bool d)] [(10, .p 0 0), (11, .v (.bool d))] ⟨RG.ld u33k i33k, RG.cl hZ, RG.st, trivial⟩ ?_
  intro a5 w5 M5
  repeat refine wp_seq ?_
  refine M5.u [.x 28 [] (.bool d)] [(10, .p 0 0), (28, .v (.bool d))] ⟨RG.st, trivial⟩ ?_
  intro a6 w6 M6
  repeat refine wp_seq ?_
  cases d with
  | true =>
    obtain rfl : n = 0 := of_decide_eq_true hd.out
    refine wp_cond_true (M6.ev (v := .bool true) (by kernel_rfl)) ?_
    repeat refine wp_seq ?_
    refine M6.t [.s 29 [] (.p 0 0), .u [(29, 0)] 0] [] [(0, 1, wn 1)] [wn 1] [(10, .p 0 0)] ⟨RG.st, RG.cert_put1 0 0 rfl _ rfl 23 (.tmp 29) (.const (.int .u64 1)) (.int .u64 1) rfl rfl RG.sx (fun _ _ _ => rfl) (Nat.le_of_ble_eq_true rfl) rfl i64k rfl rfl, trivial⟩ ?_
    intro a7 w7 M7
    repeat refine wp_seq ?_
    refine M7.u [.x 30 [] (nv 1), .c 31 [(30, 0)] (.string ⟨bx (orOne 0)⟩), .x 6 [(31, 1)] (.string ⟨bx (orOne 0)⟩), .x 7 [] (.int .i64 0)] [(6, .v (.string ⟨bx (orOne 0)⟩)), (7, .v (.int .i64 0))] ⟨RG.ld u33k i33k, RG.cl hB, RG.st, RG.st, trivial⟩ ?_
    intro a8 w8 M8
    refine wp_ret ?_
    refine bodyPost_ret (v := .tuple #[.string ⟨bx (orOne 0)⟩, .int .i64 0]) (RG.results_tt 6 7 rfl _ _ M8.av M8.av) M8.sl.defers ?_
    exact ⟨_, rfl, M8.st.bel.below, rfl⟩
  | false =>
    have h0 : ¬ n = 0 := of_decide_eq_false hd.out
    have hr : orOne n = n := by unfold orOne; rw [if_neg h0]
    rw [hr] at hB ⊢
    refine wp_cond_false (M6.ev (v := .bool false) (by kernel_rfl)) ?_
    refine wp_skip ?_
    repeat refine wp_seq ?_
    refine M6.u [.x 30 [] (nv n), .c 31 [(30, 0)] (.string ⟨bx n⟩), .x 6 [(31, 1)] (.string ⟨bx n⟩), .x 7 [] (.int .i64 0)] [(6, .v (.string ⟨bx n⟩)), (7, .v (.int .i64 0))] ⟨RG.ld u33k i33k, RG.cl hB, RG.st, RG.st, trivial⟩ ?_
    intro a8 w8 M8
    refine wp_ret ?_
    refine bodyPost_ret (v := .tuple #[.string ⟨bx n⟩, .int .i64 0]) (RG.results_tt 6 7 rfl _ _ M8.av M8.av) M8.sl.defers ?_
    exact ⟨_, rfl, M8.st.bel.below, rfl⟩
theorem rScalar_c (O : Ord N) (s lab : ByteArray) (hlab : lab.size ≤ 65536) (q : Option Addr) (n c : Nat) (S : Nat → Nat) (w : World) (hn : n ≤ 1048576) (hN : NumsK w q n S) :
    Calls Tryz.prog 14 #[.string s, .string lab, .slice q n c] w (Ret fun e w' => Below w.heap.size w w' ∧ e = .tuple #[.string ⟨ksB N S s.data n lab.data.toList⟩, .int .i64 (kdE s.data n : Int)]) := by
  have hD : ∀ w', RG.BelX w.heap.size [] w w' → Calls Tryz.prog 29 #[.string s, .string lab, .slice q n c] w' (Ret fun e w'' => Below w'.heap.size w' w'' ∧ e = .tuple #[.string ⟨kdB S s.data n lab.data.toList⟩, .int .i64 (kdE s.data n : Int)]) := fun w' hb => rDerive_c s lab hlab q n c S w' hn (hN.below hb.below)
  by_cases hin : s.data.size = 32 ∧ n ≤ 16
  · have h1 : kdB S s.data n lab.data.toList = derH S s.data n lab.data.toList := by unfold kdB; rw [if_pos hin.1, if_pos hin.2]
    have h2 : kdE s.data n = 0 := by unfold kdE; rw [if_pos hin.1, if_pos hin.2]
    have h3 : ksB N S s.data n lab.data.toList = bx (kSc N (derH S s.data n lab.data.toList)) := by unfold ksB; rw [if_pos hin]
    rw [h2, h3]
    rw [h1, h2] at hD
    exact rScalar_y O s lab _ _ (derH_size _ _ _ _) w hD
  · have h1 : kdB S s.data n lab.data.toList = #[] := by
      unfold kdB
      by_cases h : s.data.size = 32
      · rw [if_pos h, if_neg (fun g => hin ⟨h, g⟩)]
      · rw [if_neg h]
    have h2 : (kdE s.data n : Int) = 1 ∨ (kdE s.data n : Int) = 2 := by
      unfold kdE
      by_cases h : s.data.size = 32
      · rw [if_pos h, if_neg (fun g => hin ⟨h, g⟩)]; exact Or.inl rfl
      · rw [if_neg h]; exact Or.inr rfl
    have h3 : ksB N S s.data n lab.data.toList = #[] := by unfold ksB; rw [if_neg hin]
    rw [h3]
    rw [h1] at hD
    rcases h2 with h2 | h2
    · rw [h2] at hD ⊢; exact rScalar_n1 s lab _ w hD
    · rw [h2] at hD ⊢; exact rScalar_n2 s lab _ w hD
end Go.Proofs.YtmepmoalhgehhaaGreatDoor
namespace Go.Proofs.YtmepmoalhgehhaaGreatDoor
open Go.RowKit Go.Sort Go.Deep
variable {N : Nat}
theorem shl1 (j : Nat) (hj : j < 20) : IntKind.u64.wrap ((2 : Int) ^ j) = ((2 ^ j : Nat) : Int) := by
  have : j = 0 ∨ j = 1 ∨ j = 2 ∨ j = 3 ∨ j = 4 ∨ j = 5 ∨ j = 6 ∨ j = 7 ∨ j = 8 ∨ j = 9 ∨ j = 10 ∨ j = 11 ∨ j = 12 ∨ j = 13 ∨ j = 14 ∨ j = 15 ∨ j = 16 ∨ j = 17 ∨ j = 18 ∨ j = 19 := by omega
  rcases this with rfl | rfl | rfl | rfl | rfl | rfl | rfl | rfl | rfl | rfl | rfl | rfl | rfl | rfl | rfl | rfl | rfl | rfl | rfl | rfl <;> rfl
theorem rplace_y (k x : Nat) (hk : k < 20) (hx : x = 2 ^ k) (w : World) : Calls Tryz.prog 7 #[.int .u64 (x : Int)] w fun e w' => e = .returned (.int .i64 (k : Int)) ∧ w' = w := by
  have HX : Hid (∀ i, i < 20 → IntKind.u64.wrap ((2 : Int) ^ i) = ((2 ^ i : Nat) : Int) ∧ (2 ^ i = x ↔ i = k)) := fun i hi => ⟨shl1 i hi, by rw [hx]; exact Nat.pow_right_inj (by decide)⟩
  clear hx
  go_enter Tryz.func7, Tryz.ntmps7
  go_wp2
  go_loopg [3] (k + 1) (fun gk s3 wr => ∃ i : Nat, i + gk = k + 1 ∧ i ≤ k ∧ s3 = .int .i64 (i : Int) ∧ wr = w)
  case atStart => exact ⟨0, by omega, by omega, rfl, rfl⟩
  case round =>
    obtain ⟨i, hi, hik, rfl, rfl⟩ := hrel
    have h20 : (i : Int) < 20 := by omega
    obtain ⟨hsh, hiff⟩ := HX.out i (by omega)
    generalize 2 ^ i = y at hsh hiff
    by_cases he : i = k
    · obtain rfl := hiff.2 he
      subst he
      clear hiff
      go_wp2
      go_ret
      exact ⟨rfl, rfl⟩
    · have hne : ¬ (x : Int) = (y : Int) := fun h => he (hiff.1 (by omega))
      have hne2 : ((x : Int) == (y : Int)) = false := by simpa using hne
      clear hiff
      go_wp2
      go_roundg (gk - 1)
      case measure => omega
      case rel => exact ⟨i + 1, by omega, by omega, rfl, rfl⟩
theorem rplace_n (x : Nat) (hn : NoP x) (w : World) : Calls Tryz.prog 7 #[.int .u64 (x : Int)] w fun e w' => e = .returned (.int .i64 (-1)) ∧ w' = w := by
  have HX : Hid (∀ i, i < 20 → IntKind.u64.wrap ((2 : Int) ^ i) = ((2 ^ i : Nat) : Int) ∧ x ≠ 2 ^ i) := fun i hi => ⟨shl1 i hi, hn i hi⟩
  clear hn
  go_enter Tryz.func7, Tryz.ntmps7
  go_wp2
  go_loopg [3] 20 (fun gk s3 wr => ∃ i : Nat, i + gk = 20 ∧ s3 = .int .i64 (i : Int) ∧ wr = w)
  case atStart => exact ⟨0, by omega, rfl, rfl⟩
  case round =>
    obtain ⟨i, hi, rfl, rfl⟩ := hrel
    by_cases hi2 : i < 20
    · have h20 : (i : Int) < 20 := by omega
      obtain ⟨hsh, hne0⟩ := HX.out i hi2
      generalize 2 ^ i = y at hsh hne0
      have hne : ¬ (x : Int) = (y : Int) := by omega
      have hne2 : ((x : Int) == (y : Int)) = false := by simpa using hne
      clear hne0
      go_wp2
      go_roundg (gk - 1)
      case measure => omega
      case rel => exact ⟨i + 1, by omega, rfl, rfl⟩
    · have h20 : ¬ (i : Int) < 20 := by omega
      go_wp2
      go_ret
      exact ⟨rfl, rfl⟩
theorem rKeyF_c (s : ByteArray) (hn : ¬ s.data.size = 32) (nb x : Nat) (w : World) : Calls Tryz.prog 5 #[.string s, .int .u32 (nb : Int), .int .u64 (x : Int)] w fun e w' => e = .returned (.tuple #[.string ⟨#[]⟩, .int .i64 2]) ∧ w' = w := by
  have g1 : ¬ (s.size : Int) = 32 := by show ¬ ((s.data.size : Nat) : Int) = 32; omega
  have g0 : ((s.size : Int) == 32) = false := by simpa using g1
  clear hn
  go_enter Tryz.func5, Tryz.ntmps5
  go_wp2
  go_ret2
  exact ⟨rfl, rfl⟩
theorem rKeyN_c (s : ByteArray) (hs : s.data.size = 32) (nb x : Nat) (hn : NoP x) (w : World) : Calls Tryz.prog 5 #[.string s, .int .u32 (nb : Int), .int .u64 (x : Int)] w fun e w' => e = .returned (.tuple #[.string ⟨#[]⟩, .int .i64 7]) ∧ w' = w := by
  have g1 : (s.size : Int) = 32 := by show ((s.data.size : Nat) : Int) = 32; omega
  have hP := rplace_n x hn w
  clear hn hs
  go_enter Tryz.func5, Tryz.ntmps5
  go_wp2_with fail
  refine hP.mono ?_
  rintro e w' ⟨rfl, rfl⟩
  clear hP
  go_wp2
  go_ret2
  exact ⟨rfl, rfl⟩
theorem ks_mk (k : Bs) (hk : k.size = 32) (nb i : Nat) : ksB N (S2 nb i) k 2 [109, 105, 110, 116] = bx (mkN N k nb i) := by unfold ksB; rw [if_pos ⟨hk, by omega⟩]; rfl
theorem rKeyY_c (O : Ord N) (s : ByteArray) (hs : s.data.size = 32) (nb i x : Nat) (hnb : nb < 4294967296) (hi : i < 20) (hx : x = 2 ^ i) (w : World) : Calls Tryz.prog 5 #[.string s, .int .u32 (nb : Int), .int .u64 (x : Int)] w (Ret fun e w' => Below w.heap.size w w' ∧ e = .tuple #[.string ⟨bx (mkN N s.data nb i)⟩, .int .i64 0]) := by
  have g1 : (s.size : Int) = 32 := by show ((s.data.size : Nat) : Int) = 32; omega
  have hP := rplace_y i x hi hx w
  obtain ⟨w2, hw2⟩ : ∃ w2, Hid (w.alloc (.cells #[.int .u32 (nb : Int), .int .u32 (i : Int)] 22) = w2) := ⟨_, rfl⟩
  have K2 : Hid (Below w.heap.size w w2) := by rw [← hw2.out]; exact below1 w _
  have hN : NumsK w2 (some ⟨w.heap.size, 0, none⟩) 2 (S2 nb i) := by
    refine ⟨fun j hj => ?_, fun _ => ⟨w.heap.size, 0, rfl, ?_, fun j hj => ?_⟩⟩
    · unfold S2
      by_cases h : j = 0
      · rw [if_pos h]; exact hnb
      · rw [if_neg h]; omega
    · rw [← hw2.out, World.size_alloc]; omega
    · have hr := (row_new w [.int .u32 (nb : Int), .int .u32 (i : Int)] 22).2.1
      rw [← hw2.out, Nat.zero_add]
      have hj2 : j = 0 ∨ j = 1 := by omega
      rcases hj2 with rfl | rfl
      · exact hr 0 _ rfl
      · exact hr 1 _ rfl
  have hS := rScalar_c O s ⟨#[109, 105, 110, 116]⟩ (by decide) (some ⟨w.heap.size, 0, none⟩) 2 2 (S2 nb i) w2 (by decide) hN
  have e2 : kdE s.data 2 = 0 := by unfold kdE; rw [if_pos hs, if_pos (by decide)]
  rw [ks_mk s.data hs nb i, e2] at hS
  generalize bx (mkN N s.data nb i) = X at hS ⊢
  have wp : IntKind.u32.wrap (i : Int) = (i : Int) := by rw [IntKind.wrap_u32]; omega
  have i0 : ¬ (i : Int) < 0 := by omega
  clear hs hN hx e2 hnb hi
  go_enter Tryz.func5, Tryz.ntmps5
  go_wp2_with fail
  refine hP.mono ?_
  rintro e w' ⟨rfl, rfl⟩
  clear hP
  go_wp2_with fail
  rw [hw2.out]
  clear hw2
  refine hS.mono ?_
  rintro e w3 ⟨v3, rfl, hb3, rfl⟩
  have K3 : Hid (Below w'.heap.size w' w3) := K2.out.trans (hb3.mono K2.out.size)
  clear hS hb3 K2
  go_wp2
  go_ret2
  exact ⟨_, rfl, K3.out, rfl⟩
/-- THE REFERENCE'S Key. -/
theorem rKeyA_c (O : Ord N) (s : ByteArray) (nb x : Nat) (hnb : nb < 4294967296) (w : World) : Calls Tryz.prog 5 #[.string s, .int .u32 (nb : Int), .int .u64 (x : Int)] w (Ret fun e w' => Below w.heap.size w w' ∧ e = .tuple #[.string ⟨kyB N s.data nb x⟩, .int .i64 (kyE s.data x : Int)]) := by
  by_cases h32 : s.data.size = 32
  · rcases pow_cases x with ⟨i, hi, hxi⟩ | hn
    · have e1 : kyE s.data x = 0 := by unfold kyE; rw [if_pos h32, if_pos (pow_mem hi hxi)]
      have e2 : kyB N s.data nb x = bx (mkN N s.data nb i) := by unfold kyB; rw [if_pos ⟨h32, pow_mem hi hxi⟩, log_pow hxi]
      rw [e1, e2]
      exact rKeyY_c O s h32 nb i x hnb hi hxi w
    · have e1 : kyE s.data x = 7 := by unfold kyE; rw [if_pos h32, if_neg (nop_mem hn)]
      have e2 : kyB N s.data nb x = #[] := by unfold kyB; rw [if_neg (fun h => nop_mem hn h.2)]
      rw [e1, e2]
      refine (rKeyN_c s h32 nb x hn w).mono ?_
      rintro e w' ⟨rfl, rfl⟩
      exact ⟨_, rfl, Below.refl _ _, rfl⟩
  · have e1 : kyE s.data x = 2 := by unfold kyE; rw [if_neg h32]
    have e2 : kyB N s.data nb x = #[] := by unfold kyB; rw [if_neg (fun h => h32 h.1)]
    rw [e1, e2]
    refine (rKeyF_c s h32 nb x w).mono ?_
    rintro e w' ⟨rfl, rfl⟩
    exact ⟨_, rfl, Below.refl _ _, rfl⟩
end Go.Proofs.YtmepmoalhgehhaaGreatDoor
namespace Go.Proofs.YtmepmoalhgehhaaGreatDoor
open Go.RowKit Go.Sort Go.Deep
variable {P : Nat} [NeZero P] {N : Nat}
theorem tm_fracZ (C : Fl3 P) {n : Nat} (hn : n < top) : FracT (tmF n (gT P) 256) (EC.mul n (gG P)) := by
  have h := tmF_F C (n := n) (by unfold top at hn; omega) (gT_frac C.toFld) 256 (Nat.le_refl _)
  rwa [Nat.sub_self, Nat.pow_zero, Nat.div_one] at h
/-- The calls of one round. -/
theorem rround (C : Fl3 P) (O : Ord N) (s : ByteArray) (hs : s.data.size = 32) (nb : Nat) (hnb : nb < 4294967296) (j : Nat) (hj : j < 20) : ∃ (B : ByteArray) (m y : Nat) (ob : Bool) (t : Value), IntKind.u64.wrap ((2 : Int) ^ j) = (y : Int) ∧
    (∀ W : World, Calls Tryz.prog 5 #[.string s, .int .u32 (nb : Int), .int .u64 (y : Int)] W (Ret fun e w' => Below W.heap.size W w' ∧ e = .tuple #[.string B, .int .i64 0])) ∧
    Gives 22 #[.string B] (.tuple #[nv m, .bool ob]) ∧ Gives 23 #[nv m] t ∧ Gives 24 #[t] (.string ⟨pkB P N s.data nb j⟩) := by
  have hlt := mkN_lt O s.data nb j
  have hle : mkN N s.data nb j < top := Nat.lt_of_lt_of_le hlt O.le
  have hv : nuV (bx (mkN N s.data nb j)) = mkN N s.data nb j := by unfold nuV; rw [if_pos (bx_size _)]; exact bx_val hle
  have hq := qscal_c O ⟨bx (mkN N s.data nb j)⟩
  simp only [hv] at hq
  exact ⟨_, mkN N s.data nb j, 2 ^ j, _, _, shl1 j hj, fun W => rKeyY_c O s hs nb j _ hnb hj rfl W, hq, qBase_c C _ hle, rWritten_c C (tm_fracZ C hle)⟩
theorem cut8 (T : Bs) (hT : T.size = 32) (w : World) : (Instr.sliceAt 9 (.string ⟨T⟩) none (some (.int .i64 8)) none).run Tryz.prog w = .ok (.string ⟨T.extract 0 8⟩) w := by
  have h : (⟨T⟩ : ByteArray).size = 32 := hT
  have h2 : (⟨T⟩ : ByteArray).extract 0 8 = ⟨T.extract 0 8⟩ := by
    apply ByteArray.ext
    rw [ByteArray.data_extract]
  rw [← h2]
  generalize (⟨T⟩ : ByteArray) = D at h
  go_simp
def strs (S : Nat → Bs) (m : Nat) : List Value := (List.range m).map fun i => .string ⟨S i⟩
theorem flat_le (a : Nat) : ∀ ps : List (List UInt8), (∀ p ∈ ps, p.length ≤ a) → (ps.flatMap SP.frameL).length ≤ ps.length * (a + 4)
  | [], _ => Nat.zero_le _
  | p :: r, h => by
    have h1 := flat_le a r (fun x hx => h x (List.mem_cons_of_mem _ hx))
    have h2 := h p List.mem_cons_self
    rw [List.flatMap_cons, List.length_append, SP.frameL_length, List.length_cons, Nat.add_mul]
    omega
theorem rTag_keys (k : Bs) (nb : Nat) (g c : Nat) (w : World) (h : w.ownsRow 0 9 1 (.slice (some ⟨g, 0, none⟩) 20 c) 20 (strs (pkB P N k nb) 20)) :
    Calls Tryz.prog 25 #[.string ⟨#[107, 101, 121, 115, 101, 116]⟩, .slice (some ⟨g, 0, none⟩) 20 c] w fun e w' => e = .returned (.string ⟨SP.tagL [107, 101, 121, 115, 101, 116] (pkL P N k nb)⟩) ∧ Below w.heap.size w w' := by
  have hl : ((List.range 20).map fun i => (⟨pkB P N k nb i⟩ : ByteArray)).length = 20 := by rw [List.length_map, List.length_range]
  have hg : ∀ j, j < 20 → ((List.range 20).map fun i => (⟨pkB P N k nb i⟩ : ByteArray))[j]! = ⟨pkB P N k nb j⟩ := fun j hj => by
    rw [getElem!_pos _ j (by rw [hl]; exact hj), List.getElem_map, List.getElem_range]
  have hm : ((List.range 20).map fun i => (⟨pkB P N k nb i⟩ : ByteArray)).map (fun s => s.data.toList) = pkL P N k nb := by
    unfold pkL
    rw [List.map_map]
    rfl
  have hT := SP.refTag_any ⟨#[107, 101, 121, 115, 101, 116]⟩ (some ⟨g, 0, none⟩) c ((List.range 20).map fun i => (⟨pkB P N k nb i⟩ : ByteArray)) w (by decide) (by rw [hl]; decide)
    (Or.inr ⟨g, 0, rfl, fun j hj => by
      rw [hl] at hj
      rw [hg j hj]
      have := h.cells (g := g) rfl j (.string ⟨pkB P N k nb j⟩) (by unfold strs; rw [List.getElem?_map, List.getElem?_range hj]; rfl)
      rw [addP0] at this
      exact this⟩)
    (fun j hj => by
      rw [hl] at hj
      rw [hg j hj]
      show (pkB P N k nb j).size ≤ _
      rw [pkB_size]
      decide)
    (by
      rw [hm]
      have h1 : ((pkL P N k nb).flatMap SP.frameL).length ≤ (pkL P N k nb).length * (33 + 4) := flat_le 33 _ fun p hp => by
        unfold pkL at hp
        obtain ⟨i, -, rfl⟩ := List.mem_map.1 hp
        rw [Array.length_toList, pkB_size]
        exact Nat.le_refl _
      have h2 : (pkL P N k nb).length = 20 := by unfold pkL; rw [List.length_map, List.length_range]
      unfold SP.framesL
      rw [List.length_append, SP.frameL_length]
      rw [h2] at h1
      show 6 + 4 + _ ≤ _
      omega)
  rw [hm, hl] at hT
  exact hT
/-- What the reference's Set answers. -/
def RsR (w : World) (B : Bs) (S : Nat → Bs) (m er : Nat) (e : Value) (w' : World) : Prop := Below w.heap.size w w' ∧ ∃ q c, e = .tuple #[.string ⟨B⟩, .slice q m c, .int .i64 (er : Int)] ∧ w'.ownsRow w.heap.size 9 1 (.slice q m c) m (strs S m)
theorem results_ttt {P : Program} {fn : Func} {tmps : Array Value} {W : World} {v0 v1 v2 : Value} (t0 t1 t2 : Tmp) (hr : fn.results = #[.tmp t0, .tmp t1, .tmp t2]) (h0 : tmps[t0]? = some v0) (h1 : tmps[t1]? = some v1) (h2 : tmps[t2]? = some v2) : (results fn tmps).run P W = .ok (.tuple #[v0, v1, v2]) W := by
  have g0 : tmps.getD t0 undef = v0 := by rw [Array.getD_eq_getD_getElem?, h0]; rfl
  have g1 : tmps.getD t1 undef = v1 := by rw [Array.getD_eq_getD_getElem?, h1]; rfl
  have g2 : tmps.getD t2 undef = v2 := by rw [Array.getD_eq_getD_getElem?, h2]; rfl
  unfold results
  rw [hr]
  simp only [Array.mapM_eq_mapM_toList, List.mapM_cons, List.mapM_nil, g0, g1, g2]
  simp [Sem.run_bind]
set_option maxHeartbeats 1000000 in
set_option maxRecDepth 100000 in
theorem rSetY_c (C : Fl3 P) (O : Ord N) (s : ByteArray) (hs : s.data.size = 32) (nb : Nat) (hnb : nb < 4294967296) (w : World) : Calls Tryz.prog 9 #[.string s, .int .u32 (nb : Int)] w (Ret (RsR w (nmB P N s.data nb) (pkB P N s.data nb) 20 0)) := by
  have g1 : (s.size : Int) = 32 := by show ((s.data.size : Nat) : Int) = 32; omega
  have HR := Hid.mk2 (rround C O s hs nb hnb)
  have HTg := Hid.mk2 (fun g c w h => rTag_keys (P := P) (N := N) s.data nb g c w h)
  have HNm : Hid (∀ W : World, (Instr.sliceAt 9 (.string ⟨SP.tagL [107, 101, 121, 115, 101, 116] (pkL P N s.data nb)⟩) none (some (.int .i64 8)) none).run Tryz.prog W = .ok (.string ⟨nmB P N s.data nb⟩) W) := fun W => cut8 _ (SP.tagL_size _ _) W
  generalize SP.tagL [107, 101, 121, 115, 101, 116] (pkL P N s.data nb) = T at HTg HNm
  generalize nmB P N s.data nb = NB at HNm ⊢
  generalize pkB P N s.data nb = S at HR HTg ⊢
  have K0 : Hid (Below w.heap.size w w ∧ w.ownsRow w.heap.size 9 1 (.slice none 0 0) 0 (strs S 0)) := ⟨Below.refl _ _, rfl, Or.inl ⟨rfl, rfl⟩⟩
  clear hs C O
  go_enter Tryz.func9, Tryz.ntmps9
  go_wp2
  go_loopg [7, 8] 20 (fun gk s7 s8 wr => ∃ (j : Nat) (sv : Value), j + gk = 20 ∧ sv = s7 ∧ s8 = .int .i64 (j : Int) ∧ Hid (Below w.heap.size w wr ∧ wr.ownsRow w.heap.size 9 1 sv j (strs S j)))
  case atStart => exact ⟨0, _, by omega, rfl, rfl, K0⟩
  case round =>
    clear K0
    obtain ⟨j, sv, hj, rfl, rfl, KM⟩ := hrel
    by_cases hj20 : j < 20
    · have hj' : (j : Int) < 20 := by omega
      obtain ⟨B, m, y, ob, t, hsh, f1, f2, f3, f4⟩ := HR.out j hj20
      have HK := Hid.mk2 f1
      have HS := Hid.mk2 f2
      have HB := Hid.mk2 f3
      have HW := Hid.mk2 f4
      obtain ⟨vm, hvm⟩ : ∃ vm, Hid (nv m = vm) := ⟨_, rfl⟩
      rw [hvm.out] at HS HB
      clear f1 f2 f3 f4
      go_wp2_with fail
      refine (HK.out wr).mono ?_
      rintro e w3 ⟨v3, rfl, hb3, rfl⟩
      have K3 := Hid.mk2 hb3
      clear hb3 HK hsh
      go_wp2_with fail
      refine (HS.out w3).mono ?_
      rintro e w4 ⟨v4, rfl, hb4, rfl⟩
      have K4 : Hid (Below wr.heap.size wr w4) := K3.out.trans (hb4.mono K3.out.size)
      clear hb4 HS K3
      obtain ⟨k5, hk5⟩ : ∃ k5, Hid (w4.heap.size = k5) := ⟨_, rfl⟩
      obtain ⟨w5, hw5⟩ : ∃ w5, Hid (w4.alloc (.cells #[.int .u64 0, .int .u64 0, .int .u64 0, .int .u64 0] 58) = w5) := ⟨_, rfl⟩
      obtain ⟨w6, hw6⟩ : ∃ w6, Hid (w5.setCells k5 0 (wn m) = w6) := ⟨_, rfl⟩
      obtain ⟨d, hd1, hd2⟩ := Option.map_eq_some_iff.1 u33k
      have HD : Hid (Tryz.prog.underlying 58 = some d ∧ d.isRow = true) := ⟨hd1, hd2⟩
      have r5 : Row w5 k5 [.int .u64 0, .int .u64 0, .int .u64 0, .int .u64 0] := by rw [← hw5.out, ← hk5.out]; exact row_new w4 _ _
      have K6 : Hid (w5.there k5 0 4 ∧ Row w6 k5 (wn m) ∧ Below wr.heap.size wr w6) := by
        refine ⟨r5.2.2, by rw [← hw6.out]; exact r5.put rfl, ?_⟩
        have b5 : Below w4.heap.size w4 w5 := by rw [← hw5.out]; exact below1 w4 _
        rw [← hw6.out]
        exact K4.out.trans ((RG.below_setCells (by rw [hk5.out]; exact Nat.le_refl _) _ _ _ b5).mono K4.out.size)
      clear hd1 hd2 r5 K4
      go_wp2_with (first | (refine wpList_op (v := .pointer (some ⟨k5, 0, none⟩)) (w' := w5) rfl (.alloc 58) rfl ?_ ?_; (rw [← hw5.out, ← hk5.out]; kernel_rfl)) | (refine wpList_store_mid rfl 58 _ _ rfl k5 0 (wn m).toArray ?_ ?_ ?_ ?_ ?_ ?_; rfl; exact hvm.out.symm; exact K6.out.1; exact i33k; exact wn_one m; rw [show (wn m).toArray.toList = wn m from rfl, hw6.out]) | (refine wpList_load_mid rfl 58 _ rfl k5 0 ?_ (wn m) d ?_ ?_ ?_ ?_ ?_; rfl; exact K6.out.2.1.2.1; exact HD.out.1; exact HD.out.2; exact i33k; rw [show Value.agg (wn m).toArray = vm from hvm.out]) | fail)
      refine (HB.out w6).mono ?_
      rintro e w7 ⟨v7, rfl, hb7, rfl⟩
      have K7 : Hid (Below wr.heap.size wr w7) := K6.out.2.2.trans (hb7.mono K6.out.2.2.size)
      clear hb7 HB K6 hw5 hw6 HD
      go_wp2_with fail
      refine (HW.out w7).mono ?_
      rintro e w8 ⟨v8, rfl, hb8, rfl⟩
      have K8 : Below wr.heap.size wr w8 := K7.out.trans (hb8.mono K7.out.size)
      obtain ⟨h1, h2⟩ := KM.out
      have ho := own_keep h2 (W' := w8) (fun g hg => K8.block g (own_lt h2 hg).2.1)
      obtain ⟨v', W', r1, r2, r3⟩ := own_app1 undST infoST (by omega) ho (x := .string ⟨S j⟩) rfl (by omega) (Nat.le_trans h1.size K8.size)
      have hb' : Below w.heap.size w W' := by
        have hb8' := h1.trans (K8.mono h1.size)
        refine ⟨by rw [r3.os, hb8'.os], by rw [r3.tape, hb8'.tape], by rw [r3.output, hb8'.output], Nat.le_trans hb8'.size r3.size, fun g hg => ?_⟩
        rw [r3.keep g (Nat.lt_of_lt_of_le hg hb8'.size) (fun e => by have := (own_lt ho e).1; omega), hb8'.block g hg]
      have KN : Hid (Below w.heap.size w W' ∧ W'.ownsRow w.heap.size 9 1 v' (j + 1) (strs S (j + 1))) := ⟨hb', by unfold strs at r2 ⊢; rw [List.range_succ, List.map_append]; exact r2⟩
      clear hb8 K8 h1 h2 ho r2 r3 hb' KM K7 HW
      generalize S j = X at r1
      go_wp2_with (at_builtin; refine Lib.wpList_append_run _ rfl _ _ 38 38 rfl _ _ rfl rfl _ _ r1 ?_)
      go_roundg (gk - 1)
      case measure => omega
      case rel => exact ⟨j + 1, _, by omega, rfl, rfl, KN⟩
    · have hj' : ¬ (j : Int) < 20 := by omega
      obtain rfl : j = 20 := by omega
      obtain ⟨g, c, rfl⟩ := own_shape KM.out.2 (by omega)
      have hT := HTg.out g c wr (by
        rcases KM.out.2 with ⟨h0, h1 | ⟨g', cap, cur, h1, h2, h3⟩⟩
        · exact ⟨h0, Or.inl h1⟩
        · exact ⟨h0, Or.inr ⟨g', cap, cur, h1, Nat.zero_le _, h3⟩⟩)
      have hnm := HNm.out
      have K3 := KM
      clear HR HTg HNm KM
      go_wp2_with fail
      refine hT.mono ?_
      rintro e w4 ⟨rfl, hb4⟩
      have K4 : Hid (RsR w NB S 20 0 (.tuple #[.string ⟨NB⟩, .slice (some ⟨g, 0, none⟩) 20 c, .int .i64 0]) w4) := ⟨K3.out.1.trans (hb4.mono K3.out.1.size), _, _, rfl, own_keep K3.out.2 (fun y hy => hb4.block y (own_lt K3.out.2 hy).2.1)⟩
      clear hT hb4 K3
      go_wp2
      refine bodyPost_ret (results_ttt 4 5 6 rfl rfl rfl rfl) rfl ?_
      exact ⟨_, rfl, K4.out⟩
theorem rSetF_c (s : ByteArray) (hs : ¬ s.data.size = 32) (nb : Nat) (S : Nat → Bs) (w : World) : Calls Tryz.prog 9 #[.string s, .int .u32 (nb : Int)] w (Ret (RsR w #[] S 0 2)) := by
  have g1 : ¬ (s.size : Int) = 32 := by show ¬ ((s.data.size : Nat) : Int) = 32; omega
  have g0 : ((s.size : Int) == 32) = false := by simpa using g1
  have K4 : Hid (RsR w #[] S 0 2 (.tuple #[.string ⟨#[]⟩, .slice none 0 0, .int .i64 2]) w) := ⟨Below.refl _ _, _, _, rfl, rfl, Or.inl ⟨rfl, rfl⟩⟩
  clear hs
  go_enter Tryz.func9, Tryz.ntmps9
  go_wp2
  refine bodyPost_ret (results_ttt 4 5 6 rfl rfl rfl rfl) rfl ?_
  exact ⟨_, rfl, K4.out⟩
end Go.Proofs.YtmepmoalhgehhaaGreatDoor
namespace Go.Proofs.YtmepmoalhgehhaaGreatDoor
open Go.RowKit Go.Sort Go.Deep
variable {P : Nat} [NeZero P] {N : Nat}
theorem OwQ.up {W : World} {L L' B : Nat} {v : Value} {b : SP.Bs} (h : OwQ W L B v b) (hL : L ≤ L') : OwQ W L' B v b := by
  rcases h with h | ⟨g, h1, h2, h3, h4⟩
  · exact Or.inl h
  · exact Or.inr ⟨g, h1, h2, by omega, h4⟩
theorem owq_nil (W : World) (L B : Nat) : OwQ W L B (.slice none 0 0) #[] := Or.inl ⟨rfl, Or.inl ⟨rfl, rfl⟩⟩
/-- What the program's Set gave: a name, public keys, all of them apart, below L. -/
structure SG (w W : World) (L : Nat) (nm : Value) (q : Option Addr) (m : Nat) (B : Bs) (S : Nat → Bs) (V : Nat → Value) : Prop where
  bl : Below w.heap.size w W
  sz : L ≤ W.heap.size
  no : OwQ W L w.heap.size nm B
  nl : ∀ y, nm.ownBlock = some y → w.heap.size ≤ y ∧ y < L
  qn : q = none → m = 0
  pq : 0 < m → ∃ g, q = some ⟨g, 0, none⟩ ∧ g < L ∧ ∀ i, i < m → W.cell? ⟨g, i, none⟩ = some (V i)
  ow : ∀ i, i < m → OwQ W L w.heap.size (V i) (S i)
  vl : ∀ i, i < m → ∀ y, (V i).ownBlock = some y → w.heap.size ≤ y ∧ y < L
  ni : ∀ i, i < m → ∀ y, (V i).ownBlock = some y → nm.ownBlock ≠ some y
  vi : ∀ i i', i < m → i' < m → i ≠ i' → ∀ y, (V i).ownBlock = some y → (V i').ownBlock ≠ some y
theorem SG.keep {w W W' : World} {L m : Nat} {nm : Value} {q : Option Addr} {B : Bs} {S : Nat → Bs} {V : Nat → Value} (h : SG w W L nm q m B S V) (hb : Below L W W') (hb2 : Below w.heap.size w W') (hs : W.heap.size ≤ W'.heap.size) : SG w W' L nm q m B S V :=
  ⟨hb2, Nat.le_trans h.sz hs, h.no.keep hs (fun g hg => hb.block g (h.nl g hg).2), h.nl, h.qn, fun hm => by
    obtain ⟨g, h1, h2, h3⟩ := h.pq hm
    exact ⟨g, h1, h2, fun i hi => by rw [World.cell?_of_block (a := ⟨g, i, none⟩) (hb.block g h2)]; exact h3 i hi⟩,
    fun i hi => (h.ow i hi).keep hs (fun g hg => hb.block g (h.vl i hi g hg).2), h.vl, h.ni, h.vi⟩
theorem SG.below {w W W' : World} {L m : Nat} {nm : Value} {q : Option Addr} {B : Bs} {S : Nat → Bs} {V : Nat → Value} (h : SG w W L nm q m B S V) (hb : Below W.heap.size W W') : SG w W' L nm q m B S V :=
  h.keep (hb.mono h.sz) (h.bl.trans (hb.mono h.bl.size)) hb.size
theorem SG.drewN {w W : World} {L m : Nat} {nm : Value} {q : Option Addr} {B : Bs} {S : Nat → Bs} {V : Nat → Value} (h : SG w W L nm q m B S V) (k : Nat) : SG w (W.drewN k) L nm q m B S V :=
  h.below ⟨rfl, rfl, rfl, Nat.le_refl _, fun _ _ => rfl⟩
theorem SG.pt {w W : World} {L m : Nat} {nm : Value} {q : Option Addr} {B : Bs} {S : Nat → Bs} {V : Nat → Value} (h : SG w W L nm q m B S V) : Pt W nm B := (RV.of h.no).pt
theorem SG.pv {w W : World} {L m : Nat} {nm : Value} {q : Option Addr} {B : Bs} {S : Nat → Bs} {V : Nat → Value} (h : SG w W L nm q m B S V) {i : Nat} (hi : i < m) : Pt W (V i) (S i) := (RV.of (h.ow i hi)).pt
theorem SG.sl {w W : World} {L m : Nat} {nm : Value} {q : Option Addr} {B : Bs} {S : Nat → Bs} {V : Nat → Value} (h : SG w W L nm q m B S V) {i : Nat} (hi : i < m) : ∃ a n c, V i = .slice a n c := by
  obtain ⟨a, c, e⟩ := (RV.of (h.ow i hi)).slice
  exact ⟨_, _, _, e⟩
def setM (k : Bs) : Nat := if k.size = 32 then 20 else 0
def setE (k : Bs) : Nat := if k.size = 32 then 0 else 2
def setB (P N : Nat) [NeZero P] (k : Bs) (nb : Nat) : Bs := if k.size = 32 then nmB P N k nb else #[]
/-- THE PROGRAM'S Set. -/
theorem SetA_c (C : Fld P) (O : Ord N) (sq : Option Addr) (sc : Nat) (k : Bs) (nb : Nat) (hnb : nb < 4294967296) (w : World) (hk : SP.PartOk w (.slice sq k.size sc) k.toList) :
    Calls Tryz.prog 8 #[.slice sq k.size sc, .int .u32 (nb : Int)] w (Ret fun e w' => ∃ nm q V, e = .tuple #[.agg #[nm, .slice q (setM k) (setM k)], .int .i64 (setE k : Int)] ∧ SG w w' w'.heap.size nm q (setM k) (setB P N k nb) (pkB P N k nb) V) := by
  by_cases h32 : k.size = 32
  · have e1 : setM k = 20 := if_pos h32
    have e2 : setE k = 0 := if_pos h32
    have e3 : setB P N k nb = nmB P N k nb := if_pos h32
    rw [e1, e2, e3]
    rw [h32] at hk ⊢
    refine (Set_c C O sq sc k nb hnb w hk).mono ?_
    rintro e w' ⟨v, rfl, hb, r, g, L, K, rfl, hR, hlen, hwg, hgr, hrw, hn8, hH, hel, hup⟩
    have hK : ∀ i, i < 20 → g < K i ∧ K i < r := fun i hi => ⟨(hel i hi).2.1, (hel i hi).2.2.1⟩
    have hb1 : ∀ {a n c y : Nat}, (Value.slice (some ⟨a, 0, none⟩) n c).ownBlock = some y → a = y := fun h => Option.some.inj h
    refine ⟨_, rfl, _, _, fun i => .slice (some ⟨K i, 0, none⟩) 33 33, rfl, hb, Nat.le_refl _, Or.inr ⟨r, by rw [hn8], by omega, hrw, hrw, hH⟩, fun y hy => ?_, fun e => (by cases e), fun _ => ⟨g, rfl, hR.1, fun i hi => ?_⟩, fun i hi => Or.inr ⟨K i, by rw [pkB_size], ?_, ?_, ?_, (hel i hi).2.2.2⟩, fun i hi y hy => ?_, fun i hi y hy e => ?_, fun i i' hi hi' hne y hy e => ?_⟩
    · have := hb1 hy; omega
    · have := hR.2.1 i _ (hel i hi).1
      rw [Nat.zero_add] at this
      exact this
    · have := hK i hi; omega
    · have := hK i hi; omega
    · have := hK i hi; omega
    · have := hb1 hy; have := hK i hi; omega
    · have := hb1 hy; have := hb1 e; have := hK i hi; omega
    · have h1 := hb1 hy
      have h2 := hb1 e
      by_cases hlt : i < i'
      · have := hup i i' hlt hi'; omega
      · have := hup i' i (by omega) hi; omega
  · have e1 : setM k = 0 := if_neg h32
    have e2 : setE k = 2 := if_neg h32
    have e3 : setB P N k nb = #[] := if_neg h32
    rw [e1, e2, e3]
    refine (SetF_c sq k.size sc nb h32 w).mono ?_
    rintro e w' ⟨v, rfl, hb, rfl⟩
    exact ⟨_, rfl, _, _, fun _ => undef, rfl, hb, Nat.le_refl _, owq_nil _ _ _, fun y hy => (by cases hy), fun _ => rfl, fun h => absurd h (Nat.lt_irrefl _), fun i hi => absurd hi (Nat.not_lt_zero _), fun i hi => absurd hi (Nat.not_lt_zero _), fun i hi => absurd hi (Nat.not_lt_zero _), fun i _ hi => absurd hi (Nat.not_lt_zero _)⟩
/-- THE REFERENCE'S Set. -/
theorem rSetA_c (C : Fl3 P) (O : Ord N) (s : ByteArray) (nb : Nat) (hnb : nb < 4294967296) (w : World) : Calls Tryz.prog 9 #[.string s, .int .u32 (nb : Int)] w (Ret (RsR w (setB P N s.data nb) (pkB P N s.data nb) (setM s.data) (setE s.data))) := by
  by_cases h32 : s.data.size = 32
  · have e1 : setM s.data = 20 := if_pos h32
    have e2 : setE s.data = 0 := if_pos h32
    have e3 : setB P N s.data nb = nmB P N s.data nb := if_pos h32
    rw [e1, e2, e3]
    exact rSetY_c C O s h32 nb hnb w
  · have e1 : setM s.data = 0 := if_neg h32
    have e2 : setE s.data = 2 := if_neg h32
    have e3 : setB P N s.data nb = #[] := if_neg h32
    rw [e1, e2, e3]
    exact rSetF_c s h32 nb _ w
/-- 'append([][]byte{nm}, public...)', and that all of it is apart. -/
theorem apart_set {w W : World} {L m : Nat} {a : Option Addr} {n c : Nat} {q : Option Addr} {B : Bs} {S : Nat → Bs} {V : Nat → Value} (h : SG w W L (.slice a n c) q m B S V) (hm : m ≤ 20) (hB : B.size ≤ 100) (hS : ∀ i, i < m → (S i).size ≤ 100) :
    ∃ kl cc W', (Builtin.append_ #[33, 33] 33 #[.slice (some ⟨W.heap.size, 0, none⟩) 1 1, .slice q m m]).run Tryz.prog (W.alloc (.cells #[.slice a n c] 24)) = .ok (.slice (some ⟨kl, 0, none⟩) (1 + m) cc) W' ∧ Below W.heap.size W W' ∧
      Calls Tryz.prog 10 #[.slice (some ⟨kl, 0, none⟩) (1 + m) cc] W' (fun e w' => e = .returned (.bool true) ∧ Below w.heap.size w w') := by
  obtain ⟨i, hi, he⟩ := Option.map_eq_some_iff.1 infoBB
  simp only [Prod.mk.injEq] at he
  obtain ⟨i1, i2, i3⟩ := he
  obtain ⟨z, hz, hz2⟩ := Option.map_eq_some_iff.1 i3
  have ba := alloc_below W (.cells #[.slice a n c] 24)
  have hz1 : (W.alloc (.cells #[.slice a n c] 24)).heap.size = W.heap.size + 1 := World.size_alloc _ _
  have ho : (W.alloc (.cells #[.slice a n c] 24)).ownsRow W.heap.size 24 1 (.slice (some ⟨W.heap.size, 0, none⟩) 1 1) 1 [.slice a n c] := ⟨rfl, Or.inr ⟨W.heap.size, 1, _, rfl, Nat.le_refl _, Array.getElem?_push_size, Nat.le_refl _, by unfold maxLen; omega, rfl, rfl⟩⟩
  have hap : ∃ v' W', (Builtin.append_ #[33, 33] 33 #[.slice (some ⟨W.heap.size, 0, none⟩) 1 1, .slice q m m]).run Tryz.prog (W.alloc (.cells #[.slice a n c] 24)) = .ok v' W' ∧ W'.ownsRow W.heap.size 24 1 v' (1 + m) ([.slice a n c] ++ (List.range m).map V) ∧ (W.alloc (.cells #[.slice a n c] 24)).grownBy W' (some W.heap.size) := by
    cases q with
    | none =>
      obtain rfl := h.qn rfl
      have := run_append_room_src (P := Tryz.prog) (W.alloc (.cells #[.slice a n c] 24)) 33 33 33 24 i undBB hi W.heap.size 0 1 1 (.slice none 0 0) 0 [] (Src.ofNil (e' := 24) _ undBB 0) (by omega) (fun j hj => by cases hj) (fun j hj => by cases hj)
      exact ⟨_, _, this, ho, ⟨rfl, rfl, rfl, Nat.le_refl _, fun _ _ _ => rfl⟩⟩
    | some p =>
      have hpc : ∃ g, (p = ⟨g, 0, none⟩ ∨ m = 0) ∧ ∀ j u, ((List.range m).map V)[j]? = some u → (W.alloc (.cells #[.slice a n c] 24)).cell? (p.add j) = some u := by
        by_cases hm0 : m = 0
        · subst hm0
          exact ⟨0, Or.inr rfl, fun j u hj => by cases hj⟩
        · obtain ⟨g, e, h2, h3⟩ := h.pq (by omega)
          obtain rfl := Option.some.inj e
          refine ⟨g, Or.inl rfl, fun j u hj => ?_⟩
          have hjm : j < m := by have := (List.getElem?_eq_some_iff.1 hj).1; simpa using this
          rw [List.getElem?_map, List.getElem?_range hjm] at hj
          obtain rfl := Option.some.inj hj
          rw [addP0, Nat.zero_add, World.cell?_of_block (a := ⟨g, j, none⟩) (ba.block g (by have := h.sz; omega))]
          exact h3 j hjm
      obtain ⟨g, -, hc⟩ := hpc
      obtain ⟨v', W', r1, r2, r3, -⟩ := run_append_own (P := Tryz.prog) (W.alloc (.cells #[.slice a n c] 24)) W.heap.size 33 33 24 i z 1 24 undBB hi hz i1 i2 hz2 (by decide) _ 1 _ ho p m m ((List.range m).map V) (by simp) hc (fun u hu => by
        obtain ⟨j, hj, rfl⟩ := List.mem_map.1 hu
        obtain ⟨x, y, t, e⟩ := h.sl (List.mem_range.1 hj)
        rw [e]
        rfl) (by unfold maxLen; omega) (by omega) (by omega)
      exact ⟨v', W', r1, r2, r3⟩
  obtain ⟨v', W', r1, r2, r3⟩ := hap
  have hbW : Below W.heap.size W W' := by
    refine ⟨by rw [r3.os]; rfl, by rw [r3.tape]; rfl, by rw [r3.output]; rfl, by have := r3.size; omega, fun y hy => ?_⟩
    rw [r3.block y (by omega) (fun e => by have := Option.some.inj e; omega), ba.block y hy]
  obtain ⟨kl, cc, rfl⟩ := own_shape r2 (by omega)
  have hkl := own_lt r2 (g := kl) rfl
  have hsz := h.sz
  have h' := h.below hbW
  refine ⟨kl, cc, W', r1, hbW, ?_⟩
  refine (ApartQ kl (1 + m) cc w.heap.size (some ⟨kl, 0, none⟩) (fun j => if j = 0 then .slice a n c else V (j - 1)) (fun j => if j = 0 then B else S (j - 1)) W' (by omega) (fun _ => rfl) ⟨fun j hj => ?_, fun _ => hkl.2.1, fun j hj e => ?_, fun j j' hj hj' hne g' e e' => ?_, fun j hj g' e => ?_⟩ (fun j hj => ?_) (fun j hj => ?_) (Nat.le_trans h.bl.size hbW.size)).mono ?_
  · have hcell := own_cellS r2 (j := j) (u := if j = 0 then .slice a n c else V (j - 1)) (by
      by_cases h0 : j = 0
      · subst h0; rfl
      · rw [if_neg h0, List.getElem?_append_right (by simp; omega), List.length_singleton, List.getElem?_map, List.getElem?_range (by omega)]
        rfl)
    exact hcell
  · by_cases h0 : j = 0
    · simp only [if_pos h0] at e
      have := (h.nl kl e).2
      omega
    · simp only [if_neg h0] at e
      have := (h.vl (j - 1) (by omega) kl e).2
      omega
  · by_cases h0 : j = 0
    · simp only [if_pos h0] at e
      simp only [if_neg (show ¬ j' = 0 by omega)] at e'
      exact h.ni (j' - 1) (by omega) g' e' e
    · simp only [if_neg h0] at e
      by_cases h1 : j' = 0
      · simp only [if_pos h1] at e'
        exact h.ni (j - 1) (by omega) g' e e'
      · simp only [if_neg h1] at e'
        exact h.vi (j - 1) (j' - 1) (by omega) (by omega) (by omega) g' e e'
  · have hs2 := hbW.size
    by_cases h0 : j = 0
    · simp only [if_pos h0] at e
      have := h.nl g' e
      omega
    · simp only [if_neg h0] at e
      have := h.vl (j - 1) (by omega) g' e
      omega
  · by_cases h0 : j = 0
    · simp only [if_pos h0]
      exact h'.no.up h'.sz
    · simp only [if_neg h0]
      exact (h'.ow (j - 1) (by omega)).up h'.sz
  · by_cases h0 : j = 0
    · simp only [if_pos h0]
      omega
    · simp only [if_neg h0]
      have := hS (j - 1) (by omega)
      omega
  · rintro e w' ⟨rfl, hb⟩
    exact ⟨rfl, h'.bl.trans hb⟩
end Go.Proofs.YtmepmoalhgehhaaGreatDoor
namespace Go.Proofs.YtmepmoalhgehhaaGreatDoor
open Go.RowKit Go.Sort Go.Deep
variable {P : Nat} [NeZero P] {N : Nat}
/-- What the law keeps behind Set. -/
structure LS (w W : World) (k6 L : Nat) (nm : Value) (q : Option Addr) (m : Nat) (B : Bs) (S : Nat → Bs) (V : Nat → Value) (lv : Value) (bl : Nat) : Prop where
  sg : SG w W L nm q m B S V
  ks : Row W k6 [nm, .slice q m m]
  l : W.ownsRow bl 9 1 lv m (strs S m)
theorem LS.drewN {w W : World} {k6 L m bl : Nat} {nm lv : Value} {q : Option Addr} {B : Bs} {S : Nat → Bs} {V : Nat → Value} (h : LS w W k6 L nm q m B S V lv bl) (k : Nat) : LS w (W.drewN k) k6 L nm q m B S V lv bl := ⟨h.sg.drewN k, h.ks, h.l⟩
theorem idxPk (g n m c : Nat) (hn : n < m) (w : World) : (Instr.indexAt 33 (.slice (some ⟨g, 0, none⟩) m c) (.int .i64 (n : Int))).run Tryz.prog w = .ok (.pointer (some ⟨g, n, none⟩)) w := by
  have h3 : ¬ (n : Int) < 0 := by omega
  have h4 : (n : Int) < (m : Int) := by omega
  go_simp
theorem idxTk (g n m c : Nat) (hn : n < m) (w : World) : (Instr.indexAt 38 (.slice (some ⟨g, 0, none⟩) m c) (.int .i64 (n : Int))).run Tryz.prog w = .ok (.pointer (some ⟨g, n, none⟩)) w := by
  have h3 : ¬ (n : Int) < 0 := by omega
  have h4 : (n : Int) < (m : Int) := by omega
  go_simp
set_option maxHeartbeats 2000000 in
set_option maxRecDepth 100000 in
theorem sets_core (s : ByteArray) (hs : s.size ≤ 4096) (nb x kE m er : Nat) (kB B : Bs) (S : Nat → Bs) (pR pI pE : Int) (w : World) (hT : TabX w)
    (HKey : ∀ (W : World) (g c : Nat), s.size ≤ c → Holds encB W g 0 s.data → TabX W → Calls Tryz.prog 4 #[.slice (some ⟨g, 0, none⟩) s.size c, .int .u32 (nb : Int), .int .u64 (x : Int)] W (Ret fun e w' => Below W.heap.size W w' ∧ ∃ v, e = .tuple #[v, .int .i64 (kE : Int)] ∧ Pt w' v kB))
    (HrKey : ∀ W : World, Calls Tryz.prog 5 #[.string s, .int .u32 (nb : Int), .int .u64 (x : Int)] W (Ret fun e w' => Below W.heap.size W w' ∧ e = .tuple #[.string ⟨kB⟩, .int .i64 (kE : Int)]))
    (HPl : ∀ W : World, TabX W → Calls Tryz.prog 6 #[.int .u64 (x : Int)] W fun e w' => e = .returned (.tuple #[.int .i64 pI, .int .i64 pE]) ∧ w' = W)
    (HrPl : ∀ W : World, Calls Tryz.prog 7 #[.int .u64 (x : Int)] W fun e w' => e = .returned (.int .i64 pR) ∧ w' = W)
    (hp : (pR < 0 ∧ ¬ 0 ≤ pR ∧ pI = 0 ∧ pE = 7) ∨ (¬ pR < 0 ∧ 0 ≤ pR ∧ pI = pR ∧ pE = 0))
    (HSet : ∀ (W : World) (g c : Nat), s.size ≤ c → Holds encB W g 0 s.data → Calls Tryz.prog 8 #[.slice (some ⟨g, 0, none⟩) s.size c, .int .u32 (nb : Int)] W (Ret fun e w' => ∃ nm q V, e = .tuple #[.agg #[nm, .slice q m m], .int .i64 (er : Int)] ∧ SG W w' w'.heap.size nm q m B S V))
    (HrSet : ∀ W : World, Calls Tryz.prog 9 #[.string s, .int .u32 (nb : Int)] W (Ret (RsR W B S m er)))
    (hm : m ≤ 20) (hB : B.size ≤ 100) (hS : ∀ i, i < m → (S i).size ≤ 100) :
    Calls Tryz.prog 3 #[.string s, .int .u32 (nb : Int), .int .u64 (x : Int)] w fun e w' => e = .returned (.bool true) ∧ Below w.heap.size w w' := by
  have g0 : ¬ (4096 : Int) < (s.size : Int) := by omega
  obtain ⟨c1, w1, hcv, hc1, hb1, hH1, hlt1⟩ := conv_of s w
  have HK := Hid.mk2 (HKey w1 w.heap.size c1 hc1 hH1 (hT.below hb1))
  have HRK := Hid.mk2 HrKey
  have HP := Hid.mk2 HPl
  have HRP := Hid.mk2 HrPl
  have HSt := Hid.mk2 HSet
  have HRS := Hid.mk2 HrSet
  have HM := Hid.mk2 (And.intro hm (And.intro hB hS))
  have K1 : Hid (Below w.heap.size w w1 ∧ TabX w1) := ⟨hb1, hT.below hb1⟩
  clear HKey HrKey HPl HrPl HSet HrSet hm hB hS hc1 hH1 hlt1 hb1 hT
  go_enter Tryz.func3, Tryz.ntmps3
  go_wp2_with fail
  refine HK.out.mono ?_
  rintro e w2 ⟨v2, rfl, hb2, vk, rfl, hpt⟩
  have K2 : Hid (Below w.heap.size w w2 ∧ TabX w2 ∧ Pt w2 vk kB) := ⟨K1.out.1.trans (hb2.mono K1.out.1.size), K1.out.2.below hb2, hpt⟩
  clear hb2 hpt HK K1 hcv
  go_wp2_with fail
  refine (HRK.out w2).mono ?_
  rintro e w3 ⟨v3, rfl, hb3, rfl⟩
  have K3 : Hid (Below w.heap.size w w3 ∧ TabX w3) := ⟨K2.out.1.trans (hb3.mono K2.out.1.size), K2.out.2.1.below hb3⟩
  have hcv := (K2.out.2.2.below hb3).conv
  have hsv : ∃ a n c, vk = .slice a n c := by
    obtain ⟨q, c, e, -⟩ := K2.out.2.2
    exact ⟨_, _, _, e⟩
  obtain ⟨a0, n0, c0, rfl⟩ := hsv
  clear hb3 K2 HRK
  go_wp2_with fail
  refine (HP.out w3 K3.out.2).mono ?_
  rintro e w3' ⟨rfl, rfl⟩
  clear HP hcv
  go_wp2_with fail
  refine (HRP.out w3').mono ?_
  rintro e w3 ⟨rfl, rfl⟩
  clear HRP
  obtain ⟨c4, w4, hcv4, hc4, hb4, hH4, hlt4⟩ := conv_of s w3
  have K4 : Hid (Below w.heap.size w w4) := K3.out.1.trans (hb4.mono K3.out.1.size)
  have HSt4 := Hid.mk2 (HSt.out w4 w3.heap.size c4 hc4 hH4)
  clear HSt hc4 hb4 hH4 hlt4
  rcases hp with ⟨p1, p2, rfl, rfl⟩ | ⟨p1, p2, rfl, rfl⟩ <;> (
    go_wp2_with fail
    refine HSt4.out.mono ?_
    rintro e w5 ⟨v5, rfl, nm, q, V, rfl, hSG⟩
    obtain ⟨an, cn, hnm⟩ := (RV.of hSG.no).slice
    generalize hnn : Array.size B = nn at hnm
    subst hnm
    obtain ⟨k6, hk6⟩ : ∃ k6, Hid (w5.heap.size = k6) := ⟨_, rfl⟩
    obtain ⟨w6, hw6⟩ : ∃ w6, Hid (w5.alloc (.cells #[.slice none 0 0, .slice none 0 0] 35) = w6) := ⟨_, rfl⟩
    obtain ⟨w7, hw7⟩ : ∃ w7, Hid (w6.setCells k6 0 [.slice an nn cn, .slice q m m] = w7) := ⟨_, rfl⟩
    have r6 : Row w6 k6 [.slice none 0 0, .slice none 0 0] := by rw [← hw6.out, ← hk6.out]; exact row_new w5 _ _
    have hth : Hid (w6.there k6 0 2) := r6.2.2
    have b57 : Below w5.heap.size w5 w7 := by rw [← hw7.out, ← hw6.out]; exact RG.below_setCells (by rw [hk6.out]; exact Nat.le_refl _) _ _ _ (below1 w5 _)
    have r7 : Row w7 k6 [.slice an nn cn, .slice q m m] := by rw [← hw7.out]; exact r6.put rfl
    have hSG0 : SG w w5 w5.heap.size (.slice an nn cn) q m B S V := by
      have hs4 := K4.out.size
      have lw : ∀ {v : Value} {b : SP.Bs}, OwQ w5 w5.heap.size w4.heap.size v b → OwQ w5 w5.heap.size w.heap.size v b := fun h => by
        rcases h with ⟨h0, h1 | ⟨y, cap, cur, h1, h2, h3⟩⟩ | ⟨y, h1, h2, h3⟩
        · exact Or.inl ⟨h0, Or.inl h1⟩
        · exact Or.inl ⟨h0, Or.inr ⟨y, cap, cur, h1, by omega, h3⟩⟩
        · exact Or.inr ⟨y, h1, by omega, h3⟩
      exact ⟨K4.out.trans (hSG.bl.mono hs4), hSG.sz, lw hSG.no, fun y hy => ⟨by have := (hSG.nl y hy).1; omega, (hSG.nl y hy).2⟩, hSG.qn, hSG.pq, fun i hi => lw (hSG.ow i hi), fun i hi y hy => ⟨by have := (hSG.vl i hi y hy).1; omega, (hSG.vl i hi y hy).2⟩, hSG.ni, hSG.vi⟩
    have K7 : Hid (SG w w7 k6 (.slice an nn cn) q m B S V ∧ Row w7 k6 [.slice an nn cn, .slice q m m]) := by
      rw [hk6.out] at hSG0
      exact ⟨hSG0.below b57, r7⟩
    clear hSG hSG0 hnn r6 r7 b57 K4 HSt4 hcv4
    go_wp2_with (first | (refine wpList_op (v := .pointer (some ⟨k6, 0, none⟩)) (w' := w6) rfl (.alloc 35) rfl ?_ ?_; (rw [← hw6.out, ← hk6.out]; kernel_rfl)) | (refine wpList_store_mid rfl 35 _ _ rfl k6 0 #[.slice an nn cn, .slice q m m] ?_ ?_ ?_ ?_ ?_ ?_; rfl; rfl; exact hth.out; exact iKS; exact one2 _ _ rfl rfl; rw [show (#[.slice an nn cn, .slice q m m] : Array Value).toList = [.slice an nn cn, .slice q m m] from rfl, hw7.out]) | fail)
    refine (HRS.out w7).mono ?_
    rintro e w8 ⟨v8, rfl, hb8, q2, c2, rfl, hown⟩
    have K8 : Hid (LS w w8 k6 k6 (.slice an nn cn) q m B S V (.slice q2 m c2) w7.heap.size) := ⟨K7.out.1.below hb8, K7.out.2.below hb8, hown⟩
    have c0 := K8.out.ks.2.1 0 _ rfl
    have c1 := K8.out.ks.2.1 1 _ rfl
    rw [Nat.zero_add] at c0 c1
    have hcv := K8.out.sg.pt.conv
    clear hb8 hown K7 HRS hw6 hw7 hth
    go_wp2_with fail
    clear c0 c1 hcv
    go_loopg [16] m (fun gk s16 wr => ∃ n : Nat, n + gk = m ∧ s16 = .int .i64 (n : Int) ∧ Hid (LS w wr k6 k6 (.slice an nn cn) q m B S V (.slice q2 m c2) w7.heap.size))
    case atStart => exact ⟨0, Nat.zero_add _, rfl, K8⟩
    case round =>
      clear K8
      obtain ⟨n, hn, rfl, KM⟩ := hrel
      have c0 := KM.out.ks.2.1 0 _ rfl
      have c1 := KM.out.ks.2.1 1 _ rfl
      rw [Nat.zero_add] at c0 c1
      by_cases hlt : n < m
      · have hlt' : (n : Int) < (m : Int) := by omega
        obtain ⟨g, rfl, -, hcs⟩ := KM.out.sg.pq (by omega)
        have hcn := hcs n hlt
        obtain ⟨av, nv', cv, hV⟩ := KM.out.sg.sl hlt
        have hptn := KM.out.sg.pv hlt
        rw [hV] at hcn hptn
        have hcv := fun k => Pt.conv (W := wr.drewN k) hptn
        obtain ⟨g2, c2', e2⟩ := own_shape KM.out.l (by omega)
        injection e2 with e2 _ e3
        subst e2 e3
        have hcl : wr.cell? ⟨g2, n, none⟩ = some (.string ⟨S n⟩) := own_cellS KM.out.l (by unfold strs; rw [List.getElem?_map, List.getElem?_range hlt]; rfl)
        have hix1 := idxPk g n m m hlt
        have hix2 := idxTk g2 n m c2 hlt
        have hm20 : m ≤ 20 := HM.out.1
        generalize S n = X at hcv hcl
        clear hptn hcs hV
        go_wp2_with fail
        go_quiet (fail)
        have KM1 := Hid.mk2 (KM.out.drewN nq)
        clear KM c0 c1 hcn hcv hcl hix1 hix2
        generalize wr.drewN nq = w9 at KM1 ⊢
        go_wp2
        go_roundg (gk - 1)
        case measure => omega
        case rel => exact ⟨n + 1, by omega, rfl, KM1⟩
      · have hlt' : ¬ (n : Int) < (m : Int) := by omega
        obtain ⟨kl, cc, W', r1, hbW, hA⟩ := apart_set KM.out.sg HM.out.1 HM.out.2.1 HM.out.2.2
        have c1' : (wr.alloc (.cells #[.slice an nn cn] 24)).cell? ⟨k6, 1, none⟩ = some (.slice q m m) := by
          rw [World.cell?_of_block (a := ⟨k6, 1, none⟩) ((below1 wr _).block k6 KM.out.ks.1)]
          exact c1
        clear KM hbW
        go_wp2_with (first | (at_builtin; refine Lib.wpList_append_run _ rfl _ _ 33 33 rfl _ _ rfl rfl _ _ r1 ?_) | fail)
        refine hA.mono ?_
        rintro e w10 ⟨rfl, hb10⟩
        clear hA r1
        go_wp2
        go_ret
        exact ⟨rfl, hb10⟩)
end Go.Proofs.YtmepmoalhgehhaaGreatDoor
namespace Go.Proofs.YtmepmoalhgehhaaGreatDoor
open Go.RowKit Go.Sort Go.Deep
theorem fl3 : ∃ (P : Nat) (_ : NeZero P), Fl3 P := by
  obtain ⟨P, hz, hP, hc⟩ := EC.cur
  have h0 : P = Go.Proofs.YtmepmoalhgehhaaGreatDoor.p0 := by rw [hP]; decide +kernel
  have hg := gap0
  have hr := refP0
  have h2 : 2 ≤ Go.Proofs.YtmepmoalhgehhaaGreatDoor.p0 % 18446744073709551616 := by decide +kernel
  have h4 : Go.Proofs.YtmepmoalhgehhaaGreatDoor.p0 / 4 % 18446744073709551616 < 18446744073709551615 := by decide +kernel
  have h3 : Go.Proofs.YtmepmoalhgehhaaGreatDoor.p0 % 4 = 3 := by decide +kernel
  have h7 : 7 < Go.Proofs.YtmepmoalhgehhaaGreatDoor.p0 := by decide +kernel
  rw [← h0] at hg hr h2 h4 h3 h7
  exact ⟨P, hz, ⟨⟨hg, hc, h2, h4, h3, h7⟩, hr⟩⟩
theorem p1_top : Go.Proofs.YtmepmoalhgehhaaGreatDoor.p1 ≤ top := by decide +kernel
end Go.Proofs.YtmepmoalhgehhaaGreatDoor
/-
  THE ROW OF 'KeysSets' round its walk: a text, two numbers; a table that the program lays; and the tied card.
-/
namespace Go.Proofs.YtmepmoalhgehhaaGreatDoor.keysSets
open Go.ChangeShapes Go.WideShapes Go.ChangeAt Go.RowKit Go.Sort Go.Deep
open Go.ChangeMaps (open_string shut_string)
theorem own : ownKnob Tryz.prog.godebug = none := by kernel_rfl
theorem gTab : Tryz.prog.globalNamed "math/bits.deBruijn64tab" = some 0 := by kernel_rfl
theorem tTab : (Tryz.prog.globals[0]?).map (·.type) = some 76 := by kernel_rfl
theorem uTab : Tryz.prog.underlying 76 = some (.array 64 5) := by kernel_rfl
theorem u5 : Tryz.prog.underlying 5 = some (.int .u8) := by kernel_rfl
theorem c5 : Tryz.prog.cellsOf 5 = 1 := by kernel_rfl
theorem cTab : Tryz.prog.cellsOf 76 = 64 := by kernel_rfl
/-- The door's own heap meets the condition. -/
theorem door_met (os : Os) (args : Array Value) : laidMetH Tryz.prog Rows.keysSetsRow.laid ((World.doorLaid Tryz.prog 14 os).forCall (fun _ _ => 0) ⟨#[], args, []⟩).memory :=
  laidMetH_of_parts3 (fuel := 8) (laidMet_of_run' 8 (by kernel_rfl) (by kernel_rfl)) (by kernel_rfl) (by kernel_rfl)
def zs : List Int := Lib.deBruijn64tab.map fun n : Nat => (n : Int)
theorem laid_is : (Rows.keysSetsRow.laid : List (String × DataW Unit)) = [("math/bits.deBruijn64tab", Lib.tabData .u8 zs)] := by kernel_rfl
/-- What the condition gives the walk: the table's cells. -/
theorem of_laid {W : World} (h : laidMetH Tryz.prog Rows.keysSetsRow.laid W) : TabX W := by
  rw [MakeChecks.laidMetH_plain _ _ _ (by kernel_rfl), laid_is] at h
  have hT := Lib.tabIs_of_head gTab tTab uTab u5 c5 cTab h
  intro i hi
  have hl : i < zs.length := by show i < (Lib.deBruijn64tab.map _).length; rw [List.length_map]; exact hi
  rw [hT.cell gTab i hl]
  congr 2
  unfold zs
  rw [List.getD_eq_getElem?_getD, List.getElem?_map, List.getD_eq_getElem?_getD]
  cases Lib.deBruijn64tab[i]? <;> rfl
theorem ordT : Ord Go.Proofs.YtmepmoalhgehhaaGreatDoor.p1 := ⟨gap1, refP1, by decide +kernel, by decide +kernel⟩
theorem sets_long (s : ByteArray) (hs : ¬ s.size ≤ 4096) (nb x : Nat) (w : World) : Calls Tryz.prog 3 #[.string s, .int .u32 (nb : Int), .int .u64 (x : Int)] w fun e w' => e = .returned (.bool true) ∧ Below w.heap.size w w' := by
  have g0 : (4096 : Int) < (s.size : Int) := by omega
  clear hs
  go_enter Tryz.func3, Tryz.ntmps3
  go_wp2
  go_ret
  exact ⟨rfl, Below.refl _ _⟩
theorem setsL (s : ByteArray) (nb : Nat) (hnb : nb < 4294967296) (x : Nat) (hx : x < 18446744073709551616) (w : World) (hT : TabX w) :
    Calls Tryz.prog 3 #[.string s, .int .u32 (nb : Int), .int .u64 (x : Int)] w fun e w' => e = .returned (.bool true) ∧ Below w.heap.size w w' := by
  by_cases hs : s.size ≤ 4096
  · obtain ⟨P, hz, C⟩ := fl3
    have part : ∀ (W : World) (g c : Nat), s.size ≤ c → Holds encB W g 0 s.data → SP.PartOk W (.slice (some ⟨g, 0, none⟩) s.data.size c) s.data.toList := fun W g c h1 h2 => ⟨_, g, 0, c, s.data, rfl, rfl, h1, by show s.size ≤ _; omega, Or.inr ⟨rfl, h2⟩⟩
    have hB : (setB P Go.Proofs.YtmepmoalhgehhaaGreatDoor.p1 s.data nb).size ≤ 100 := by
      unfold setB
      split
      · unfold nmB
        rw [Array.size_extract]
        omega
      · exact Nat.zero_le _
    have hM : setM s.data ≤ 20 := by unfold setM; split <;> omega
    have HKey := fun (W : World) (g c : Nat) h1 h2 h3 => KeyA_c ordT (some ⟨g, 0, none⟩) c s.data nb x hnb hx W (part W g c h1 h2) h3
    have HSet := fun (W : World) (g c : Nat) h1 h2 => SetA_c C.toFld ordT (some ⟨g, 0, none⟩) c s.data nb hnb W (part W g c h1 h2)
    rcases pow_cases x with ⟨i, hi, hxi⟩ | hn
    · exact sets_core s hs nb x _ _ _ _ _ _ (i : Int) (i : Int) 0 w hT HKey (fun W => rKeyA_c ordT s nb x hnb W) (fun W h => placex_c i hi x hxi W h) (fun W => rplace_y i x hi hxi W) (Or.inr ⟨by omega, by omega, rfl, rfl⟩) HSet (fun W => rSetA_c C ordT s nb hnb W) hM hB (fun j _ => by rw [pkB_size]; decide)
    · exact sets_core s hs nb x _ _ _ _ _ _ (-1) 0 7 w hT HKey (fun W => rKeyA_c ordT s nb x hnb W) (fun W _ => placen_c x hx hn W) (fun W => rplace_n x hn W) (Or.inl ⟨by omega, by omega, rfl, rfl⟩) HSet (fun W => rSetA_c C ordT s nb hnb W) hM hB (fun j _ => by rw [pkB_size]; decide)
  · exact sets_long s hs nb x w
set_option maxRecDepth 100000 in
theorem lifted (os : Os) (started : os.Started) (H : Type) (enc : TypeId × Value → H) :
    ReturnsInHanded {} Tryz.checked os 3 .any (fun w args => (Rows.keysSetsSpec.pre enc Tryz.prog Tryz.f3 [] false w args ∧ laidMetH Tryz.prog Rows.keysSetsRow.laid w) ∧ sizedMet enc Tryz.prog Tryz.f3 (OpenSpec.ofChange Rows.keysSetsSpec) false w args)
      (Rows.keysSetsSpec.post enc Tryz.prog Tryz.f3 false true false false) := by
  refine returnsInHanded_of_change_and (C := Tryz.checked) (X := fun w _ => laidMetH Tryz.prog Rows.keysSetsRow.laid w) (fun _ _ _ hh h => h.of_heap hh) own started (by kernel_rfl) Tryz.func3
    (ChangeSpec.witness_shaped (enc := enc) (C := Tryz.checked) (os := os) (X := fun w _ => laidMetH Tryz.prog Rows.keysSetsRow.laid w) false (World.doorLaid Tryz.prog 14 os) #[.string ByteArray.empty, .int .u32 0, .int .u64 0] 8 rfl (World.shaped_of_RefB (by kernel_rfl) (by kernel_rfl)) (by kernel_rfl) (by kernel_rfl) (by kernel_rfl) (door_met os _)) ?_
  intro W base args ds gs before hval0 hW _ _ hL _
  have hval : ∀ (j : Nat) t v, Tryz.f3.params[j]? = some t → args[j]? = some v → Value.okWide Tryz.prog W .any base t v := hval0
  have hW' := hW
  obtain ⟨p, q, hA0, hV, rfl, hfz, hnd⟩ := hW
  have hA : DataW.TrodAll enc Tryz.prog W 0 (fun _ => true) true Tryz.f3.params.toList args.toList ds p := hA0
  rw [Tryz.params3] at hA hval
  obtain ⟨v0, vs0, d0, ds0, p0, q0, hargs, rfl, rfl, h0, r0⟩ := trodAll_cons hA
  obtain ⟨v1, vs1, d1, ds1, p1', q1, rfl, rfl, rfl, h1, r1⟩ := trodAll_cons r0
  obtain ⟨v2, vs2, d2, ds2, p2, q2, rfl, rfl, rfl, h2, r2⟩ := trodAll_cons r1
  obtain ⟨rfl, rfl, rfl⟩ := trodAll_nil r2
  obtain rfl : args = #[v0, v1, v2] := by cases args; simp_all
  obtain ⟨rfl, rfl⟩ := trodVars_none hV
  obtain ⟨a0, rfl, rfl, rfl, w0⟩ := open_string Tryz.underlying9 (hval 0 9 v0 rfl rfl) h0
  obtain ⟨a1, rfl, rfl, rfl, w1⟩ := open_int Tryz.underlying22 (hval 1 22 v1 rfl rfl) h1
  obtain ⟨a2, rfl, rfl, rfl, w2⟩ := open_int Tryz.underlying23 (hval 2 23 v2 rfl rfl) h2
  have hr1 : 0 ≤ a1 ∧ a1 ≤ 4294967295 := by
    simp only [Lit.wf, Bool.and_eq_true, decide_eq_true_eq] at w1
    exact w1
  have hr2 : 0 ≤ a2 ∧ a2 ≤ 18446744073709551615 := by
    simp only [Lit.wf, Bool.and_eq_true, decide_eq_true_eq] at w2
    exact w2
  obtain ⟨nb, rfl⟩ : ∃ nb : Nat, a1 = (nb : Int) := ⟨a1.toNat, by omega⟩
  obtain ⟨x, rfl⟩ : ∃ x : Nat, a2 = (x : Int) := ⟨a2.toNat, by omega⟩
  refine (setsL a0 nb (by omega) x (by omega) W (of_laid hL)).mono fun e W' ⟨he, bel⟩ => ?_
  subst he
  exact ⟨_, rfl, _, _, _, [], _, [], hW', trodAll_mk1 (shut_bool Tryz.underlying4 _), (trodAll_cons_mk (shut_string Tryz.underlying9 w0) (trodAll_cons_mk (shut_int Tryz.underlying22 w1) (trodAll_cons_mk (shut_int Tryz.underlying23 w2) trodAll_mk0))), rfl, bel.frame _, fun h => by cases h⟩
theorem over : Rows.KeysSetsSaid :=
  OpenClaim.holds_of_wide 3 Tryz.f3 rfl rfl rfl rfl rfl rfl rfl ⟨rfl, rfl, rfl, rfl, rfl⟩ rfl rfl rfl rfl rfl (by kernel_rfl) Tryz.func3 (by kernel_rfl)
    (of_decide_eq_true (by kernel_rfl)) (by unfold Func.isWrapper; first | (rw [if_pos (by decide +kernel)]; kernel_rfl) | (rw [if_neg (by decide +kernel)]; exact ⟨rfl, rfl⟩))
    (fun os started H enc _ => lifted os started H enc)
/-- THE TIED CARD. -/
theorem card_holds : Rows.KeysSetsCardSaid :=
  Claim7.holds_tied_plain_at .later [] [.data] true Rows.keysSetsCard.stood.harness false
    over (fun _ h => by cases h) (by kernel_rfl) (fun _ h => by cases h) keysSets_row_tie rfl ⟨rfl, rfl⟩ (by kernel_rfl) rfl
    (fun f fn hf hfn => by
      obtain rfl : f = 3 := Option.some.inj ((show Tryz.prog.funcNamed "mintvault/mintvaultlaw9.KeysSets" = some 3 by kernel_rfl).symm.trans hf) |>.symm
      obtain rfl : fn = Tryz.f3 := (Option.some.inj (Tryz.func3.symm.trans hfn)).symm
      exact ⟨by kernel_rfl, fun j t ht => by
        rw [Tryz.params3] at ht
        have hm : t ∈ [9, 22, 23] := by simpa using Array.mem_of_getElem? ht
        have hall : ([9, 22, 23].all fun u => !Tryz.prog.wantsStandIn u) = true := by kernel_rfl
        exact (show Tryz.prog.wantsStandIn t = false by simpa using List.all_eq_true.1 hall t hm)⟩)
    (by kernel_rfl)
end Go.Proofs.YtmepmoalhgehhaaGreatDoor.keysSets
namespace Go.Proofs.YtmepmoalhgehhaaGreatDoor
/-- THE STATEMENT. -/
theorem keysSets_holds : Rows.KeysSetsCardSaid := keysSets.card_holds
#print axioms keysSets_holds
end Go.Proofs.YtmepmoalhgehhaaGreatDoor
