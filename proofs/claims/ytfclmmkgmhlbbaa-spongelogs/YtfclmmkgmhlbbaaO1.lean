import Derived.Test.YtfclmmkgmhlbbaaS5
import Derived.Lib.ConvBytes
namespace Go.Proofs.Ytfclmmkgmhlbbaa
open Go.RowKit Go.Sort Go.Deep

/-- v is a slice of bytes of one's own (from block B on), with the bytes T in it. -/
def Own (B : Nat) (w : World) (v : Value) (T : List UInt8) : Prop :=
  ∃ g cap cur, v = .slice (some ⟨g, 0, none⟩) T.length cap ∧ B ≤ g ∧ g < w.heap.size ∧ Array.size cur = cap ∧ T.length ≤ cap ∧ Holds encB w g 0 cur ∧ ∀ j, j < T.length → cur[j]! = T[j]!

theorem Holds.front {α : Type} [Inhabited α] {f : α → Value} {w : World} {b o : Nat} {d e : Array α} (h : Holds f w b o d) (hs : e.size ≤ d.size) (he : ∀ j, j < e.size → e[j]! = d[j]!) : Holds f w b o e := by
  intro j hj
  rw [he j hj]
  exact h j (by omega)

theorem list_arr_at (T : List UInt8) (j : Nat) : T.toArray[j]! = T[j]! := by
  by_cases h : j < T.length
  · rw [getElem!_pos T.toArray j (by simpa using h), getElem!_pos T j h]
    simp
  · rw [getElem!_neg T.toArray j (by simpa using h), getElem!_neg T j h]

theorem list_app_front (a b : List UInt8) (j : Nat) (h : j < a.length) : (a ++ b)[j]! = a[j]! := by
  rw [getElem!_pos (a ++ b) j (by rw [List.length_append]; omega), getElem!_pos a j h, List.getElem_append_left h]
theorem list_app_back (a b : List UInt8) (j : Nat) (h : a.length ≤ j) (h2 : j < a.length + b.length) : (a ++ b)[j]! = b[j - a.length]! := by
  rw [getElem!_pos (a ++ b) j (by rw [List.length_append]; omega), getElem!_pos b (j - a.length) (by omega), List.getElem_append_right h]

variable {B : Nat} {w w1 : World} {v : Value} {T : List UInt8}

theorem Own.holds {g cap n : Nat} (h : Own B w (.slice (some ⟨g, 0, none⟩) n cap) T) : B ≤ g ∧ n = T.length ∧ T.length ≤ cap ∧ Holds encB w g 0 T.toArray := by
  obtain ⟨g', cap', cur, hv, hg, _, hs, hl, hH, hT⟩ := h
  injection hv with e1 e2 e3
  injection e1 with e1
  injection e1 with e1 _ _
  subst e1 e3
  exact ⟨hg, e2, hl, Holds.front hH (by simp; omega) (fun j hj => by rw [list_arr_at]; exact (hT j (by simpa using hj)).symm)⟩

theorem Own.below (h : Own B w v T) (k : Below w.heap.size w w1) : Own B w1 v T := by
  obtain ⟨g, cap, cur, hv, hg, hgl, hs, hl, hH, hT⟩ := h
  exact ⟨g, cap, cur, hv, hg, Nat.lt_of_lt_of_le hgl k.size, hs, hl, Holds.below hH k hgl, hT⟩

theorem Own.drew (h : Own B w v T) : Own B w.drew v T := h
theorem Own.drewN (h : Own B w v T) (q : Nat) : Own B (w.drewN q) v T := h

/-- '[]byte(s)'. -/
theorem conv_bytes (s : ByteArray) (hB : B ≤ w.heap.size) :
    ∃ v' w', (convert 9 22 (.string s)).run Try.prog w = .ok v' w' ∧ Own B w' v' s.data.toList ∧ Below w.heap.size w w' ∧ v' = .slice (some ⟨w.heap.size, 0, none⟩) s.size (grownCap w s.size 0 5) := by
  have h := Lib.run_convert_string_bytes (P := Try.prog) w 9 22 5 s str9 slice22 int5
  have hcap : s.size ≤ grownCap w s.size 0 5 := by
    unfold grownCap Question.cut
    exact Nat.le_add_right _ _
  have hl : s.data.size = s.size := rfl
  refine ⟨_, _, h, ⟨w.heap.size, grownCap w s.size 0 5, s.data ++ Array.replicate (grownCap w s.size 0 5 - s.size) 0, ?_, hB, by rw [Lib.bytesWorld_size]; omega, ?_, ?_, ?_, ?_⟩, ?_, rfl⟩
  · rw [Array.length_toList]; rfl
  · rw [Array.size_append, Array.size_replicate]; omega
  · rw [Array.length_toList]; omega
  · intro j hj
    rw [Array.size_append, Array.size_replicate] at hj
    have hb := Lib.bytesWorld_at_new w 5 s
    have hsz : (Lib.bytesCells w 5 s).size = grownCap w s.size 0 5 := by
      unfold Lib.bytesCells
      rw [Array.size_append, Array.size_map, Array.size_replicate]
      omega
    have hc : (Lib.bytesCells w 5 s) = (s.data ++ Array.replicate (grownCap w s.size 0 5 - s.size) 0).map encB := by
      unfold Lib.bytesCells
      rw [Array.map_append, Array.map_replicate]
      rfl
    have hj2 : j < (s.data ++ Array.replicate (grownCap w s.size 0 5 - s.size) 0).size := by rw [Array.size_append, Array.size_replicate]; exact hj
    constructor
    · unfold World.cell?
      rw [hb]
      simp only [Nat.zero_add]
      rw [if_neg (by decide), hc, Array.getElem?_map, Array.getElem?_eq_getElem hj2, Option.map_some, getElem!_pos _ j hj2]
    · unfold World.frozen?
      rw [hb]
      simp only [Nat.zero_add, hsz]
      simp
      omega
  · intro j hj
    rw [Array.length_toList] at hj
    rw [app_front _ _ j hj, getElem!_pos s.data.toList j (by rw [Array.length_toList]; exact hj), Array.getElem_toList]
  · refine ⟨?_, ?_, ?_, ?_, fun k hk => Lib.bytesWorld_at_old w 5 s k hk⟩
    · unfold Lib.bytesWorld World.freeze
      rw [if_neg (by decide)]
      rfl
    · unfold Lib.bytesWorld World.freeze
      rw [if_neg (by decide)]
      rfl
    · unfold Lib.bytesWorld World.freeze
      rw [if_neg (by decide)]
      rfl
    · rw [Lib.bytesWorld_size]; omega

/-- 'append(b, x...)', x of n bytes: there may be room, or not. -/
theorem append_own {r c : Nat} {xs : Bs} (h : Own B w v T) (hX : Holds encB w r 0 xs) (hB : B ≤ w.heap.size) (hbig : T.length + xs.size ≤ 1099511627776) (k : Nat) (hk : k = xs.size) :
    ∃ v' w', (Builtin.append_ #[22, 22] 22 #[v, .slice (some ⟨r, 0, none⟩) k c]).run Try.prog w = .ok v' w' ∧ Own B w' v' (T ++ xs.toList) ∧ Below B w w' := by
  subst hk
  obtain ⟨g, cap, cur, rfl, hg, hgl, hs, hl, hH, hTc⟩ := h
  obtain ⟨i, hi, hz, hsz, hby⟩ := info_parts info5
  have hxl0 : xs.toList.length = xs.size := Array.length_toList
  have hlen : (T ++ xs.toList).length = T.length + xs.size := by rw [List.length_append, hxl0]
  by_cases hroom : T.length + xs.size ≤ cap
  · have hap := append_room (l := T.length) (k := xs.size) (n := xs.size) (c := c) hH hs hX rfl rfl hroom 22
    have hH3 := holds_splice hH T.length xs.toList (by rw [hxl0]; omega)
    rw [Nat.zero_add] at hH3
    refine ⟨_, _, hap, ⟨g, cap, splice cur T.length xs.toList, by rw [hlen], hg, Nat.lt_of_lt_of_le hgl (below_setCells (B := 0) (b := g) (Nat.zero_le _) _ _ _ (Below.refl 0 w)).size, by rw [splice_size, hs], by omega, hH3, fun j hj => ?_⟩, ?_⟩
    · rw [hlen] at hj
      rw [splice_at _ _ _ _ (by rw [hxl0]; omega) (by omega), hxl0]
      by_cases h1 : j < T.length
      · rw [if_neg (by omega), list_app_front _ _ _ h1, hTc j h1]
      · rw [if_pos (by omega), list_app_back _ _ _ (by omega) (by rw [hxl0]; omega)]
    · exact below_setCells hg _ _ _ (Below.refl _ _)
  · have hold : (Builtin.firstCells i.size T.length (.slice (some ⟨g, 0, none⟩) T.length cap)).run Try.prog w.drew = .ok (T.map encB).toArray w.drew := by
      rw [hsz]
      refine run_firstCells_some w.drew 1 T.length ⟨g, 0, none⟩ T.length cap (T.map encB) (by rw [List.length_map, Nat.mul_one]) (fun j u hj => ?_)
      obtain ⟨h1, h2⟩ := List.getElem?_eq_some_iff.1 hj
      rw [List.length_map] at h1
      have hc := (hH j (by omega)).1
      rw [hTc j h1, getElem!_pos T j h1] at hc
      rw [List.getElem_map] at h2
      have e1 : (⟨g, 0, none⟩ : Addr).add j = ⟨g, 0 + j, none⟩ := by
        unfold Addr.add
        by_cases h0 : j = 0
        · subst h0; rw [if_pos rfl]
        · rw [if_neg h0]
      rw [e1, World.cell?_drew, hc, h2]
    have hxl : (xs.toList.map encB).length = xs.size := by rw [List.length_map, hxl0]
    have hsrc : Src Try.prog i.size 22 (.slice (some ⟨r, 0, none⟩) xs.size c) xs.size (xs.toList.map encB) w := by
      rw [hsz]
      refine Src.ofSlice w slice22 ⟨r, 0, none⟩ xs.size c _ (by rw [hxl, Nat.mul_one]) (fun j u hj => ?_) (fun u hu => ?_)
      · obtain ⟨h1, h2⟩ := List.getElem?_eq_some_iff.1 hj
        rw [hxl] at h1
        have hc := (hX j (by omega)).1
        rw [getElem!_pos xs j (by omega)] at hc
        rw [List.getElem_map, Array.getElem_toList] at h2
        have e1 : (⟨r, 0, none⟩ : Addr).add j = ⟨r, 0 + j, none⟩ := by
          unfold Addr.add
          by_cases h0 : j = 0
          · subst h0; rw [if_pos rfl]
          · rw [if_neg h0]
        rw [e1, hc, h2]
      · obtain ⟨x, _, rfl⟩ := List.mem_map.1 hu
        rfl
    have hnc : Builtin.nextslicecap (T.length + xs.size) cap ≤ 2 * (T.length + xs.size) + 768 := by
      unfold Builtin.nextslicecap
      split
      · omega
      · split
        · omega
        · simp only [Builtin.growBy]
          repeat' split
          all_goals omega
    have hap := run_append_grow_src (P := Try.prog) w 22 22 22 5 i (.int .u8 0) slice22 hi hz (some ⟨g, 0, none⟩) T.length cap (T.map encB) hold _ xs.size (xs.toList.map encB) hsrc (by omega) (by omega) (by rw [hby]; omega)
    generalize hG : grownCap w (T.length + xs.size) cap 5 = G at hap
    have hGl : T.length + xs.size ≤ G := by
      rw [← hG]
      unfold grownCap Question.cut
      exact Nat.le_add_right _ _
    have hcells : (T.map encB ++ xs.toList.map encB).toArray ++ Builtin.zeroCells (Value.int .u8 0).cells (G - (T.length + xs.size)) = ((T ++ xs.toList).toArray ++ Array.replicate (G - (T.length + xs.size)) (0 : UInt8)).map encB := by
      rw [Array.map_append, Array.map_replicate, ← List.map_append]
      congr 1
      · simp
      · unfold Builtin.zeroCells
        have e : (Value.int .u8 0).cells = #[Value.int .u8 0] := rfl
        rw [e]
        apply Array.ext
        · simp
        · intro k h1 h2
          simp [Nat.mod_one]
          rfl
    rw [hcells] at hap
    refine ⟨_, _, hap, ⟨w.heap.size, G, (T ++ xs.toList).toArray ++ Array.replicate (G - (T.length + xs.size)) 0, by rw [hlen], hB, by simp, ?_, by omega, ?_, fun j hj => ?_⟩, ?_⟩
    · rw [Array.size_append, Array.size_replicate, List.size_toArray, hlen]; omega
    · exact Holds.new (enc := encB) w.drew 5 _
    · rw [app_front _ _ j (by simpa using hj)]
      rw [getElem!_pos (T ++ xs.toList) j hj]
      simp
    · exact ((Below.refl B w).drew).alloc (by exact hB) _

end Go.Proofs.Ytfclmmkgmhlbbaa
