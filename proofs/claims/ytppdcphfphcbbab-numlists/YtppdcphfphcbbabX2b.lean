import Derived.Test.YtppdcphfphcbbabX2
namespace Go.Proofs.Ytppdcphfphcbbab
open Go.RowKit Go.Sort Go.Deep

/-- What Apart lays behind list i, at place j. -/
def fillB (i j : Nat) : UInt8 := UInt8.ofNat ((i * 37 + j) % 253) ^^^ 90
theorem fillB_int (i j : Nat) : bits .xor .u8 (((i : Int) * 37 + (j : Int)) % 253) 90 = ub (fillB i j) := by
  have H : ∀ j : Fin 253, bits .xor .u8 (j.val : Int) 90 = ub (UInt8.ofNat j.val ^^^ 90) := by decide +kernel
  have := H ⟨(i * 37 + j) % 253, Nat.mod_lt _ (by decide)⟩
  have e : (((i * 37 + j) % 253 : Nat) : Int) = ((i : Int) * 37 + (j : Int)) % 253 := by omega
  simp only [e] at this
  exact this

def rowL (b : Bs) (i : Nat) : Nat → List UInt8
  | 0 => b.toList
  | j + 1 => rowL b i j ++ [fillB i j]
theorem rowL_length (b : Bs) (i : Nat) (hb : b.size = 32) : ∀ j, (rowL b i j).length = 32 + j
  | 0 => by rw [rowL, Array.length_toList, hb]
  | j + 1 => by rw [rowL, List.length_append, rowL_length b i hb j]; rfl
theorem u8_front (a b : List UInt8) (j : Nat) (h : j < a.length) : (a ++ b)[j]! = a[j]! := by
  rw [getElem!_pos (a ++ b) j (by rw [List.length_append]; omega), getElem!_pos a j h, List.getElem_append_left h]
theorem u8_last (a : List UInt8) (x : UInt8) : (a ++ [x])[a.length]! = x := by
  rw [getElem!_pos (a ++ [x]) a.length (by simp)]
  simp
theorem rowL_low (b : Bs) (i : Nat) (hb : b.size = 32) (k : Nat) (hk : k < 32) : ∀ j, (rowL b i j)[k]! = b[k]!
  | 0 => by
    rw [rowL, getElem!_pos b.toList k (by rw [Array.length_toList]; omega), getElem!_pos b k (by omega), Array.getElem_toList]
  | j + 1 => by rw [rowL, u8_front _ _ _ (by rw [rowL_length b i hb]; omega), rowL_low b i hb k hk j]
theorem rowL_high (b : Bs) (i : Nat) (hb : b.size = 32) (k : Nat) : ∀ j, k < j → (rowL b i j)[32 + k]! = fillB i k
  | 0, h => absurd h (by omega)
  | j + 1, h => by
    rw [rowL]
    by_cases e : k = j
    · subst e
      rw [← rowL_length b i hb k, u8_last]
    · rw [u8_front _ _ _ (by rw [rowL_length b i hb]; omega), rowL_high b i hb k j (by omega)]

theorem map_enc_at (l : List UInt8) (j : Nat) (h : j < l.length) : (l.map encB)[j]! = encB l[j]! := by
  rw [getElem!_pos (l.map encB) j (by rw [List.length_map]; exact h), getElem!_pos l j h, List.getElem_map]
theorem list_arr (l : List UInt8) (j : Nat) (h : j < l.length) : l.toArray[j]! = l[j]! := by
  rw [getElem!_pos l.toArray j (by simpa using h), getElem!_pos l j h]
  simp

/-- A list of bytes, as values. -/
theorem ListAt.bytes {W : World} {g cap : Nat} {l : List UInt8} {cur : Array Value} (h : ListAt W g cap (l.map encB) cur) : Holds encB W g 0 l.toArray := fun j hj => by
  have hj' : j < l.length := by simpa using hj
  have h1 := h.holds j (by rw [h.size]; have := h.fits; rw [List.length_map] at this; omega)
  rw [h.front j (by rw [List.length_map]; exact hj'), map_enc_at _ _ hj'] at h1
  rw [list_arr _ _ hj']
  exact h1
theorem ListAt.of {W : World} {g : Nat} {b : Bs} (h : Holds encB W g 0 b) (hb : 0 < b.size) : ListAt W g b.size (b.toList.map encB) (b.map encB) := by
  have e : ∀ j, j < b.size → (b.map encB)[j]! = encB b[j]! := fun j hj => by
    rw [getElem!_pos (b.map encB) j (by simpa using hj), getElem!_pos b j hj, Array.getElem_map]
  refine ⟨Holds.lt h hb, by simp, by simp, fun j hj => ?_, fun j hj => ?_⟩
  · have hj' : j < b.size := by simpa using hj
    rw [e j hj']
    exact h j hj'
  · have hj' : j < b.size := by simpa using hj
    rw [e j hj', map_enc_at _ _ (by simpa using hj'), getElem!_pos b j hj', getElem!_pos b.toList j (by simpa using hj'), Array.getElem_toList]

/-- A list that grows: as yet what was handed in, or a copy from block N on. -/
def GB (W : World) (N gi : Nat) (v : Value) (b : Bs) (i j : Nat) : Prop :=
  (j = 0 ∧ v = .slice (some ⟨gi, 0, none⟩) 32 32) ∨ (0 < j ∧ ∃ g cap cur, v = .slice (some ⟨g, 0, none⟩) (32 + j) cap ∧ N ≤ g ∧ ListAt W g cap ((rowL b i j).map encB) cur)

theorem GB.push {W : World} {N gi i j : Nat} {v : Value} {b : Bs} (h : GB W N gi v b i j) (hH : Holds encB W gi 0 b) (hb : b.size = 32) (hN : N ≤ W.heap.size) (hj : j ≤ 1048000) {x : Value} (hx : x = encB (fillB i j)) :
    ∃ v' w', (Builtin.append_ #[23, 23] 23 #[v, .slice (some ⟨W.heap.size, 0, none⟩) 1 1]).run Try.prog (W.alloc (.cells #[x] 5)) = .ok v' w' ∧ GB w' N gi v' b i (j + 1) ∧ Below N W w' := by
  subst hx
  have hr : (W.alloc (.cells #[encB (fillB i j)] 5)).cell? ⟨W.heap.size, 0, none⟩ = some (encB (fillB i j)) := by simp
  have hb0 : Below W.heap.size W (W.alloc (.cells #[encB (fillB i j)] 5)) := (Below.refl _ _).alloc (Nat.le_refl _) _
  have hs0 : (W.alloc (.cells #[encB (fillB i j)] 5)).heap.size = W.heap.size + 1 := by simp
  have hx1 : (encB (fillB i j)).oneCell' = true := rfl
  have hl := rowL_length b i hb j
  have hnext : (rowL b i (j + 1)).map encB = (rowL b i j).map encB ++ [encB (fillB i j)] := by rw [rowL, List.map_append]; rfl
  rcases h with ⟨rfl, rfl⟩ | ⟨h0, g, cap, cur, rfl, hg, hL⟩
  · have hgl := Holds.lt hH (by omega)
    have hL := ListAt.of (Holds.below hH hb0 hgl) (by omega)
    obtain ⟨g', cap', cur', w', hap, hL2, hO, hg'⟩ := append_valB slice22 info5 rfl hL hr hx1 (by rw [List.length_map, Array.length_toList, hb]; omega)
    rw [List.length_map, Array.length_toList, hb] at hap hg'
    rcases hg' with ⟨h1, -⟩ | ⟨h1, h2⟩
    · omega
    · refine ⟨_, w', hap, Or.inr ⟨by omega, g', cap', cur', rfl, by omega, ?_⟩, (hb0.trans (h2.mono (by omega))).mono hN⟩
      rw [hnext]
      exact hL2
  · have hL1 := hL.below hb0
    obtain ⟨g', cap', cur', w', hap, hL2, hO, hg'⟩ := append_valB slice22 info5 rfl hL1 hr hx1 (by rw [List.length_map, hl]; omega)
    rw [List.length_map, hl] at hap hg'
    refine ⟨_, w', hap, Or.inr ⟨by omega, g', cap', cur', rfl, ?_, ?_⟩, (hb0.mono hN).trans (hO.below (by omega) hg)⟩
    · rcases hg' with ⟨-, h1⟩ | ⟨h1, -⟩ <;> omega
    · rw [hnext]
      exact hL2
theorem GB.done {W : World} {N gi i : Nat} {v : Value} {b : Bs} (h : GB W N gi v b i 80) : ∃ g cap, v = .slice (some ⟨g, 0, none⟩) 112 cap ∧ N ≤ g ∧ Holds encB W g 0 (rowL b i 80).toArray := by
  rcases h with ⟨h0, -⟩ | ⟨-, g, cap, cur, h1, h2, h3⟩
  · exact absurd h0 (by decide)
  · exact ⟨g, cap, h1, h2, h3.bytes⟩
theorem GB.drewN {W : World} {N gi i j : Nat} {v : Value} {b : Bs} (h : GB W N gi v b i j) (q : Nat) : GB (W.drewN q) N gi v b i j := by
  rcases h with h0 | ⟨h0, g, cap, cur, h1, h2, h3⟩
  · exact Or.inl h0
  · exact Or.inr ⟨h0, g, cap, cur, h1, h2, h3.below ⟨rfl, rfl, rfl, Nat.le_refl _, fun _ _ => rfl⟩⟩
theorem SL.at {W : World} {B k : Nat} {v : Value} {S : Nat → ByteArray} (h : SL W B k v S) (hk : 0 < k) : ∃ g cap, v = .slice (some ⟨g, 0, none⟩) k cap ∧ ∀ j, j < k → W.cell? ⟨g, j, none⟩ = some (.string (S j)) := by
  rcases h with ⟨h0, -⟩ | ⟨g, cap, vs, cur, h1, h2, h3, h4, h5, h6⟩
  · omega
  · exact ⟨g, cap, h1, fun j hj => by rw [← h6 j hj]; exact h5.cell (by omega)⟩
theorem GL.at {W : World} {B k : Nat} {v : Value} {T : Nat → Bs} (h : GL W B k v T) (hk : 0 < k) : ∃ g cap, v = .slice (some ⟨g, 0, none⟩) k cap ∧ ∀ j, j < k → ∃ gx c, W.cell? ⟨g, j, none⟩ = some (.slice (some ⟨gx, 0, none⟩) (T j).size c) ∧ Holds encB W gx 0 (T j) := by
  rcases h with ⟨h0, -⟩ | ⟨g, cap, vs, cur, h1, h2, h3, h4, h5, h6⟩
  · omega
  · refine ⟨g, cap, h1, fun j hj => ?_⟩
    obtain ⟨gx, c, e1, -, -, e4⟩ := h6 j hj
    exact ⟨gx, c, by rw [← e1]; exact h5.cell (by omega), e4⟩
end Go.Proofs.Ytppdcphfphcbbab
