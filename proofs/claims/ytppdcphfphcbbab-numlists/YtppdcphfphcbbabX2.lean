import Derived.Test.YtppdcphfphcbbabX1
import Derived.Test.YtppdcphfphcbbabL5
namespace Go.Proofs.Ytppdcphfphcbbab
open Go.RowKit Go.Sort Go.Deep

/-- n slices of 32 bytes in block kl, each in a block of its own. -/
structure Rack (W : World) (kl n : Nat) (G : Nat → Nat) (T : Nat → Bs) : Prop where
  cell : ∀ j, j < n → W.cell? ⟨kl, j, none⟩ = some (.slice (some ⟨G j, 0, none⟩) 32 32)
  hold : ∀ j, j < n → Holds encB W (G j) 0 (T j)
  sz : ∀ j, j < n → (T j).size = 32
  ne : ∀ j, j < n → G j ≠ kl
  inj : ∀ j j', j < n → j' < n → G j = G j' → j = j'

theorem Rack.lt {W : World} {kl n : Nat} {G : Nat → Nat} {T : Nat → Bs} (h : Rack W kl n G T) {j : Nat} (hj : j < n) : G j < W.heap.size := Holds.lt (h.hold j hj) (by rw [h.sz j hj]; omega)

theorem Rack.below {W w1 : World} {kl n B : Nat} {G : Nat → Nat} {T : Nat → Bs} (h : Rack W kl n G T) (hb : Below B W w1) (hk : kl < B) (hG : ∀ j, j < n → G j < B) : Rack w1 kl n G T :=
  ⟨fun j hj => by rw [hb.cell (p := ⟨kl, j, none⟩) hk]; exact h.cell j hj, fun j hj => Holds.below (h.hold j hj) hb (hG j hj), h.sz, h.ne, h.inj⟩

theorem Rack.drew {W : World} {kl n : Nat} {G : Nat → Nat} {T : Nat → Bs} (h : Rack W kl n G T) : Rack W.drew kl n G T := ⟨h.cell, h.hold, h.sz, h.ne, h.inj⟩
theorem Rack.drewN {W : World} {kl n : Nat} {G : Nat → Nat} {T : Nat → Bs} (h : Rack W kl n G T) (q : Nat) : Rack (W.drewN q) kl n G T := ⟨h.cell, h.hold, h.sz, h.ne, h.inj⟩
/-- Row i's byte k written anew. -/
def upd (T : Nat → Bs) (i : Nat) (b : Bs) : Nat → Bs := fun j => if j = i then b else T j
theorem upd_same (T : Nat → Bs) (i : Nat) (b : Bs) : upd T i b i = b := by simp [upd]
theorem upd_other (T : Nat → Bs) (i j : Nat) (b : Bs) (h : j ≠ i) : upd T i b j = T j := by simp [upd, h]

theorem Rack.set {W : World} {kl n i k : Nat} {G : Nat → Nat} {T : Nat → Bs} (h : Rack W kl n G T) (hi : i < n) (hk : k < 32) (x : UInt8) : Rack (W.setCell ⟨G i, k, none⟩ (encB x)) kl n G (upd T i ((T i).setIfInBounds k x)) := by
  have hO : Only (G i) 0 32 W (W.setCell ⟨G i, k, none⟩ (encB x)) := (Only.refl _ _ _ _).setCell (Nat.zero_le _) (by omega) _
  refine ⟨fun j hj => ?_, fun j hj => ?_, fun j hj => ?_, h.ne, h.inj⟩
  · rw [World.cell?_setCell_other _ _ _ _ (by intro e; simp only [Addr.mk.injEq, and_true] at e; exact h.ne i hi e.1)]
    exact h.cell j hj
  · by_cases e : j = i
    · subst e
      rw [upd_same]
      have := Holds.set (h.hold j hj) (i := k) (by rw [h.sz j hj]; exact hk) x
      rw [Nat.zero_add] at this
      exact this
    · rw [upd_other _ _ _ _ e]
      exact Holds.other (h.hold j hj) hO (fun e' => e (h.inj j i hj hi e')) (by rw [h.sz j hj]; omega)
  · by_cases e : j = i
    · subst e
      rw [upd_same, Array.size_setIfInBounds, h.sz j hj]
    · rw [upd_other _ _ _ _ e, h.sz j hj]

/-- A list of texts that grows, in a block from B on. -/
def SL (W : World) (B k : Nat) (v : Value) (S : Nat → ByteArray) : Prop :=
  (k = 0 ∧ v = .slice none 0 0) ∨ ∃ g cap vs cur, v = .slice (some ⟨g, 0, none⟩) k cap ∧ vs.length = k ∧ 0 < k ∧ B ≤ g ∧ ListAt W g cap vs cur ∧ ∀ j, j < k → vs[j]! = .string (S j)

theorem ListAt.cell {W : World} {g cap : Nat} {vs : List Value} {cur : Array Value} (h : ListAt W g cap vs cur) {j : Nat} (hj : j < vs.length) : W.cell? ⟨g, j, none⟩ = some vs[j]! := by
  have := (h.holds j (by rw [h.size]; have := h.fits; omega)).1
  rw [h.front j hj, Nat.zero_add] at this
  exact this
theorem ListAt.other {W w1 : World} {g cap b o m : Nat} {vs : List Value} {cur : Array Value} (h : ListAt W g cap vs cur) (k : Only b o m W w1) (hb : g ≠ b) (hv : 0 < vs.length) : ListAt w1 g cap vs cur :=
  ⟨Nat.lt_of_lt_of_le h.lt k.size, h.size, h.fits, Holds.other h.holds k hb (by rw [h.size]; have := h.fits; omega), h.front⟩

theorem SL.below {W w1 : World} {B k : Nat} {v : Value} {S : Nat → ByteArray} (h : SL W B k v S) (hb : Below W.heap.size W w1) : SL w1 B k v S := by
  rcases h with h | ⟨g, cap, vs, cur, h1, h2, h3, h4, h5, h6⟩
  · exact Or.inl h
  · exact Or.inr ⟨g, cap, vs, cur, h1, h2, h3, h4, h5.below hb, h6⟩
theorem SL.drewN {W : World} {B k : Nat} {v : Value} {S : Nat → ByteArray} (h : SL W B k v S) (q : Nat) : SL (W.drewN q) B k v S := h.below ⟨rfl, rfl, rfl, Nat.le_refl _, fun _ _ => rfl⟩
theorem SL.drew {W : World} {B k : Nat} {v : Value} {S : Nat → ByteArray} (h : SL W B k v S) : SL W.drew B k v S := h.below ⟨rfl, rfl, rfl, Nat.le_refl _, fun _ _ => rfl⟩
/-- What turns in one block that holds no text at its beginning turns no list of texts. -/
theorem SL.only {W w1 : World} {B k b o m : Nat} {v : Value} {S : Nat → ByteArray} (h : SL W B k v S) (hO : Only b o m W w1) (hb : ∀ s, W.cell? ⟨b, 0, none⟩ ≠ some (.string s)) : SL w1 B k v S := by
  rcases h with h | ⟨g, cap, vs, cur, h1, h2, h3, h4, h5, h6⟩
  · exact Or.inl h
  · refine Or.inr ⟨g, cap, vs, cur, h1, h2, h3, h4, h5.other hO (fun e => ?_) (by omega), h6⟩
    have := h5.cell (j := 0) (by omega)
    rw [h6 0 h3, e] at this
    exact hb _ this
theorem SL.push {W : World} {B k : Nat} {v : Value} {S : Nat → ByteArray} (h : SL W B k v S) (hB : B ≤ W.heap.size) (hk : k ≤ 1048576) {x : ByteArray} (hx : x = S k) :
    ∃ v' w', (Builtin.append_ #[45, 45] 45 #[v, .slice (some ⟨W.heap.size, 0, none⟩) 1 1]).run Try.prog (W.alloc (.cells #[.string x] 9)) = .ok v' w' ∧ SL w' B (k + 1) v' S ∧ Below B W w' := by
  have hr : (W.alloc (.cells #[.string x] 9)).cell? ⟨W.heap.size, 0, none⟩ = some (.string x) := by simp
  have hb0 : Below W.heap.size W (W.alloc (.cells #[.string x] 9)) := (Below.refl _ _).alloc (Nat.le_refl _) _
  have hs0 : (W.alloc (.cells #[.string x] 9)).heap.size = W.heap.size + 1 := by simp
  have hx1 : (Value.string x).oneCell' = true := rfl
  rcases h with ⟨rfl, rfl⟩ | ⟨g, cap, vs, cur, rfl, h2, h3, h4, h5, h6⟩
  · obtain ⟨cap', cur', w', hap, hL, hb2⟩ := append_firstS slice45 info9 rfl hr hx1
    have hbb := hb0.trans (hb2.mono (by omega))
    refine ⟨_, w', hap, Or.inr ⟨_, cap', _, cur', rfl, rfl, by omega, by omega, hL, fun j hj => ?_⟩, hbb.mono hB⟩
    have hj0 : j = 0 := by omega
    subst hj0
    rw [hx]; rfl
  · have h5' := h5.below hb0
    subst h2
    obtain ⟨g', cap', cur', w', hap, hL, hO, hg'⟩ := append_valS slice45 info9 rfl h5' hr hx1 hk
    have hg := h5.lt
    refine ⟨_, w', hap, Or.inr ⟨g', cap', _, cur', rfl, by rw [List.length_append]; rfl, by omega, by omega, hL, fun j hj => ?_⟩, (hb0.mono hB).trans (hO.below (by omega) h4)⟩
    by_cases hj1 : j = vs.length
    · rw [hj1, val_last, hx]
    · rw [val_front _ _ _ (by omega)]; exact h6 j (by omega)

/-- A list of slices that grows, in a block from B on; each of them in a block of its own, from B on. -/
def GL (W : World) (B k : Nat) (v : Value) (T : Nat → Bs) : Prop :=
  (k = 0 ∧ v = .slice none 0 0) ∨ ∃ g cap vs cur, v = .slice (some ⟨g, 0, none⟩) k cap ∧ vs.length = k ∧ 0 < k ∧ B ≤ g ∧ ListAt W g cap vs cur ∧ ∀ j, j < k → ∃ gx c, vs[j]! = .slice (some ⟨gx, 0, none⟩) (T j).size c ∧ B ≤ gx ∧ 0 < (T j).size ∧ Holds encB W gx 0 (T j)

theorem Holds.ne_of_cell {W : World} {g b : Nat} {T : Bs} (h : Holds encB W g 0 T) (hT : 0 < T.size) (hb : ∀ i, W.cell? ⟨b, 0, none⟩ ≠ some (.int .u8 i)) : g ≠ b := fun e => by
  have := (h 0 hT).1
  rw [e] at this
  exact hb _ this

theorem GL.below {W w1 : World} {B k : Nat} {v : Value} {T : Nat → Bs} (h : GL W B k v T) (hb : Below W.heap.size W w1) : GL w1 B k v T := by
  rcases h with h | ⟨g, cap, vs, cur, h1, h2, h3, h4, h5, h6⟩
  · exact Or.inl h
  · refine Or.inr ⟨g, cap, vs, cur, h1, h2, h3, h4, h5.below hb, fun j hj => ?_⟩
    obtain ⟨gx, c, e1, e2, e3, e4⟩ := h6 j hj
    exact ⟨gx, c, e1, e2, e3, Holds.below e4 hb (Holds.lt e4 e3)⟩

theorem GL.drewN {W : World} {B k : Nat} {v : Value} {T : Nat → Bs} (h : GL W B k v T) (q : Nat) : GL (W.drewN q) B k v T := h.below ⟨rfl, rfl, rfl, Nat.le_refl _, fun _ _ => rfl⟩
/-- 'grown = append(grown, g)': texts in another list stay. -/
theorem GL.push {W : World} {B k m gx c : Nat} {v u : Value} {T : Nat → Bs} {S : Nat → ByteArray} (h : GL W B k v T) (hS : SL W B m u S) (hB : B ≤ W.heap.size) (hk : k ≤ 1048576) (hgx : B ≤ gx) (hT : 0 < (T k).size) (hH : Holds encB W gx 0 (T k)) {l : Nat} (hl : l = (T k).size) :
    ∃ v' w', (Builtin.append_ #[46, 46] 46 #[v, .slice (some ⟨W.heap.size, 0, none⟩) 1 1]).run Try.prog (W.alloc (.cells #[.slice (some ⟨gx, 0, none⟩) l c] 23)) = .ok v' w' ∧ GL w' B (k + 1) v' T ∧ SL w' B m u S ∧ Below B W w' := by
  subst hl
  have hr : (W.alloc (.cells #[.slice (some ⟨gx, 0, none⟩) (T k).size c] 23)).cell? ⟨W.heap.size, 0, none⟩ = some (.slice (some ⟨gx, 0, none⟩) (T k).size c) := by simp
  have hb0 : Below W.heap.size W (W.alloc (.cells #[.slice (some ⟨gx, 0, none⟩) (T k).size c] 23)) := (Below.refl _ _).alloc (Nat.le_refl _) _
  have hs0 : (W.alloc (.cells #[.slice (some ⟨gx, 0, none⟩) (T k).size c] 23)).heap.size = W.heap.size + 1 := by simp
  have hx1 : (Value.slice (some ⟨gx, 0, none⟩) (T k).size c).oneCell' = true := rfl
  have hgl := Holds.lt hH hT
  rcases h with ⟨rfl, rfl⟩ | ⟨g, cap, vs, cur, rfl, h2, h3, h4, h5, h6⟩
  · obtain ⟨cap', cur', w', hap, hL, hb2⟩ := append_firstL slice46 info23 rfl hr hx1
    have hbb := hb0.trans (hb2.mono (by omega))
    refine ⟨_, w', hap, Or.inr ⟨_, cap', _, cur', rfl, rfl, by omega, by omega, hL, fun j hj => ?_⟩, hS.below hbb, hbb.mono hB⟩
    have hj0 : j = 0 := by omega
    subst hj0
    exact ⟨gx, c, rfl, hgx, hT, Holds.below hH hbb hgl⟩
  · have h5' := h5.below hb0
    have hS' := hS.below hb0
    subst h2
    obtain ⟨g', cap', cur', w', hap, hL, hO, hg'⟩ := append_valL slice46 info23 rfl h5' hr hx1 hk
    have hg := h5.lt
    have hc0 := h5'.cell (j := 0) h3
    obtain ⟨g0, c0, e0, -⟩ := h6 0 h3
    rw [e0] at hc0
    have hnb : ∀ {y : Nat} {U : Bs}, Holds encB (W.alloc (.cells #[.slice (some ⟨gx, 0, none⟩) (T vs.length).size c] 23)) y 0 U → 0 < U.size → Holds encB w' y 0 U := fun hU hu =>
      Holds.other hU hO (Holds.ne_of_cell hU hu (fun i e => by rw [hc0] at e; cases e)) hu
    refine ⟨_, w', hap, Or.inr ⟨g', cap', _, cur', rfl, by rw [List.length_append]; rfl, by omega, by omega, hL, fun j hj => ?_⟩, hS'.only hO (fun s e => by rw [hc0] at e; cases e), (hb0.mono hB).trans (hO.below (by omega) h4)⟩
    by_cases hj1 : j = vs.length
    · subst hj1
      rw [val_last]
      exact ⟨gx, c, rfl, hgx, hT, hnb (Holds.below hH hb0 hgl) hT⟩
    · obtain ⟨gy, d, e1, e2, e3, e4⟩ := h6 j (by omega)
      rw [val_front _ _ _ (by omega)]
      exact ⟨gy, d, e1, e2, e3, hnb (Holds.below e4 hb0 (Holds.lt e4 e3)) e3⟩
end Go.Proofs.Ytppdcphfphcbbab
