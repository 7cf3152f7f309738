import Derived.Test.YtdeidgbknlmhjabC1
import Derived.Deep.MidRow
import Derived.OrdersHeld
set_option linter.unusedVariables false
set_option linter.unusedSimpArgs false
namespace Go.Proofs.Ytdeidgbknlmhjab.RG
open Go Go.RowKit

/-- A value, or the address of one of the call's own blocks. -/
inductive SV where
  | v (x : Value)
  | p (b o : Nat)
  | s (b n c : Nat)
def SV.at (μ : Nat → Nat) : SV → Value
  | .v x => x
  | .p b o => .pointer (some ⟨μ b, o, none⟩)
  | .s b n c => .slice (some ⟨μ b, 0, none⟩) n c
def SV.blk : SV → Option Nat
  | .v _ => none
  | .p b _ => some b
  | .s b _ _ => some b
theorem SV.at_congr {μ ν : Nat → Nat} {s : SV} (h : ∀ b, s.blk = some b → μ b = ν b) : s.at μ = s.at ν := by
  cases s with
  | v x => rfl
  | p b o => show Value.pointer (some ⟨μ b, o, none⟩) = .pointer (some ⟨ν b, o, none⟩); rw [h b rfl]
  | s b n c => show Value.slice (some ⟨μ b, 0, none⟩) n c = .slice (some ⟨ν b, 0, none⟩) n c; rw [h b rfl]
inductive Kind where
  | stay
  | pass
  | call
  | make (b : Nat)
  | put (b : Nat)
/-- What an operation of a region does; 'need': slots, and the operations that fill them. -/
structure It where
  dst : Option Tmp
  need : List (Tmp × Nat)
  out : SV
  kind : Kind
/-- A block: what lies in it, what is stored into it, which operation makes it and which stores into it. -/
structure Bl where
  before : List Value
  after : List Value
  al : Option Nat
  st : Option Nat

def on (L : Array Bool) (i : Nat) : Bool := L.getD i false
def Bl.live (e : Bl) (L : Array Bool) : Bool := (e.al.map (on L)).getD true
def Bl.put (e : Bl) (L : Array Bool) : Bool := (e.st.map (on L)).getD false
def Bl.now (e : Bl) (L : Array Bool) : List Value := if e.put L = true then e.after else e.before

theorem on_set {L : Array Bool} {i j : Nat} (h : i < L.size) : on (L.setIfInBounds i true) j = (on L j || i == j) := by
  unfold on
  simp only [Array.getD_eq_getD_getElem?, Array.getElem?_setIfInBounds]
  by_cases hij : i = j
  · subst hij; simp [h]
  · simp [hij]
theorem live_set {e : Bl} {L : Array Bool} {i : Nat} (h : i < L.size) : e.live (L.setIfInBounds i true) = (e.live L || e.al == some i) := by
  unfold Bl.live
  cases ha : e.al with
  | none => rfl
  | some j =>
    show on _ j = (on L j || _)
    rw [on_set h]
    by_cases hij : i = j
    · subst hij; simp
    · have h1 : (i == j) = false := by simpa using hij
      have h2 : (some j == some i) = false := by simpa using fun h => hij h.symm
      rw [h1, h2]
theorem put_set {e : Bl} {L : Array Bool} {i : Nat} (h : i < L.size) : e.put (L.setIfInBounds i true) = (e.put L || e.st == some i) := by
  unfold Bl.put
  cases ha : e.st with
  | none => rfl
  | some j =>
    show on _ j = (on L j || _)
    rw [on_set h]
    by_cases hij : i = j
    · subst hij; simp
    · have h1 : (i == j) = false := by simpa using hij
      have h2 : (some j == some i) = false := by simpa using fun h => hij h.symm
      rw [h1, h2]

theorem range_below {B k o : Nat} {w w' : World} {cs : List Value} (h : w.rangeAt k o cs) (hb : Below B w w') (hk : k < B) : w'.rangeAt k o cs := fun j v hv => by
  rw [hb.cell (p := ⟨k, o + j, none⟩) hk]; exact h j v hv
theorem there_below {B k o n : Nat} {w w' : World} (h : w.there k o n) (hb : Below B w w') (hk : k < B) : w'.there k o n := fun j hj => by
  rw [hb.cell (p := ⟨k, o + j, none⟩) hk, hb.frozen (p := ⟨k, o + j, none⟩) hk]; exact h j hj
theorem below_setCells {B k : Nat} {w0 : World} (hk : B ≤ k) : ∀ (vs : List Value) (o : Nat) (w : World), Below B w0 w → Below B w0 (w.setCells k o vs)
  | [], _, _, h => h
  | v :: r, o, w, h => below_setCells hk r (o + 1) _ (h.setCell (p := ⟨k, o, none⟩) hk v)
theorem setCells_size (k : Nat) : ∀ (vs : List Value) (o : Nat) (w : World), (w.setCells k o vs).heap.size = w.heap.size
  | [], _, _ => rfl
  | v :: r, o, w => by
    rw [World.setCells, setCells_size k r (o + 1)]
    simp [World.setCell]
theorem there_setCells {k b o n : Nat} : ∀ (vs : List Value) (i : Nat) (w : World), w.there b o n → (w.setCells k i vs).there b o n
  | [], _, _, h => h
  | v :: r, i, w, h => there_setCells r (i + 1) _ fun j hj => ⟨World.isSome_setCells k [v] i w _ (h j hj).1, by rw [World.frozen?_setCell]; exact (h j hj).2⟩

/-- Nothing below k0 was turned, but for the blocks of X. -/
structure BelX (k0 : Nat) (X : List Nat) (w w' : World) : Prop where
  os : w'.os = w.os
  tape : w'.tape = w.tape
  output : w'.output = w.output
  size : w.heap.size ≤ w'.heap.size
  block : ∀ j, j < k0 → j ∉ X → w'.heap[j]? = w.heap[j]?
theorem BelX.below {k0 : Nat} {w w' : World} (h : BelX k0 [] w w') : Below k0 w w' := ⟨h.os, h.tape, h.output, h.size, fun j hj => h.block j hj List.not_mem_nil⟩
theorem BelX.drew {k0 : Nat} {X : List Nat} {w w' : World} (h : BelX k0 X w w') : BelX k0 X w w'.drew := ⟨h.os, h.tape, h.output, h.size, h.block⟩
theorem BelX.refl (k0 : Nat) (X : List Nat) (w : World) : BelX k0 X w w := ⟨rfl, rfl, rfl, Nat.le_refl _, fun _ _ _ => rfl⟩
theorem BelX.trans {k0 : Nat} {X : List Nat} {a b c : World} (h : BelX k0 X a b) (k : BelX k0 X b c) : BelX k0 X a c :=
  ⟨k.os.trans h.os, k.tape.trans h.tape, k.output.trans h.output, Nat.le_trans h.size k.size, fun i hi hx => (k.block i hi hx).trans (h.block i hi hx)⟩

/-- What is known of the world, where the operations of L are done. -/
structure Wd (w0 : World) (k0 : Nat) (X : List Nat) (bl : List Bl) (L : Array Bool) (μ : Nat → Nat) (w : World) : Prop where
  bel : BelX k0 X w0 w
  le : k0 ≤ w.heap.size
  has : ∀ (b : Nat) (e : Bl), bl[b]? = some e → e.live L = true → w.rangeAt (μ b) 0 (e.now L) ∧ w.there (μ b) 0 e.before.length ∧ μ b < w.heap.size ∧ (k0 ≤ μ b ∨ μ b ∈ X)
  inj : ∀ (b c : Nat) (e f : Bl), bl[b]? = some e → bl[c]? = some f → e.live L = true → f.live L = true → b ≠ c → μ b ≠ μ c

variable {w0 w w' : World} {k0 : Nat} {X : List Nat} {bl : List Bl} {L : Array Bool} {μ : Nat → Nat}

theorem Wd.drew (h : Wd w0 k0 X bl L μ w) : Wd w0 k0 X bl L μ w.drew := ⟨h.bel.drew, h.le, h.has, h.inj⟩
theorem Wd.same {L' : Array Bool} (h : Wd w0 k0 X bl L μ w) (hl : ∀ (b : Nat) (e : Bl), bl[b]? = some e → e.live L' = e.live L ∧ e.put L' = e.put L) : Wd w0 k0 X bl L' μ w := by
  refine ⟨h.bel, h.le, fun b e hb hv => ?_, fun b c e f hb hc he hf => h.inj b c e f hb hc ((hl b e hb).1 ▸ he) ((hl c f hc).1 ▸ hf)⟩
  have := h.has b e hb ((hl b e hb).1 ▸ hv)
  unfold Bl.now at this ⊢
  rw [(hl b e hb).2]
  exact this
theorem Wd.call (h : Wd w0 k0 X bl L μ w) (hb : Below w.heap.size w w') : Wd w0 k0 X bl L μ w' := by
  refine ⟨h.bel.trans ⟨hb.os, hb.tape, hb.output, hb.size, fun k hk _ => hb.block k (Nat.lt_of_lt_of_le hk h.le)⟩, Nat.le_trans h.le hb.size, fun b e hbe hv => ?_, h.inj⟩
  obtain ⟨h1, h2, h3, h4⟩ := h.has b e hbe hv
  exact ⟨range_below h1 hb h3, there_below h2 hb h3, Nat.lt_of_lt_of_le h3 hb.size, h4⟩
def upd (μ : Nat → Nat) (b k : Nat) : Nat → Nat := fun c => if c = b then k else μ c
theorem Wd.make {i b : Nat} {e : Bl} {t : TypeId} (h : Wd w0 k0 X bl L μ w) (hi : i < L.size) (hb : bl[b]? = some e) (ha : e.al = some i) (hne : ∀ (c : Nat) (f : Bl), bl[c]? = some f → c ≠ b → f.al ≠ some i)
    (hst : ∀ (c : Nat) (f : Bl), bl[c]? = some f → f.st ≠ some i) (hp : e.put L = false) :
    Wd w0 k0 X bl (L.setIfInBounds i true) (upd μ b w.heap.size) (w.alloc (.cells e.before.toArray t)) := by
  have hput : ∀ (c : Nat) (f : Bl), bl[c]? = some f → f.put (L.setIfInBounds i true) = f.put L := fun c f hc => by
    rw [put_set hi, show (f.st == some i) = false by simpa using hst c f hc, Bool.or_false]
  have hliv : ∀ (c : Nat) (f : Bl), bl[c]? = some f → c ≠ b → f.live (L.setIfInBounds i true) = f.live L := fun c f hc hcb => by
    rw [live_set hi, show (f.al == some i) = false by simpa using hne c f hc hcb, Bool.or_false]
  have hold : ∀ (c : Nat) (f : Bl), bl[c]? = some f → c ≠ b → f.live (L.setIfInBounds i true) = true → μ c < w.heap.size := fun c f hc hcb hv => (h.has c f hc (hliv c f hc hcb ▸ hv)).2.2.1
  have hal : Below w.heap.size w (w.alloc (.cells e.before.toArray t)) := below1 w _
  refine ⟨h.bel.trans ⟨hal.os, hal.tape, hal.output, hal.size, fun k hk _ => hal.block k (Nat.lt_of_lt_of_le hk h.le)⟩, by rw [World.size_alloc]; have := h.le; omega, fun c f hc hv => ?_, fun c d f g hc hd hf hg hcd => ?_⟩
  · by_cases hcb : c = b
    · subst hcb
      rw [hb] at hc
      obtain rfl : e = f := Option.some.inj hc
      have hn : e.now (L.setIfInBounds i true) = e.before := by unfold Bl.now; rw [hput c e hb, hp]; rfl
      rw [hn]
      unfold upd
      rw [if_pos rfl]
      refine ⟨fun j v hj => ?_, fun j hj => ⟨?_, World.frozen?_alloc_new _ _ _ _⟩, by rw [World.size_alloc]; omega, Or.inl h.le⟩
      · rw [Nat.zero_add, World.cell?_alloc_new]
        simpa using hj
      · rw [Nat.zero_add, World.cell?_alloc_new]
        simp [hj]
    · obtain ⟨h1, h2, h3, h4⟩ := h.has c f hc (hliv c f hc hcb ▸ hv)
      unfold upd
      rw [if_neg hcb]
      have hn : f.now (L.setIfInBounds i true) = f.now L := by unfold Bl.now; rw [hput c f hc]
      rw [hn]
      exact ⟨range_below h1 hal h3, there_below h2 hal h3, by rw [World.size_alloc]; omega, h4⟩
  · unfold upd
    by_cases hcb : c = b
    · subst hcb
      rw [if_pos rfl, if_neg (fun h => hcd h.symm)]
      exact Nat.ne_of_gt (hold d g hd (fun h => hcd h.symm) hg)
    · by_cases hdb : d = b
      · subst hdb
        rw [if_pos rfl, if_neg hcb]
        exact Nat.ne_of_lt (hold c f hc hcb hf)
      · rw [if_neg hcb, if_neg hdb]
        exact h.inj c d f g hc hd (hliv c f hc hcb ▸ hf) (hliv d g hd hdb ▸ hg) hcd
/-- Of what was there, block k alone was written; there lies cs now. -/
structure PutTo (k n : Nat) (cs : List Value) (w w' : World) : Prop where
  os : w'.os = w.os
  tape : w'.tape = w.tape
  output : w'.output = w.output
  size : w.heap.size ≤ w'.heap.size
  block : ∀ j, j < w.heap.size → j ≠ k → w'.heap[j]? = w.heap[j]?
  range : w'.rangeAt k 0 cs
  there : w'.there k 0 n
theorem setCells_other (k : Nat) : ∀ (vs : List Value) (o : Nat) (w : World) (j : Nat), j ≠ k → (w.setCells k o vs).heap[j]? = w.heap[j]?
  | [], _, _, _, _ => rfl
  | v :: r, o, w, j, h => by
    rw [World.setCells, setCells_other k r (o + 1) _ j h, Below.heap_setCell _ _ _ _ h]
theorem setCells_os (k : Nat) : ∀ (vs : List Value) (o : Nat) (w : World), (w.setCells k o vs).os = w.os ∧ (w.setCells k o vs).tape = w.tape ∧ (w.setCells k o vs).output = w.output
  | [], _, _ => ⟨rfl, rfl, rfl⟩
  | v :: r, o, w => by rw [World.setCells]; exact setCells_os k r (o + 1) _
/-- A store of some cells into a block. -/
theorem PutTo.store {k n o : Nat} {before after vs : List Value} (ht : w.there k 0 n) (hr : w.rangeAt k 0 before) (hl : o + vs.length ≤ n) (ha : ∀ j, after[j]? = if o ≤ j ∧ j < o + vs.length then vs[j - o]? else before[j]?) : PutTo k n after w (w.setCells k o vs) := by
  obtain ⟨h1, h2, h3⟩ := setCells_os k vs o w
  refine ⟨h1, h2, h3, by rw [setCells_size]; exact Nat.le_refl _, fun j _ hj => setCells_other k vs o w j hj, fun j v hv => ?_, there_setCells _ _ _ ht⟩
  have hto : w.there k o vs.length := fun j hj => by have := ht (o + j) (by omega); rwa [Nat.zero_add] at this
  rw [ha j] at hv
  rw [Nat.zero_add]
  by_cases hj : o ≤ j ∧ j < o + vs.length
  · rw [if_pos hj] at hv
    have := World.rangeAt_setCells_same w k o vs hto (j - o) v hv
    rwa [show o + (j - o) = j by omega] at this
  · rw [if_neg hj] at hv
    have h5 : w.rangeAt k j [v] := fun i u hu => by
      cases i with
      | zero =>
        obtain rfl : v = u := by simpa using hu
        have := hr j v hv
        rwa [Nat.zero_add] at this
      | succ i => simp at hu
    have h6 := World.rangeAt_setCells_apart h5 k o vs (Or.inr (by simp only [List.length_cons, List.length_nil]; omega))
    have := h6 0 v rfl
    exact this
theorem PutTo.whole {k : Nat} {before after : List Value} (ht : w.there k 0 before.length) (hr : w.rangeAt k 0 before) (hl : after.length = before.length) : PutTo k before.length after w (w.setCells k 0 after) :=
  PutTo.store ht hr (by omega) (fun j => by
    by_cases hj : 0 ≤ j ∧ j < 0 + after.length
    · rw [if_pos hj]; rfl
    · rw [if_neg hj, List.getElem?_eq_none (by omega), List.getElem?_eq_none (by omega)])
theorem Wd.put {i b : Nat} {e : Bl} (h : Wd w0 k0 X bl L μ w) (hi : i < L.size) (hb : bl[b]? = some e) (hs : e.st = some i) (hv : e.live L = true) (hp : PutTo (μ b) e.before.length e.after w w')
    (hne : ∀ (c : Nat) (f : Bl), bl[c]? = some f → c ≠ b → f.st ≠ some i) (hal : ∀ (c : Nat) (f : Bl), bl[c]? = some f → f.al ≠ some i) :
    Wd w0 k0 X bl (L.setIfInBounds i true) μ w' := by
  have hliv : ∀ (c : Nat) (f : Bl), bl[c]? = some f → f.live (L.setIfInBounds i true) = f.live L := fun c f hc => by
    rw [live_set hi, show (f.al == some i) = false by simpa using hal c f hc, Bool.or_false]
  obtain ⟨g1, g2, g3, g4⟩ := h.has b e hb hv
  have hle := h.le
  refine ⟨h.bel.trans ⟨hp.os, hp.tape, hp.output, hp.size, fun j hj hx => hp.block j (by omega) (fun e => g4.elim (fun h => by omega) (fun h => hx (e ▸ h)))⟩, Nat.le_trans h.le hp.size, fun c f hc hvc => ?_, fun c d f g hc hd hf hg => h.inj c d f g hc hd (hliv c f hc ▸ hf) (hliv d g hd ▸ hg)⟩
  rw [hliv c f hc] at hvc
  obtain ⟨h1, h2, h3, h4⟩ := h.has c f hc hvc
  by_cases hcb : c = b
  · subst hcb
    rw [hb] at hc
    obtain rfl : e = f := Option.some.inj hc
    have hn : e.now (L.setIfInBounds i true) = e.after := by
      unfold Bl.now
      rw [put_set hi, hs]
      simp
    rw [hn]
    exact ⟨hp.range, hp.there, Nat.lt_of_lt_of_le h3 hp.size, h4⟩
  · have hn : f.now (L.setIfInBounds i true) = f.now L := by
      unfold Bl.now
      rw [put_set hi, show (f.st == some i) = false by simpa using hne c f hc hcb, Bool.or_false]
    rw [hn]
    have hsame := hp.block (μ c) h3 (h.inj c b f e hc hb hvc hv hcb)
    refine ⟨fun j v hj => ?_, fun j hj => ?_, Nat.lt_of_lt_of_le h3 hp.size, h4⟩
    · rw [World.cell?_of_block (w := w) (a := ⟨μ c, 0 + j, none⟩) hsame]; exact h1 j v hj
    · rw [World.cell?_of_block (w := w) (a := ⟨μ c, 0 + j, none⟩) hsame, World.frozen?_of_block (w := w) (a := ⟨μ c, 0 + j, none⟩) hsame]; exact h2 j hj
end Go.Proofs.Ytdeidgbknlmhjab.RG
