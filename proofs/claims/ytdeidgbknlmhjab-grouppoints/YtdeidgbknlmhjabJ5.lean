import Derived.Test.YtdeidgbknlmhjabJ2
import Derived.Test.YtdeidgbknlmhjabJ4
import Derived.Test.YtdeidgbknlmhjabK2
import Derived.Deep.CutRange
import Derived.Deep.DeepCutAuto
import Derived.Laws.Tables
namespace Go.Proofs.Ytdeidgbknlmhjab
open Go.RowKit Go.Sort

def pw0 : Array Value := #[.int .u64 1] ++ Array.replicate 63 (.int .u64 0)
def pwz : Array Value := Array.replicate 64 (.int .u64 0)
theorem zeroT : ∀ w : World, (zeroValue 147).run Try.prog w = .ok (.agg pwz) w := fun _ => by kernel_rfl
theorem builtT : Try.prog.built 147 [(0, .agg #[.int .u64 1, .int .u64 0, .int .u64 0, .int .u64 0])] = some pw0 := by kernel_rfl
theorem sizeT : (Try.prog.info? 147).map (·.size) = some pw0.size := by kernel_rfl
theorem oneT : pw0.all (·.oneCell') = true := by kernel_rfl

theorem wpList_built {ops : Array Oper} {rest : List Oper} {o : Oper} {a : Act} {w : World} {Q : Exit → Act → World → Prop} (hg : o.guard = none) (t : TypeId) (parts : Array (Nat × Operand)) (cells : Array Value) (ho : o.op = .build t parts)
    (hf : Try.prog.built t (parts.map fun (i, x) => (i, a.eval x)).toList = some cells)
    (h : wpList Try.prog ops Q rest (a.put o.dst (.agg cells)) w) : wpList Try.prog ops Q (o :: rest) a w :=
  wpList_build hg t parts ho (by rw [hf]; rfl) (by rw [hf]; exact h)

/-- Sixteen numbers of four words in a block: the first i are powers. -/
def Tab (W : World) (k m P i : Nat) : Prop := ∀ j, j < 16 → ∃ a b c d : Nat, (Blk.mk k (j * 4) a b c d).at W ∧ (j < i → Four (.agg #[.int .u64 (a : Int), .int .u64 (b : Int), .int .u64 (c : Int), .int .u64 (d : Int)]) (m ^ j % P))

theorem Tab.call {W w1 : World} {k m P i : Nat} (h : Tab W k m P i) (hb : Below W.heap.size W w1) : Tab w1 k m P i := fun j hj => by
  obtain ⟨a, b, c, d, h1, h2⟩ := h j hj
  exact ⟨a, b, c, d, h1.call hb, h2⟩
theorem Tab.drew {W : World} {k m P i : Nat} (h : Tab W k m P i) : Tab W.drew k m P i := fun j hj => by
  obtain ⟨a, b, c, d, h1, h2⟩ := h j hj
  exact ⟨a, b, c, d, ⟨h1.c0, h1.c1, h1.c2, h1.c3, h1.f⟩, h2⟩
theorem Tab.other {W : World} {k m P i g o : Nat} (h : Tab W k m P i) (hg : g ≠ k) (v : Value) : Tab (W.setCell ⟨g, o, none⟩ v) k m P i := fun j hj => by
  obtain ⟨a, b, c, d, h1, h2⟩ := h j hj
  exact ⟨a, b, c, d, h1.other hg v, h2⟩
theorem Blk.at.off {W : World} {x : Blk} {i : Nat} (h : x.at W) (hi : i < x.o ∨ x.o + 3 < i) (v : Value) : x.at (W.setCell ⟨x.k, i, none⟩ v) :=
  ⟨by rw [World.cell?_setCell_other _ _ _ _ (ne_addr (Or.inr (by omega)))]; exact h.c0, by rw [World.cell?_setCell_other _ _ _ _ (ne_addr (Or.inr (by omega)))]; exact h.c1,
   by rw [World.cell?_setCell_other _ _ _ _ (ne_addr (Or.inr (by omega)))]; exact h.c2, by rw [World.cell?_setCell_other _ _ _ _ (ne_addr (Or.inr (by omega)))]; exact h.c3, fun o => by rw [World.frozen?_setCell]; exact h.f o⟩
theorem Blk.at.put {W : World} {k o a b c d : Nat} (h : (Blk.mk k o a b c d).at W) (x y z t : Nat) :
    (Blk.mk k o x y z t).at ((((W.setCell ⟨k, o, none⟩ (.int .u64 (x : Int))).setCell ⟨k, o + 1, none⟩ (.int .u64 (y : Int))).setCell ⟨k, o + 2, none⟩ (.int .u64 (z : Int))).setCell ⟨k, o + 3, none⟩ (.int .u64 (t : Int))) := by
  have s0 := World.cell?_setCell_same W ⟨k, o, none⟩ (.int .u64 (x : Int)) h.c0
  have o1 : ∀ (W : World) (i j : Nat) (v : Value), i ≠ j → (W.setCell ⟨k, i, none⟩ v).cell? ⟨k, j, none⟩ = W.cell? ⟨k, j, none⟩ := fun W i j v hij => World.cell?_setCell_other _ _ _ _ (ne_addr (Or.inr hij))
  refine ⟨?_, ?_, ?_, ?_, fun i => ?_⟩
  · show World.cell? _ ⟨k, o, none⟩ = _
    rw [o1 _ _ _ _ (by omega), o1 _ _ _ _ (by omega), o1 _ _ _ _ (by omega)]; exact s0
  · show World.cell? _ ⟨k, o + 1, none⟩ = _
    rw [o1 _ _ _ _ (by omega), o1 _ _ _ _ (by omega)]
    exact World.cell?_setCell_same _ _ _ (by rw [o1 _ _ _ _ (by omega)]; exact h.c1)
  · show World.cell? _ ⟨k, o + 2, none⟩ = _
    rw [o1 _ _ _ _ (by omega)]
    exact World.cell?_setCell_same _ _ _ (by rw [o1 _ _ _ _ (by omega), o1 _ _ _ _ (by omega)]; exact h.c2)
  · show World.cell? _ ⟨k, o + 3, none⟩ = _
    exact World.cell?_setCell_same _ _ _ (by rw [o1 _ _ _ _ (by omega), o1 _ _ _ _ (by omega), o1 _ _ _ _ (by omega)]; exact h.c3)
  · rw [World.frozen?_setCell, World.frozen?_setCell, World.frozen?_setCell, World.frozen?_setCell]; exact h.f i
theorem Tab.put {W : World} {k m P i x y z t : Nat} (h : Tab W k m P i) (hi : i < 16) (hF : Four (.agg #[.int .u64 (x : Int), .int .u64 (y : Int), .int .u64 (z : Int), .int .u64 (t : Int)]) (m ^ i % P)) :
    Tab ((((W.setCell ⟨k, i * 4, none⟩ (.int .u64 (x : Int))).setCell ⟨k, i * 4 + 1, none⟩ (.int .u64 (y : Int))).setCell ⟨k, i * 4 + 2, none⟩ (.int .u64 (z : Int))).setCell ⟨k, i * 4 + 3, none⟩ (.int .u64 (t : Int))) k m P (i + 1) := fun j hj => by
  obtain ⟨a, b, c, d, h1, h2⟩ := h j hj
  by_cases hji : j = i
  · subst hji
    exact ⟨x, y, z, t, h1.put x y z t, fun _ => hF⟩
  · refine ⟨a, b, c, d, ?_, fun h3 => h2 (by omega)⟩
    exact (((h1.off (by simp only; omega) _).off (by simp only; omega) _).off (by simp only; omega) _).off (by simp only; omega) _

theorem newest (w : World) (o : Obj) : (w.alloc o).heap[w.heap.size]? = some o := by
  show (w.heap.push o)[w.heap.size]? = some o
  simp

theorem pw0_at (j : Nat) : pw0[j]? = if j = 0 then some (.int .u64 1) else if j < 64 then some (.int .u64 0) else none := by
  match j with
  | 0 => rfl
  | j + 1 =>
    rw [if_neg (by omega)]
    unfold pw0
    rw [Array.getElem?_append_right (by simp)]
    by_cases h : j + 1 < 64
    · rw [if_pos h]; simp [Array.getElem?_replicate]; omega
    · rw [if_neg h]; simp [Array.getElem?_replicate]; omega

theorem Tab.new (w : World) (m P : Nat) (hP : 1 < P) : Tab ((w.alloc (.cells pwz 147)).setRow w.heap.size pw0) w.heap.size m P 1 := fun j hj => by
  have hg : (w.alloc (.cells pwz 147)).heap[w.heap.size]? = some (.cells pwz 147 (0, 0)) := newest w _
  have hc := fun i => cell_setRow_same (w.alloc (.cells pwz 147)) w.heap.size i pwz pw0 147 (0, 0) hg
  have hf : ∀ o, ((w.alloc (.cells pwz 147)).setRow w.heap.size pw0).frozen? ⟨w.heap.size, o, none⟩ = false := fun o => by
    have h1 := setRow_heap _ _ _ pw0 _ _ hg
    unfold World.frozen?
    dsimp only
    rw [h1]
    simp
  by_cases h0 : j = 0
  · subst h0
    refine ⟨1, 0, 0, 0, ⟨?_, ?_, ?_, ?_, hf⟩, fun _ => ?_⟩
    · rw [hc, pw0_at]; rfl
    · rw [hc, pw0_at]; rfl
    · rw [hc, pw0_at]; rfl
    · rw [hc, pw0_at]; rfl
    · rw [Nat.pow_zero, Nat.mod_eq_of_lt hP]
      exact Four.mk (by decide) (by decide) (by decide) (by decide) rfl
  · refine ⟨0, 0, 0, 0, ⟨?_, ?_, ?_, ?_, hf⟩, fun h => by omega⟩
    · rw [hc, pw0_at, if_neg (by simp only; omega), if_pos (by simp only; omega)]; rfl
    · rw [hc, pw0_at, if_neg (by simp only; omega), if_pos (by simp only; omega)]; rfl
    · rw [hc, pw0_at, if_neg (by simp only; omega), if_pos (by simp only; omega)]; rfl
    · rw [hc, pw0_at, if_neg (by simp only; omega), if_pos (by simp only; omega)]; rfl

theorem below_setRow {B : Nat} {w W : World} (h : Below B w W) {g : Nat} (hg : B ≤ g) (cs : Array Value) : Below B w (W.setRow g cs) :=
  ⟨h.os, h.tape, h.output, by rw [setRow_size]; exact h.size, fun k hk => by rw [setRow_other W g k cs (by omega)]; exact h.block k hk⟩

theorem pow_kept {w W W' : World} {k0 : Nat} {l : List Blk} (h : Kept w k0 l W) (hb : Below W.heap.size W W') : Kept w k0 l W' := h.call hb
theorem below_tab (W : World) : Below W.heap.size W ((W.alloc (.cells pwz 147)).setRow W.heap.size pw0) := below_setRow (below1 W _) (Nat.le_refl _) _
end Go.Proofs.Ytdeidgbknlmhjab
