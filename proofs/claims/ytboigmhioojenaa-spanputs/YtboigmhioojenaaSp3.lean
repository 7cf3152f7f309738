import Derived.BigQuiet
import Derived.StillTailTactics
import Derived.Deep.LoopGhost
import Derived.KernelRfl
import Derived.Deep.RegionWith
import Derived.Deep.OwnRows
import Derived.Test.YtboigmhioojenaaSp2
set_option linter.unusedVariables false
set_option linter.unusedSimpArgs false
namespace Go.Proofs.Ytboigmhioojenaa
open Go.RowKit Go.Sort Go.Deep
theorem cell_blk {W W' : World} {g : Nat} (h : W'.heap[g]? = W.heap[g]?) (j : Nat) : W'.cell? ⟨g, j, none⟩ = W.cell? ⟨g, j, none⟩ ∧ W'.frozen? ⟨g, j, none⟩ = W.frozen? ⟨g, j, none⟩ := by
  unfold World.cell? World.frozen?
  rw [h]
  exact ⟨rfl, rfl⟩
theorem set_blk (W : World) {b g : Nat} (o : Nat) (v : Value) (h : g ≠ b) : (W.setCell ⟨b, o, none⟩ v).heap[g]? = W.heap[g]? := by
  rw [heap_set, if_neg (fun e => h e.symm)]
/-- What the reference's Read keeps behind the making of the proof: the block of the answer, the proof's eleven cells, the two lists. -/
structure RyI (w W : World) (ga gs gp gz B : Nat) (s : ByteArray) (k off : Nat) (us : List Value) (row : Nat → Value) (ls : Nat → List Value) : Prop where
  nx : NxI w W ga gs gp s off us (chk s.data k)
  z : W.heap[gz]? = some (.cells zR.toArray 27 (0, 0))
  p : ∀ j, j < 11 → W.cell? ⟨gp, j, none⟩ = some (row j) ∧ W.frozen? ⟨gp, j, none⟩ = false
  wz : w.heap.size ≤ gz
  za : gz < ga
  ap : ga < gp
  sa : gs < ga
  pB : gp < B
  BW : B ≤ W.heap.size
  l : ∀ o, o = 7 ∨ o = 8 → W.ownsRow B 22 1 (row o) (ls o).length (ls o)
  d : ∀ o o' g, (o = 7 ∨ o = 8) → (o' = 7 ∨ o' = 8) → o ≠ o' → (row o).ownBlock = some g → (row o').ownBlock ≠ some g
  sl : ∀ o, o = 7 ∨ o = 8 → ∀ u ∈ ls o, ∃ q n c, u = .slice q n c
variable {w W : World} {ga gs gp gz B k off : Nat} {s : ByteArray} {us : List Value} {row : Nat → Value} {ls : Nat → List Value}
theorem RyI.next {n : Nat} (h : RyI w W ga gs gp gz B s k off us row ls) (hk : off + n ≤ s.size) (hs : s.size ≤ 1048576) (hc : chk s.data k us.length = (s.extract off (off + n)).data) :
    Calls Try.prog 17 #[.int .i64 (n : Int), .pointer (some ⟨ga, 0, none⟩), .pointer (some ⟨gs, 0, none⟩)] W fun e W' => ∃ g c, e = .returned (.slice (some ⟨g, 0, none⟩) n c) ∧ RyI w W' ga gs gp gz B s k (off + n) (us ++ [.slice (some ⟨g, 0, none⟩) n c]) row ls := by
  have hp := h.pB
  have hB := h.BW
  have hza := h.za
  have hap := h.ap
  refine (h.nx.next hk hs hc (by omega)).mono ?_
  rintro e W' ⟨u, rfl, hlt, hblk, hn⟩
  obtain ⟨g, c, e, -⟩ := hn.ow us.length u (by rw [List.getElem?_append_right (Nat.le_refl _), Nat.sub_self]; rfl)
  have hsz : (chk s.data k us.length).size = n := by
    rw [hc]
    show (s.extract off (off + n)).size = n
    rw [ByteArray.size_extract]
    omega
  rw [hsz] at e
  subst e
  refine ⟨g, c, rfl, hn, by rw [hblk gz (by omega) (by omega)]; exact h.z, fun j hj => ?_, h.wz, hza, hap, h.sa, hp, by omega, fun o ho => own_keep (h.l o ho) (fun g' hg => hblk g' (own_lt (h.l o ho) hg).2.1 (by have := (own_lt (h.l o ho) hg).1; omega)), h.d, h.sl⟩
  obtain ⟨h1, h2⟩ := cell_blk (hblk gp (by omega) (by omega)) j
  rw [h1, h2]
  exact h.p j hj
/-- A field of the proof is written. -/
theorem RyI.put {o : Nat} {v : Value} (h : RyI w W ga gs gp gz B s k off us row ls) (ho : o < 11) (h7 : o ≠ 7) (h8 : o ≠ 8) : RyI w (W.setCell ⟨gp, o, none⟩ v) ga gs gp gz B s k off us (fun j => if j = o then v else row j) ls := by
  have hp := h.pB
  have hza := h.za
  have hap := h.ap
  have hsa := h.sa
  have hwz := h.wz
  refine ⟨h.nx.put (by omega) (by omega) (by omega), by rw [set_blk W o v (by omega)]; exact h.z, fun j hj => ?_, hwz, hza, hap, hsa, hp, by rw [World.size_setCell]; exact h.BW, fun o' ho' => ?_, fun o1 o2 g h1 h2 h3 => ?_, h.sl⟩
  · refine ⟨?_, (World.frozen?_setCells gp [v] o W _).trans (h.p j hj).2⟩
    by_cases hj' : j = o
    · subst hj'
      rw [if_pos rfl]
      exact World.cell?_setCell_same _ _ _ (h.p j hj).1
    · rw [if_neg hj', World.cell?_setCell_other _ _ _ _ (by intro e; injection e with _ e _; exact hj' e.symm)]
      exact (h.p j hj).1
  · rw [if_neg (by omega)]
    exact own_keep (h.l o' ho') (fun g' hg => set_blk W o v (by have := (own_lt (h.l o' ho') hg).1; omega))
  · rw [if_neg (by omega), if_neg (by omega)]
    exact h.d o1 o2 g h1 h2 h3
/-- An entry is appended to one of the lists. -/
theorem RyI.app {o : Nat} {u : Value} (h : RyI w W ga gs gp gz B s k off us row ls) (ho : o = 7 ∨ o = 8) (hu : ∃ q n c, u = .slice q n c) (hn : (ls o).length ≤ 1000) (hpos : ∀ j u, us[j]? = some u → 0 < (chk s.data k j).size) (hyl : (row o).ownBlock ≠ none → 0 < (ls o).length) :
    ∃ g c W', (Builtin.append_ #[23, 23] 23 #[row o, .slice (some ⟨W.heap.size, 0, none⟩) 1 1]).run Try.prog (W.alloc (.cells #[u] 22)) = .ok (.slice (some ⟨g, 0, none⟩) ((ls o).length + 1) c) W' ∧ W'.cell? ⟨gp, o, none⟩ = some (row o) ∧ W'.frozen? ⟨gp, o, none⟩ = false ∧ RyI w (W'.setCell ⟨gp, o, none⟩ (.slice (some ⟨g, 0, none⟩) ((ls o).length + 1) c)) ga gs gp gz B s k off us (fun j => if j = o then .slice (some ⟨g, 0, none⟩) ((ls o).length + 1) c else row j) (fun j => if j = o then ls o ++ [u] else ls j) := by
  have hp := h.pB
  have hB := h.BW
  have hza := h.za
  have hap := h.ap
  have hsa := h.sa
  have hwz := h.wz
  have ho' : o < 11 := by omega
  have hne : ∀ o', (o' = 7 ∨ o' = 8) → ∀ g, g < B → (row o').ownBlock ≠ some g := fun o' h1 g hg e => by
    have := (own_lt (h.l o' h1) e).1
    omega
  obtain ⟨v', W', r1, ⟨g, c, rfl⟩, r2, r3, r4, r5⟩ := LsI.app (gp := gp) (o := o) (u := u) ⟨(h.p o ho').1, (h.p o ho').2, h.l o ho, hne o ho gp hp⟩ (by obtain ⟨q, n, c, rfl⟩ := hu; rfl) hn hB (by omega)
  have hs5 := r5.size
  have kp : ∀ b, b < W.heap.size → (row o).ownBlock ≠ some b → b ≠ gp → (W'.setCell ⟨gp, o, none⟩ (.slice (some ⟨g, 0, none⟩) ((ls o).length + 1) c)).heap[b]? = W.heap[b]? := fun b h1 h2 h3 => by
    rw [set_blk W' o _ h3]
    exact r5.keep b h1 h2
  have nx1 : NxI w W' ga gs gp s off us (chk s.data k) := h.nx.ap1 r5 (h.l o ho) (by omega) (hne o ho ga (by omega)) (hne o ho gs (by omega)) hpos (h.sl o ho) hyl
  refine ⟨g, c, W', r1, r2, r3, nx1.put (by omega) (by omega) (by omega), by rw [kp gz (by omega) (hne o ho gz (by omega)) (by omega)]; exact h.z, fun j hj => ?_, hwz, hza, hap, hsa, hp, by rw [World.size_setCell]; omega, fun o1 h1 => ?_, fun o1 o2 g' h1 h2 h3 => ?_, fun o1 h1 u1 hu1 => ?_⟩
  · refine ⟨?_, (World.frozen?_setCells gp [_] o W' _).trans ?_⟩
    · by_cases hj' : j = o
      · subst hj'
        rw [if_pos rfl]
        exact World.cell?_setCell_same _ _ _ r2
      · rw [if_neg hj', World.cell?_setCell_other _ _ _ _ (by intro e; injection e with _ e _; exact hj' e.symm), (cell_blk (r5.keep gp (by omega) (hne o ho gp hp)) j).1]
        exact (h.p j hj).1
    · rw [(cell_blk (r5.keep gp (by omega) (hne o ho gp hp)) j).2]
      exact (h.p j hj).2
  · by_cases he : o1 = o
    · subst he
      rw [if_pos rfl, if_pos rfl]
      exact r4.ow
    · rw [if_neg he, if_neg he]
      exact own_keep (h.l o1 h1) (fun g1 hg1 => kp g1 (own_lt (h.l o1 h1) hg1).2.1 (fun e => h.d o o1 g1 ho h1 (fun e => he e.symm) e hg1) (by have := (own_lt (h.l o1 h1) hg1).1; omega))
  · have hmv : ∀ g1, (Value.slice (some ⟨g, 0, none⟩) ((ls o).length + 1) c).ownBlock = some g1 → ∀ o3, (o3 = 7 ∨ o3 = 8) → o3 ≠ o → (row o3).ownBlock ≠ some g1 := fun g1 hg1 o3 h4 h5 e => by
      rcases r5.mv with e1 | ⟨⟨g2, e2, hg2⟩, -⟩
      · exact h.d o o3 g1 ho h4 (fun e => h5 e.symm) (e1 ▸ hg1) e
      · have := (own_lt (h.l o3 h4) e).2.1
        rw [hg1] at e2
        have := Option.some.inj e2
        omega
    by_cases he1 : o1 = o
    · subst he1
      rw [if_pos rfl, if_neg (fun e => h3 e.symm)]
      exact fun e => hmv g' e o2 h2 (fun e => h3 e.symm)
    · by_cases he2 : o2 = o
      · subst he2
        rw [if_neg he1, if_pos rfl]
        exact fun e e' => hmv g' e' o1 h1 he1 e
      · rw [if_neg he1, if_neg he2]
        exact h.d o1 o2 g' h1 h2 h3
  · by_cases he : o1 = o
    · subst he
      rw [if_pos rfl] at hu1
      rcases List.mem_append.1 hu1 with hm | hm
      · exact h.sl o1 h1 u1 hm
      · obtain rfl : u1 = u := by simpa using hm
        exact hu
    · rw [if_neg he] at hu1
      exact h.sl o1 h1 u1 hu1
/-- A row of eleven cells in the block of the answer. -/
theorem put11b {w W : World} {gz : Nat} {cs : List Value} (hb : W.heap[gz]? = some (.cells zR.toArray 27 (0, 0))) (hl : cs.length = 11) (hbl : Below w.heap.size w W) (hz : w.heap.size ≤ gz) : W.there gz 0 cs.toArray.size ∧ (W.setCells gz 0 cs).rangeAt gz 0 cs ∧ Below w.heap.size w (W.setCells gz 0 cs) ∧ (∀ b, b < W.heap.size → b ≠ gz → (W.setCells gz 0 cs).heap[b]? = W.heap[b]?) ∧ W.heap.size ≤ (W.setCells gz 0 cs).heap.size := by
  have ht : W.there gz 0 cs.length := fun j hj => by
    unfold World.cell? World.frozen?
    rw [hb]
    refine ⟨?_, by simp⟩
    have : (0 + j) < zR.toArray.size := by show 0 + j < 11; omega
    simp only [Array.getElem?_eq_getElem this]
    rfl
  have h0 := below_setCells (B := 0) (b := gz) (Nat.zero_le _) cs 0 W (Below.refl 0 W)
  refine ⟨by simpa using ht, World.rangeAt_setCells_same _ _ _ _ ht, ⟨(World.os_setCells _ _ _ _).trans hbl.os, ?_, (World.output_setCells _ _ _ _).trans hbl.output, ?_, fun k hk => ?_⟩, fun b hlt hb' => ?_, h0.size⟩
  · rw [h0.tape]; exact hbl.tape
  · exact Nat.le_trans hbl.size h0.size
  · have := below_setCells (B := w.heap.size) (b := gz) hz cs 0 W (Below.refl _ W)
    rw [this.block k hk]
    exact hbl.block k hk
  · exact World.heap_setCells_other W _ 0 cs hlt hb'
end Go.Proofs.Ytboigmhioojenaa
namespace Go.Proofs.Ytboigmhioojenaa
open Go.RowKit Go.Sort Go.Deep
variable {w W : World} {ga gs gp gz B k off : Nat} {s : ByteArray} {us : List Value} {row : Nat → Value} {ls : Nat → List Value}
def nilV : Value := .slice none 0 0
/-- The proof's block is made. -/
theorem RyI.begin {cs : List Value} (h : NxI w W ga gs gs s off us (chk s.data k)) (hz : W.heap[gz]? = some (.cells zR.toArray 27 (0, 0))) (hl : cs.length = 11) (c7 : cs[7]? = some nilV) (c8 : cs[8]? = some nilV) (wz : w.heap.size ≤ gz) (za : gz < ga) (sa : gs < ga) :
    (W.alloc (.cells zR.toArray 27)).there W.heap.size 0 cs.toArray.size ∧ RyI w ((W.alloc (.cells zR.toArray 27)).setCells W.heap.size 0 cs) ga gs W.heap.size gz (W.heap.size + 1) s k off us (fun j => (cs[j]?).getD nilV) (fun _ => []) := by
  have la := h.la
  have ba := alloc_below W (.cells zR.toArray 27)
  have zsz : (W.alloc (.cells zR.toArray 27)).heap.size = W.heap.size + 1 := World.size_alloc _ _
  have hb : (W.alloc (.cells zR.toArray 27)).heap[W.heap.size]? = some (.cells zR.toArray 27 (0, 0)) := Array.getElem?_push_size
  obtain ⟨p1, p2, p3, p4, p5⟩ := put11b (w := W) hb hl ba (Nat.le_refl _)
  have nx := (h.regp (gp' := W.heap.size) ba (Nat.le_refl _)).puts (by omega) (by have := h.ls; omega) (by have := h.bl.size; omega) cs 0
  refine ⟨p1, nx, by rw [p3.block gz (by omega)]; exact hz, fun j hj => ?_, wz, za, la, sa, by omega, by omega, fun o ho => ?_, fun o o' g ho ho' _ e => ?_, fun o _ u hu => by cases hu⟩
  · obtain ⟨v, hv⟩ : ∃ v, cs[j]? = some v := ⟨_, List.getElem?_eq_getElem (by omega)⟩
    refine ⟨?_, ?_⟩
    · rw [hv]
      have := p2 j v hv
      rw [Nat.zero_add] at this
      exact this
    · refine (World.frozen?_setCells _ cs 0 _ _).trans ?_
      unfold World.frozen?
      rw [hb]
      simp
  · have : (cs[o]?).getD nilV = nilV := by rcases ho with rfl | rfl <;> first | rw [c7]; rfl | rw [c8]; rfl
    rw [this]
    exact ⟨rfl, Or.inl ⟨rfl, rfl⟩⟩
  · have : (cs[o]?).getD nilV = nilV := by rcases ho with rfl | rfl <;> first | rw [c7]; rfl | rw [c8]; rfl
    rw [this] at e
    cases e
theorem ordS_at (k j : Nat) (h : j < k + k) : (ordS k k)[7 + j]? = some 33 := by
  unfold ordS
  rw [List.append_assoc, List.append_assoc, List.getElem?_append_right (by simp), List.getElem?_append]
  simp only [List.length_cons, List.length_nil, List.length_replicate, Nat.zero_add, Nat.reduceAdd, Nat.add_sub_cancel_left]
  split
  · rw [List.getElem?_replicate, if_pos (by omega)]
  · rw [List.getElem?_append_left (by rw [List.length_replicate]; omega), List.getElem?_replicate, if_pos (by omega)]
theorem ordS_end (k j : Nat) (h : j < 2) : (ordS k k)[7 + (k + k + j)]? = some 32 := by
  unfold ordS
  rw [List.getElem?_append_right (by simp; omega)]
  simp only [List.length_append, List.length_cons, List.length_nil, List.length_replicate, Nat.zero_add, Nat.reduceAdd]
  rw [show 7 + (k + k + j) - (7 + k + k) = j by omega]
  match j, h with
  | 0, _ => rfl
  | 1, _ => rfl
theorem offs7 (k : Nat) : ∀ j, j ≤ k + k → offs k (7 + j) = 229 + 33 * j
  | 0, _ => rfl
  | j + 1, h => by
    rw [← Nat.add_assoc, offs_succ k (7 + j) 33 (ordS_at k j (by omega)), offs7 k j (by omega)]
    omega
theorem offs8 (k : Nat) : offs k (7 + (k + k + 1)) = 261 + 66 * k ∧ offs k (7 + (k + k + 2)) = 293 + 66 * k := by
  have h1 := offs_succ k (7 + (k + k)) 32 (ordS_end k 0 (by omega))
  have h2 := offs_succ k (7 + (k + k + 1)) 32 (ordS_end k 1 (by omega))
  rw [offs7 k _ (Nat.le_refl _)] at h1
  rw [show 7 + (k + k) + 1 = 7 + (k + k + 1) by omega] at h1
  rw [show 7 + (k + k + 1) + 1 = 7 + (k + k + 2) by omega] at h2
  omega
theorem chk_pos (s : ByteArray) (k : Nat) (hs : s.size = 293 + 66 * k) (j : Nat) (h : j < k + k + 9) : 0 < (chk s.data k j).size := by
  obtain ⟨n, hn, h32⟩ : ∃ n, (ordS k k)[j]? = some n ∧ 0 < n := by
    by_cases h7 : j < 7
    · match j, h7 with
      | 0, _ => exact ⟨33, rfl, by omega⟩
      | 1, _ => exact ⟨33, rfl, by omega⟩
      | 2, _ => exact ⟨33, rfl, by omega⟩
      | 3, _ => exact ⟨33, rfl, by omega⟩
      | 4, _ => exact ⟨32, rfl, by omega⟩
      | 5, _ => exact ⟨32, rfl, by omega⟩
      | 6, _ => exact ⟨32, rfl, by omega⟩
    · obtain ⟨i, rfl⟩ : ∃ i, j = 7 + i := ⟨j - 7, by omega⟩
      by_cases hi : i < k + k
      · exact ⟨33, ordS_at k i hi, by omega⟩
      · obtain ⟨m, rfl⟩ : ∃ m, i = k + k + m := ⟨i - (k + k), by omega⟩
        exact ⟨32, ordS_end k m (by omega), by omega⟩
  have h1 := offs_succ k j n hn
  have h2 := offs_le k (j + 1)
  rw [ordS_sum] at h2
  have h3 : s.data.size = 293 + 66 * k := hs
  unfold chk
  rw [Array.size_extract]
  omega
/-- What the reference's Read answers of a proof's bytes. -/
def RfR (w : World) (s : ByteArray) (k : Nat) (e : Ending) (W : World) : Prop := Below w.heap.size w W ∧ ∃ (p : Rg) (l1 l2 : List Value), e = .returned (.tuple #[.agg p.cs.toArray, .int .i64 0]) ∧ VL W p.l.q p.l.n l1 ∧ VL W p.r.q p.r.n l2 ∧ p.l.n = k ∧ p.r.n = k ∧ ∀ j, j < k + k + 9 → ∃ u, ([p.a.v, p.b.v, p.c.v, p.d.v, p.e.v, p.f.v, p.g.v] ++ l1 ++ l2 ++ [p.x.v, p.y.v])[j]? = some u ∧ Pt W u (chk s.data k j)
theorem own_vl {W : World} {B : Nat} {v : Value} {ys : List Value} (h : W.ownsRow B 22 1 v ys.length ys) (hs : ∀ u ∈ ys, ∃ q n c, u = .slice q n c) : ∃ s : Sv, v = s.v ∧ VL W s.q s.n ys ∧ s.n = ys.length := by
  have h1 : ∀ u ∈ ys, u.oneCell' = true := fun u hu => by obtain ⟨q, n, c, rfl⟩ := hs u hu; rfl
  rcases id h with ⟨-, ⟨rfl, h0⟩ | ⟨g, cap, cur, rfl, -⟩⟩
  · obtain rfl : ys = [] := List.length_eq_zero_iff.1 h0
    exact ⟨⟨none, 0, 0⟩, rfl, ⟨rfl, fun _ => rfl, Or.inl rfl, h1⟩, rfl⟩
  · refine ⟨⟨some ⟨g, 0, none⟩, ys.length, cap⟩, rfl, ⟨rfl, fun e => (by cases e), Or.inr ⟨g, 0, rfl, (own_lt h rfl).2.1, fun j u hj => ?_⟩, h1⟩, rfl⟩
    have := h.cells (g := g) rfl j u hj
    rw [addP0] at this
    exact this
theorem NxI.sv (h : NxI w W ga gs gp s off us (chk s.data k)) (j : Nat) (u : Value) (hu : us[j]? = some u) : ∃ x : Sv, u = x.v := by
  obtain ⟨g, c, rfl, -⟩ := h.ow j u hu
  exact ⟨⟨_, _, _⟩, rfl⟩
/-- The end: the proof is copied into the answer. -/
theorem RyI.fin {hd : List Value} {x y : Value} (h : RyI w W ga gs gp gz B s k off us row ls) (hus : us = hd ++ ls 7 ++ ls 8 ++ [x, y]) (hh : hd = [row 0, row 1, row 2, row 3, row 4, row 5, row 6]) (h9 : row 9 = x) (h10 : row 10 = y) (n7 : (ls 7).length = k) (n8 : (ls 8).length = k) :
    ∃ cs : List Value, cs.length = 11 ∧ (∀ v ∈ cs, v.oneCell' = true) ∧ W.rangeAt gp 0 cs ∧ W.there gz 0 cs.toArray.size ∧ (W.setCells gz 0 cs).rangeAt gz 0 cs ∧ RfR w s k (.returned (.tuple #[.agg cs.toArray, .int .i64 0])) (W.setCells gz 0 cs) := by
  subst hh
  obtain ⟨a, ea⟩ := h.nx.sv 0 (row 0) (by rw [hus]; rfl)
  obtain ⟨b, eb⟩ := h.nx.sv 1 (row 1) (by rw [hus]; rfl)
  obtain ⟨c, ec⟩ := h.nx.sv 2 (row 2) (by rw [hus]; rfl)
  obtain ⟨d, ed⟩ := h.nx.sv 3 (row 3) (by rw [hus]; rfl)
  obtain ⟨e, ee⟩ := h.nx.sv 4 (row 4) (by rw [hus]; rfl)
  obtain ⟨f, ef⟩ := h.nx.sv 5 (row 5) (by rw [hus]; rfl)
  obtain ⟨g, eg⟩ := h.nx.sv 6 (row 6) (by rw [hus]; rfl)
  have len : ([row 0, row 1, row 2, row 3, row 4, row 5, row 6] ++ ls 7 ++ ls 8).length = 7 + (k + k) := by
    rw [List.length_append, List.length_append, n7, n8]
    simp only [List.length_cons, List.length_nil]
    omega
  obtain ⟨x', ex⟩ := h.nx.sv (7 + (k + k)) x (by rw [hus, List.getElem?_append_right (by omega), len, Nat.sub_self]; rfl)
  obtain ⟨y', ey⟩ := h.nx.sv (7 + (k + k) + 1) y (by rw [hus, List.getElem?_append_right (by omega), len, Nat.add_sub_cancel_left]; rfl)
  obtain ⟨l, el, vl, nl⟩ := own_vl (h.l 7 (Or.inl rfl)) (h.sl 7 (Or.inl rfl))
  obtain ⟨r, er, vr, nr⟩ := own_vl (h.l 8 (Or.inr rfl)) (h.sl 8 (Or.inr rfl))
  have hwz := h.wz
  have hza := h.za
  have hap := h.ap
  have hpB := h.pB
  have hBW := h.BW
  obtain ⟨p1, p2, p3, p4, p5⟩ := put11b (w := w) (cs := (⟨a, b, c, d, e, f, g, l, r, x', y'⟩ : Rg).cs) h.z rfl h.nx.bl hwz
  have kV : ∀ o, (o = 7 ∨ o = 8) → (W.setCells gz 0 (⟨a, b, c, d, e, f, g, l, r, x', y'⟩ : Rg).cs).ownsRow B 22 1 (row o) (ls o).length (ls o) := fun o ho => own_keep (h.l o ho) (fun g' hg => p4 g' (own_lt (h.l o ho) hg).2.1 (by have := (own_lt (h.l o ho) hg).1; omega))
  obtain ⟨l', el', vl', nl'⟩ := own_vl (kV 7 (Or.inl rfl)) (h.sl 7 (Or.inl rfl))
  obtain ⟨r', er', vr', nr'⟩ := own_vl (kV 8 (Or.inr rfl)) (h.sl 8 (Or.inr rfl))
  have svi : ∀ {s t : Sv}, s.v = t.v → s = t := fun {s t} hst => by
    obtain ⟨q1, n1, c1⟩ := s; obtain ⟨q2, n2, c2⟩ := t
    injection hst with a b c
    subst a b c
    rfl
  obtain rfl : l = l' := svi (el.symm.trans el')
  obtain rfl : r = r' := svi (er.symm.trans er')
  refine ⟨(⟨a, b, c, d, e, f, g, l, r, x', y'⟩ : Rg).cs, rfl, fun v hv => ?_, fun j u hj => ?_, p1, p2, p3, ⟨a, b, c, d, e, f, g, l, r, x', y'⟩, ls 7, ls 8, rfl, vl', vr', nl.trans n7, nr.trans n8, fun j hj => ?_⟩
  · simp only [Rg.cs, rgC, List.mem_cons, List.not_mem_nil, or_false] at hv
    rcases hv with rfl | rfl | rfl | rfl | rfl | rfl | rfl | rfl | rfl | rfl | rfl <;> rfl
  · have hlt : j < 11 := (List.getElem?_eq_some_iff.1 hj).1
    rw [Nat.zero_add, (h.p j hlt).1]
    rw [← hj]
    match j, hlt with
    | 0, _ => exact congrArg some ea
    | 1, _ => exact congrArg some eb
    | 2, _ => exact congrArg some ec
    | 3, _ => exact congrArg some ed
    | 4, _ => exact congrArg some ee
    | 5, _ => exact congrArg some ef
    | 6, _ => exact congrArg some eg
    | 7, _ => exact congrArg some el
    | 8, _ => exact congrArg some er
    | 9, _ => exact congrArg some (h9.trans ex)
    | 10, _ => exact congrArg some (h10.trans ey)
  · show ∃ u, ([a.v, b.v, c.v, d.v, e.v, f.v, g.v] ++ ls 7 ++ ls 8 ++ [x'.v, y'.v])[j]? = some u ∧ _
    rw [← ea, ← eb, ← ec, ← ed, ← ee, ← ef, ← eg, ← ex, ← ey, ← hus]
    have hlen : us.length = 7 + (k + k) + 2 := by rw [hus, List.length_append, len]; rfl
    obtain ⟨u, hu⟩ : ∃ u, us[j]? = some u := ⟨_, List.getElem?_eq_getElem (by omega)⟩
    obtain ⟨g', c', rfl, h1, h2, h3, h4⟩ := h.nx.ow j u hu
    refine ⟨_, hu, _, c', rfl, Or.inr ⟨g', 0, rfl, by omega, fun i hi => ?_⟩⟩
    obtain ⟨q1, q2⟩ := cell_blk (p4 g' h2 (by omega)) (0 + i)
    rw [q1, q2]
    exact h4 i hi
/-- The same, with the lists as they stand in what was cut off. -/
structure RyL (w W : World) (ga gs gp gz B : Nat) (s : ByteArray) (k off : Nat) (hd us : List Value) (row : Nat → Value) (ls : Nat → List Value) (i1 i2 : Nat) : Prop where
  y : RyI w W ga gs gp gz B s k off us row ls
  us : us = hd ++ ls 7 ++ ls 8
  hd : hd = [row 0, row 1, row 2, row 3, row 4, row 5, row 6]
  n7 : (ls 7).length = i1
  n8 : (ls 8).length = i2
  yl : ∀ o, (o = 7 ∨ o = 8) → (row o).ownBlock ≠ none → 0 < (ls o).length
theorem RyL.len {hd : List Value} {i1 i2 : Nat} (h : RyL w W ga gs gp gz B s k off hd us row ls i1 i2) : us.length = 7 + (i1 + i2) := by
  rw [h.us, List.length_append, List.length_append, h.n7, h.n8, h.hd]
  simp only [List.length_cons, List.length_nil]
  omega
theorem RyL.next {n : Nat} {hd : List Value} {i1 i2 : Nat} (h : RyL w W ga gs gp gz B s k off hd us row ls i1 i2) (hs : s.size = 293 + 66 * k) (h6 : k ≤ 6) (e1 : offs k (7 + (i1 + i2)) = off) (e2 : offs k (7 + (i1 + i2) + 1) = off + n) (hb : i1 + i2 < k + k + 2) :
    Calls Try.prog 17 #[.int .i64 (n : Int), .pointer (some ⟨ga, 0, none⟩), .pointer (some ⟨gs, 0, none⟩)] W fun e W' => ∃ g c, e = .returned (.slice (some ⟨g, 0, none⟩) n c) ∧ RyI w W' ga gs gp gz B s k (off + n) (us ++ [.slice (some ⟨g, 0, none⟩) n c]) row ls := by
  have h2 := offs_le k (7 + (i1 + i2) + 1)
  rw [ordS_sum] at h2
  exact h.y.next (by omega) (by omega) (by rw [h.len]; exact chk_cut s k _ _ _ e1 e2)
theorem RyL.app {o : Nat} {u : Value} {hd : List Value} {i1 i2 : Nat} {W1 : World} {off1 : Nat} (h0 : RyL w W ga gs gp gz B s k off hd us row ls i1 i2) (h : RyI w W1 ga gs gp gz B s k off1 (us ++ [u]) row ls) (ho : o = 7 ∨ o = 8) (hu : ∃ q n c, u = .slice q n c) (hs : s.size = 293 + 66 * k) (h6 : k ≤ 6) (hb : i1 + i2 < k + k) (h7 : o = 7 → i2 = 0) :
    ∃ g c W', (Builtin.append_ #[23, 23] 23 #[row o, .slice (some ⟨W1.heap.size, 0, none⟩) 1 1]).run Try.prog (W1.alloc (.cells #[u] 22)) = .ok (.slice (some ⟨g, 0, none⟩) ((ls o).length + 1) c) W' ∧ W'.cell? ⟨gp, o, none⟩ = some (row o) ∧ W'.frozen? ⟨gp, o, none⟩ = false ∧ ∃ row' ls', RyL w (W'.setCell ⟨gp, o, none⟩ (.slice (some ⟨g, 0, none⟩) ((ls o).length + 1) c)) ga gs gp gz B s k off1 hd (us ++ [u]) row' ls' (if o = 7 then i1 + 1 else i1) (if o = 7 then i2 else i2 + 1) := by
  have hl := h0.len
  have n7 := h0.n7
  have n8 := h0.n8
  obtain ⟨g, c, W', r1, r2, r3, r4⟩ := h.app ho hu (by rcases ho with rfl | rfl <;> omega) (fun j v hj => chk_pos s k hs j (by
    have := (List.getElem?_eq_some_iff.1 hj).1
    rw [List.length_append, hl] at this
    simp only [List.length_cons, List.length_nil] at this
    omega)) (h0.yl o ho)
  refine ⟨g, c, W', r1, r2, r3, _, _, r4, ?_, ?_, ?_, ?_, ?_⟩
  · rcases ho with rfl | rfl
    · have h8 : ls 8 = [] := List.length_eq_zero_iff.1 (by rw [n8]; exact h7 rfl)
      show us ++ [u] = hd ++ (ls 7 ++ [u]) ++ ls 8
      rw [h0.us, h8, List.append_nil, List.append_nil, List.append_assoc]
    · show us ++ [u] = hd ++ ls 7 ++ (ls 8 ++ [u])
      simp only [h0.us, List.append_assoc]
  · rcases ho with rfl | rfl <;> exact h0.hd
  · rcases ho with rfl | rfl
    · show (ls 7 ++ [u]).length = i1 + 1
      rw [List.length_append, n7]; rfl
    · exact n7
  · rcases ho with rfl | rfl
    · exact n8
    · show (ls 8 ++ [u]).length = i2 + 1
      rw [List.length_append, n8]; rfl
  · intro o' ho' hne
    by_cases e : o' = o
    · subst e
      rw [if_pos rfl, List.length_append]
      simp
    · rw [if_neg e] at hne ⊢
      exact h0.yl o' ho' hne
theorem chk_last (s : ByteArray) (k n : Nat) (h : n = 7 + (k + k) + 1) : chk s.data k n = (s.extract (229 + 33 * (k + k) + 32) (229 + 33 * (k + k) + 32 + 32)).data := by
  subst h
  obtain ⟨h1, h2⟩ := offs8 k
  exact chk_cut s k _ _ _ (by rw [Nat.add_assoc, h1]; omega) (by rw [Nat.add_assoc, Nat.add_assoc, h2]; omega)
end Go.Proofs.Ytboigmhioojenaa
namespace Go.Proofs.Ytboigmhioojenaa
open Go.RowKit Go.Sort Go.Deep
theorem uPtrP : (Try.prog.underlying 47).map (·.isRow) = some false := by kernel_rfl
theorem uIntP : (Try.prog.underlying 3).map (·.isRow) = some false := by kernel_rfl
theorem i22 : (Try.prog.info? 22).map (·.size) = some 1 := by kernel_rfl
theorem one11 {cs : List Value} (h : ∀ v ∈ cs, v.oneCell' = true) : cs.toArray.all (·.oneCell') = true := Go.all_oneCell_toArray h
theorem zR_one : ∀ v ∈ zR, v.oneCell' = true := fun v hv => by
  rw [(List.mem_replicate.1 hv).2]; rfl
set_option maxHeartbeats 4000000 in
set_option maxRecDepth 100000 in
theorem sRead_c (s : SP.Bs) (gi c : Nat) (hs : s.size ≤ 100000) (hc : s.size < c) (w : World) (hgi : gi < w.heap.size) (hH : Holds SP.encB w gi 0 s) :
    Calls Try.prog 8 #[.slice (some ⟨gi, 0, none⟩) s.size c] w (RdR w s s[0]!.toNat) := by
  obtain ⟨w1, hw1⟩ : ∃ w1, Hid (w.alloc (.cells zR.toArray 27) = w1) := ⟨_, rfl⟩
  have b1 : Below w.heap.size w w1 := by rw [← hw1.out]; exact alloc_below _ _
  have z1 : w1.heap.size = w.heap.size + 1 := by rw [← hw1.out, World.size_alloc]
  have hr1 : w1.heap[w.heap.size]? = some (.cells zR.toArray 27 (0, 0)) := by rw [← hw1.out]; exact Array.getElem?_push_size
  have HB1 := Hid.mkP b1
  have HZ1 := Hid.mkP z1
  have HR1 := Hid.mkP hr1
  have P1 := Hid.mkP (put11 (cs := zR) hr1 rfl b1)
  have HH := Hid.mkP hH
  obtain ⟨n, hn⟩ : ∃ n : Nat, Hid (n = s.size) := ⟨_, rfl⟩
  obtain ⟨k, hk⟩ : ∃ k : Nat, Hid (k = s[0]!.toNat) := ⟨_, rfl⟩
  rw [← hk.out]
  rw [← hn.out] at hs hc ⊢
  by_cases h0 : 0 < n
  · have h1 := (SP.Holds.below hH b1 hgi 0 (by rw [← hn.out]; exact h0)).1
    unfold SP.encB SP.ub at h1
    rw [← hk.out, Nat.zero_add] at h1
    obtain ⟨m, hm⟩ : ∃ m, n = m + 1 := ⟨n - 1, by omega⟩
    have hnz : ¬ ((m : Int) + 1 = 0) := by omega
    have hnz2 : (0 : Int) < (m : Int) + 1 := by omega
    have hnz3 : ((m : Int) + 1 == 0) = false := by simpa using hnz
    rw [hm] at hc hs ⊢
    have Hm : Hid (s.size = m + 1) := by rw [← hn.out, hm]; rfl
    by_cases h6 : k ≤ 6
    · have h6' : ¬ (6 : Int) < (k : Int) := by omega
      have hmk := run_make_row' (P := Try.prog) 23 22 (.slice none 0 0) 24 undBB infoBBm rfl .i64 .i64 k (by omega) (by omega)
      have hgood : Hid (RGood s ↔ m + 1 = 293 + 66 * k) := by
        show _ ↔ _
        unfold RGood
        rw [← hk.out, Hm.out]
        exact ⟨fun h => h.2.2, fun h => ⟨by omega, h6, h⟩⟩
      clear hm hnz h0 hH b1 hr1 z1
      go_enter Try.func8, Try.ntmps8
      go_wp2_with (first | (refine wpList_opP (v := .pointer (some ⟨w.heap.size, 0, none⟩)) (w' := w1) rfl (.alloc 27) rfl ?_ ?_; (rw [← hw1.out]; kernel_rfl)) | fail)
      go_cut [5] (fun s5 wx => ∃ gp gL gR, s5 = .pointer (some ⟨gp, 0, none⟩) ∧ Hid (R4 w1 wx gp gL gR k))
      case first =>
        go_region
        all_goals (try go_wp2)
        all_goals (go_meet; first | (refine ⟨_, w1.heap.size, w1.heap.size + 1, rfl, (⟨(three _ _ _ _ _ _ _).1, ?_, ?_, ?_, ?_, ?_, ?_, ?_, ?_, ?_⟩ : R4 _ _ _ _ _ _)⟩ <;> first | (rw [(three _ _ _ _ _ _ _).2.1]; omega) | exact (three _ _ _ _ _ _ _).2.2.1 | exact (three _ _ _ _ _ _ _).2.2.2.1 | exact (three _ _ _ _ _ _ _).2.2.2.2 | omega) | (refine ⟨_, w1.heap.size, w1.heap.size + 1 + 1, rfl, (⟨(three _ _ _ _ _ _ _).1, ?_, ?_, ?_, ?_, ?_, ?_, ?_, ?_, ?_⟩ : R4 _ _ _ _ _ _)⟩ <;> first | (rw [(three _ _ _ _ _ _ _).2.1]; omega) | exact (three _ _ _ _ _ _ _).2.2.1 | exact (three _ _ _ _ _ _ _).2.2.2.1 | exact (three _ _ _ _ _ _ _).2.2.2.2 | omega) | (refine ⟨_, w1.heap.size + 1, w1.heap.size, rfl, (⟨(three _ _ _ _ _ _ _).1, ?_, ?_, ?_, ?_, ?_, ?_, ?_, ?_, ?_⟩ : R4 _ _ _ _ _ _)⟩ <;> first | (rw [(three _ _ _ _ _ _ _).2.1]; omega) | exact (three _ _ _ _ _ _ _).2.2.1 | exact (three _ _ _ _ _ _ _).2.2.2.1 | exact (three _ _ _ _ _ _ _).2.2.2.2 | omega) | (refine ⟨_, w1.heap.size + 1, w1.heap.size + 1 + 1, rfl, (⟨(three _ _ _ _ _ _ _).1, ?_, ?_, ?_, ?_, ?_, ?_, ?_, ?_, ?_⟩ : R4 _ _ _ _ _ _)⟩ <;> first | (rw [(three _ _ _ _ _ _ _).2.1]; omega) | exact (three _ _ _ _ _ _ _).2.2.1 | exact (three _ _ _ _ _ _ _).2.2.2.1 | exact (three _ _ _ _ _ _ _).2.2.2.2 | omega) | (refine ⟨_, w1.heap.size + 1 + 1, w1.heap.size, rfl, (⟨(three _ _ _ _ _ _ _).1, ?_, ?_, ?_, ?_, ?_, ?_, ?_, ?_, ?_⟩ : R4 _ _ _ _ _ _)⟩ <;> first | (rw [(three _ _ _ _ _ _ _).2.1]; omega) | exact (three _ _ _ _ _ _ _).2.2.1 | exact (three _ _ _ _ _ _ _).2.2.2.1 | exact (three _ _ _ _ _ _ _).2.2.2.2 | omega) | (refine ⟨_, w1.heap.size + 1 + 1, w1.heap.size + 1, rfl, (⟨(three _ _ _ _ _ _ _).1, ?_, ?_, ?_, ?_, ?_, ?_, ?_, ?_, ?_⟩ : R4 _ _ _ _ _ _)⟩ <;> first | (rw [(three _ _ _ _ _ _ _).2.1]; omega) | exact (three _ _ _ _ _ _ _).2.2.1 | exact (three _ _ _ _ _ _ _).2.2.2.1 | exact (three _ _ _ _ _ _ _).2.2.2.2 | omega))
      case rest =>
        obtain ⟨gp, gL, gR, rfl, H4⟩ := hcut
        have c7 : wc.cell? ⟨gp, 7, none⟩ = some (.slice (some ⟨gL, 0, none⟩) k k) := by unfold World.cell?; rw [H4.out.hp]; rfl
        have c8 : wc.cell? ⟨gp, 8, none⟩ = some (.slice (some ⟨gR, 0, none⟩) k k) := by unfold World.cell?; rw [H4.out.hp]; rfl
        have hPc := Hid.mkP (partsOf_c gp ⟨some ⟨gL, 0, none⟩, k, k⟩ ⟨some ⟨gR, 0, none⟩, k, k⟩ gL 0 gR 0 wc H4.out.p1.2 c7 c8 (Or.inr rfl) (Or.inr rfl) (by show k ≤ _; omega) (by show k ≤ _; omega))
        have hsl := slB_loP gi 0 (m + 1) c 1 (by omega) hc
        rw [show m + 1 - 1 = m by omega, Nat.zero_add] at hsl
        clear c7 c8 h1
        go_wp2_with fail
        refine hPc.out.mono ?_
        rintro e w3 ⟨v3, rfl, g3⟩
        obtain ⟨gq, cap3, rfl, hq1, hq2⟩ := g3.lt
        have hst := r4_start (CH := chk s k) H4.out HB1.out (by have := HZ1.out; omega) g3
        have HPS := Hid.mkP hst.1
        have I0 := Hid.mkP hst.2
        have hM : (ordP gp gL 0 k gR 0 k).length = k + k + 9 := by
          rw [← ordS_len k k, ← ordP_S gp gL 0 k gR 0 k, List.length_map]
        have hM' : (basP gp ++ lp gL 0 k ++ lp gR 0 k ++ endP gp).length = k + k + 9 := hM
        have HAT : Hid (∀ W v, RdI w w3 W w.heap.size gq gp (.slice (some ⟨gL, 0, none⟩) k k) (.slice (some ⟨gR, 0, none⟩) k k) (ordP gp gL 0 k gR 0 k) v (chk s k) → ∀ i, i < k + k + 9 → ∃ bb oo ki, (ordS k k)[i]? = some ki ∧ (ordP gp gL 0 k gR 0 k)[i]? = some (⟨bb, oo, none⟩, ki) ∧ ki ≤ 33 ∧ 32 ≤ ki ∧ W.rangeAt gq (i * 2) [.pointer (some ⟨bb, oo, none⟩), .int .i64 (ki : Int)]) := fun W v hI i hi => by
          obtain ⟨x, hx⟩ : ∃ x, (ordP gp gL 0 k gR 0 k)[i]? = some x := ⟨_, List.getElem?_eq_getElem (by omega)⟩
          obtain ⟨bb, oo, hx1, -⟩ := HPS.out.ad i x hx
          have hki : (ordS k k)[i]? = some x.2 := by rw [← ordP_S gp gL 0 k gR 0 k, List.getElem?_map, hx]; rfl
          have hmem := List.mem_of_getElem? hki
          have hra := g3.at i x hx
          refine ⟨bb, oo, x.2, hki, by rw [hx, ← hx1], ordS_le k k _ hmem, ?_, fun j u hj => ?_⟩
          · unfold ordS at hmem
            simp only [List.mem_append, List.mem_cons, List.not_mem_nil, or_false, List.mem_replicate] at hmem
            omega
          · have e := hI.eq
            have : W.cell? ⟨gq, i * 2 + j, none⟩ = w3.cell? ⟨gq, i * 2 + j, none⟩ := by unfold World.cell?; rw [e]
            rw [this, Nat.mul_comm]
            exact hra j u (by unfold pC; rw [hx1]; exact hj)
        have hr3 : Hid (w3.heap[w.heap.size]? = some (.cells zR.toArray 27 (0, 0))) := by
          have := HZ1.out
          have h5 := H4.out.bl.size
          show _ = _
          rw [g3.bl.block w.heap.size (by omega), H4.out.bl.block w.heap.size (by omega)]
          exact HR1.out
        obtain ⟨M, hMM⟩ : ∃ M, Hid (k + k + 9 = M) := ⟨_, rfl⟩
        rw [hMM.out] at HAT hM'
        rw [hM']
        have hMb : M ≤ 21 := by have := hMM.out; omega
        obtain ⟨dP, huP, hrP⟩ := Option.map_eq_some_iff.1 uPt
        obtain ⟨C1, hC1⟩ : ∃ C1, c - 1 = C1 := ⟨_, rfl⟩
        rw [hC1] at hsl ⊢
        have hCc : 1 + C1 = c := by omega
        clear g3 hM hM' hst hPc hq1 hq2 hsl hmk hC1
        go_wp2
        go_loopg [0, 32] M (fun gk s0 s32 wr => ∃ (i off L C : Nat), i + gk = M ∧ s32 = .int .i64 (i : Int) ∧ s0 = .slice (some ⟨gi, off, none⟩) L C ∧ off + L = m + 1 ∧ off + C = c ∧ Hid (off = offs k i ∧ ∃ vs, vs.length = i ∧ RdI w w3 wr w.heap.size gq gp (.slice (some ⟨gL, 0, none⟩) k k) (.slice (some ⟨gR, 0, none⟩) k k) (ordP gp gL 0 k gR 0 k) vs (chk s k)))
        case atStart => exact ⟨0, 1, m, C1, by omega, rfl, rfl, by omega, hCc, rfl, [], rfl, I0.out⟩
        case round =>
          clear I0
          obtain ⟨i, off, L, C, hi, rfl, rfl, hoL, hoC, K⟩ := hrel
          by_cases him : i < M
          · have him' : (i : Int) < (M : Int) := by omega
            have hix := idxPT gq M cap3 i him
            obtain ⟨hoff, vs, hvl, hI⟩ := K.out
            obtain ⟨bb, oo, ki, k1, k2, k3, k3', k4⟩ := HAT.out _ _ hI i him
            have K4 := Hid.mkP k4
            obtain ⟨wa, hwa⟩ : ∃ wa, Hid (wr.alloc (.cells #[.pointer (some ⟨bb, oo, none⟩), .int .i64 (ki : Int)] 49) = wa) := ⟨_, rfl⟩
            have ba : Below wr.heap.size wr wa := by rw [← hwa.out]; exact alloc_below _ _
            have za : wa.heap.size = wr.heap.size + 1 := by rw [← hwa.out, World.size_alloc]
            have a0 : wa.cell? ⟨wr.heap.size, 0, none⟩ = some (.pointer (some ⟨bb, oo, none⟩)) := by rw [← hwa.out]; exact alloc_cell wr _ _ 0 _ rfl
            have a1 : wa.cell? ⟨wr.heap.size, 1, none⟩ = some (.int .i64 (ki : Int)) := by rw [← hwa.out]; exact alloc_cell wr _ _ 1 _ rfl
            have KI : Hid (RdI w w3 wa w.heap.size gq gp (.slice (some ⟨gL, 0, none⟩) k k) (.slice (some ⟨gR, 0, none⟩) k k) (ordP gp gL 0 k gR 0 k) vs (chk s k)) := hI.below HPS.out ba
            have KO : Hid (off = offs k i ∧ (ordS k k)[i]? = some ki ∧ (ordP gp gL 0 k gR 0 k)[vs.length]? = some (⟨bb, oo, none⟩, ki) ∧ vs.length = i ∧ bb < wr.heap.size ∧ wa.heap.size = wr.heap.size + 1) := by
              refine ⟨hoff, k1, by rw [hvl]; exact k2, hvl, ?_, za⟩
              obtain ⟨b', o', e', p1, -⟩ := HPS.out.ad i _ k2
              injection e' with e' _ _
              have := hI.sz
              omega
            clear K k4 k2 k1 hI ba za hoff hvl
            by_cases hlk : L < ki
            · have hlk' : (L : Int) < (ki : Int) := by omega
              have P3 := Hid.mkP (put11 (cs := zR) (by rw [KI.out.er]; exact hr3.out) rfl KI.out.bl)
              have hbad : ¬ RGood s := fun h => by
                have h1 := hgood.out.1 h
                have h2 := offs_le k (i + 1)
                rw [ordS_sum, offs_succ k i ki KO.out.2.1] at h2
                have := KO.out.1
                omega
              go_wp2_with (first | (refine wpList_load_mid rfl 49 _ rfl gq (i * 2) ?_ [.pointer (some ⟨bb, oo, none⟩), .int .i64 (ki : Int)] dP ?_ ?_ ?_ ?_ ?_; rfl; exact K4.out; exact huP; exact hrP; exact iPt; skip) | (refine wpList_store_mid rfl 27 _ _ rfl w.heap.size 0 zR.toArray ?_ ?_ ?_ ?_ ?_ ?_; rfl; rfl; (rw [hwa.out]; exact P3.out.1); exact iRg; exact one11 zR_one; rw [show zR.toArray.toList = zR from rfl, hwa.out]) | fail)
              refine bodyPost_ret (results_cP 2 3 27 rfl P3.out.2.1 rfl rfl uRg iRg) rfl ?_
              exact Or.inl ⟨hbad, P3.out.2.2, rfl⟩
            · have hlk' : ¬ (L : Int) < (ki : Int) := by omega
              go_wp2_with (first | (refine wpList_load_mid rfl 49 _ rfl gq (i * 2) ?_ [.pointer (some ⟨bb, oo, none⟩), .int .i64 (ki : Int)] dP ?_ ?_ ?_ ?_ ?_; rfl; exact K4.out; exact huP; exact hrP; exact iPt; skip) | fail)
              rw [hwa.out]
              have hki : (chk s k i).size = ki := by
                unfold chk
                rw [offs_succ k i ki KO.out.2.1, Array.size_extract, Hm.out]
                have := KO.out.1
                omega
              have HX : Hid (∀ W, Below wa.heap.size wa W → Holds SP.encB W gi off (chk s k i)) := fun W hb j hj => by
                have hbl : Below w.heap.size w W := KI.out.bl.trans (hb.mono KI.out.bl.size)
                have hjs : off + j < s.size := by rw [Hm.out]; omega
                have h1 := (SP.Holds.below HH.out hbl hgi) (off + j) hjs
                rw [Nat.zero_add] at h1
                have e : (chk s k i)[j]! = s[off + j]! := by
                  rw [KO.out.1]
                  exact chk_at s k i j hj (by rw [← KO.out.1]; exact hjs)
                rw [e]
                exact h1
              have hhi := slB_hiP gi off L C ki (by omega)
              have hlo := slB_loP gi off L C ki (by omega) (by omega)
              have HKI := Hid.mkP hki
              clear hki
              refine RG.flow_draws (FR wa wr.heap.size bb oo ki gi off L C (chk s k i)) (by kernel_rfl) ⟨by kernel_rfl, RG.certs_of ?_, fun i j _ _ hij _ _ v w w' hE hR => FR.stab (by have := KO.out.2.2.2.2; omega) i j hij v w w' hE hR, fun i b _ hk w w' hE hB => FR.stabB (by have := KO.out.2.2.2.2; omega) i b hk w w' hE hB⟩ (fun b => by
                match b with
                | 0 => exact (⟨rfl, rfl, rfl, Nat.le_refl _, fun _ _ => rfl⟩ : Below wa.heap.size wa wa.drew)
                | _ + 1 => exact ⟨a0, a1, by have := KO.out.2.2.2.2; omega, Nat.le_refl _⟩) ?_
              · exact ⟨RG.cf_manyP fun a W hp => ⟨[(7, .pointer (some ⟨wr.heap.size, 0, none⟩))], _, W, ⟨hp.o 7 (by kernel_rfl), trivial⟩, by kernel_rfl, Below.refl _ _, rfl⟩,
                  RG.cf_ld1 47 42 rfl uPtrP fun a W hp => ⟨wr.heap.size, 0, .pointer (some ⟨bb, oo, none⟩), hp.n 0 42 (by kernel_rfl) (by kernel_rfl) (by kernel_rfl), (hp.b 1 (by kernel_rfl)).1, Below.refl _ _, rfl⟩,
                  RG.cf_manyP fun a W hp => ⟨[(0, .slice (some ⟨gi, off, none⟩) L C)], _, W, ⟨hp.o 0 (by kernel_rfl), trivial⟩, by kernel_rfl, Below.refl _ _, rfl⟩,
                  RG.cf_manyP fun a W hp => ⟨[(7, .pointer (some ⟨wr.heap.size, 0, none⟩))], _, W, ⟨hp.o 7 (by kernel_rfl), trivial⟩, by kernel_rfl, Below.refl _ _, rfl⟩,
                  RG.cf_ld1 3 45 rfl uIntP fun a W hp => ⟨wr.heap.size, 1, .int .i64 (ki : Int), hp.n 3 45 (by kernel_rfl) (by kernel_rfl) (by kernel_rfl), (hp.b 1 (by kernel_rfl)).2.1, Below.refl _ _, rfl⟩,
                  cf_shiP 22 44 46 rfl fun a W hp => ⟨_, _, _, hp.n 2 44 (by kernel_rfl) (by kernel_rfl) (by kernel_rfl), hp.n 4 46 (by kernel_rfl) (by kernel_rfl) (by kernel_rfl), hhi W, Below.refl _ _, rfl⟩,
                  cf_callsP fun a W hp => ⟨[(47, .slice (some ⟨gi, off, none⟩) ki C)], 16, #[.slice (some ⟨gi, off, none⟩) ki C], ⟨hp.n 5 47 (by kernel_rfl) (by kernel_rfl) (by kernel_rfl), trivial⟩, by kernel_rfl, by
                    have hb : Below wa.heap.size wa W := hp.b 0 (by kernel_rfl)
                    have hc := cloneP_c gi off C (chk s k i) (by rw [HKI.out]; omega) W (by have h1 := KI.out.bl.size; have h2 := hb.size; omega) (HX.out W hb)
                    rw [HKI.out] at hc
                    refine hc.mono ?_
                    rintro e' W' ⟨v, rfl, h1, h2⟩
                    refine ⟨v, rfl, h1, ?_⟩
                    have h3 := hb.size
                    refine (⟨?_, h2.nn⟩ : FrC wa.heap.size (chk s k i) v W')
                    rcases h2.own with ⟨x0, x1 | ⟨g, cap, cur, x1, x2, x3⟩⟩
                    · exact ⟨x0, Or.inl x1⟩
                    · exact ⟨x0, Or.inr ⟨g, cap, cur, x1, by omega, x3⟩⟩⟩,
                  RG.cf_manyP fun a W hp => ⟨[(0, .slice (some ⟨gi, off, none⟩) L C)], _, W, ⟨hp.o 0 (by kernel_rfl), trivial⟩, by kernel_rfl, Below.refl _ _, rfl⟩,
                  RG.cf_manyP fun a W hp => ⟨[(7, .pointer (some ⟨wr.heap.size, 0, none⟩))], _, W, ⟨hp.o 7 (by kernel_rfl), trivial⟩, by kernel_rfl, Below.refl _ _, rfl⟩,
                  RG.cf_ld1 3 50 rfl uIntP fun a W hp => ⟨wr.heap.size, 1, .int .i64 (ki : Int), hp.n 8 50 (by kernel_rfl) (by kernel_rfl) (by kernel_rfl), (hp.b 1 (by kernel_rfl)).2.1, Below.refl _ _, rfl⟩,
                  cf_sloP 22 49 51 rfl fun a W hp => ⟨_, _, _, hp.n 7 49 (by kernel_rfl) (by kernel_rfl) (by kernel_rfl), hp.n 9 51 (by kernel_rfl) (by kernel_rfl) (by kernel_rfl), hlo W, Below.refl _ _, rfl⟩,
                  RG.cf_manyP fun a W hp => ⟨[(43, .pointer (some ⟨bb, oo, none⟩))], _, W, ⟨hp.n 1 43 (by kernel_rfl) (by kernel_rfl) (by kernel_rfl), trivial⟩, by kernel_rfl, Below.refl _ _, rfl⟩,
                  cf_storeP 22 53 48 rfl rfl i22 fun a W hp => by
                    have hb : Below wa.heap.size wa W := hp.b 0 (by kernel_rfl)
                    have hF : FrC wa.heap.size (chk s k i) (a.eval (.tmp 48)) W := hp.n 6 48 (by kernel_rfl) (by kernel_rfl) (by kernel_rfl)
                    obtain ⟨⟨old, ho1⟩, ho2⟩ := KI.out.th _ _ KO.out.2.2.1
                    have hbb : bb < wa.heap.size := by have := KO.out.2.2.2.2; omega
                    obtain ⟨q, c', hv⟩ := (RV.of hF.own).slice
                    refine ⟨bb, oo, _, old, hp.n 11 53 (by kernel_rfl) (by kernel_rfl) (by kernel_rfl), rfl, ?_, ?_, by rw [hv]; rfl, by rw [hv]; rfl, ⟨_, rfl⟩, ?_⟩
                    · rw [hb.cell (p := ⟨bb, oo, none⟩) hbb]; exact ho1
                    · have : W.frozen? ⟨bb, oo, none⟩ = wa.frozen? ⟨bb, oo, none⟩ := by unfold World.frozen?; rw [hb.block bb hbb]
                      rw [this]; exact ho2
                    · refine (⟨_, below_set hb _ _, ⟨own_keep hF.own (fun g hg => ?_), hF.nn⟩⟩ : StR wa bb oo (chk s k i) _)
                      have := (own_lt hF.own hg).1
                      rw [heap_set, if_neg (by show bb ≠ g; omega)],
                  RG.cf_one 52 fun a W hp => ⟨a.eval (.tmp 52), W, by kernel_rfl, by kernel_rfl, Below.refl _ _, hp.n 10 52 (by kernel_rfl) (by kernel_rfl) (by kernel_rfl)⟩, trivial⟩
              · intro V w5 hV hB
                have hS : StR wa bb oo (chk s k i) w5 := hV 12 (Nat.lt_of_succ_le (Nat.le_of_ble_eq_true (by kernel_rfl))) rfl
                have h13 : V 13 = .slice (some ⟨gi, off + ki, none⟩) (L - ki) (C - ki) := hV 13 (Nat.lt_of_succ_le (Nat.le_of_ble_eq_true (by kernel_rfl))) rfl
                obtain ⟨v, hI5⟩ := KI.out.step HPS.out KO.out.2.2.1 (by rw [KO.out.2.2.2.1]; exact hS)
                have K5 : Hid (off + ki = offs k (i + 1) ∧ ∃ vs, vs.length = i + 1 ∧ RdI w w3 w5 w.heap.size gq gp (.slice (some ⟨gL, 0, none⟩) k k) (.slice (some ⟨gR, 0, none⟩) k k) (ordP gp gL 0 k gR 0 k) vs (chk s k)) := by
                  refine ⟨by rw [offs_succ k i ki KO.out.2.1, KO.out.1], _, ?_, hI5⟩
                  rw [List.length_append, KO.out.2.2.2.1]
                  rfl
                dsimp only [RG.putV, Nat.reduceAdd]
                simp only [Act.put, List.setIfInBounds_toArray, List.set_cons_succ, List.set_cons_zero]
                rw [h13]
                clear hV hB hS h13 hI5 KI KO HX
                go_wp2
                go_roundg (gk - 1)
                case measure => omega
                case rel => exact ⟨i + 1, off + ki, L - ki, C - ki, by omega, rfl, rfl, by omega, by omega, K5⟩
          · have him' : ¬ (i : Int) < (M : Int) := by omega
            obtain ⟨hoff, vs, hvl, hI⟩ := K.out
            have hend : off = 293 + 66 * k := by
              rw [hoff, show i = k + k + 9 by have := hMM.out; omega]
              exact offs_all k
            have KI := Hid.mkP hI
            by_cases hL0 : 0 < L
            · have hL0' : (0 : Int) < (L : Int) := by omega
              have P3 := Hid.mkP (put11 (cs := zR) (by rw [hI.er]; exact hr3.out) rfl hI.bl)
              have hbad : ¬ RGood s := fun h => by
                have h1 := hgood.out.1 h
                omega
              clear K hI hoff hvl
              go_wp2_with (first | (refine wpList_store_mid rfl 27 _ _ rfl w.heap.size 0 zR.toArray ?_ ?_ ?_ ?_ ?_ ?_; rfl; rfl; exact P3.out.1; exact iRg; exact one11 zR_one; rw [show zR.toArray.toList = zR from rfl]) | fail)
              refine bodyPost_ret (results_cP 2 3 27 rfl P3.out.2.1 rfl rfl uRg iRg) rfl ?_
              exact Or.inl ⟨hbad, P3.out.2.2, rfl⟩
            · obtain rfl : L = 0 := by omega
              have hyes : RGood s := hgood.out.2 (by omega)
              obtain ⟨cs, hcl, hcr, hc1⟩ := rd_cells hI (by rw [hvl]; have := hMM.out; omega)
              have P3 := Hid.mkP (put11 (cs := cs) (by rw [hI.er]; exact hr3.out) hcl hI.bl)
              have HC := Hid.mkP hcr
              have HC1 := Hid.mkP hc1
              have HCl := Hid.mkP hcl
              have KR : Hid (RdR w s k (.returned (.tuple #[.agg cs.toArray, .int .i64 0])) (wr.setCells w.heap.size 0 cs)) := Or.inr ⟨hyes, P3.out.2.2, w3, wr, gq, gp, gL, gR, vs, cs, by rw [hvl]; have := hMM.out; omega, HPS.out, hI, hcl, hcr, rfl, rfl⟩
              obtain ⟨dR, huR, hrR⟩ := Option.map_eq_some_iff.1 uRg
              clear K hI hoff hvl hcr hc1 KI
              go_wp2_with (first | (refine wpList_load_mid rfl 27 _ rfl gp 0 ?_ cs dR ?_ ?_ ?_ ?_ ?_; rfl; exact HC.out; exact huR; exact hrR; (rw [HCl.out]; exact iRg); skip) | (refine wpList_store_mid rfl 27 _ _ rfl w.heap.size 0 cs.toArray ?_ ?_ ?_ ?_ ?_ ?_; rfl; rfl; exact P3.out.1; (rw [List.size_toArray, HCl.out]; exact iRg); exact one11 HC1.out; rw [show cs.toArray.toList = cs from rfl]) | fail)
              refine bodyPost_ret (results_cP 2 3 27 rfl P3.out.2.1 rfl rfl uRg (by rw [HCl.out]; exact iRg)) rfl ?_
              exact KR.out
    · have h6' : (6 : Int) < (k : Int) := by omega
      have hbad : ¬ RGood s := fun h => h6 (by rw [hk.out]; exact h.2.1)
      clear hm hnz h0 hH b1 hr1 z1
      go_enter Try.func8, Try.ntmps8
      go_wp2_with (first | (refine wpList_opP (v := .pointer (some ⟨w.heap.size, 0, none⟩)) (w' := w1) rfl (.alloc 27) rfl ?_ ?_; (rw [← hw1.out]; kernel_rfl)) | (refine wpList_store_mid rfl 27 _ _ rfl w.heap.size 0 zR.toArray ?_ ?_ ?_ ?_ ?_ ?_; rfl; rfl; exact P1.out.1; exact iRg; exact one11 zR_one; rw [show zR.toArray.toList = zR from rfl]) | fail)
      refine bodyPost_ret (results_cP 2 3 27 rfl P1.out.2.1 rfl rfl uRg iRg) rfl ?_
      exact Or.inl ⟨hbad, P1.out.2.2, rfl⟩
  · have hn0 : n = 0 := by omega
    have hbad : ¬ RGood s := fun h => h0 (by rw [hn.out]; exact h.1)
    subst hn0
    clear h0 hH b1 hr1 z1
    go_enter Try.func8, Try.ntmps8
    go_wp2_with (first | (refine wpList_opP (v := .pointer (some ⟨w.heap.size, 0, none⟩)) (w' := w1) rfl (.alloc 27) rfl ?_ ?_; (rw [← hw1.out]; kernel_rfl)) | (refine wpList_store_mid rfl 27 _ _ rfl w.heap.size 0 zR.toArray ?_ ?_ ?_ ?_ ?_ ?_; rfl; rfl; exact P1.out.1; exact iRg; exact one11 zR_one; rw [show zR.toArray.toList = zR from rfl]) | fail)
    refine bodyPost_ret (results_cP 2 3 27 rfl P1.out.2.1 rfl rfl uRg iRg) rfl ?_
    exact Or.inl ⟨hbad, P1.out.2.2, rfl⟩
end Go.Proofs.Ytboigmhioojenaa
namespace Go.Proofs.Ytboigmhioojenaa
open Go.RowKit Go.Sort Go.Deep
/-- What the program's Read answers of a proof's bytes. -/
def RdG (w : World) (s : SP.Bs) (k : Nat) (e : Ending) (W : World) : Prop := Below w.heap.size w W ∧ ∃ (p : Rg) (l1 l2 : List Value) (B : Nat), e = .returned (.tuple #[.agg p.cs.toArray, .int .i64 0]) ∧ VL W p.l.q p.l.n l1 ∧ VL W p.r.q p.r.n l2 ∧ p.l.n = k ∧ p.r.n = k ∧ (∀ b o, p.l.q = some ⟨b, o, none⟩ → 0 < k → w.heap.size ≤ b) ∧ (∀ b o, p.r.q = some ⟨b, o, none⟩ → 0 < k → w.heap.size ≤ b) ∧ w.heap.size ≤ B ∧ B ≤ W.heap.size ∧ (∀ j, j < k + k + 9 → ∃ u, (ordV p l1 l2)[j]? = some u ∧ FrC B (chk s k j) u W) ∧ (∀ (j j' : Nat) u u' g, j < j' → (ordV p l1 l2)[j]? = some u → (ordV p l1 l2)[j']? = some u' → u.ownBlock = some g → u'.ownBlock ≠ some g)
theorem split_vs {k : Nat} (vs : List Value) (h : vs.length = k + k + 9) : ∃ hd l1 l2 tl, vs = hd ++ l1 ++ l2 ++ tl ∧ hd.length = 7 ∧ l1.length = k ∧ l2.length = k ∧ tl.length = 2 := by
  refine ⟨vs.take 7, (vs.drop 7).take k, ((vs.drop 7).drop k).take k, ((vs.drop 7).drop k).drop k, ?_, ?_, ?_, ?_, ?_⟩
  · rw [List.append_assoc, List.take_append_drop, List.append_assoc, List.take_append_drop, List.take_append_drop]
  all_goals (simp only [List.length_take, List.length_drop]; omega)
theorem len2 : ∀ (l : List Value), l.length = 2 → ∃ z0 z1, l = [z0, z1]
  | [z0, z1], _ => ⟨z0, z1, rfl⟩
theorem len7 : ∀ (l : List Value), l.length = 7 → ∃ z0 z1 z2 z3 z4 z5 z6, l = [z0, z1, z2, z3, z4, z5, z6]
  | [z0, z1, z2, z3, z4, z5, z6], _ => ⟨z0, z1, z2, z3, z4, z5, z6, rfl⟩
theorem len11 : ∀ (l : List Value), l.length = 11 → ∃ z0 z1 z2 z3 z4 z5 z6 z7 z8 z9 z10, l = [z0, z1, z2, z3, z4, z5, z6, z7, z8, z9, z10]
  | [z0, z1, z2, z3, z4, z5, z6, z7, z8, z9, z10], _ => ⟨z0, z1, z2, z3, z4, z5, z6, z7, z8, z9, z10, rfl⟩
set_option maxHeartbeats 1000000 in
theorem rdr_good {w W : World} {s : SP.Bs} {k : Nat} {e : Ending} (h : RdR w s k e W) (hg : RGood s) : RdG w s k e W := by
  rcases h with ⟨h, -⟩ | ⟨-, hb, w3, W0, gq, gp, gL, gR, vs, cs, hl, hP, hI, hc, hr, rfl, rfl⟩
  · exact absurd hg h
  have hz := hP.r
  have hsz := hI.sz
  have kp : ∀ b, b < W0.heap.size → b ≠ w.heap.size → (W0.setCells w.heap.size 0 cs).heap[b]? = W0.heap[b]? := fun b h1 h2 => World.heap_setCells_other W0 _ 0 cs h1 h2
  have hM : (ordP gp gL 0 k gR 0 k).length = k + k + 9 := by rw [← ordS_len k k, ← ordP_S gp gL 0 k gR 0 k, List.length_map]
  have hat : ∀ (j : Nat) u, vs[j]? = some u → ∃ x, (ordP gp gL 0 k gR 0 k)[j]? = some x ∧ W0.cell? x.1 = some u := fun j u hu => by
    obtain ⟨x, hx⟩ : ∃ x, (ordP gp gL 0 k gR 0 k)[j]? = some x := ⟨_, List.getElem?_eq_getElem (by have := (List.getElem?_eq_some_iff.1 hu).1; omega)⟩
    exact ⟨x, hx, hI.st j x u hx hu⟩
  have sv : ∀ (j : Nat) u, vs[j]? = some u → ∃ t : Sv, u = t.v := fun j u hu => by
    obtain ⟨q, c, hv⟩ := (RV.of (hI.ow j u hu).own).slice
    exact ⟨⟨q, _, c⟩, hv⟩
  have hF : ∀ (j : Nat) u, vs[j]? = some u → FrC w3.heap.size (chk s k j) u (W0.setCells w.heap.size 0 cs) := fun j u hu => by
    have h1 := hI.ow j u hu
    exact ⟨own_keep h1.own (fun g hg => kp g (own_lt h1.own hg).2.1 (by have := (own_lt h1.own hg).1; omega)), h1.nn⟩
  have hne := hI.ne
  have hwS : W0.heap.size ≤ (W0.setCells w.heap.size 0 cs).heap.size := (below_setCells (B := 0) (b := w.heap.size) (Nat.zero_le _) cs 0 W0 (Below.refl 0 W0)).size
  have lst : ∀ (g i0 : Nat) (ys : List Value), ys.length = k → (∀ j, j < k → ∃ u x, ys[j]? = some u ∧ vs[i0 + j]? = some u ∧ (ordP gp gL 0 k gR 0 k)[i0 + j]? = some x ∧ x.1 = ⟨g, j, none⟩) → VL (W0.setCells w.heap.size 0 cs) (some ⟨g, 0, none⟩) k ys ∧ (0 < k → w.heap.size ≤ g) := fun g i0 ys hn hy => by
    refine ⟨⟨hn, fun e => (by cases e), ?_, fun u hu => ?_⟩, fun hk => ?_⟩
    · by_cases hk : k = 0
      · exact Or.inl (List.length_eq_zero_iff.1 (by omega))
      · obtain ⟨u0, x0, -, -, hx0, e0⟩ := hy 0 (by omega)
        obtain ⟨b, o, e1, h1, -, -, h2, -⟩ := hP.ad _ x0 hx0
        rw [e0] at e1
        injection e1 with e1 _ _
        subst e1
        refine Or.inr ⟨g, 0, rfl, by omega, fun j u hj => ?_⟩
        obtain ⟨u', x', y1, y2, y3, y4⟩ := hy j (by have := (List.getElem?_eq_some_iff.1 hj).1; omega)
        rw [hj] at y1
        obtain rfl := Option.some.inj y1
        rw [Nat.zero_add, (cell_blk (kp g (by omega) h2) j).1, ← y4]
        exact hI.st _ x' u y3 y2
    · obtain ⟨j, hj⟩ := List.getElem?_of_mem hu
      obtain ⟨u', x', y1, y2, -⟩ := hy j (by have := (List.getElem?_eq_some_iff.1 hj).1; omega)
      rw [hj] at y1
      obtain rfl := Option.some.inj y1
      obtain ⟨t, rfl⟩ := sv _ u y2
      rfl
    · obtain ⟨u0, x0, -, -, hx0, e0⟩ := hy 0 hk
      obtain ⟨b, o, e1, h1, h2, -⟩ := hP.ad _ x0 hx0
      rw [e0] at e1
      injection e1 with e1 _ _
      subst e1
      exact h2
  obtain ⟨hd, l1, l2, tl, rfl, n1, n2, n3, n4⟩ := split_vs vs hl
  have V1 := lst gL 7 l1 n2 (fun j hj => by
    obtain ⟨u, hu⟩ : ∃ u, l1[j]? = some u := ⟨_, List.getElem?_eq_getElem (by omega)⟩
    have hv : (hd ++ l1 ++ l2 ++ tl)[7 + j]? = some u := by
      rw [List.append_assoc, List.append_assoc, List.getElem?_append_right (by omega), n1, Nat.add_sub_cancel_left, List.getElem?_append_left (by omega)]
      exact hu
    obtain ⟨x, hx, -⟩ := hat _ u hv
    refine ⟨u, x, hu, hv, hx, ?_⟩
    rcases ordP_cases hx with ⟨g1, g2⟩ | ⟨g1, g1', g2⟩ | ⟨g1, g1', g2⟩ | ⟨g1, g1', g2⟩
    · omega
    · rw [g2, Nat.add_sub_cancel_left]; congr 1; omega
    · omega
    · omega)
  have V2 := lst gR (7 + k) l2 n3 (fun j hj => by
    obtain ⟨u, hu⟩ : ∃ u, l2[j]? = some u := ⟨_, List.getElem?_eq_getElem (by omega)⟩
    have hv : (hd ++ l1 ++ l2 ++ tl)[7 + k + j]? = some u := by
      rw [List.append_assoc, List.getElem?_append_right (by rw [List.length_append]; omega), List.length_append, n1, n2, Nat.add_sub_cancel_left, List.getElem?_append_left (by omega)]
      exact hu
    obtain ⟨x, hx, -⟩ := hat _ u hv
    refine ⟨u, x, hu, hv, hx, ?_⟩
    rcases ordP_cases hx with ⟨g1, g2⟩ | ⟨g1, g1', g2⟩ | ⟨g1, g1', g2⟩ | ⟨g1, g1', g2⟩
    · omega
    · omega
    · rw [g2]; congr 1; omega
    · omega)
  have hT : ∀ j, j < 2 → ∀ u, tl[j]? = some u → W0.cell? ⟨gp, 9 + j, none⟩ = some u ∧ ∃ t : Sv, u = t.v := fun j hj u hu => by
    have hv : (hd ++ l1 ++ l2 ++ tl)[7 + k + k + j]? = some u := by
      rw [List.getElem?_append_right (by rw [List.length_append, List.length_append]; omega), List.length_append, List.length_append, n1, n2, n3, Nat.add_sub_cancel_left]
      exact hu
    refine ⟨?_, sv _ u hv⟩
    obtain ⟨x, hx, hx2⟩ := hat _ u hv
    rcases ordP_cases hx with ⟨g1, g2⟩ | ⟨g1, g1', g2⟩ | ⟨g1, g1', g2⟩ | ⟨g1, g1', g2⟩
    · omega
    · omega
    · omega
    · rw [g2, show 7 + k + k + j - 7 - k - k = j by omega] at hx2
      exact hx2
  have hH : ∀ j, j < 7 → ∀ u, hd[j]? = some u → W0.cell? ⟨gp, j, none⟩ = some u ∧ ∃ t : Sv, u = t.v := fun j hj u hu => by
    have hv : (hd ++ l1 ++ l2 ++ tl)[j]? = some u := by
      rw [List.append_assoc, List.append_assoc, List.getElem?_append_left (by omega)]
      exact hu
    refine ⟨?_, sv _ u hv⟩
    obtain ⟨x, hx, hx2⟩ := hat _ u hv
    rcases ordP_cases hx with ⟨g1, g2⟩ | ⟨g1, g1', g2⟩ | ⟨g1, g1', g2⟩ | ⟨g1, g1', g2⟩
    · rw [g2] at hx2
      exact hx2
    · omega
    · omega
    · omega
  have hC : ∀ j u, cs[j]? = some u → W0.cell? ⟨gp, j, none⟩ = some u := fun j u hj => by
    have := hr j u hj
    rw [Nat.zero_add] at this
    exact this
  have c7 := hI.c7
  have c8 := hI.c8
  clear hat lst hI hP hr sv
  obtain ⟨v0, v1, v2, v3, v4, v5, v6, rfl⟩ := len7 hd n1
  obtain ⟨x, y, rfl⟩ := len2 tl n4
  obtain ⟨z0, z1, z2, z3, z4, z5, z6, z7, z8, z9, z10, rfl⟩ := len11 cs hc
  obtain ⟨q0, a, rfl⟩ := hH 0 (by omega) v0 rfl
  obtain ⟨q1, b, rfl⟩ := hH 1 (by omega) v1 rfl
  obtain ⟨q2, c, rfl⟩ := hH 2 (by omega) v2 rfl
  obtain ⟨q3, d, rfl⟩ := hH 3 (by omega) v3 rfl
  obtain ⟨q4, e, rfl⟩ := hH 4 (by omega) v4 rfl
  obtain ⟨q5, f, rfl⟩ := hH 5 (by omega) v5 rfl
  obtain ⟨q6, g, rfl⟩ := hH 6 (by omega) v6 rfl
  obtain ⟨q9, x', rfl⟩ := hT 0 (by omega) x rfl
  obtain ⟨q10, y', rfl⟩ := hT 1 (by omega) y rfl
  obtain rfl := Option.some.inj ((hC 0 z0 rfl).symm.trans q0)
  obtain rfl := Option.some.inj ((hC 1 z1 rfl).symm.trans q1)
  obtain rfl := Option.some.inj ((hC 2 z2 rfl).symm.trans q2)
  obtain rfl := Option.some.inj ((hC 3 z3 rfl).symm.trans q3)
  obtain rfl := Option.some.inj ((hC 4 z4 rfl).symm.trans q4)
  obtain rfl := Option.some.inj ((hC 5 z5 rfl).symm.trans q5)
  obtain rfl := Option.some.inj ((hC 6 z6 rfl).symm.trans q6)
  obtain rfl := Option.some.inj ((hC 7 z7 rfl).symm.trans c7)
  obtain rfl := Option.some.inj ((hC 8 z8 rfl).symm.trans c8)
  obtain rfl := Option.some.inj ((hC 9 z9 rfl).symm.trans q9)
  obtain rfl := Option.some.inj ((hC 10 z10 rfl).symm.trans q10)
  refine ⟨hb, ⟨a, b, c, d, e, f, g, ⟨some ⟨gL, 0, none⟩, k, k⟩, ⟨some ⟨gR, 0, none⟩, k, k⟩, x', y'⟩, l1, l2, w3.heap.size, rfl, V1.1, V2.1, rfl, rfl, fun b o e hk => by injection e with e; injection e with e _ _; subst e; exact V1.2 hk, fun b o e hk => by injection e with e; injection e with e _ _; subst e; exact V2.2 hk, by omega, by omega, fun j hj => ?_, hne⟩
  obtain ⟨u, hu⟩ : ∃ u, ([a.v, b.v, c.v, d.v, e.v, f.v, g.v] ++ l1 ++ l2 ++ [x'.v, y'.v])[j]? = some u := ⟨_, List.getElem?_eq_getElem (by omega)⟩
  exact ⟨u, hu, hF j u hu⟩
end Go.Proofs.Ytboigmhioojenaa
namespace Go.Proofs.Ytboigmhioojenaa
open Go.RowKit Go.Sort Go.Deep
set_option maxHeartbeats 8000000 in
set_option maxRecDepth 100000 in
/-- The reference's Read of a proof's bytes. -/
theorem rRead_y (s : ByteArray) (hs : s.size ≤ 100000) (k : Nat) (hk : s.data[0]!.toNat = k) (h6 : k ≤ 6) (hsz : s.size = 293 + 66 * k) (w : World) :
    Calls Try.prog 10 #[.string s] w (RfR w s k) := by
  obtain ⟨w1, hw1⟩ : ∃ w1, Hid (w.alloc (.cells #[.string s] 9) = w1) := ⟨_, rfl⟩
  obtain ⟨w2, hw2⟩ : ∃ w2, Hid (w1.alloc (.cells zR.toArray 27) = w2) := ⟨_, rfl⟩
  obtain ⟨w3, hw3⟩ : ∃ w3, Hid (w2.alloc (.cells zR.toArray 27) = w3) := ⟨_, rfl⟩
  have z1 : w1.heap.size = w.heap.size + 1 := by rw [← hw1.out, World.size_alloc]
  have z2 : w2.heap.size = w1.heap.size + 1 := by rw [← hw2.out, World.size_alloc]
  have z3 : w3.heap.size = w2.heap.size + 1 := by rw [← hw3.out, World.size_alloc]
  have b1 : Below w.heap.size w w1 := by rw [← hw1.out]; exact alloc_below _ _
  have b2 : Below w1.heap.size w1 w2 := by rw [← hw2.out]; exact alloc_below _ _
  have b3 : Below w2.heap.size w2 w3 := by rw [← hw3.out]; exact alloc_below _ _
  have b13 : Below w1.heap.size w1 w3 := b2.trans (b3.mono b2.size)
  have b03 : Below w.heap.size w w3 := b1.trans (b13.mono b1.size)
  have c1 : w1.cell? ⟨w.heap.size, 0, none⟩ = some (.string s) := by rw [← hw1.out]; exact alloc_cell w _ _ 0 _ rfl
  have c3 : w3.cell? ⟨w.heap.size, 0, none⟩ = some (.string s) := by
    rw [b13.cell (p := ⟨w.heap.size, 0, none⟩) (by show w.heap.size < _; omega)]
    exact c1
  have hr3 : w3.heap[w1.heap.size]? = some (.cells zR.toArray 27 (0, 0)) := by
    rw [b3.block _ (by omega), ← hw2.out]
    exact Array.getElem?_push_size
  have h0 : 0 < s.size := by omega
  have hz : ((s.size : Int) == 0) = false := by
    have : ¬ (s.size : Int) = 0 := by omega
    simpa using this
  have hz4 : (0 : Int) < (s.size : Int) := by omega
  have hix := ixT s k h0 hk
  have h6' : ¬ (6 : Int) < (k : Int) := by omega
  have hsz' : (s.size : Int) = 293 + 66 * (k : Int) := by omega
  obtain ⟨w4, hw4⟩ : ∃ w4, Hid (w3.alloc (.cells #[.int .i64 1] 3) = w4) := ⟨_, rfl⟩
  have HN0 : Hid (NxI w w4 w3.heap.size w.heap.size w.heap.size s 1 [] (chk s.data k) ∧ w4.heap[w1.heap.size]? = some (.cells zR.toArray 27 (0, 0))) := by
    have h1 := NxI.begin (CH := chk s.data k) b03 c3 (by omega : w.heap.size < w3.heap.size)
    have h2 := (alloc_below w3 (.cells #[.int .i64 1] 3)).block w1.heap.size (by omega)
    rw [hw4.out] at h1 h2
    exact ⟨h1, h2.trans hr3⟩
  have HZ : Hid (w1.heap.size = w.heap.size + 1 ∧ w2.heap.size = w1.heap.size + 1 ∧ w3.heap.size = w2.heap.size + 1) := ⟨z1, z2, z3⟩
  have HS := Hid.mkP hsz
  obtain ⟨gs, hgs⟩ : ∃ gs, Hid (w.heap.size = gs) := ⟨_, rfl⟩
  clear z1 z2 z3 b1 b2 b3 b13 b03 c1 hr3 hk hsz
  go_enter Try.func10, Try.ntmps10
  go_upto_region 9 with (first | (refine wpList_opP (v := .pointer (some ⟨w.heap.size, 0, none⟩)) (w' := w1) rfl (.box 9 (.tmp 0)) rfl ?_ ?_; (rw [← hw1.out]; kernel_rfl)) | (refine wpList_opP (v := .pointer (some ⟨w1.heap.size, 0, none⟩)) (w' := w2) (w := w1) rfl (.alloc 27) rfl ?_ ?_; (rw [← hw2.out]; kernel_rfl)) | (refine wpList_opP (v := .pointer (some ⟨w2.heap.size, 0, none⟩)) (w' := w3) (w := w2) rfl (.alloc 27) rfl ?_ ?_; (rw [← hw3.out]; kernel_rfl)) | fail)
  rw [hw4.out]
  go_cut [8] (fun s8 wx => ∃ (gp : Nat) (hd : List Value) (row : Nat → Value) (ls : Nat → List Value) (us : List Value), s8 = .pointer (some ⟨gp, 0, none⟩) ∧ Hid (RyL w wx w3.heap.size w.heap.size gp w1.heap.size (gp + 1) s k (229 + 33 * (0 + 0)) hd us row ls 0 0))
  case first =>
    go_wp2_with fail
    refine (HN0.out.1.next (k := 33) (by have := HS.out; omega) (by omega) (chk_cut s k 0 1 34 rfl rfl) (by have := HN0.out.1.ls; omega)).mono ?_
    rintro e w5 ⟨u0, rfl, l5, m5, n5⟩
    obtain ⟨g0, k0, e0, -⟩ := n5.ow 0 u0 rfl
    have z0 : (chk s.data k 0).size = 33 := by
      rw [chk_cut s k 0 1 34 rfl rfl]
      show (s.extract 1 34).size = _
      rw [ByteArray.size_extract]
      have := HS.out
      omega
    rw [z0] at e0
    subst e0
    have HN1 : Hid (NxI w w5 w3.heap.size w.heap.size w.heap.size s 34 [.slice (some ⟨g0, 0, none⟩) 33 k0] (chk s.data k) ∧ w5.heap[w1.heap.size]? = some (.cells zR.toArray 27 (0, 0))) := ⟨n5, (m5 w1.heap.size (by have := HZ.out; have := HN0.out.1.la; omega) (by have := HZ.out; omega)).trans HN0.out.2⟩
    clear l5 m5 n5 z0 HN0
    go_wp2_with fail
    refine (HN1.out.1.next (k := 33) (by have := HS.out; omega) (by omega) (chk_cut s k 1 34 67 rfl rfl) (by have := HN1.out.1.ls; omega)).mono ?_
    rintro e w6 ⟨u1, rfl, l5, m5, n5⟩
    obtain ⟨g1, k1, e1, -⟩ := n5.ow 1 u1 rfl
    have z0 : (chk s.data k 1).size = 33 := by
      rw [chk_cut s k 1 34 67 rfl rfl]
      show (s.extract 34 67).size = _
      rw [ByteArray.size_extract]
      have := HS.out
      omega
    rw [z0] at e1
    subst e1
    have HN2 : Hid (NxI w w6 w3.heap.size w.heap.size w.heap.size s 67 [.slice (some ⟨g0, 0, none⟩) 33 k0, .slice (some ⟨g1, 0, none⟩) 33 k1] (chk s.data k) ∧ w6.heap[w1.heap.size]? = some (.cells zR.toArray 27 (0, 0))) := ⟨n5, (m5 w1.heap.size (by have := HZ.out; have := HN1.out.1.la; omega) (by have := HZ.out; omega)).trans HN1.out.2⟩
    clear l5 m5 n5 z0 HN1
    go_wp2_with fail
    refine (HN2.out.1.next (k := 33) (by have := HS.out; omega) (by omega) (chk_cut s k 2 67 100 rfl rfl) (by have := HN2.out.1.ls; omega)).mono ?_
    rintro e w7 ⟨u2, rfl, l5, m5, n5⟩
    obtain ⟨g2, k2, e2, -⟩ := n5.ow 2 u2 rfl
    have z0 : (chk s.data k 2).size = 33 := by
      rw [chk_cut s k 2 67 100 rfl rfl]
      show (s.extract 67 100).size = _
      rw [ByteArray.size_extract]
      have := HS.out
      omega
    rw [z0] at e2
    subst e2
    have HN3 : Hid (NxI w w7 w3.heap.size w.heap.size w.heap.size s 100 [.slice (some ⟨g0, 0, none⟩) 33 k0, .slice (some ⟨g1, 0, none⟩) 33 k1, .slice (some ⟨g2, 0, none⟩) 33 k2] (chk s.data k) ∧ w7.heap[w1.heap.size]? = some (.cells zR.toArray 27 (0, 0))) := ⟨n5, (m5 w1.heap.size (by have := HZ.out; have := HN2.out.1.la; omega) (by have := HZ.out; omega)).trans HN2.out.2⟩
    clear l5 m5 n5 z0 HN2
    go_wp2_with fail
    refine (HN3.out.1.next (k := 33) (by have := HS.out; omega) (by omega) (chk_cut s k 3 100 133 rfl rfl) (by have := HN3.out.1.ls; omega)).mono ?_
    rintro e w8 ⟨u3, rfl, l5, m5, n5⟩
    obtain ⟨g3, k3, e3, -⟩ := n5.ow 3 u3 rfl
    have z0 : (chk s.data k 3).size = 33 := by
      rw [chk_cut s k 3 100 133 rfl rfl]
      show (s.extract 100 133).size = _
      rw [ByteArray.size_extract]
      have := HS.out
      omega
    rw [z0] at e3
    subst e3
    have HN4 : Hid (NxI w w8 w3.heap.size w.heap.size w.heap.size s 133 [.slice (some ⟨g0, 0, none⟩) 33 k0, .slice (some ⟨g1, 0, none⟩) 33 k1, .slice (some ⟨g2, 0, none⟩) 33 k2, .slice (some ⟨g3, 0, none⟩) 33 k3] (chk s.data k) ∧ w8.heap[w1.heap.size]? = some (.cells zR.toArray 27 (0, 0))) := ⟨n5, (m5 w1.heap.size (by have := HZ.out; have := HN3.out.1.la; omega) (by have := HZ.out; omega)).trans HN3.out.2⟩
    clear l5 m5 n5 z0 HN3
    go_wp2_with fail
    refine (HN4.out.1.next (k := 32) (by have := HS.out; omega) (by omega) (chk_cut s k 4 133 165 rfl rfl) (by have := HN4.out.1.ls; omega)).mono ?_
    rintro e w9 ⟨u4, rfl, l5, m5, n5⟩
    obtain ⟨g4, k4, e4, -⟩ := n5.ow 4 u4 rfl
    have z0 : (chk s.data k 4).size = 32 := by
      rw [chk_cut s k 4 133 165 rfl rfl]
      show (s.extract 133 165).size = _
      rw [ByteArray.size_extract]
      have := HS.out
      omega
    rw [z0] at e4
    subst e4
    have HN5 : Hid (NxI w w9 w3.heap.size w.heap.size w.heap.size s 165 [.slice (some ⟨g0, 0, none⟩) 33 k0, .slice (some ⟨g1, 0, none⟩) 33 k1, .slice (some ⟨g2, 0, none⟩) 33 k2, .slice (some ⟨g3, 0, none⟩) 33 k3, .slice (some ⟨g4, 0, none⟩) 32 k4] (chk s.data k) ∧ w9.heap[w1.heap.size]? = some (.cells zR.toArray 27 (0, 0))) := ⟨n5, (m5 w1.heap.size (by have := HZ.out; have := HN4.out.1.la; omega) (by have := HZ.out; omega)).trans HN4.out.2⟩
    clear l5 m5 n5 z0 HN4
    go_wp2_with fail
    refine (HN5.out.1.next (k := 32) (by have := HS.out; omega) (by omega) (chk_cut s k 5 165 197 rfl rfl) (by have := HN5.out.1.ls; omega)).mono ?_
    rintro e w10 ⟨u5, rfl, l5, m5, n5⟩
    obtain ⟨g5, k5, e5, -⟩ := n5.ow 5 u5 rfl
    have z0 : (chk s.data k 5).size = 32 := by
      rw [chk_cut s k 5 165 197 rfl rfl]
      show (s.extract 165 197).size = _
      rw [ByteArray.size_extract]
      have := HS.out
      omega
    rw [z0] at e5
    subst e5
    have HN6 : Hid (NxI w w10 w3.heap.size w.heap.size w.heap.size s 197 [.slice (some ⟨g0, 0, none⟩) 33 k0, .slice (some ⟨g1, 0, none⟩) 33 k1, .slice (some ⟨g2, 0, none⟩) 33 k2, .slice (some ⟨g3, 0, none⟩) 33 k3, .slice (some ⟨g4, 0, none⟩) 32 k4, .slice (some ⟨g5, 0, none⟩) 32 k5] (chk s.data k) ∧ w10.heap[w1.heap.size]? = some (.cells zR.toArray 27 (0, 0))) := ⟨n5, (m5 w1.heap.size (by have := HZ.out; have := HN5.out.1.la; omega) (by have := HZ.out; omega)).trans HN5.out.2⟩
    clear l5 m5 n5 z0 HN5
    go_wp2_with fail
    refine (HN6.out.1.next (k := 32) (by have := HS.out; omega) (by omega) (chk_cut s k 6 197 229 rfl rfl) (by have := HN6.out.1.ls; omega)).mono ?_
    rintro e w11 ⟨u6, rfl, l5, m5, n5⟩
    obtain ⟨g6, k6, e6, -⟩ := n5.ow 6 u6 rfl
    have z0 : (chk s.data k 6).size = 32 := by
      rw [chk_cut s k 6 197 229 rfl rfl]
      show (s.extract 197 229).size = _
      rw [ByteArray.size_extract]
      have := HS.out
      omega
    rw [z0] at e6
    subst e6
    have HN7 : Hid (NxI w w11 w3.heap.size w.heap.size w.heap.size s 229 [.slice (some ⟨g0, 0, none⟩) 33 k0, .slice (some ⟨g1, 0, none⟩) 33 k1, .slice (some ⟨g2, 0, none⟩) 33 k2, .slice (some ⟨g3, 0, none⟩) 33 k3, .slice (some ⟨g4, 0, none⟩) 32 k4, .slice (some ⟨g5, 0, none⟩) 32 k5, .slice (some ⟨g6, 0, none⟩) 32 k6] (chk s.data k) ∧ w11.heap[w1.heap.size]? = some (.cells zR.toArray 27 (0, 0))) := ⟨n5, (m5 w1.heap.size (by have := HZ.out; have := HN6.out.1.la; omega) (by have := HZ.out; omega)).trans HN6.out.2⟩
    clear l5 m5 n5 z0 HN6
    obtain ⟨cs, hcs⟩ : ∃ cs : List Value, Hid ([.slice (some ⟨g0, 0, none⟩) 33 k0, .slice (some ⟨g1, 0, none⟩) 33 k1, .slice (some ⟨g2, 0, none⟩) 33 k2, .slice (some ⟨g3, 0, none⟩) 33 k3, .slice (some ⟨g4, 0, none⟩) 32 k4, .slice (some ⟨g5, 0, none⟩) 32 k5, .slice (some ⟨g6, 0, none⟩) 32 k6, .slice none 0 0, .slice none 0 0, .slice none 0 0, .slice none 0 0] = cs) := ⟨_, rfl⟩
    obtain ⟨w12, hw12⟩ : ∃ w12, Hid (w11.alloc (.cells zR.toArray 27) = w12) := ⟨_, rfl⟩
    obtain ⟨w13, hw13⟩ : ∃ w13, Hid (w12.setCells w11.heap.size 0 cs = w13) := ⟨_, rfl⟩
    have RB := Hid.mkP (RyI.begin (cs := cs) HN7.out.1 HN7.out.2 (by rw [← hcs.out]; rfl) (by rw [← hcs.out]; rfl) (by rw [← hcs.out]; rfl) (by have := HZ.out; omega) (by have := HZ.out; omega) (by have := HZ.out; omega))
    rw [hw12.out, hw13.out] at RB
    have lcs : Hid (cs.length = 11) := by rw [← hcs.out]; rfl
    have ocs : Hid (∀ v ∈ cs, v.oneCell' = true) := by
      intro v hv
      rw [← hcs.out] at hv
      simp only [List.mem_cons, List.not_mem_nil, or_false] at hv
      rcases hv with rfl | rfl | rfl | rfl | rfl | rfl | rfl | rfl | rfl | rfl | rfl <;> rfl
    obtain ⟨hd, row, ls, us, RL⟩ : ∃ hd row ls us, Hid (RyL w w13 w3.heap.size w.heap.size w11.heap.size w1.heap.size (w11.heap.size + 1) s k (229 + 33 * (0 + 0)) hd us row ls 0 0) :=
      ⟨[.slice (some ⟨g0, 0, none⟩) 33 k0, .slice (some ⟨g1, 0, none⟩) 33 k1, .slice (some ⟨g2, 0, none⟩) 33 k2, .slice (some ⟨g3, 0, none⟩) 33 k3, .slice (some ⟨g4, 0, none⟩) 32 k4, .slice (some ⟨g5, 0, none⟩) 32 k5, .slice (some ⟨g6, 0, none⟩) 32 k6], _, _, _, RB.out.2, rfl, by rw [← hcs.out]; rfl, rfl, rfl, fun o ho h => by rw [← hcs.out] at h; rcases ho with rfl | rfl <;> exact absurd rfl h⟩
    clear HN7
    go_wp2_with (first | (refine wpList_opP (v := .agg cs.toArray) (w' := w11) (w := w11) rfl (.build 27 #[(0, .tmp 34), (1, .tmp 36), (2, .tmp 38), (3, .tmp 40), (4, .tmp 42), (5, .tmp 44), (6, .tmp 46)]) rfl ?_ ?_; (rw [← hcs.out]; kernel_rfl)) | (refine wpList_opP (v := .pointer (some ⟨w11.heap.size, 0, none⟩)) (w' := w12) (w := w11) rfl (.alloc 27) rfl ?_ ?_; (rw [← hw12.out]; kernel_rfl)) | (refine wpList_store_mid rfl 27 _ _ rfl w11.heap.size 0 cs.toArray ?_ ?_ ?_ ?_ ?_ ?_; rfl; rfl; exact RB.out.1; (rw [List.size_toArray, lcs.out]; exact iRg); exact Go.all_oneCell_toArray ocs.out; rw [show cs.toArray.toList = cs from rfl, hw13.out]) | fail)
    go_meet
    exact ⟨_, hd, row, ls, us, rfl, RL⟩
  case rest =>
    obtain ⟨gp, hd, row, ls, us, rfl, RL⟩ := hcut
    clear HN0
    generalize hga : w3.heap.size = ga at RL ⊢
    generalize hgz : w1.heap.size = gz at RL ⊢
    clear hga hgz c3 hix hw1 hw2 hw3 hw4 HZ hz hgs
    go_wp2_with fail
    go_loopg [9] k (fun gk s9 wr => ∃ (i : Nat) (row : Nat → Value) (ls : Nat → List Value) (us : List Value), i + gk = k ∧ s9 = .int .i64 (i : Int) ∧ Hid (RyL w wr ga w.heap.size gp gz (gp + 1) s k (229 + 33 * (i + 0)) hd us row ls i 0))
    case atStart => exact ⟨0, row, ls, us, by omega, rfl, RL⟩
    case round =>
      clear RL
      obtain ⟨i, row, ls, us, hi, rfl, RL⟩ := hrel
      by_cases him : i < k
      · have him' : (i : Int) < (k : Int) := by omega
        go_wp2_with fail
        refine (RL.out.next (n := 33) HS.out h6 (offs7 k _ (by omega)) (by rw [Nat.add_assoc, offs7 k _ (by omega)]; omega) (by omega)).mono ?_
        rintro e wn ⟨g9, c9, rfl, RN⟩
        have c7 := (RN.p 7 (by omega)).1
        obtain ⟨g', c', wa, r1, r2, r3, row', ls', RA⟩ := RL.out.app (o := 7) RN (by decide) ⟨_, _, _, rfl⟩ HS.out h6 (by omega) (by intro _; rfl)
        have RA' : Hid (RyL w (wa.setCell ⟨gp, 7, none⟩ (.slice (some ⟨g', 0, none⟩) ((ls 7).length + 1) c')) ga w.heap.size gp gz (gp + 1) s k (229 + 33 * (i + 0) + 33) hd (us ++ [.slice (some ⟨g9, 0, none⟩) 33 c9]) row' ls' (i + 1) (0)) := RA
        rw [show 229 + 33 * (i + 0) + 33 = 229 + 33 * (i + 1 + 0) by omega] at RA'
        generalize (ls 7).length + 1 = nl at r1 RA'
        obtain ⟨wb, hwb⟩ : ∃ wb, Hid (wn.alloc (.cells #[.slice (some ⟨g9, 0, none⟩) 33 c9] 22) = wb) := ⟨_, rfl⟩
        rw [hwb.out] at r1
        clear RA RN RL
        go_wp2_with (first | (refine wpList_opP (v := .slice (some ⟨wn.heap.size, 0, none⟩) 1 1) (w := wn) (w' := wb) rfl (.buildSlice 23 1 #[(0, .tmp 58)]) rfl ?_ ?_; (rw [← hwb.out]; kernel_rfl); refine Hid.out ?_) | fail)
        show wpList _ _ _ _ _ _
        refine Lib.wpList_append_run wb rfl (.tmp 57) (.tmp 59) 23 23 rfl (row 7) (.slice (some ⟨wn.heap.size, 0, none⟩) 1 1) (by kernel_rfl) (by kernel_rfl) (.slice (some ⟨g', 0, none⟩) nl c') wa r1 ?_
        go_wp2_with fail
        go_roundg (gk - 1)
        case measure => omega
        case rel => exact ⟨i + 1, row', ls', _, by omega, rfl, RA'⟩
      · have him' : ¬ (i : Int) < (k : Int) := by omega
        obtain rfl : i = k := by omega
        go_wp2_with fail
        go_loopg [11] i (fun gk s11 wr => ∃ (j : Nat) (row : Nat → Value) (ls : Nat → List Value) (us : List Value), j + gk = i ∧ s11 = .int .i64 (j : Int) ∧ Hid (RyL w wr ga w.heap.size gp gz (gp + 1) s i (229 + 33 * (i + j)) hd us row ls i j))
        case atStart => exact ⟨0, row, ls, us, by omega, rfl, RL⟩
        case round =>
          clear RL
          obtain ⟨j, row, ls, us, hj, rfl, RL⟩ := hrel
          by_cases hjm : j < i
          · have hjm' : (j : Int) < (i : Int) := by omega
            go_wp2_with fail
            refine (RL.out.next (n := 33) HS.out h6 (offs7 i _ (by omega)) (by rw [Nat.add_assoc, offs7 i _ (by omega)]; omega) (by omega)).mono ?_
            rintro e wn ⟨g9, c9, rfl, RN⟩
            have c7 := (RN.p 8 (by omega)).1
            obtain ⟨g', c', wa, r1, r2, r3, row', ls', RA⟩ := RL.out.app (o := 8) RN (by decide) ⟨_, _, _, rfl⟩ HS.out h6 (by omega) (by omega)
            have RA' : Hid (RyL w (wa.setCell ⟨gp, 8, none⟩ (.slice (some ⟨g', 0, none⟩) ((ls 8).length + 1) c')) ga w.heap.size gp gz (gp + 1) s i (229 + 33 * (i + j) + 33) hd (us ++ [.slice (some ⟨g9, 0, none⟩) 33 c9]) row' ls' (i) (j + 1)) := RA
            rw [show 229 + 33 * (i + j) + 33 = 229 + 33 * (i + j + 1) by omega] at RA'
            generalize (ls 8).length + 1 = nl at r1 RA'
            obtain ⟨wb, hwb⟩ : ∃ wb, Hid (wn.alloc (.cells #[.slice (some ⟨g9, 0, none⟩) 33 c9] 22) = wb) := ⟨_, rfl⟩
            rw [hwb.out] at r1
            clear RA RN RL
            go_wp2_with (first | (refine wpList_opP (v := .slice (some ⟨wn.heap.size, 0, none⟩) 1 1) (w := wn) (w' := wb) rfl (.buildSlice 23 1 #[(0, .tmp 73)]) rfl ?_ ?_; (rw [← hwb.out]; kernel_rfl); refine Hid.out ?_) | fail)
            show wpList _ _ _ _ _ _
            refine Lib.wpList_append_run wb rfl (.tmp 72) (.tmp 74) 23 23 rfl (row 8) (.slice (some ⟨wn.heap.size, 0, none⟩) 1 1) (by kernel_rfl) (by kernel_rfl) (.slice (some ⟨g', 0, none⟩) nl c') wa r1 ?_
            go_wp2_with fail
            go_roundg (gk - 1)
            case measure => omega
            case rel => exact ⟨j + 1, row', ls', _, by omega, rfl, RA'⟩
          · have hjm' : ¬ (j : Int) < (i : Int) := by omega
            obtain rfl : j = i := by omega
            go_wp2_with fail
            refine (RL.out.next (n := 32) HS.out h6 (offs7 j _ (by omega)) (by rw [Nat.add_assoc, (offs8 j).1]; omega) (by omega)).mono ?_
            rintro e wn ⟨g9, c9, rfl, RN⟩
            have c9f := RN.p 9 (by omega)
            have RN' := Hid.mkP (RN.put (o := 9) (v := .slice (some ⟨g9, 0, none⟩) 32 c9) (by omega) (by omega) (by omega))
            have RL' := Hid.mkP (And.intro RL.out.us (And.intro RL.out.hd (And.intro RL.out.n7 (And.intro RL.out.n8 RL.out.len))))
            obtain ⟨c9c, c9f⟩ := c9f
            clear RN RL
            go_wp2_with fail
            refine (RN'.out.next (n := 32) (by have := HS.out; omega) (by omega) (chk_last s j _ (by rw [List.length_append, RL'.out.2.2.2.2]; rfl))).mono ?_
            rintro e wm ⟨g10, c10, rfl, RM⟩
            obtain ⟨c10c, c10f⟩ := RM.p 10 (by omega)
            obtain ⟨cs, q1, q2, q3, q4, q5, q6⟩ := RyI.fin (hd := hd) (x := .slice (some ⟨g9, 0, none⟩) 32 c9) (y := .slice (some ⟨g10, 0, none⟩) 32 c10) (RM.put (o := 10) (v := .slice (some ⟨g10, 0, none⟩) 32 c10) (by omega) (by omega) (by omega)) (by rw [RL'.out.1, List.append_assoc]; rfl) RL'.out.2.1 rfl rfl RL'.out.2.2.1 RL'.out.2.2.2.1
            obtain ⟨wx, hwx⟩ : ∃ wx, Hid (wx = wm.setCell ⟨gp, 10, none⟩ (.slice (some ⟨g10, 0, none⟩) 32 c10)) := ⟨_, rfl⟩
            have c10c' : wm.cell? ⟨gp, 10, none⟩ = some (row 10) := c10c
            rw [← hwx.out] at q3 q4 q5 q6
            have FN := Hid.mkP (And.intro q1 (And.intro q2 (And.intro q3 (And.intro q4 (And.intro q5 q6)))))
            obtain ⟨dR, huR, hrR⟩ := Option.map_eq_some_iff.1 uRg
            clear q1 q2 q3 q4 q5 q6 RM RN' RL' c9c c9f c10c
            go_upto_region 22 with fail
            rw [← hwx.out]
            go_wp2_with (first | (refine wpList_load_mid rfl 27 _ rfl gp 0 ?_ cs dR ?_ ?_ ?_ ?_ ?_; rfl; exact FN.out.2.2.1; exact huR; exact hrR; (rw [FN.out.1]; exact iRg); skip) | (refine wpList_store_mid rfl 27 _ _ rfl gz 0 cs.toArray ?_ ?_ ?_ ?_ ?_ ?_; rfl; rfl; exact FN.out.2.2.2.1; (rw [List.size_toArray, FN.out.1]; exact iRg); exact Go.all_oneCell_toArray FN.out.2.1; rw [show cs.toArray.toList = cs from rfl]) | fail)
            refine bodyPost_ret (results_cP 2 3 27 rfl FN.out.2.2.2.2.1 rfl rfl uRg (by rw [FN.out.1]; exact iRg)) rfl ?_
            exact FN.out.2.2.2.2.2
end Go.Proofs.Ytboigmhioojenaa
namespace Go.Proofs.Ytboigmhioojenaa
open Go.RowKit Go.Sort Go.Deep
set_option maxHeartbeats 4000000 in
set_option maxRecDepth 100000 in
/-- The reference's Read of bytes that are none of a proof. -/
theorem rRead_n (s : ByteArray) (hs : s.size ≤ 100000) (k : Nat) (hk : s.data[0]!.toNat = k) (hbad : ¬ RGood s.data) (w : World) :
    Calls Try.prog 10 #[.string s] w fun e W => e = .returned (.tuple #[.agg zR.toArray, .int .i64 2]) ∧ Below w.heap.size w W := by
  obtain ⟨w1, hw1⟩ : ∃ w1, Hid (w.alloc (.cells #[.string s] 9) = w1) := ⟨_, rfl⟩
  obtain ⟨w2, hw2⟩ : ∃ w2, Hid (w1.alloc (.cells zR.toArray 27) = w2) := ⟨_, rfl⟩
  obtain ⟨w3, hw3⟩ : ∃ w3, Hid (w2.alloc (.cells zR.toArray 27) = w3) := ⟨_, rfl⟩
  have z1 : w1.heap.size = w.heap.size + 1 := by rw [← hw1.out, World.size_alloc]
  have z2 : w2.heap.size = w1.heap.size + 1 := by rw [← hw2.out, World.size_alloc]
  have z3 : w3.heap.size = w2.heap.size + 1 := by rw [← hw3.out, World.size_alloc]
  have b1 : Below w.heap.size w w1 := by rw [← hw1.out]; exact alloc_below _ _
  have b2 : Below w1.heap.size w1 w2 := by rw [← hw2.out]; exact alloc_below _ _
  have b3 : Below w2.heap.size w2 w3 := by rw [← hw3.out]; exact alloc_below _ _
  have b13 : Below w1.heap.size w1 w3 := b2.trans (b3.mono b2.size)
  have b03 : Below w.heap.size w w3 := b1.trans (b13.mono b1.size)
  have c1 : w1.cell? ⟨w.heap.size, 0, none⟩ = some (.string s) := by rw [← hw1.out]; exact alloc_cell w _ _ 0 _ rfl
  have c3 : w3.cell? ⟨w.heap.size, 0, none⟩ = some (.string s) := by
    rw [b13.cell (p := ⟨w.heap.size, 0, none⟩) (by show w.heap.size < _; omega)]
    exact c1
  have hr3 : w3.heap[w1.heap.size]? = some (.cells zR.toArray 27 (0, 0)) := by
    rw [b3.block _ (by omega), ← hw2.out]
    exact Array.getElem?_push_size
  have hz3 : Hid (w3.rangeAt w2.heap.size 0 zR) := by rw [← hw3.out]; exact alloc_range w2 zR _
  have P3 : Hid (w3.there w1.heap.size 0 zR.toArray.size ∧ (w3.setCells w1.heap.size 0 zR).rangeAt w1.heap.size 0 zR ∧ Below w.heap.size w (w3.setCells w1.heap.size 0 zR)) := by
    obtain ⟨h1, h2, h3⟩ := put11 (w := w1) (W := w3) (cs := zR) hr3 rfl b13
    exact ⟨h1, h2, b1.trans (h3.mono b1.size)⟩
  obtain ⟨dR, huR, hrR⟩ := Option.map_eq_some_iff.1 uRg
  by_cases h0 : 0 < s.size
  · have hz : ((s.size : Int) == 0) = false := by
      have : ¬ (s.size : Int) = 0 := by omega
      simpa using this
    have hz2 : ¬ (s.size : Int) = 0 := by omega
    have hz4 : (0 : Int) < (s.size : Int) := by omega
    have hix := ixT s k h0 hk
    have hgood : Hid (RGood s.data ↔ k ≤ 6 ∧ s.size = 293 + 66 * k) := by
      show _ ↔ _
      unfold RGood
      rw [hk]
      exact ⟨fun h => ⟨h.2.1, h.2.2⟩, fun h => ⟨h0, h.1, h.2⟩⟩
    clear z1 z2 z3 b1 b2 b3 b13 b03 c1 hr3 hk
    by_cases h6 : k ≤ 6
    · have h6' : ¬ (6 : Int) < (k : Int) := by omega
      by_cases hsz : s.size = 293 + 66 * k
      · have hsz' : (s.size : Int) = 293 + 66 * (k : Int) := by omega
        have hyes : Hid (RGood s.data) := hgood.out.2 ⟨h6, hsz⟩
        exact absurd hyes.out hbad
      · have hsz' : ¬ (s.size : Int) = 293 + 66 * (k : Int) := by omega
        have hsz2 : ((s.size : Int) != 293 + 66 * (k : Int)) = true := by simpa using hsz'
        go_enter Try.func10, Try.ntmps10
        go_wp2_with (first | (refine wpList_opP (v := .pointer (some ⟨w.heap.size, 0, none⟩)) (w' := w1) rfl (.box 9 (.tmp 0)) rfl ?_ ?_; (rw [← hw1.out]; kernel_rfl)) | (refine wpList_opP (v := .pointer (some ⟨w1.heap.size, 0, none⟩)) (w' := w2) (w := w1) rfl (.alloc 27) rfl ?_ ?_; (rw [← hw2.out]; kernel_rfl)) | (refine wpList_opP (v := .pointer (some ⟨w2.heap.size, 0, none⟩)) (w' := w3) (w := w2) rfl (.alloc 27) rfl ?_ ?_; (rw [← hw3.out]; kernel_rfl)) | (refine wpList_load_mid rfl 27 _ rfl w2.heap.size 0 ?_ zR dR ?_ ?_ ?_ ?_ ?_; rfl; exact hz3.out; exact huR; exact hrR; exact iRg; skip) | (refine wpList_store_mid rfl 27 _ _ rfl w1.heap.size 0 zR.toArray ?_ ?_ ?_ ?_ ?_ ?_; rfl; rfl; exact P3.out.1; exact iRg; exact Go.all_oneCell_toArray (fun v hv => by rw [(List.mem_replicate.1 hv).2]; rfl); rw [show zR.toArray.toList = zR from rfl]) | fail)
        refine bodyPost_ret (results_cP 2 3 27 rfl P3.out.2.1 rfl rfl uRg iRg) rfl ?_
        exact ⟨rfl, P3.out.2.2⟩
    · have h6' : (6 : Int) < (k : Int) := by omega
      go_enter Try.func10, Try.ntmps10
      go_wp2_with (first | (refine wpList_opP (v := .pointer (some ⟨w.heap.size, 0, none⟩)) (w' := w1) rfl (.box 9 (.tmp 0)) rfl ?_ ?_; (rw [← hw1.out]; kernel_rfl)) | (refine wpList_opP (v := .pointer (some ⟨w1.heap.size, 0, none⟩)) (w' := w2) (w := w1) rfl (.alloc 27) rfl ?_ ?_; (rw [← hw2.out]; kernel_rfl)) | (refine wpList_opP (v := .pointer (some ⟨w2.heap.size, 0, none⟩)) (w' := w3) (w := w2) rfl (.alloc 27) rfl ?_ ?_; (rw [← hw3.out]; kernel_rfl)) | (refine wpList_load_mid rfl 27 _ rfl w2.heap.size 0 ?_ zR dR ?_ ?_ ?_ ?_ ?_; rfl; exact hz3.out; exact huR; exact hrR; exact iRg; skip) | (refine wpList_store_mid rfl 27 _ _ rfl w1.heap.size 0 zR.toArray ?_ ?_ ?_ ?_ ?_ ?_; rfl; rfl; exact P3.out.1; exact iRg; exact Go.all_oneCell_toArray (fun v hv => by rw [(List.mem_replicate.1 hv).2]; rfl); rw [show zR.toArray.toList = zR from rfl]) | fail)
      refine bodyPost_ret (results_cP 2 3 27 rfl P3.out.2.1 rfl rfl uRg iRg) rfl ?_
      exact ⟨rfl, P3.out.2.2⟩
  · have hz : (s.size : Int) = 0 := by omega
    have hz0 : s.size = 0 := by omega
    clear z1 z2 z3 b1 b2 b3 b13 b03 c1 hr3 hk
    go_enter Try.func10, Try.ntmps10
    go_wp2_with (first | (refine wpList_opP (v := .pointer (some ⟨w.heap.size, 0, none⟩)) (w' := w1) rfl (.box 9 (.tmp 0)) rfl ?_ ?_; (rw [← hw1.out]; kernel_rfl)) | (refine wpList_opP (v := .pointer (some ⟨w1.heap.size, 0, none⟩)) (w' := w2) (w := w1) rfl (.alloc 27) rfl ?_ ?_; (rw [← hw2.out]; kernel_rfl)) | (refine wpList_opP (v := .pointer (some ⟨w2.heap.size, 0, none⟩)) (w' := w3) (w := w2) rfl (.alloc 27) rfl ?_ ?_; (rw [← hw3.out]; kernel_rfl)) | (refine wpList_load_mid rfl 27 _ rfl w2.heap.size 0 ?_ zR dR ?_ ?_ ?_ ?_ ?_; rfl; exact hz3.out; exact huR; exact hrR; exact iRg; skip) | (refine wpList_store_mid rfl 27 _ _ rfl w1.heap.size 0 zR.toArray ?_ ?_ ?_ ?_ ?_ ?_; rfl; rfl; exact P3.out.1; exact iRg; exact Go.all_oneCell_toArray (fun v hv => by rw [(List.mem_replicate.1 hv).2]; rfl); rw [show zR.toArray.toList = zR from rfl]) | fail)
    refine bodyPost_ret (results_cP 2 3 27 rfl P3.out.2.1 rfl rfl uRg iRg) rfl ?_
    exact ⟨rfl, P3.out.2.2⟩
end Go.Proofs.Ytboigmhioojenaa
namespace Go.Proofs.Ytboigmhioojenaa
open Go.RowKit Go.Sort Go.Deep
def ptsV (p : Rg) (ys1 ys2 : List Value) : List Value := [p.a.v, p.b.v, p.c.v, p.d.v] ++ ys1 ++ ys2
def scsV (p : Rg) : List Value := [p.e.v, p.f.v, p.g.v, p.x.v, p.y.v]
def SzOk (p : Rg) (ys1 ys2 : List Value) : Prop := (∀ s : Sv, s.v ∈ ptsV p ys1 ys2 → s.n = 33) ∧ (∀ s : Sv, s.v ∈ scsV p → s.n = 32) ∧ p.l.n = p.r.n ∧ p.l.n ≤ 6
def SzR (w : World) (X : Prop) (e : Ending) (W : World) : Prop := Below w.heap.size w W ∧ ∃ t, e = .returned (.bool t) ∧ (t = true ↔ X)
theorem u22 : (Try.prog.underlying 22).map (·.isRow) = some false := by kernel_rfl
theorem u23 : (Try.prog.underlying 23).map (·.isRow) = some false := by kernel_rfl
theorem gls_four (w : World) (xs : List Value) (hn : xs.length ≤ 1000000) : GLs w (w.alloc (.cells xs.toArray 22)) (.slice (some ⟨w.heap.size, 0, none⟩) xs.length xs.length) xs :=
  ⟨alloc_below w _, ⟨by omega, .inr ⟨w.heap.size, xs.length, xs.toArray, rfl, Nat.le_refl _, Array.getElem?_push_size, Nat.le_refl _, by unfold maxLen; omega, by simp, by simp⟩⟩, by simp [Value.ownBlock]⟩
theorem gls_base {w w' W : World} {v : Value} {xs : List Value} (h : GLs w' W v xs) (hb : Below w.heap.size w w') : GLs w W v xs := by
  refine ⟨hb.trans (h.bl.mono hb.size), ?_, h.nn⟩
  have := hb.size
  rcases h.ow with ⟨x0, x1 | ⟨g, cap, cur, x1, x2, x3⟩⟩
  · exact ⟨x0, Or.inl x1⟩
  · exact ⟨x0, Or.inr ⟨g, cap, cur, x1, by omega, x3⟩⟩
set_option maxHeartbeats 4000000 in
set_option maxRecDepth 100000 in
theorem sizes_c (p : Rg) {ys1 ys2 : List Value} (w : World) (hL : VL w p.l.q p.l.n ys1) (hR : VL w p.r.q p.r.n ys2) (hs : ∀ u ∈ ys1 ++ ys2, ∃ s : Sv, u = s.v) (n1 : p.l.n ≤ 1000) (n2 : p.r.n ≤ 1000) :
    Calls Try.prog 15 #[.agg p.cs.toArray] w (SzR w (SzOk p ys1 ys2)) := by
  obtain ⟨cs, hcs⟩ : ∃ cs : List Value, Hid (p.cs = cs) := ⟨_, rfl⟩
  obtain ⟨w1, hw1⟩ : ∃ w1, Hid (w.alloc (.cells cs.toArray 27) = w1) := ⟨_, rfl⟩
  have e1 : w1.heap.size = w.heap.size + 1 := by rw [← hw1.out, World.size_alloc]
  have b1 : Below w.heap.size w w1 := by rw [← hw1.out]; exact alloc_below _ _
  have r1 : w1.rangeAt w.heap.size 0 cs := by rw [← hw1.out]; exact alloc_range w cs _
  have HS : Hid (∀ u ∈ ptsV p ys1 ys2, ∃ s : Sv, u = s.v) := fun u hu => by
    unfold ptsV at hu
    rw [List.append_assoc] at hu
    rcases List.mem_append.1 hu with hu | hu
    · simp only [List.mem_cons, List.not_mem_nil, or_false] at hu
      rcases hu with rfl | rfl | rfl | rfl <;> exact ⟨_, rfl⟩
    · exact hs u hu
  have HC : Hid (∀ W : World, Below w1.heap.size w1 W → ∀ (j : Nat) u, p.cs[j]? = some u → W.cell? ⟨w.heap.size, j, none⟩ = some u) := fun W hW j u hj => by
    rw [hW.cell (p := ⟨w.heap.size, j, none⟩) (by show w.heap.size < _; omega)]
    have := r1 j u (by rw [← hcs.out]; exact hj)
    rw [Nat.zero_add] at this
    exact this
  have HL : Hid (∀ W, Below w1.heap.size w1 W → VL W p.l.q p.l.n ys1) := fun W hW => (hL.below b1).below hW
  have HR : Hid (∀ W, Below w1.heap.size w1 W → VL W p.r.q p.r.n ys2) := fun W hW => (hR.below b1).below hW
  have HN : Hid (ys1.length ≤ 1000 ∧ ys2.length ≤ 1000) := ⟨by rw [hL.len]; exact n1, by rw [hR.len]; exact n2⟩
  have HB1 := Hid.mkP b1
  have HLn : Hid (ys1.length = p.l.n ∧ ys2.length = p.r.n) := ⟨hL.len, hR.len⟩
  clear hL hR hs b1 e1 r1
  rw [hcs.out]
  go_enter Try.func15, Try.ntmps15
  go_wp2_with (first | (refine wpList_opP (v := .pointer (some ⟨w.heap.size, 0, none⟩)) (w' := w1) rfl (.box 27 (.tmp 0)) rfl ?_ ?_; (rw [← hw1.out, ← hcs.out]; kernel_rfl)) | fail)
  refine RG.flow_draws (FS w1 [12, 16] [[], [], [], [], [], [], [], [], [12, 16], [], [], [], [16]] [.eq (.pointer (some ⟨w.heap.size, 0, none⟩)), .eq p.a.v, .eq (.pointer (some ⟨w.heap.size, 1, none⟩)), .eq p.b.v, .eq (.pointer (some ⟨w.heap.size, 2, none⟩)), .eq p.c.v, .eq (.pointer (some ⟨w.heap.size, 3, none⟩)), .eq p.d.v, .lst [p.a.v, p.b.v, p.c.v, p.d.v], .eq (.pointer (some ⟨w.heap.size, 7, none⟩)), .eq (.pointer (some ⟨w.heap.size, 7, none⟩)), .eq p.l.v, .lst ([p.a.v, p.b.v, p.c.v, p.d.v] ++ ys1), .eq (.pointer (some ⟨w.heap.size, 7, none⟩)), .eq (.pointer (some ⟨w.heap.size, 8, none⟩)), .eq p.r.v, .lst (ptsV p ys1 ys2), .lst (ptsV p ys1 ys2)]) (by kernel_rfl) ⟨by kernel_rfl, RG.certs_of ?_, fun i j _ hj hij hk hdp => FS.stab (by kernel_rfl) i j hj hij hk hdp, fun i b _ _ w1 w2 hE hB => FS.stabB i b w1 w2 hE hB⟩ (fun _ => ⟨rfl, rfl, rfl, Nat.le_refl _, fun _ _ => rfl⟩) ?_
  · exact ⟨RG.cf_manyP fun a W hp => ⟨[(1, .pointer (some ⟨w.heap.size, 0, none⟩))], _, W, ⟨hp.o 1 (by kernel_rfl), trivial⟩, by kernel_rfl, Or.inl (Below.refl _ _), rfl⟩,
      RG.cf_ld1 22 7 rfl u22 fun a W hp => ⟨w.heap.size, 0, p.a.v, hp.n 0 7 (by kernel_rfl) (by kernel_rfl) (by kernel_rfl), HC.out W (hp.b 0 (by kernel_rfl)) 0 _ rfl, Or.inl (Below.refl _ _), rfl⟩,
      RG.cf_manyP fun a W hp => ⟨[(1, .pointer (some ⟨w.heap.size, 0, none⟩))], _, W, ⟨hp.o 1 (by kernel_rfl), trivial⟩, by kernel_rfl, Or.inl (Below.refl _ _), rfl⟩,
      RG.cf_ld1 22 9 rfl u22 fun a W hp => ⟨w.heap.size, 1, p.b.v, hp.n 2 9 (by kernel_rfl) (by kernel_rfl) (by kernel_rfl), HC.out W (hp.b 0 (by kernel_rfl)) 1 _ rfl, Or.inl (Below.refl _ _), rfl⟩,
      RG.cf_manyP fun a W hp => ⟨[(1, .pointer (some ⟨w.heap.size, 0, none⟩))], _, W, ⟨hp.o 1 (by kernel_rfl), trivial⟩, by kernel_rfl, Or.inl (Below.refl _ _), rfl⟩,
      RG.cf_ld1 22 11 rfl u22 fun a W hp => ⟨w.heap.size, 2, p.c.v, hp.n 4 11 (by kernel_rfl) (by kernel_rfl) (by kernel_rfl), HC.out W (hp.b 0 (by kernel_rfl)) 2 _ rfl, Or.inl (Below.refl _ _), rfl⟩,
      RG.cf_manyP fun a W hp => ⟨[(1, .pointer (some ⟨w.heap.size, 0, none⟩))], _, W, ⟨hp.o 1 (by kernel_rfl), trivial⟩, by kernel_rfl, Or.inl (Below.refl _ _), rfl⟩,
      RG.cf_ld1 22 13 rfl u22 fun a W hp => ⟨w.heap.size, 3, p.d.v, hp.n 6 13 (by kernel_rfl) (by kernel_rfl) (by kernel_rfl), HC.out W (hp.b 0 (by kernel_rfl)) 3 _ rfl, Or.inl (Below.refl _ _), rfl⟩,
      RG.cf_manyP fun a W hp => ⟨[(8, p.a.v), (10, p.b.v), (12, p.c.v), (14, p.d.v)], .slice (some ⟨W.heap.size, 0, none⟩) 4 4, W.alloc (.cells #[p.a.v, p.b.v, p.c.v, p.d.v] 22), ⟨hp.n 1 8 (by kernel_rfl) (by kernel_rfl) (by kernel_rfl), hp.n 3 10 (by kernel_rfl) (by kernel_rfl) (by kernel_rfl), hp.n 5 12 (by kernel_rfl) (by kernel_rfl) (by kernel_rfl), hp.n 7 14 (by kernel_rfl) (by kernel_rfl) (by kernel_rfl), trivial⟩, by kernel_rfl, Or.inl (alloc_below _ _), gls_base (gls_four W [p.a.v, p.b.v, p.c.v, p.d.v] (by show 4 ≤ _; omega)) (hp.b 0 (by kernel_rfl))⟩,
      RG.cf_manyP fun a W hp => ⟨[(1, .pointer (some ⟨w.heap.size, 0, none⟩))], _, W, ⟨hp.o 1 (by kernel_rfl), trivial⟩, by kernel_rfl, Or.inl (Below.refl _ _), rfl⟩,
      RG.cf_manyP fun a W hp => ⟨[(16, .pointer (some ⟨w.heap.size, 7, none⟩))], _, W, ⟨hp.n 9 16 (by kernel_rfl) (by kernel_rfl) (by kernel_rfl), trivial⟩, by kernel_rfl, Or.inl (Below.refl _ _), rfl⟩,
      RG.cf_ld1 23 17 rfl u23 fun a W hp => ⟨w.heap.size, 7, p.l.v, hp.n 10 17 (by kernel_rfl) (by kernel_rfl) (by kernel_rfl), HC.out W (hp.b 0 (by kernel_rfl)) 7 _ rfl, Or.inl (Below.refl _ _), rfl⟩,
      RG.cf_app 15 18 23 rfl fun a W hp => by
        have hb : Below w1.heap.size w1 W := hp.b 0 (by kernel_rfl)
        have h0 : GLs w1 W (a.eval (.tmp 15)) [p.a.v, p.b.v, p.c.v, p.d.v] := hp.n 8 15 (by kernel_rfl) (by kernel_rfl) (by kernel_rfl)
        have h1 : a.eval (.tmp 18) = p.l.v := hp.n 11 18 (by kernel_rfl) (by kernel_rfl) (by kernel_rfl)
        obtain ⟨v', W', x1, x2, x3⟩ := h0.app2 (c := p.l.c) (HL.out W hb) (by show 4 + _ ≤ _; omega)
        rw [h1]
        exact ⟨v', W', x1, Or.inr ⟨rfl, below_two hb x2.bl x3⟩, x2⟩,
      RG.cf_manyP fun a W hp => ⟨[(1, .pointer (some ⟨w.heap.size, 0, none⟩))], _, W, ⟨hp.o 1 (by kernel_rfl), trivial⟩, by kernel_rfl, Or.inl (Below.refl _ _), rfl⟩,
      RG.cf_manyP fun a W hp => ⟨[(20, .pointer (some ⟨w.heap.size, 7, none⟩))], _, W, ⟨hp.n 13 20 (by kernel_rfl) (by kernel_rfl) (by kernel_rfl), trivial⟩, by kernel_rfl, Or.inl (Below.refl _ _), rfl⟩,
      RG.cf_ld1 23 21 rfl u23 fun a W hp => ⟨w.heap.size, 8, p.r.v, hp.n 14 21 (by kernel_rfl) (by kernel_rfl) (by kernel_rfl), HC.out W (hp.b 0 (by kernel_rfl)) 8 _ rfl, Or.inl (Below.refl _ _), rfl⟩,
      RG.cf_app 19 22 23 rfl fun a W hp => by
        have hb : Below w1.heap.size w1 W := hp.b 0 (by kernel_rfl)
        have h0 : GLs w1 W (a.eval (.tmp 19)) ([p.a.v, p.b.v, p.c.v, p.d.v] ++ ys1) := hp.n 12 19 (by kernel_rfl) (by kernel_rfl) (by kernel_rfl)
        have h1 : a.eval (.tmp 22) = p.r.v := hp.n 15 22 (by kernel_rfl) (by kernel_rfl) (by kernel_rfl)
        obtain ⟨v', W', x1, x2, x3⟩ := h0.app2 (c := p.r.c) (HR.out W hb) (by have := HN.out.1; rw [List.length_append]; show 4 + _ + _ ≤ _; omega)
        rw [h1]
        exact ⟨v', W', x1, Or.inr ⟨rfl, below_two hb x2.bl x3⟩, x2⟩,
      RG.cf_one 23 fun a W hp => ⟨a.eval (.tmp 23), W, by kernel_rfl, by kernel_rfl, Or.inl (Below.refl _ _), hp.n 16 23 (by kernel_rfl) (by kernel_rfl) (by kernel_rfl)⟩, trivial⟩
  · intro V w2 hV hB
    have hL2 : GLs w1 w2 (V 17) (ptsV p ys1 ys2) := hV 17 (Nat.lt_of_succ_le (Nat.le_of_ble_eq_true (by kernel_rfl))) rfl
    dsimp only [RG.putV, Nat.reduceAdd]
    simp only [Act.put, List.setIfInBounds_toArray, List.set_cons_succ, List.set_cons_zero]
    generalize V 17 = v at hL2 ⊢
    obtain ⟨g, cap, rfl, hg1, hg2⟩ := hL2.lt
    have kk := HC.out w2 hL2.bl
    have k4 := kk 4 p.e.v rfl
    have k5 := kk 5 p.f.v rfl
    have k6 := kk 6 p.g.v rfl
    have k9 := kk 9 p.x.v rfl
    have k10 := kk 10 p.y.v rfl
    obtain ⟨w3, hw3⟩ : ∃ w3, Hid (w2.alloc (.cells (scsV p).toArray 22) = w3) := ⟨_, rfl⟩
    have b3 : Below w2.heap.size w2 w3 := by rw [← hw3.out]; exact alloc_below _ _
    have G3 := Hid.mkP (hL2.below b3)
    have q3 : Hid (w3.rangeAt w2.heap.size 0 (scsV p)) := by rw [← hw3.out]; exact alloc_range w2 _ _
    have HB3 : Hid (Below w.heap.size w w3) := HB1.out.trans (G3.out.bl.mono HB1.out.size)
    have k7 := HC.out w3 G3.out.bl 7 p.l.v rfl
    have k8 := HC.out w3 G3.out.bl 8 p.r.v rfl
    have hM : Hid ((ptsV p ys1 ys2).length ≤ 2004) := by
      have := HN.out
      show _ ≤ _
      unfold ptsV
      rw [List.length_append, List.length_append]
      show 4 + _ + _ ≤ _
      omega
    obtain ⟨M, hMM⟩ : ∃ M, Hid ((ptsV p ys1 ys2).length = M) := ⟨_, rfl⟩
    rw [hMM.out] at hM G3 ⊢
    have hMb : M ≤ 2004 := hM.out
    clear hV hB hL2 b3 kk HL HR HC
    rw [show p.l.v = .slice p.l.q p.l.n p.l.c from rfl] at k7
    rw [show p.r.v = .slice p.r.q p.r.n p.r.c from rfl] at k8
    obtain ⟨nl, hnl⟩ : ∃ nl, Hid (p.l.n = nl) := ⟨_, rfl⟩
    obtain ⟨nr, hnr⟩ : ∃ nr, Hid (p.r.n = nr) := ⟨_, rfl⟩
    rw [hnl.out] at k7 n1
    rw [hnr.out] at k8 n2
    generalize p.l.q = ql at k7
    generalize p.l.c = cl at k7
    generalize p.r.q = qr at k8
    generalize p.r.c = cr at k8
    obtain ⟨va, hva⟩ : ∃ va, Hid (p.e.v = va) := ⟨_, rfl⟩
    obtain ⟨vb, hvb⟩ : ∃ vb, Hid (p.f.v = vb) := ⟨_, rfl⟩
    obtain ⟨vc, hvc⟩ : ∃ vc, Hid (p.g.v = vc) := ⟨_, rfl⟩
    obtain ⟨vd, hvd⟩ : ∃ vd, Hid (p.x.v = vd) := ⟨_, rfl⟩
    obtain ⟨ve, hve⟩ : ∃ ve, Hid (p.y.v = ve) := ⟨_, rfl⟩
    rw [hva.out] at k4
    rw [hvb.out] at k5
    rw [hvc.out] at k6
    rw [hvd.out] at k9
    rw [hve.out] at k10
    go_wp2_with (first | (refine wpList_opP (v := .slice (some ⟨w2.heap.size, 0, none⟩) 5 5) (w' := w3) rfl (.buildSlice 23 5 #[(0, .tmp 25), (1, .tmp 27), (2, .tmp 29), (3, .tmp 32), (4, .tmp 35)]) rfl ?_ ?_; (rw [← hw3.out, ← hva.out, ← hvb.out, ← hvc.out, ← hvd.out, ← hve.out]; kernel_rfl)) | fail)
    go_loopg [5] M (fun gk s5 wr => ∃ i : Nat, i + gk = M ∧ s5 = .int .i64 (i : Int) ∧ w3 = wr ∧ Hid (∀ (k : Nat) (s : Sv), k < i → (ptsV p ys1 ys2)[k]? = some s.v → s.n = 33))
    case atStart => exact ⟨0, by omega, rfl, rfl, fun k s hk => absurd hk (Nat.not_lt_zero _)⟩
    case round =>
      obtain ⟨i, hi, rfl, rfl, KM⟩ := hrel
      by_cases him : i < M
      · have him' : (i : Int) < (M : Int) := by omega
        obtain ⟨u, hu⟩ : ∃ u, (ptsV p ys1 ys2)[i]? = some u := ⟨_, List.getElem?_eq_getElem (by have := hMM.out; omega)⟩
        obtain ⟨⟨qu, nu, cu⟩, rfl⟩ := HS.out u (List.mem_of_getElem? hu)
        have hcu : w3.cell? ⟨g, i, none⟩ = some (.slice qu nu cu) := G3.out.cell i _ hu
        have hix := idxP g M cap i him
        have HU := Hid.mkP hu
        clear hu
        by_cases hn : nu = 33
        · subst hn
          go_wp2
          go_roundg (gk - 1)
          case measure => omega
          case rel =>
            refine ⟨i + 1, by omega, rfl, rfl, fun k s hk hks => ?_⟩
            by_cases hki : k = i
            · subst hki
              rw [HU.out] at hks
              have := Option.some.inj hks
              unfold Sv.v at this
              injection this with _ h5 _
              exact h5.symm
            · exact KM.out k s (by omega) hks
        · have hn' : ¬ (nu : Int) = 33 := by omega
          have hno : ¬ SzOk p ys1 ys2 := fun h => hn (h.1 ⟨qu, nu, cu⟩ (List.mem_of_getElem? HU.out))
          go_wp2
          go_ret
          exact ⟨HB3.out, _, rfl, by simpa using hno⟩
      · have him' : ¬ (i : Int) < (M : Int) := by omega
        have A1 : Hid (∀ s : Sv, s.v ∈ ptsV p ys1 ys2 → s.n = 33) := fun s hs => by
          obtain ⟨k, hk, hks⟩ := List.getElem_of_mem hs
          exact KM.out k s (by have := hMM.out; omega) (by rw [List.getElem?_eq_getElem hk, hks])
        clear KM
        go_wp2
        go_loopg [6] 5 (fun gk s6 wr => ∃ i : Nat, i + gk = 5 ∧ s6 = .int .i64 (i : Int) ∧ w3 = wr ∧ Hid (∀ (k : Nat) (s : Sv), k < i → (scsV p)[k]? = some s.v → s.n = 32))
        case atStart => exact ⟨0, by omega, rfl, rfl, fun k s hk => absurd hk (Nat.not_lt_zero _)⟩
        case round =>
          obtain ⟨i, hi, rfl, rfl, KM⟩ := hrel
          by_cases him : i < 5
          · have him2 : (i : Int) < 5 := by omega
            obtain ⟨⟨qu, nu, cu⟩, hu⟩ : ∃ s : Sv, (scsV p)[i]? = some s.v := by
              match i, him with
              | 0, _ => exact ⟨_, rfl⟩
              | 1, _ => exact ⟨_, rfl⟩
              | 2, _ => exact ⟨_, rfl⟩
              | 3, _ => exact ⟨_, rfl⟩
              | 4, _ => exact ⟨_, rfl⟩
            have hcu : w3.cell? ⟨w2.heap.size, i, none⟩ = some (.slice qu nu cu) := by
              have := q3.out i _ hu
              rw [Nat.zero_add] at this
              exact this
            have hix := idxP w2.heap.size 5 5 i him
            have HU := Hid.mkP hu
            clear hu
            by_cases hn : nu = 32
            · subst hn
              go_wp2
              go_roundg (4 - i)
              case measure => omega
              case rel =>
                refine ⟨i + 1, by omega, rfl, rfl, fun k s hk hks => ?_⟩
                by_cases hki : k = i
                · subst hki
                  rw [HU.out] at hks
                  have := Option.some.inj hks
                  unfold Sv.v at this
                  injection this with _ h5 _
                  exact h5.symm
                · exact KM.out k s (by omega) hks
            · have hn' : ¬ (nu : Int) = 32 := by omega
              have hno : ¬ SzOk p ys1 ys2 := fun h => hn (h.2.1 ⟨qu, nu, cu⟩ (List.mem_of_getElem? HU.out))
              go_wp2
              go_ret
              exact ⟨HB3.out, _, rfl, by simpa using hno⟩
          · have him2 : ¬ (i : Int) < 5 := by omega
            have A2 : Hid (∀ s : Sv, s.v ∈ scsV p → s.n = 32) := fun s hs => by
              obtain ⟨k, hk, hks⟩ := List.getElem_of_mem hs
              exact KM.out k s (by have : (scsV p).length = 5 := rfl; omega) (by rw [List.getElem?_eq_getElem hk, hks])
            clear KM
            by_cases hg : nl = nr
            · subst hg
              by_cases h6 : nl ≤ 6
              · have h6' : (nl : Int) ≤ 6 := by omega
                have hy : Hid (SzOk p ys1 ys2) := ⟨A1.out, A2.out, by rw [hnl.out, hnr.out], by rw [hnl.out]; exact h6⟩
                go_wp2
                go_ret
                exact ⟨HB3.out, _, rfl, by simpa using hy.out⟩
              · have h6' : ¬ (nl : Int) ≤ 6 := by omega
                have hno : ¬ SzOk p ys1 ys2 := fun h => h6 (by have := h.2.2.2; rw [hnl.out] at this; exact this)
                go_wp2
                go_ret
                exact ⟨HB3.out, _, rfl, by simp [hno]⟩
            · have hg' : ¬ (nl : Int) = (nr : Int) := by omega
              have hno : ¬ SzOk p ys1 ys2 := fun h => hg (by have := h.2.2.1; rw [hnl.out, hnr.out] at this; exact this)
              go_wp2
              go_ret
              exact ⟨HB3.out, _, rfl, by simp [hno]⟩
end Go.Proofs.Ytboigmhioojenaa
namespace Go.Proofs.Ytboigmhioojenaa
open Go.RowKit Go.Sort Go.Deep
def vlen : Value → Nat
  | .slice _ n _ => n
  | _ => 0
theorem ptl_map {W : World} {us : List Value} {BB : List SP.Bs} (h : PtL W us BB) : BB.map Array.size = us.map vlen := by
  refine List.ext_getElem? fun j => ?_
  rw [List.getElem?_map, List.getElem?_map]
  by_cases hj : j < us.length
  · obtain ⟨u, hu⟩ : ∃ u, us[j]? = some u := ⟨_, List.getElem?_eq_getElem hj⟩
    obtain ⟨b, hb⟩ : ∃ b, BB[j]? = some b := ⟨_, List.getElem?_eq_getElem (by rw [h.1]; exact hj)⟩
    obtain ⟨q, c, rfl, -⟩ := h.2 j u b hu hb
    rw [hu, hb]
    rfl
  · rw [List.getElem?_eq_none (by rw [h.1]; omega), List.getElem?_eq_none (by omega)]
    rfl
theorem map_rep {ys : List Value} {n : Nat} (hl : ys.length = n) (hs : ∀ u ∈ ys, ∃ s : Sv, u = s.v) : ys.map vlen = List.replicate n 33 ↔ ∀ s : Sv, s.v ∈ ys → s.n = 33 := by
  rw [List.eq_replicate_iff]
  constructor
  · rintro ⟨-, h⟩ s hm
    exact h _ (List.mem_map.2 ⟨s.v, hm, rfl⟩)
  · intro h
    refine ⟨by rw [List.length_map, hl], fun k hk => ?_⟩
    obtain ⟨u, hu, rfl⟩ := List.mem_map.1 hk
    obtain ⟨s, rfl⟩ := hs u hu
    exact h s hu
theorem good_iff {W : World} {p : Rg} {ys1 ys2 : List Value} {BB : List SP.Bs} (hB : PtL W (ordV p ys1 ys2) BB) (h1 : ys1.length = p.l.n) (h2 : ys2.length = p.r.n) (hs : ∀ u ∈ ys1 ++ ys2, ∃ s : Sv, u = s.v) : SzOk p ys1 ys2 ↔ GoodP p.l.n p.r.n BB := by
  have hm := ptl_map hB
  have s1 := map_rep h1 (fun u hu => hs u (List.mem_append_left _ hu))
  have s2 := map_rep h2 (fun u hu => hs u (List.mem_append_right _ hu))
  unfold GoodP
  rw [hm]
  have e : (ordV p ys1 ys2).map vlen = [p.a.n, p.b.n, p.c.n, p.d.n, p.e.n, p.f.n, p.g.n] ++ ys1.map vlen ++ ys2.map vlen ++ [p.x.n, p.y.n] := by
    unfold ordV
    rw [List.map_append, List.map_append, List.map_append]
    rfl
  rw [e]
  constructor
  · rintro ⟨g1, g2, g3, g4⟩
    refine ⟨g3, g4, ?_⟩
    have m1 := s1.2 fun s hm => g1 s (by unfold ptsV; simp [hm])
    have m2 := s2.2 fun s hm => g1 s (by unfold ptsV; simp [hm])
    rw [m1, m2, g1 p.a (by unfold ptsV; simp), g1 p.b (by unfold ptsV; simp), g1 p.c (by unfold ptsV; simp), g1 p.d (by unfold ptsV; simp), g2 p.e (by unfold scsV; simp), g2 p.f (by unfold scsV; simp), g2 p.g (by unfold scsV; simp), g2 p.x (by unfold scsV; simp), g2 p.y (by unfold scsV; simp)]
    rfl
  · rintro ⟨g3, g4, g5⟩
    unfold ordS at g5
    obtain ⟨f1, f2⟩ := List.append_inj' g5 rfl
    obtain ⟨f3, f4⟩ := List.append_inj' f1 (by rw [List.length_map, h2, List.length_replicate])
    obtain ⟨f5, f6⟩ := List.append_inj' f3 (by rw [List.length_map, h1, List.length_replicate])
    simp only [List.cons.injEq, and_true] at f5 f2
    obtain ⟨a1, a2, a3, a4, a5, a6, a7⟩ := f5
    obtain ⟨a8, a9⟩ := f2
    have vn : ∀ s t : Sv, s.v = t.v → s.n = t.n := fun s t h => by
      unfold Sv.v at h
      injection h
    refine ⟨fun s hs => ?_, fun s hs => ?_, g3, g4⟩
    · unfold ptsV at hs
      rcases List.mem_append.1 hs with hs | hs
      · rcases List.mem_append.1 hs with hs | hs
        · simp only [List.mem_cons, List.not_mem_nil, or_false] at hs
          rcases hs with h | h | h | h <;> rw [vn _ _ h] <;> assumption
        · exact s1.1 f6 s hs
      · exact s2.1 f4 s hs
    · unfold scsV at hs
      simp only [List.mem_cons, List.not_mem_nil, or_false] at hs
      rcases hs with h | h | h | h | h <;> rw [vn _ _ h] <;> assumption
def RPutR (w : World) (n m : Nat) (BB : List SP.Bs) (e : Ending) (W : World) : Prop := Below w.heap.size w W ∧ ((GoodP n m BB ∧ e = .returned (.tuple #[.string ⟨catI n BB (n + m + 9)⟩, .int .i64 0])) ∨ (¬ GoodP n m BB ∧ e = .returned (.tuple #[.string ⟨#[]⟩, .int .i64 2])))
theorem ba_app (a b : SP.Bs) : (⟨a⟩ : ByteArray) ++ ⟨b⟩ = ⟨a ++ b⟩ := by
  refine ByteArray.ext ?_
  rw [ByteArray.data_append]
end Go.Proofs.Ytboigmhioojenaa
namespace Go.Proofs.Ytboigmhioojenaa
open Go.RowKit Go.Sort Go.Deep
theorem catT_succ {n i : Nat} {BB : List SP.Bs} {b : SP.Bs} {T U : ByteArray} (hT : T = ⟨catI n BB i⟩) (hU : U = ⟨b⟩) (h : BB[i]? = some b) : T ++ U = ⟨catI n BB (i + 1)⟩ := by
  rw [hT, hU, ba_app, catI_succ n BB i b h]
/-- One part of a proof, as the reference reads it. -/
theorem part_conv {W : World} {us : List Value} {BB : List SP.Bs} (h : PtL W us BB) (j : Nat) (s : Sv) (hj : us[j]? = some s.v) : ∃ b, BB[j]? = some b ∧ (convert 22 9 s.v).run Try.prog W = .ok (.string ⟨b⟩) W := by
  obtain ⟨b, hb⟩ : ∃ b, BB[j]? = some b := ⟨_, List.getElem?_eq_getElem (by rw [h.1]; exact (List.getElem?_eq_some_iff.1 hj).1)⟩
  exact ⟨b, hb, (h.2 j _ b hj hb).conv⟩
theorem good_le {n m : Nat} {BB : List SP.Bs} (h : GoodP n m BB) {j : Nat} {b : SP.Bs} (hj : BB[j]? = some b) : b.size ≤ 33 := by
  have e0 : (BB.map Array.size)[j]? = (ordS n m)[j]? := by rw [h.2.2]
  rw [List.getElem?_map, hj] at e0
  exact ordS_le n m _ (List.mem_of_getElem? e0.symm)
/-- An entry of a list, as the reference reads it. -/
theorem entry_conv {W : World} {s : Sv} {b o : Nat} {ys us : List Value} {BB : List SP.Bs} (h : PtL W us BB) (hL : VL W s.q s.n ys) (hq : s.n = 0 ∨ s.q = some ⟨b, o, none⟩) (hs : ∀ u ∈ ys, ∃ s : Sv, u = s.v) (k : Nat) (hk : ∀ j, j < s.n → us[k + j]? = ys[j]?) (i : Nat) (hi : i < s.n) :
    ∃ x B, W.cell? ⟨b, o + i, none⟩ = some (Sv.v x) ∧ BB[k + i]? = some B ∧ (convert 22 9 x.v).run Try.prog W = .ok (.string ⟨B⟩) W ∧ s.q = some ⟨b, o, none⟩ := by
  obtain ⟨u, hu⟩ : ∃ u, ys[i]? = some u := ⟨_, List.getElem?_eq_getElem (by rw [hL.len]; exact hi)⟩
  obtain ⟨x, rfl⟩ := hs u (List.mem_of_getElem? hu)
  obtain ⟨B, h1, h2⟩ := part_conv h (k + i) x (by rw [hk i hi]; exact hu)
  rcases hq with hq | hq
  · omega
  · refine ⟨x, B, ?_, h1, h2, hq⟩
    rcases hL.cells with h0 | ⟨b', o', h3, -, h4⟩
    · rw [h0] at hu; cases hu
    · rw [hq] at h3
      have h3 := Option.some.inj h3
      injection h3 with e1 e2 _
      subst e1 e2
      exact h4 i _ hu
set_option maxHeartbeats 4000000 in
set_option maxRecDepth 100000 in
theorem rPut_c (p : Rg) {bl ol br or : Nat} {ys1 ys2 : List Value} {BB : List SP.Bs} (w : World) (hL : VL w p.l.q p.l.n ys1) (hR : VL w p.r.q p.r.n ys2) (hl : p.l.n = 0 ∨ p.l.q = some ⟨bl, ol, none⟩) (hr : p.r.n = 0 ∨ p.r.q = some ⟨br, or, none⟩) (hB : PtL w (ordV p ys1 ys2) BB) (hs : ∀ u ∈ ys1 ++ ys2, ∃ s : Sv, u = s.v) (n1 : p.l.n ≤ 1000) (n2 : p.r.n ≤ 1000) :
    Calls Try.prog 6 #[.agg p.cs.toArray] w (RPutR w p.l.n p.r.n BB) := by
  obtain ⟨cs, hcs⟩ : ∃ cs : List Value, Hid (p.cs = cs) := ⟨_, rfl⟩
  obtain ⟨w1, hw1⟩ : ∃ w1, Hid (w.alloc (.cells cs.toArray 27) = w1) := ⟨_, rfl⟩
  have e1 : w1.heap.size = w.heap.size + 1 := by rw [← hw1.out, World.size_alloc]
  have b1 : Below w.heap.size w w1 := by rw [← hw1.out]; exact alloc_below _ _
  have r1 : w1.rangeAt w.heap.size 0 cs := by rw [← hw1.out]; exact alloc_range w cs _
  have hlen : Hid (cs.length = 11) := by rw [← hcs.out]; rfl
  have HC : Hid (∀ W : World, Below w1.heap.size w1 W → ∀ (j : Nat) u, p.cs[j]? = some u → W.cell? ⟨w.heap.size, j, none⟩ = some u) := fun W hW j u hj => by
    rw [hW.cell (p := ⟨w.heap.size, j, none⟩) (by show w.heap.size < _; omega)]
    have := r1 j u (by rw [← hcs.out]; exact hj)
    rw [Nat.zero_add] at this
    exact this
  have hS : Hid (Calls Try.prog 15 #[.agg cs.toArray] w1 (SzR w1 (GoodP p.l.n p.r.n BB))) := by
    have h0 := sizes_c p w1 (hL.below b1) (hR.below b1) hs n1 n2
    rw [hcs.out] at h0
    have e : SzOk p ys1 ys2 = GoodP p.l.n p.r.n BB := propext (good_iff hB hL.len hR.len hs)
    rw [e] at h0
    exact h0
  have HL := Hid.mkP hL
  have HR := Hid.mkP hR
  have Hl := Hid.mkP hl
  have Hr := Hid.mkP hr
  have HB := Hid.mkP hB
  have Hs := Hid.mkP hs
  have HB1 := Hid.mkP b1
  have HR1 := Hid.mkP r1
  obtain ⟨dR, huR, hrR⟩ := Option.map_eq_some_iff.1 uRg
  clear b1 e1 r1 hL hR hl hr hB hs
  rw [hcs.out]
  go_enter Try.func6, Try.ntmps6
  go_wp2_with (first | (refine wpList_opP (v := .pointer (some ⟨w.heap.size, 0, none⟩)) (w' := w1) rfl (.box 27 (.tmp 0)) rfl ?_ ?_; (rw [← hw1.out, ← hcs.out]; kernel_rfl)) | (refine wpList_load_mid rfl 27 _ rfl w.heap.size 0 ?_ cs dR ?_ ?_ ?_ ?_ ?_; rfl; exact HR1.out; exact huR; exact hrR; (rw [hlen.out]; exact iRg); skip) | fail)
  refine hS.out.mono ?_
  rintro e w2 ⟨hb2, t, rfl, ht⟩
  have HB2 := Hid.mkP hb2
  have HT := Hid.mkP ht
  clear hb2 ht hS
  cases t with
  | false =>
    have hno : ¬ GoodP p.l.n p.r.n BB := fun h => by
      have := HT.out.2 h
      cases this
    go_wp2
    go_ret2
    exact ⟨HB1.out.trans (HB2.out.mono HB1.out.size), Or.inr ⟨hno, rfl⟩⟩
  | true =>
    have hG := Hid.mkP (HT.out.1 rfl)
    have h6 : p.l.n ≤ 6 := hG.out.2.1
    obtain ⟨w3, hw3⟩ : ∃ w3, Hid (w2.alloc (.cells #[.int .u8 (p.l.n : Int)] 5) = w3) := ⟨_, rfl⟩
    have b3 : Below w2.heap.size w2 w3 := by rw [← hw3.out]; exact alloc_below _ _
    have b13 : Below w1.heap.size w1 w3 := HB2.out.trans (b3.mono HB2.out.size)
    have b03 : Below w.heap.size w w3 := HB1.out.trans (b13.mono HB1.out.size)
    have P3 := HB.out.below b03
    have cv0 : (convert 22 9 (.slice (some ⟨w2.heap.size, 0, none⟩) 1 1)).run Try.prog w3 = .ok (.string ⟨catI p.l.n BB 0⟩) w3 := by
      refine Pt.conv (b := catI p.l.n BB 0) ⟨_, _, rfl, Or.inr ⟨w2.heap.size, 0, rfl, by rw [← hw3.out, World.size_alloc]; omega, fun j hj => ?_⟩⟩
      have hj0 : j = 0 := by
        have : (catI p.l.n BB 0).size = 1 := rfl
        omega
      subst hj0
      rw [← hw3.out]
      refine ⟨alloc_cell w2 _ _ 0 _ ?_, ?_⟩
      · show some (Value.int .u8 (p.l.n : Int)) = some (SP.encB p.l.n.toUInt8)
        unfold SP.encB SP.ub
        have : (p.l.n.toUInt8).toNat = p.l.n := by
          rw [UInt8.toNat_ofNat']
          omega
        simp [this]
      · unfold World.alloc World.frozen?
        simp
    obtain ⟨ba, xa, ca⟩ := part_conv P3 0 p.a rfl
    obtain ⟨bb, xb, cb⟩ := part_conv P3 1 p.b rfl
    obtain ⟨bc, xc, cc⟩ := part_conv P3 2 p.c rfl
    obtain ⟨bd, xd, cd⟩ := part_conv P3 3 p.d rfl
    obtain ⟨be, xe, ce⟩ := part_conv P3 4 p.e rfl
    obtain ⟨bf, xf, cf⟩ := part_conv P3 5 p.f rfl
    obtain ⟨bg, xg, cg⟩ := part_conv P3 6 p.g rfl
    obtain ⟨t0, ht0⟩ : ∃ t0 : ByteArray, t0 = ⟨catI p.l.n BB 0⟩ := ⟨_, rfl⟩
    obtain ⟨ta, hta⟩ : ∃ t : ByteArray, t = ⟨ba⟩ := ⟨_, rfl⟩
    obtain ⟨tb, htb⟩ : ∃ t : ByteArray, t = ⟨bb⟩ := ⟨_, rfl⟩
    obtain ⟨tc, htc⟩ : ∃ t : ByteArray, t = ⟨bc⟩ := ⟨_, rfl⟩
    obtain ⟨td, htd⟩ : ∃ t : ByteArray, t = ⟨bd⟩ := ⟨_, rfl⟩
    obtain ⟨te, hte⟩ : ∃ t : ByteArray, t = ⟨be⟩ := ⟨_, rfl⟩
    obtain ⟨tf, htf⟩ : ∃ t : ByteArray, t = ⟨bf⟩ := ⟨_, rfl⟩
    obtain ⟨tg, htg⟩ : ∃ t : ByteArray, t = ⟨bg⟩ := ⟨_, rfl⟩
    have H7 : Hid (t0 ++ ta ++ tb ++ tc ++ td ++ te ++ tf ++ tg = ⟨catI p.l.n BB 7⟩) := catT_succ (catT_succ (catT_succ (catT_succ (catT_succ (catT_succ (catT_succ ht0 hta xa) htb xb) htc xc) htd xd) hte xe) htf xf) htg xg
    have hsz : t0.size = 1 ∧ ta.size ≤ 33 ∧ tb.size ≤ 33 ∧ tc.size ≤ 33 ∧ td.size ≤ 33 ∧ te.size ≤ 33 ∧ tf.size ≤ 33 ∧ tg.size ≤ 33 := by
      rw [ht0, hta, htb, htc, htd, hte, htf, htg]
      exact ⟨rfl, good_le hG.out xa, good_le hG.out xb, good_le hG.out xc, good_le hG.out xd, good_le hG.out xe, good_le hG.out xf, good_le hG.out xg⟩
    obtain ⟨z0, za, zb, zc, zd, ze, zf, zg⟩ := hsz
    rw [← ht0] at cv0
    rw [← hta] at ca
    rw [← htb] at cb
    rw [← htc] at cc
    rw [← htd] at cd
    rw [← hte] at ce
    rw [← htf] at cf
    rw [← htg] at cg
    have hW2 := HC.out w2 HB2.out
    have hW3 := HC.out w3 b13
    have z7 := hW2 7 p.l.v rfl
    have k0 := hW3 0 p.a.v rfl
    have k1 := hW3 1 p.b.v rfl
    have k2 := hW3 2 p.c.v rfl
    have k3 := hW3 3 p.d.v rfl
    have k4 := hW3 4 p.e.v rfl
    have k5 := hW3 5 p.f.v rfl
    have k6 := hW3 6 p.g.v rfl
    have k7 := hW3 7 p.l.v rfl
    have k8 := hW3 8 p.r.v rfl
    have k9 := hW3 9 p.x.v rfl
    have k10 := hW3 10 p.y.v rfl
    have hv : ∀ s : Sv, s.v = .slice s.q s.n s.c := fun _ => rfl
    rw [hv] at z7 k0 k1 k2 k3 k4 k5 k6 k7 k8 k9 k10 ca cb cc cd ce cf cg
    have hw8 : IntKind.u8.wrap (p.l.n : Int) = (p.l.n : Int) := by
      show ((p.l.n : Int) % 256) = _
      omega
    have HB3 := Hid.mkP b03
    have HEL : Hid (∀ i, i < p.l.n → ∃ x B, w3.cell? ⟨bl, ol + i, none⟩ = some (Sv.v x) ∧ BB[7 + i]? = some B ∧ (convert 22 9 x.v).run Try.prog w3 = .ok (.string ⟨B⟩) w3 ∧ p.l.q = some ⟨bl, ol, none⟩) := fun i hi =>
      entry_conv P3 (HL.out.below b03) Hl.out (fun u hu => Hs.out u (List.mem_append_left _ hu)) 7 (fun j hj => by
        unfold ordV
        have := HL.out.len
        rw [List.append_assoc, List.append_assoc, List.getElem?_append_right (by show 7 ≤ _; omega), List.getElem?_append_left (by show 7 + j - 7 < _; omega)]
        show ys1[7 + j - 7]? = _
        rw [Nat.add_sub_cancel_left]) i hi
    have HER : Hid (∀ i, i < p.r.n → ∃ x B, w3.cell? ⟨br, or + i, none⟩ = some (Sv.v x) ∧ BB[7 + p.l.n + i]? = some B ∧ (convert 22 9 x.v).run Try.prog w3 = .ok (.string ⟨B⟩) w3 ∧ p.r.q = some ⟨br, or, none⟩) := fun i hi =>
      entry_conv P3 (HR.out.below b03) Hr.out (fun u hu => Hs.out u (List.mem_append_right _ hu)) (7 + p.l.n) (fun j hj => by
        unfold ordV
        have := HL.out.len
        have := HR.out.len
        rw [List.append_assoc, List.getElem?_append_right (by rw [List.length_append]; show 7 + _ ≤ _; omega), List.getElem?_append_left (by rw [List.length_append]; show 7 + p.l.n + j - (7 + _) < _; omega), List.length_append]
        show ys2[7 + p.l.n + j - (7 + ys1.length)]? = _
        congr 1
        omega) i hi
    have hlv : Hid ((ordV p ys1 ys2).length = p.l.n + p.r.n + 9) := by
      show _ = _
      unfold ordV
      simp only [List.length_append, HL.out.len, HR.out.len, List.length_cons, List.length_nil]
      omega
    have hpx : (ordV p ys1 ys2)[7 + p.l.n + p.r.n]? = some p.x.v := by
      unfold ordV
      have := HL.out.len
      have := HR.out.len
      rw [List.getElem?_append_right (by rw [List.length_append, List.length_append]; show 7 + _ + _ ≤ _; omega), List.length_append, List.length_append]
      show [p.x.v, p.y.v][7 + p.l.n + p.r.n - (7 + ys1.length + ys2.length)]? = _
      rw [show 7 + p.l.n + p.r.n - (7 + ys1.length + ys2.length) = 0 by omega]
      rfl
    have hpy : (ordV p ys1 ys2)[7 + p.l.n + p.r.n + 1]? = some p.y.v := by
      unfold ordV
      have := HL.out.len
      have := HR.out.len
      rw [List.getElem?_append_right (by rw [List.length_append, List.length_append]; show 7 + _ + _ ≤ _; omega), List.length_append, List.length_append]
      show [p.x.v, p.y.v][7 + p.l.n + p.r.n + 1 - (7 + ys1.length + ys2.length)]? = _
      rw [show 7 + p.l.n + p.r.n + 1 - (7 + ys1.length + ys2.length) = 1 by omega]
      rfl
    obtain ⟨bx, xx, cx⟩ := part_conv P3 _ p.x hpx
    obtain ⟨by', xy, cy⟩ := part_conv P3 _ p.y hpy
    obtain ⟨tx, htx⟩ : ∃ t : ByteArray, t = ⟨bx⟩ := ⟨_, rfl⟩
    obtain ⟨ty, hty⟩ : ∃ t : ByteArray, t = ⟨by'⟩ := ⟨_, rfl⟩
    have zx : tx.size ≤ 33 := by rw [htx]; exact good_le hG.out xx
    have zy : ty.size ≤ 33 := by rw [hty]; exact good_le hG.out xy
    have HXY : Hid (∀ T : ByteArray, T = ⟨catI p.l.n BB (7 + p.l.n + p.r.n)⟩ → T ++ tx ++ ty = ⟨catI p.l.n BB (p.l.n + p.r.n + 9)⟩) := fun T hT => by
      have := catT_succ (catT_succ hT htx xx) hty xy
      rw [this, show 7 + p.l.n + p.r.n + 1 + 1 = p.l.n + p.r.n + 9 by omega]
    rw [← htx] at cx
    rw [← hty] at cy
    rw [hv] at cx cy
    have n2' : p.r.n ≤ 6 := by have := hG.out.1; omega
    have HV := Hid.mkP hv
    clear xa xb xc xd xe xf xg hta htb htc htd hte htf htg ht0 b3 b13 b03 P3 hW2 hW3 HC xx xy htx hty hpx hpy hv
    go_wp2_with (first | (refine wpList_opP (v := .slice (some ⟨w2.heap.size, 0, none⟩) 1 1) (w' := w3) rfl (.buildSlice 22 1 #[(0, .tmp 16)]) rfl ?_ ?_; (rw [← hw3.out]; kernel_rfl)) | fail)
    have zT : (t0 ++ ta ++ tb ++ tc ++ td ++ te ++ tf ++ tg).size ≤ 232 := by
      simp only [ByteArray.size_append]
      omega
    obtain ⟨T7, hT7⟩ : ∃ T : ByteArray, T = t0 ++ ta ++ tb ++ tc ++ td ++ te ++ tf ++ tg := ⟨_, rfl⟩
    rw [← hT7] at zT H7 ⊢
    clear hT7 ca cb cc cd ce cf cg cv0 k0 k1 k2 k3 k4 k5 k6
    go_loopg [5, 6] p.l.n (fun gk s5 s6 wr => ∃ (i : Nat) (T : ByteArray), i + gk = p.l.n ∧ s6 = .int .i64 (i : Int) ∧ s5 = .string T ∧ T.size ≤ 232 + 33 * i ∧ w3 = wr ∧ Hid (T = ⟨catI p.l.n BB (7 + i)⟩))
    case atStart => exact ⟨0, T7, by omega, rfl, rfl, zT, rfl, H7⟩
    case round =>
      obtain ⟨i, T, hi, rfl, rfl, hTs, rfl, KT⟩ := hrel
      by_cases him : i < p.l.n
      · have him' : (i : Int) < (p.l.n : Int) := by omega
        obtain ⟨⟨qx, nx, cxx⟩, B, x1, x2, x3, x4⟩ := HEL.out i him
        obtain ⟨tB, htB⟩ : ∃ t : ByteArray, t = ⟨B⟩ := ⟨_, rfl⟩
        have zB : tB.size ≤ 33 := by rw [htB]; exact good_le hG.out x2
        rw [← htB] at x3
        have KT2 : Hid (T ++ tB = ⟨catI p.l.n BB (7 + (i + 1))⟩) := catT_succ KT.out htB x2
        have zT2 : (T ++ tB).size ≤ 232 + 33 * (i + 1) := by rw [ByteArray.size_append]; omega
        rw [x4] at k7
        have hix := idxO bl ol p.l.n p.l.c i him
        rw [HV.out] at x1 x3
        dsimp only at x1 x3
        clear x2 htB KT x4
        go_wp2
        go_roundg (gk - 1)
        case measure => omega
        case rel => exact ⟨i + 1, T ++ tB, by omega, rfl, rfl, zT2, rfl, KT2⟩
      · have him' : ¬ (i : Int) < (p.l.n : Int) := by omega
        have KT1 : Hid (T = ⟨catI p.l.n BB (7 + p.l.n + 0)⟩) := by
          have e : i = p.l.n := by omega
          rw [e] at KT
          exact KT
        have zT1 : T.size ≤ 430 := by omega
        clear KT
        go_wp2
        go_loopg [5, 7] p.r.n (fun gk s5 s7 wr => ∃ (i : Nat) (T : ByteArray), i + gk = p.r.n ∧ s7 = .int .i64 (i : Int) ∧ s5 = .string T ∧ T.size ≤ 430 + 33 * i ∧ w3 = wr ∧ Hid (T = ⟨catI p.l.n BB (7 + p.l.n + i)⟩))
        case atStart => exact ⟨0, T, by omega, rfl, rfl, zT1, rfl, KT1⟩
        case round =>
          clear KT1 zT1 hTs
          obtain ⟨j, T, hj, rfl, rfl, hTs, rfl, KT⟩ := hrel
          by_cases hjm : j < p.r.n
          · have hjm' : (j : Int) < (p.r.n : Int) := by omega
            obtain ⟨⟨qx, nx, cxx⟩, B, x1, x2, x3, x4⟩ := HER.out j hjm
            obtain ⟨tB, htB⟩ : ∃ t : ByteArray, t = ⟨B⟩ := ⟨_, rfl⟩
            have zB : tB.size ≤ 33 := by rw [htB]; exact good_le hG.out x2
            rw [← htB] at x3
            have KT2 : Hid (T ++ tB = ⟨catI p.l.n BB (7 + p.l.n + (j + 1))⟩) := catT_succ KT.out htB x2
            have zT2 : (T ++ tB).size ≤ 430 + 33 * (j + 1) := by rw [ByteArray.size_append]; omega
            rw [x4] at k8
            have hix := idxO br or p.r.n p.r.c j hjm
            rw [HV.out] at x1 x3
            dsimp only at x1 x3
            clear x2 htB KT x4
            go_wp2
            go_roundg (p.r.n - (j + 1))
            case measure => omega
            case rel => exact ⟨j + 1, T ++ tB, by omega, rfl, rfl, zT2, rfl, KT2⟩
          · have hjm' : ¬ (j : Int) < (p.r.n : Int) := by omega
            have KT1 : Hid (T ++ tx ++ ty = ⟨catI p.l.n BB (p.l.n + p.r.n + 9)⟩) := by
              have e : j = p.r.n := by omega
              rw [e] at KT
              exact HXY.out T KT.out
            clear KT
            go_wp2
            go_ret2
            exact ⟨HB3.out, Or.inl ⟨hG.out, congrArg (fun x => Ending.returned (.tuple #[.string x, .int .i64 0])) KT1.out⟩⟩
end Go.Proofs.Ytboigmhioojenaa
namespace Go.Proofs.Ytboigmhioojenaa
open Go.RowKit Go.Sort Go.Deep
def fillQ (i j : Nat) : UInt8 := UInt8.ofNat ((i * 37 + j) % 253) ^^^ 90
theorem fillQ_int (i j : Nat) : bits .xor .u8 (((i : Int) * 37 + (j : Int)) % 253) 90 = SP.ub (fillQ i j) := by
  have H : ∀ j : Fin 253, bits .xor .u8 (j.val : Int) 90 = SP.ub (UInt8.ofNat j.val ^^^ 90) := by decide +kernel
  have := H ⟨(i * 37 + j) % 253, Nat.mod_lt _ (by decide)⟩
  have e : (((i * 37 + j) % 253 : Nat) : Int) = ((i : Int) * 37 + (j : Int)) % 253 := by omega
  simp only [e] at this
  exact this
theorem ubQ_succ (x : UInt8) : IntKind.u8.wrap (SP.ub x + 1) = SP.ub (x + 1) := by
  have H : ∀ j : Fin 256, IntKind.u8.wrap ((j.val : Int) + 1) = (((UInt8.ofNat j.val + 1).toNat : Nat) : Int) := by decide +kernel
  have := H ⟨x.toNat, x.toNat_lt⟩
  unfold SP.ub
  simp only [UInt8.ofNat_toNat] at this
  exact this
/-- What has grown of b, list i, behind j steps. -/
def flQ (b : SP.Bs) (i : Nat) : Nat → SP.Bs
  | 0 => b
  | j + 1 => flQ b i j ++ #[fillQ i j]
theorem flQ_size (b : SP.Bs) (i : Nat) : ∀ j, (flQ b i j).size = b.size + j
  | 0 => rfl
  | j + 1 => by rw [flQ, Array.size_append, flQ_size b i j]; rfl
theorem arr_front (a x : SP.Bs) (k : Nat) (h : k < a.size) : (a ++ x)[k]! = a[k]! := by
  rw [getElem!_pos (a ++ x) k (by rw [Array.size_append]; omega), getElem!_pos a k h, Array.getElem_append_left h]
theorem flQ_low (b : SP.Bs) (i k : Nat) (hk : k < b.size) : ∀ j, (flQ b i j)[k]! = b[k]!
  | 0 => rfl
  | j + 1 => by rw [flQ, arr_front _ _ _ (by rw [flQ_size]; omega), flQ_low b i k hk j]
theorem flQ_high (b : SP.Bs) (i k : Nat) : ∀ j, k < j → (flQ b i j)[b.size + k]! = fillQ i k
  | 0, h => absurd h (by omega)
  | j + 1, h => by
    rw [flQ]
    by_cases e : k = j
    · subst e
      rw [getElem!_pos (flQ b i k ++ #[fillQ i k]) (b.size + k) (by rw [Array.size_append, flQ_size]; show _ < _ + 1; omega), Array.getElem_append_right (by rw [flQ_size]; omega)]
      simp [flQ_size]
    · rw [arr_front _ _ _ (by rw [flQ_size]; omega), flQ_high b i k j (by omega)]
theorem flQ_app (b : SP.Bs) (i j : Nat) : ∃ x, flQ b i j = b ++ x := by
  induction j with
  | zero => exact ⟨#[], by rw [Array.append_empty]; rfl⟩
  | succ j ih =>
    obtain ⟨x, hx⟩ := ih
    exact ⟨x ++ #[fillQ i j], by rw [flQ, hx, Array.append_assoc]⟩
/-- The first k bytes, each one more. -/
def incQ (b : SP.Bs) : Nat → SP.Bs
  | 0 => b
  | k + 1 => (incQ b k).setIfInBounds k (b[k]! + 1)
theorem incQ_size (b : SP.Bs) : ∀ k, (incQ b k).size = b.size
  | 0 => rfl
  | k + 1 => by rw [incQ, Array.size_setIfInBounds, incQ_size b k]
theorem incQ_at (b : SP.Bs) : ∀ k j, k ≤ b.size → j < b.size → (incQ b k)[j]! = if j < k then b[j]! + 1 else b[j]!
  | 0, j, _, _ => by simp [incQ]
  | k + 1, j, hk, hj => by
    have hj' : j < ((incQ b k).setIfInBounds k (b[k]! + 1)).size := by rw [Array.size_setIfInBounds, incQ_size]; exact hj
    rw [incQ, getElem!_pos _ j hj', Array.getElem_setIfInBounds (by rw [incQ_size]; exact hj)]
    by_cases e : k = j
    · subst e
      rw [if_pos rfl, if_pos (by omega)]
    · rw [if_neg e, ← getElem!_pos (incQ b k) j (by rw [incQ_size]; exact hj), incQ_at b k j (by omega) hj]
      by_cases h : j < k
      · rw [if_pos h, if_pos (by omega)]
      · rw [if_neg h, if_neg (by omega)]
def T2Q (T : Nat → SP.Bs) (i k : Nat) : Nat → SP.Bs := fun j => if j < i then incQ (T j) (T j).size else if j = i then incQ (T j) k else T j
theorem T2Q_zero (T : Nat → SP.Bs) : T2Q T 0 0 = T := by
  funext j
  unfold T2Q
  rw [if_neg (by omega)]
  by_cases h : j = 0
  · rw [if_pos h]; rfl
  · rw [if_neg h]
theorem T2Q_next (T : Nat → SP.Bs) (i : Nat) : T2Q T i (T i).size = T2Q T (i + 1) 0 := by
  funext j
  unfold T2Q
  by_cases h : j < i
  · rw [if_pos h, if_pos (by omega)]
  · rw [if_neg h]
    by_cases h2 : j = i
    · rw [if_pos h2, if_pos (by omega), h2]
    · rw [if_neg h2, if_neg (by omega)]
      by_cases h3 : j = i + 1
      · rw [if_pos h3]; rfl
      · rw [if_neg h3]
theorem T2Q_own (T : Nat → SP.Bs) (i k : Nat) : T2Q T i k i = incQ (T i) k := by unfold T2Q; rw [if_neg (by omega), if_pos rfl]
theorem T2Q_else (T : Nat → SP.Bs) (i k j : Nat) (h : j ≠ i) : T2Q T i (k + 1) j = T2Q T i k j := by
  unfold T2Q
  rw [if_neg h, if_neg h]
theorem T2Q_size (T : Nat → SP.Bs) (i k j : Nat) : (T2Q T i k j).size = (T j).size := by
  unfold T2Q
  split
  · exact incQ_size _ _
  · split
    · exact incQ_size _ _
    · rfl
theorem T2Q_all (T : Nat → SP.Bs) (n j : Nat) (h : j < n) : T2Q T n 0 j = incQ (T j) (T j).size := by unfold T2Q; rw [if_pos h]
theorem bC_set (b : SP.Bs) (k : Nat) (x : UInt8) : bC (b.setIfInBounds k x) = (bC b).set k (SP.encB x) := by
  unfold bC
  rw [Array.toList_setIfInBounds, List.map_set]
/-- What is laid down of the lists, at first. -/
structure ARow (w : World) (B kl n : Nat) (V : Nat → Value) : Prop where
  cell : ∀ j, j < n → w.cell? ⟨kl, j, none⟩ = some (V j)
  kb : 0 < n → kl < w.heap.size
  ne : ∀ j, j < n → (V j).ownBlock ≠ some kl
  inj : ∀ j j', j < n → j' < n → j ≠ j' → ∀ g, (V j).ownBlock = some g → (V j').ownBlock ≠ some g
  lt : ∀ j, j < n → ∀ g, (V j).ownBlock = some g → B ≤ g ∧ g < w.heap.size
/-- While they are written. -/
structure AS (w W : World) (B kl n : Nat) (V : Nat → Value) (T : Nat → SP.Bs) (sv : Value) (m : Nat) (S : Nat → SP.Bs) : Prop where
  bl : Below B w W
  sz : w.heap.size ≤ W.heap.size
  kl0 : 0 < n → W.heap[kl]? = w.heap[kl]?
  own : ∀ j, j < n → W.ownsRow B 5 1 (V j) (T j).size (bC (T j))
  sl : W.ownsRow w.heap.size 9 1 sv m ((List.range m).map fun j => .string ⟨S j⟩)
theorem AS.cell {w W : World} {B kl n m : Nat} {V : Nat → Value} {T S : Nat → SP.Bs} {sv : Value} (h : AS w W B kl n V T sv m S) (hA : ARow w B kl n V) {j : Nat} (hj : j < n) : W.cell? ⟨kl, j, none⟩ = some (V j) := by
  have : W.cell? ⟨kl, j, none⟩ = w.cell? ⟨kl, j, none⟩ := by unfold World.cell?; rw [h.kl0 (by omega)]
  rw [this]
  exact hA.cell j hj
theorem AS.drewN {w W : World} {B kl n m : Nat} {V : Nat → Value} {T S : Nat → SP.Bs} {sv : Value} (h : AS w W B kl n V T sv m S) (q : Nat) : AS w (W.drewN q) B kl n V T sv m S := ⟨⟨h.bl.os, h.bl.tape, h.bl.output, h.bl.size, h.bl.block⟩, h.sz, h.kl0, h.own, h.sl⟩
theorem AS.drew {w W : World} {B kl n m : Nat} {V : Nat → Value} {T S : Nat → SP.Bs} {sv : Value} (h : AS w W B kl n V T sv m S) : AS w W.drew B kl n V T sv m S := ⟨⟨h.bl.os, h.bl.tape, h.bl.output, h.bl.size, h.bl.block⟩, h.sz, h.kl0, h.own, h.sl⟩
/-- A text is appended to the texts. -/
theorem infoST : (Try.prog.info? 9).map (fun i => (i.size, i.bytes, i.zero.map fun z => z.cells.size)) = some (1, 16, some 1) := by kernel_rfl
theorem undST : Try.prog.underlying 53 = some (.slice 9) := by kernel_rfl
theorem AS.push {w W : World} {B kl n m : Nat} {V : Nat → Value} {T S : Nat → SP.Bs} {sv : Value} (h : AS w W B kl n V T sv m S) (hA : ARow w B kl n V) (hB : B ≤ w.heap.size) (hm : m ≤ 1000000) {x : ByteArray} (hx : x = ⟨S m⟩) :
    ∃ v' W', (Builtin.append_ #[53, 53] 53 #[sv, .slice (some ⟨W.heap.size, 0, none⟩) 1 1]).run Try.prog (W.alloc (.cells #[.string x] 9)) = .ok v' W' ∧ AS w W' B kl n V T v' (m + 1) S := by
  have hs := h.sz
  obtain ⟨v', W', r1, r2, r3⟩ := own_app1 undST infoST (by omega) h.sl (x := .string x) rfl (by omega) hs
  have hsv : ∀ g, g < w.heap.size → sv.ownBlock ≠ some g := fun g hg e => by
    have := (own_lt h.sl e).1
    omega
  have hk : ∀ g, g < w.heap.size → W'.heap[g]? = W.heap[g]? := fun g hg => r3.keep g (by omega) (hsv g hg)
  refine ⟨v', W', r1, ⟨by rw [r3.os, h.bl.os], by rw [r3.tape, h.bl.tape], by rw [r3.output, h.bl.output], Nat.le_trans h.bl.size r3.size, fun g hg => ?_⟩, by have := r3.size; omega, fun hn => ?_, fun j hj => ?_, ?_⟩
  · rw [hk g (by omega), h.bl.block g hg]
  · rw [hk kl (hA.kb hn), h.kl0 hn]
  · exact own_keep (h.own j hj) (fun g hg => hk g (hA.lt j hj g hg).2)
  · rw [List.range_succ, List.map_append]
    rw [hx] at r2
    exact r2
/-- A byte is written. -/
theorem AS.set {w W : World} {B kl n m i k g c : Nat} {V : Nat → Value} {T S : Nat → SP.Bs} {sv : Value} {x : UInt8} (h : AS w W B kl n V (T2Q T i k) sv m S) (hA : ARow w B kl n V) (hi : i < n) (hv : V i = .slice (some ⟨g, 0, none⟩) (T i).size c) (hx : x = (T i)[k]! + 1) : AS w (W.setCell ⟨g, k, none⟩ (SP.encB x)) B kl n V (T2Q T i (k + 1)) sv m S := by
  have ho := h.own i hi
  have hg : (V i).ownBlock = some g := by rw [hv]; rfl
  obtain ⟨g1, g2⟩ := hA.lt i hi g hg
  have hsz := T2Q_size T i k i
  rw [hv] at ho
  rw [hsz] at ho
  obtain ⟨s1, s2⟩ := ho.stored k (SP.encB x)
  have hk : ∀ y, y < W.heap.size → y ≠ g → (W.setCell ⟨g, k, none⟩ (SP.encB x)).heap[y]? = W.heap[y]? := fun y hy hne => s2.block y hy (fun e => hne (Option.some.inj e))
  have hs := h.sz
  refine ⟨⟨by rw [s2.os, h.bl.os], by rw [s2.tape, h.bl.tape], by rw [s2.output, h.bl.output], Nat.le_trans h.bl.size s2.size, fun y hy => ?_⟩, Nat.le_trans hs s2.size, fun hn => ?_, fun j hj => ?_, ?_⟩
  · rw [hk y (by omega) (by omega), h.bl.block y hy]
  · have := hA.kb hn
    rw [hk kl (by omega) (fun e => hA.ne i hi (by rw [hg, e])), h.kl0 hn]
  · by_cases e : j = i
    · subst e
      rw [T2Q_own, incQ, bC_set, Array.size_setIfInBounds, incQ_size, hv, ← hx]
      rw [T2Q_own] at s1
      exact s1
    · rw [T2Q_else _ _ _ _ e]
      refine own_keep (h.own j hj) (fun y hy => hk y (by have := (hA.lt j hj y hy).2; omega) (fun e2 => ?_))
      rw [e2] at hy
      exact hA.inj j i hj hi e g hy hg
  · refine own_keep h.sl (fun y hy => ?_)
    have := own_lt h.sl hy
    exact hk y this.2.1 (by omega)
end Go.Proofs.Ytboigmhioojenaa
namespace Go.Proofs.Ytboigmhioojenaa
open Go.RowKit Go.Sort Go.Deep
theorem RV.typ {W : World} {v : Value} {b : SP.Bs} {g : Nat} (h : RV W v b) (hg : v.ownBlock = some g) : g < W.heap.size ∧ ∃ cur, W.heap[g]? = some (.cells cur 5 (0, 0)) := by
  rcases h with ⟨-, rfl⟩ | ⟨g', c, rfl, cur, h1, -⟩
  · cases hg
  · obtain rfl : g' = g := Option.some.inj hg
    refine ⟨?_, cur, h1⟩
    by_cases hg : g' < W.heap.size
    · exact hg
    · rw [Array.getElem?_eq_none (by omega)] at h1; cases h1
/-- While they grow: i lists are grown, rows from o on are as they were. -/
structure AG (w W : World) (B kl n : Nat) (V : Nat → Value) (T : Nat → SP.Bs) (sv : Value) (S : Nat → SP.Bs) (gv : Value) (i o : Nat) (U : Nat → Value) : Prop where
  bl : Below B w W
  sz : w.heap.size ≤ W.heap.size
  kl0 : 0 < n → W.heap[kl]? = w.heap[kl]?
  own : ∀ j, o ≤ j → j < n → W.ownsRow B 5 1 (V j) (T j).size (bC (T j))
  rv : ∀ j, j < n → RV W (V j) (T j)
  sl : W.ownsRow w.heap.size 9 1 sv n ((List.range n).map fun j => .string ⟨S j⟩)
  gl : W.ownsRow w.heap.size 22 1 gv i ((List.range i).map U)
  uv : ∀ j, j < i → RV W (U j) (flQ (T j) j 80)
  ud : ∀ j, j < i → (U j).ownBlock = (V j).ownBlock ∨ ∃ g, (U j).ownBlock = some g ∧ w.heap.size ≤ g
variable {w W : World} {B kl n i o : Nat} {V U : Nat → Value} {T S : Nat → SP.Bs} {sv gv u : Value}
theorem AG.cell (h : AG w W B kl n V T sv S gv i o U) (hA : ARow w B kl n V) {j : Nat} (hj : j < n) : W.cell? ⟨kl, j, none⟩ = some (V j) := by
  have : W.cell? ⟨kl, j, none⟩ = w.cell? ⟨kl, j, none⟩ := by unfold World.cell?; rw [h.kl0 (by omega)]
  rw [this]
  exact hA.cell j hj
theorem AG.drewN (h : AG w W B kl n V T sv S gv i o U) (q : Nat) : AG w (W.drewN q) B kl n V T sv S gv i o U := ⟨⟨h.bl.os, h.bl.tape, h.bl.output, h.bl.size, h.bl.block⟩, h.sz, h.kl0, h.own, h.rv, h.sl, h.gl, h.uv, h.ud⟩
theorem AG.begin (h : AS w W B kl n V T sv n S) : AG w W B kl n V T sv S (.slice none 0 0) 0 0 U :=
  ⟨h.bl, h.sz, h.kl0, fun j _ hj => h.own j hj, fun j hj => RV.of (h.own j hj), h.sl, ⟨rfl, Or.inl ⟨rfl, rfl⟩⟩, fun j hj => absurd hj (Nat.not_lt_zero _), fun j hj => absurd hj (Nat.not_lt_zero _)⟩
/-- While list i grows. -/
structure AJ (w W : World) (B kl n : Nat) (V : Nat → Value) (T : Nat → SP.Bs) (sv : Value) (S : Nat → SP.Bs) (gv : Value) (i : Nat) (U : Nat → Value) (u : Value) (j : Nat) : Prop where
  ag : AG w W B kl n V T sv S gv i (i + 1) U
  cu : W.ownsRow B 5 1 u ((T i).size + j) (bC (flQ (T i) i j))
  cd : u.ownBlock = (V i).ownBlock ∨ ∃ g, u.ownBlock = some g ∧ w.heap.size ≤ g
  un : ∀ k, k < i → ∀ g, (U k).ownBlock = some g → u.ownBlock ≠ some g
theorem AJ.begin (h : AG w W B kl n V T sv S gv i i U) (hA : ARow w B kl n V) (hi : i < n) : AJ w W B kl n V T sv S gv i U (V i) 0 := by
  refine ⟨⟨h.bl, h.sz, h.kl0, fun j h1 h2 => h.own j (by omega) h2, h.rv, h.sl, h.gl, h.uv, h.ud⟩, h.own i (Nat.le_refl _) hi, Or.inl rfl, fun k hk g hg e => ?_⟩
  have hl := hA.lt i hi g e
  rcases h.ud k hk with h1 | ⟨g', h1, h2⟩
  · rw [h1] at hg
    exact hA.inj k i (by omega) hi (by omega) g hg e
  · rw [h1] at hg
    have := Option.some.inj hg
    omega
theorem AJ.push {j : Nat} (h : AJ w W B kl n V T sv S gv i U u j) (hA : ARow w B kl n V) (hi : i < n) (hin : i < n) (hsz : (T i).size + j ≤ 1000000) (hB : B ≤ w.heap.size) {x : Value} (hx : x = SP.encB (fillQ i j)) :
    ∃ v' W', (Builtin.append_ #[22, 22] 22 #[u, .slice (some ⟨W.heap.size, 0, none⟩) 1 1]).run Try.prog (W.alloc (.cells #[x] 5)) = .ok v' W' ∧ AJ w W' B kl n V T sv S gv i U v' (j + 1) := by
  have a := h.ag
  have hs := a.sz
  obtain ⟨v', W', r1, r2, r3⟩ := own_app1 undB5 infoU8 (by omega) h.cu (x := x) (by rw [hx]; rfl) (by omega) (by omega)
  have hcu' : W'.ownsRow B 5 1 v' ((T i).size + (j + 1)) (bC (flQ (T i) i (j + 1))) := by
    rw [flQ, bC_app]
    rw [hx] at r2
    exact r2
  have ut : ∀ g, u.ownBlock = some g → B ≤ g ∧ g < W.heap.size ∧ ∃ cur, W.heap[g]? = some (.cells cur 5 (0, 0)) := fun g hg => own_lt h.cu hg
  have uV : ∀ k, k < n → k ≠ i → ∀ g, (V k).ownBlock = some g → u.ownBlock ≠ some g := fun k hk hne g hg e => by
    rcases h.cd with h1 | ⟨g', h1, h2⟩
    · rw [h1] at e
      exact hA.inj k i hk hi hne g hg e
    · rw [h1] at e
      have e' := Option.some.inj e
      have := (hA.lt k hk g hg).2
      omega
  have hrs := r3.size
  refine ⟨v', W', r1, ⟨⟨⟨by rw [r3.os, a.bl.os], by rw [r3.tape, a.bl.tape], by rw [r3.output, a.bl.output], Nat.le_trans a.bl.size r3.size, fun g hg => ?_⟩, by omega, fun hn => ?_, fun k h1 h2 => ?_, fun k hk => ?_, ?_, ?_, fun k hk => ?_, a.ud⟩, hcu', ?_, fun k hk g hg => ?_⟩⟩
  · rw [r3.keep g (by omega) (fun e => by have := (ut g e).1; omega), a.bl.block g hg]
  · have hk := hA.kb hn
    rw [r3.keep kl (by omega) (fun e => by
      rcases h.cd with h1 | ⟨g', h1, h2⟩
      · exact hA.ne i hi (by rw [← h1]; exact e)
      · rw [h1] at e
        have := Option.some.inj e
        omega), a.kl0 hn]
  · exact own_keep (a.own k h1 h2) (fun g hg => r3.keep g (own_lt (a.own k h1 h2) hg).2.1 (uV k h2 (by omega) g hg))
  · by_cases e : k = i
    · subst e
      rcases r3.mv with h1 | ⟨-, h1⟩
      · by_cases hb : u.ownBlock = (V k).ownBlock
        · rcases id (a.rv k hk) with h2 | ⟨g, c, h2, -⟩
          · exact Or.inl h2
          · refine Or.inr ⟨g, c, h2, ?_⟩
            obtain ⟨x', hx'⟩ := flQ_app (T k) k (j + 1)
            have hv' : v'.ownBlock = some g := by rw [h1, hb, h2]; rfl
            have hR : RV W' v' (T k ++ x') := by
              rw [← hx']
              refine RV.of (base := B) ?_
              rw [flQ_size]
              exact hcu'
            rcases id hR with ⟨-, e⟩ | ⟨g2, c2, e, -⟩
            · rw [e] at hv'; cases hv'
            · rw [e] at hv' hR
              obtain rfl : g2 = g := Option.some.inj hv'
              exact RV.front hR
        · exact (a.rv k hk).keep (fun g hg => r3.keep g ((a.rv k hk).typ hg).1 (fun e => hb (by rw [e, hg])))
      · exact (a.rv k hk).keep (fun g hg => h1 g ((a.rv k hk).typ hg).1)
    · exact (a.rv k hk).keep (fun g hg => r3.keep g ((a.rv k hk).typ hg).1 (uV k hk e g hg))
  · refine own_keep a.sl (fun g hg => ?_)
    obtain ⟨-, g2, cur, g3⟩ := own_lt a.sl hg
    exact r3.keep g g2 (fun e => by
      obtain ⟨-, -, cur', e3⟩ := ut g e
      rw [g3] at e3
      injection e3 with e3
      injection e3 with _ e3 _
      cases e3)
  · refine own_keep a.gl (fun g hg => ?_)
    obtain ⟨-, g2, cur, g3⟩ := own_lt a.gl hg
    exact r3.keep g g2 (fun e => by
      obtain ⟨-, -, cur', e3⟩ := ut g e
      rw [g3] at e3
      injection e3 with e3
      injection e3 with _ e3 _
      cases e3)
  · exact (a.uv k hk).keep (fun g hg => r3.keep g ((a.uv k hk).typ hg).1 (h.un k hk g hg))
  · rcases r3.mv with h1 | ⟨⟨g, h1, h2⟩, -⟩
    · rw [h1]; exact h.cd
    · exact Or.inr ⟨g, h1, by omega⟩
  · rcases r3.mv with h1 | ⟨⟨g', h1, h2⟩, -⟩
    · rw [h1]; exact h.un k hk g hg
    · rw [h1]
      intro e
      have e' := Option.some.inj e
      have := ((a.uv k hk).typ hg).1
      omega
theorem AJ.done (h : AJ w W B kl n V T sv S gv i U u 80) (hA : ARow w B kl n V) (hi : i < n) (hn : i ≤ 1000000) (hB : B ≤ w.heap.size) :
    ∃ v' W', (Builtin.append_ #[23, 23] 23 #[gv, .slice (some ⟨W.heap.size, 0, none⟩) 1 1]).run Try.prog (W.alloc (.cells #[u] 22)) = .ok v' W' ∧ AG w W' B kl n V T sv S v' (i + 1) (i + 1) (fun k => if k = i then u else U k) := by
  have a := h.ag
  have hs := a.sz
  have hu : RV W u (flQ (T i) i 80) := by
    refine RV.of (base := B) ?_
    rw [flQ_size]
    exact h.cu
  obtain ⟨v', W', r1, r2, r3⟩ := own_app1 undBB infoBB (by omega) a.gl (x := u) (by
    obtain ⟨q, c, rfl⟩ := hu.slice
    rfl) (by omega) hs
  have gt : ∀ g, gv.ownBlock = some g → w.heap.size ≤ g ∧ g < W.heap.size ∧ ∃ cur, W.heap[g]? = some (.cells cur 22 (0, 0)) := fun g hg => own_lt a.gl hg
  have hrs := r3.size
  have old : ∀ g, g < w.heap.size → W'.heap[g]? = W.heap[g]? := fun g hg => r3.keep g (by omega) (fun e => by have := (gt g e).1; omega)
  have kp : ∀ {v : Value} {b : SP.Bs}, RV W v b → RV W' v b := fun hv => hv.keep (fun g hg => by
    obtain ⟨g1, cur, g2⟩ := hv.typ hg
    exact r3.keep g g1 (fun e => by
      obtain ⟨-, -, cur', e3⟩ := gt g e
      rw [g2] at e3
      injection e3 with e3
      injection e3 with _ e3 _
      cases e3))
  refine ⟨v', W', r1, ⟨⟨by rw [r3.os, a.bl.os], by rw [r3.tape, a.bl.tape], by rw [r3.output, a.bl.output], Nat.le_trans a.bl.size r3.size, fun g hg => ?_⟩, by omega, fun hn => ?_, fun k h1 h2 => ?_, fun k hk => kp (a.rv k hk), ?_, ?_, fun k hk => ?_, fun k hk => ?_⟩⟩
  · rw [old g (by omega), a.bl.block g hg]
  · rw [old kl (hA.kb hn), a.kl0 hn]
  · exact own_keep (a.own k h1 h2) (fun g hg => old g (hA.lt k h2 g hg).2)
  · refine own_keep a.sl (fun g hg => ?_)
    obtain ⟨-, g2, cur, g3⟩ := own_lt a.sl hg
    exact r3.keep g g2 (fun e => by
      obtain ⟨-, -, cur', e3⟩ := gt g e
      rw [g3] at e3
      injection e3 with e3
      injection e3 with _ e3 _
      cases e3)
  · rw [List.range_succ, List.map_append]
    have e1 : (List.range i).map (fun k => if k = i then u else U k) = (List.range i).map U := by
      refine List.map_congr_left fun k hk => ?_
      have := List.mem_range.1 hk
      rw [if_neg (by omega)]
    rw [e1]
    simp only [List.map_cons, List.map_nil, if_pos]
    exact r2
  · by_cases e : k = i
    · subst e
      rw [if_pos rfl]
      exact kp hu
    · rw [if_neg e]
      exact kp (a.uv k (by omega))
  · by_cases e : k = i
    · subst e
      rw [if_pos rfl]
      exact h.cd
    · rw [if_neg e]
      exact a.ud k (by omega)
end Go.Proofs.Ytboigmhioojenaa
namespace Go.Proofs.Ytboigmhioojenaa
open Go.RowKit Go.Sort Go.Deep
/-- Row p, as it is looked at. -/
structure LookQ (W : World) (kl gs gg p : Nat) (qv qu : Option Addr) (m cv cu : Nat) (s : ByteArray) (b b3 : SP.Bs) : Prop where
  cl : W.cell? ⟨kl, p, none⟩ = some (.slice qv m cv)
  cs : W.cell? ⟨gs, p, none⟩ = some (.string s)
  cg : W.cell? ⟨gg, p, none⟩ = some (.slice qu (m + 80) cu)
  hl : RV W (.slice qv m cv) b
  hg : RV W (.slice qu (m + 80) cu) b3
theorem LookQ.drewN {W : World} {kl gs gg p m cv cu : Nat} {qv qu : Option Addr} {s : ByteArray} {b b3 : SP.Bs} (h : LookQ W kl gs gg p qv qu m cv cu s b b3) (q : Nat) : LookQ (W.drewN q) kl gs gg p qv qu m cv cu s b b3 := ⟨h.cl, h.cs, h.cg, h.hl, h.hg⟩
theorem mixedQ : Try.prog.follows .mixedOrders = true := by kernel_rfl
theorem own_cellS {W : World} {base n g c : Nat} {e : TypeId} {xs : List Value} (h : W.ownsRow base e 1 (.slice (some ⟨g, 0, none⟩) n c) n xs) {j : Nat} {u : Value} (hu : xs[j]? = some u) : W.cell? ⟨g, j, none⟩ = some u := by
  have := h.cells (g := g) rfl j u hu
  rw [addP0, Nat.zero_add] at this
  exact this
theorem own_shape {W : World} {base n : Nat} {e : TypeId} {v : Value} {xs : List Value} (h : W.ownsRow base e 1 v n xs) (hn : 0 < n) : ∃ g c, v = .slice (some ⟨g, 0, none⟩) n c := by
  rcases h with ⟨-, ⟨-, h0⟩ | ⟨g, cap, cur, rfl, -⟩⟩
  · omega
  · exact ⟨g, cap, rfl⟩
set_option maxHeartbeats 4000000 in
set_option maxRecDepth 100000 in
theorem ApartQ (kl n c B : Nat) (q : Option Addr) (V : Nat → Value) (T : Nat → SP.Bs) (w : World) (hn : n ≤ 1000) (hq : 0 < n → q = some ⟨kl, 0, none⟩) (hA : ARow w B kl n V) (hO : ∀ j, j < n → w.ownsRow B 5 1 (V j) (T j).size (bC (T j))) (hT : ∀ j, j < n → (T j).size ≤ 100000) (hBw : B ≤ w.heap.size) :
    Calls Try.prog 12 #[.slice q n c] w (fun e w' => e = .returned (.bool true) ∧ Below B w w') := by
  have HA := Hid.mkP hA
  have HT := Hid.mkP hT
  have HQ := Hid.mkP hq
  have A0 : Hid (AS w w B kl n V T (.slice none 0 0) 0 T) := ⟨Below.refl _ _, Nat.le_refl _, fun _ => rfl, hO, ⟨rfl, Or.inl ⟨rfl, rfl⟩⟩⟩
  clear hA hO hq hT
  go_enter Try.func12, Try.ntmps12
  go_wp2
  go_loopg [3, 4] n (fun gk s3 s4 wr => ∃ (i : Nat) (sv : Value), i + gk = n ∧ sv = s3 ∧ s4 = .int .i64 (i : Int) ∧ Hid (AS w wr B kl n V T sv i T))
  case atStart => exact ⟨0, _, Nat.zero_add _, rfl, rfl, A0⟩
  case round =>
    clear A0
    obtain ⟨i, sv, hi, rfl, rfl, HS⟩ := hrel
    by_cases hlt : i < n
    · have hlt' : (i : Int) < (n : Int) := by omega
      obtain rfl := HQ.out (by omega)
      have hc := HS.out.cell HA.out hlt
      have hpt := (RV.of (HS.out.own i hlt)).pt
      obtain ⟨qv, cv, hv, -⟩ := id hpt
      rw [hv] at hc hpt
      have hcv := hpt.conv
      obtain ⟨v', w3, hap, hL3⟩ := HS.out.push HA.out hBw (by omega) (x := ⟨T i⟩) rfl
      have HL3 := Hid.mkP hL3
      generalize (⟨T i⟩ : ByteArray) = s at hcv hap
      generalize Array.size (T i) = m at hc hcv
      clear hL3 hpt hv HS
      go_wp2_with (at_builtin; refine Lib.wpList_append_run _ rfl _ _ 53 53 rfl _ _ rfl rfl _ _ hap ?_)
      go_roundg (gk - 1)
      case measure => omega
      case rel => exact ⟨i + 1, _, by omega, rfl, rfl, HL3⟩
    · have hge : ¬ (i : Int) < (n : Int) := by omega
      obtain rfl : i = n := by omega
      have HS1 : Hid (AS w wr B kl i V (T2Q T 0 0) sv i T) := by rw [T2Q_zero]; exact HS
      clear HS hi hlt
      go_wp2
      clear hge
      go_loopg [5] i (fun gk s5 wr => ∃ k : Nat, k + gk = i ∧ s5 = .int .i64 (k : Int) ∧ Hid (AS w wr B kl i V (T2Q T k 0) sv i T))
      case atStart => exact ⟨0, Nat.zero_add _, rfl, HS1⟩
      case round =>
        clear HS1
        obtain ⟨k, hk, rfl, HS1⟩ := hrel
        by_cases hlt : k < i
        · have hlt' : (k : Int) < (i : Int) := by omega
          obtain rfl := HQ.out (by omega)
          have hm : (T k).size ≤ 100000 := HT.out k hlt
          obtain ⟨m, hmm⟩ : ∃ m, Hid ((T k).size = m) := ⟨_, rfl⟩
          rw [hmm.out] at hm
          obtain ⟨qv, cv, hv⟩ := (RV.of (HS1.out.own k hlt)).slice
          rw [T2Q_size, hmm.out] at hv
          have Hv := Hid.mkP hv
          clear hv
          go_wp2
          go_loopg [6] m (fun gj s6 wr => ∃ j : Nat, j + gj = m ∧ s6 = .int .i64 (j : Int) ∧ Hid (AS w wr B kl i V (T2Q T k j) sv i T))
          case atStart => exact ⟨0, Nat.zero_add _, rfl, HS1⟩
          case round =>
            clear HS1
            obtain ⟨j, hj, rfl, HS1⟩ := hrel
            have hc := HS1.out.cell HA.out hlt
            rw [Hv.out] at hc
            by_cases hj2 : j < m
            · have hj3 : (j : Int) < (m : Int) := by omega
              obtain ⟨x, hx⟩ : ∃ x, (T k)[j]! = x := ⟨_, rfl⟩
              obtain ⟨g, c0, e1, hb0, hf0⟩ := (RV.of (HS1.out.own k hlt)).at (k := j) (by rw [T2Q_size, hmm.out]; exact hj2)
              rw [T2Q_own, incQ_at _ _ _ (by rw [hmm.out]; omega) (by rw [hmm.out]; omega), if_neg (by omega), hx] at hb0
              have e2 : V k = .slice (some ⟨g, 0, none⟩) (T k).size c0 := by rw [e1, T2Q_size]
              rw [Hv.out, hmm.out] at e2
              injection e2 with e3 _ e4
              subst e3 e4
              have hw := ubQ_succ x
              have HS2 : Hid (AS w (wr.setCell ⟨g, j, none⟩ (SP.encB (x + 1))) B kl i V (T2Q T k (j + 1)) sv i T) := HS1.out.set HA.out hlt (by rw [Hv.out, hmm.out]) (by rw [hx])
              unfold SP.encB at hb0 HS2
              clear HS1 hx e1
              generalize SP.ub x = u at hb0 hw
              go_wp2_with fail
              go_still_tail 14, mixedQ
              go_wp2
              go_roundg (gk - 1)
              case measure => omega
              case rel => exact ⟨j + 1, by omega, rfl, HS2.out.drew⟩
            · have hj3 : ¬ (j : Int) < (m : Int) := by omega
              obtain rfl : j = m := by omega
              have HS2 : Hid (AS w wr B kl i V (T2Q T (k + 1) 0) sv i T) := by
                rw [← T2Q_next, hmm.out]
                exact HS1
              clear HS1
              go_wp2
              go_roundg (i - (k + 1))
              case measure => omega
              case rel => exact ⟨k + 1, by omega, rfl, HS2⟩
        · have hge : ¬ (k : Int) < (i : Int) := by omega
          obtain rfl : k = i := by omega
          have HG0 : Hid (AG w wr B kl k V (T2Q T k 0) sv T (.slice none 0 0) 0 0 (fun _ => undef)) := AG.begin HS1.out
          clear hlt hk HS1
          go_wp2
          clear hge
          go_loopg [7, 8] k (fun gk s7 s8 wr => ∃ (i : Nat) (gv : Value) (U : Nat → Value), i + gk = k ∧ gv = s7 ∧ s8 = .int .i64 (i : Int) ∧ Hid (AG w wr B kl k V (T2Q T k 0) sv T gv i i U))
          case atStart => exact ⟨0, _, _, Nat.zero_add _, rfl, rfl, HG0⟩
          case round =>
            clear HG0
            obtain ⟨i, gv, U, hi, rfl, rfl, HG1⟩ := hrel
            by_cases hlt : i < k
            · have hlt' : (i : Int) < (k : Int) := by omega
              obtain rfl := HQ.out (by omega)
              have hc := HG1.out.cell HA.out hlt
              obtain ⟨qv, cv, hv⟩ := (HG1.out.rv i hlt).slice
              have HJ0 : Hid (AJ w wr B kl k V (T2Q T k 0) sv T gv i U (V i) 0) := AJ.begin HG1.out HA.out hlt
              have hm : (T2Q T k 0 i).size ≤ 100000 := by rw [T2Q_size]; exact HT.out i hlt
              obtain ⟨m, Hm⟩ : ∃ m, Hid ((T2Q T k 0 i).size = m) := ⟨_, rfl⟩
              rw [hv, Hm.out] at hc HJ0
              rw [Hm.out] at hm
              clear hv HG1
              go_wp2
              clear hc
              go_loopg [9, 10] 80 (fun gk s9 s10 wr => ∃ (j : Nat) (bv : Value), j + gk = 80 ∧ bv = s9 ∧ s10 = .int .i64 (j : Int) ∧ Hid (AJ w wr B kl k V (T2Q T k 0) sv T gv i U bv j))
              case atStart => exact ⟨0, _, Nat.zero_add _, rfl, rfl, HJ0⟩
              case round =>
                clear HJ0
                obtain ⟨j, bv, hj, rfl, rfl, HJ⟩ := hrel
                by_cases hj2 : j < 80
                · have hj3 : (j : Int) < 80 := by omega
                  have hf := fillQ_int i j
                  obtain ⟨v', w3, hap, hL3⟩ := HJ.out.push HA.out hlt hlt (by rw [Hm.out]; omega) hBw (x := .int .u8 (SP.ub (fillQ i j))) rfl
                  have HL3 := Hid.mkP hL3
                  clear hL3 HJ
                  generalize SP.ub (fillQ i j) = u at hf hap
                  go_wp2_with (at_builtin; refine Lib.wpList_append_run _ rfl _ _ 22 22 rfl _ _ rfl rfl _ _ hap ?_)
                  go_roundg (gk - 1)
                  case measure => omega
                  case rel => exact ⟨j + 1, _, by omega, rfl, rfl, HL3⟩
                · have hj3 : ¬ (j : Int) < 80 := by omega
                  obtain rfl : j = 80 := by omega
                  obtain ⟨qb, cb, hbv⟩ : ∃ q c, bv = .slice q (m + 80) c := by
                    have h1 : RV wr bv (flQ (T2Q T k 0 i) i 80) := by
                      refine RV.of (base := B) ?_
                      rw [flQ_size]
                      exact HJ.out.cu
                    obtain ⟨q, c, h2⟩ := h1.slice
                    rw [flQ_size, Hm.out] at h2
                    exact ⟨q, c, h2⟩
                  subst hbv
                  obtain ⟨v', w3, hap, hL3⟩ := HJ.out.done HA.out hlt (by omega) hBw
                  have HL3 := Hid.mkP hL3
                  clear hL3 HJ
                  go_wp2_with (at_builtin; refine Lib.wpList_append_run _ rfl _ _ 23 23 rfl _ _ rfl rfl _ _ hap ?_)
                  go_roundg (k - (i + 1))
                  case measure => omega
                  case rel => exact ⟨i + 1, _, _, by omega, rfl, rfl, HL3⟩
            · have hge : ¬ (i : Int) < (k : Int) := by omega
              obtain rfl : i = k := by omega
              clear hlt hi
              go_wp2
              clear hge
              go_loopg [11] i (fun gk s11 wr => ∃ p : Nat, p + gk = i ∧ s11 = .int .i64 (p : Int) ∧ Hid (AG w wr B kl i V (T2Q T i 0) sv T gv i i U))
              case atStart => exact ⟨0, Nat.zero_add _, rfl, HG1⟩
              case round =>
                clear HG1
                obtain ⟨p, hp, rfl, HST⟩ := hrel
                by_cases hlt : p < i
                · have hlt' : (p : Int) < (i : Int) := by omega
                  obtain rfl := HQ.out (by omega)
                  obtain ⟨gs, cs, rfl⟩ := own_shape HST.out.sl (by omega)
                  obtain ⟨gg, cg, rfl⟩ := own_shape HST.out.gl (by omega)
                  have hcs : wr.cell? ⟨gs, p, none⟩ = some (.string ⟨T p⟩) := own_cellS HST.out.sl (by rw [List.getElem?_map, List.getElem?_range hlt]; rfl)
                  have hcg : wr.cell? ⟨gg, p, none⟩ = some (U p) := own_cellS HST.out.gl (by rw [List.getElem?_map, List.getElem?_range hlt]; rfl)
                  have hcl := HST.out.cell HA.out hlt
                  have hHl := HST.out.rv p hlt
                  have hHg := HST.out.uv p hlt
                  obtain ⟨qv, cv, hv⟩ := hHl.slice
                  obtain ⟨qu, cu, hu⟩ := hHg.slice
                  have hm : (T p).size ≤ 100000 := HT.out p hlt
                  obtain ⟨m, hmm⟩ : ∃ m, (T p).size = m := ⟨_, rfl⟩
                  rw [T2Q_size, hmm] at hv
                  rw [flQ_size, T2Q_size, hmm] at hu
                  rw [hv] at hcl hHl
                  rw [hu] at hcg hHg
                  rw [hmm] at hm
                  have HLK : Hid (LookQ wr kl gs gg p qv qu m cv cu ⟨T p⟩ (T2Q T i 0 p) (flQ (T2Q T i 0 p) p 80)) := ⟨hcl, hcs, hcg, hHl, hHg⟩
                  have HB1 : Hid (∀ j, j < m → (T2Q T i 0 p)[j]! = (T p)[j]! + 1) := fun j hj => by rw [T2Q_all _ _ _ hlt, incQ_at _ _ _ (Nat.le_refl _) (by rw [hmm]; exact hj), if_pos (by rw [hmm]; exact hj)]
                  have HB2 : Hid (∀ j, j < m → (flQ (T2Q T i 0 p) p 80)[j]! = (T p)[j]! + 1) := fun j hj => by
                    rw [flQ_low _ _ _ (by rw [T2Q_size, hmm]; exact hj)]
                    exact HB1.out j hj
                  have HB3 : Hid (∀ j, j < 80 → (flQ (T2Q T i 0 p) p 80)[m + j]! = fillQ p j) := fun j hj => by
                    have := flQ_high (T2Q T i 0 p) p j 80 hj
                    rw [T2Q_size, hmm] at this
                    exact this
                  have HSS : Hid ((T2Q T i 0 p).size = m ∧ (flQ (T2Q T i 0 p) p 80).size = m + 80) := ⟨by rw [T2Q_size, hmm], by rw [flQ_size, T2Q_size, hmm]⟩
                  generalize flQ (T2Q T i 0 p) p 80 = b3 at HLK HB2 HB3 HSS
                  obtain ⟨b, hb⟩ : ∃ b, T2Q T i 0 p = b := ⟨_, rfl⟩
                  rw [hb] at HLK HB1 HSS
                  obtain ⟨s, hs⟩ : ∃ s : ByteArray, s = ⟨T p⟩ := ⟨_, rfl⟩
                  rw [← hs] at HLK hcs
                  have hsz : s.size = m := by rw [hs]; exact hmm
                  have HSX : Hid (∀ j (h : j < s.size), s[j] = (T p)[j]!) := fun j h => by
                    subst hs
                    have h' : j < (T p).size := h
                    rw [getElem!_pos (T p) j h']
                    rfl
                  clear hHg hHl hs hb hv hu hmm
                  go_wp2_with fail
                  go_quiet (fail)
                  have HST1 := Hid.mkP (HST.out.drewN nq)
                  have HLK1 := Hid.mkP (HLK.out.drewN nq)
                  clear HST HLK hcs hcg hcl
                  generalize wr.drewN nq = w6 at HST1 HLK1 ⊢
                  go_wp2
                  go_loopg [12] m (fun gk s12 wr => ∃ j : Nat, j + gk = m ∧ s12 = .int .i64 (j : Int) ∧ Hid (AG w wr B kl i V (T2Q T i 0) (.slice (some ⟨gs, 0, none⟩) i cs) T (.slice (some ⟨gg, 0, none⟩) i cg) i i U) ∧ Hid (LookQ wr kl gs gg p qv qu m cv cu s b b3))
                  case atStart => exact ⟨0, Nat.zero_add _, rfl, HST1, HLK1⟩
                  case round =>
                    clear HST1 HLK1
                    obtain ⟨j, hj, rfl, HST, HLK⟩ := hrel
                    have hcs := HLK.out.cs
                    by_cases hj2 : j < m
                    · have hj3 : (j : Int) < (m : Int) := by omega
                      have hj4 : j < s.size := by omega
                      have hj5 : (j : Int) < (s.size : Int) := by omega
                      have hj6 : (j : Int) < (m : Int) + 80 := by omega
                      have hcl := HLK.out.cl
                      have hcg := HLK.out.cg
                      obtain ⟨g1, c1, e1, h1, -⟩ := HLK.out.hl.at (k := j) (by rw [HSS.out.1]; exact hj2)
                      obtain ⟨g2, c2, e2, h2, -⟩ := HLK.out.hg.at (k := j) (by rw [HSS.out.2]; omega)
                      rw [HB1.out j hj2] at h1
                      rw [HB2.out j hj2] at h2
                      injection e1 with e1 _ _
                      injection e2 with e2 _ _
                      have hw : IntKind.u8.wrap ((s[j].toNat : Int) + 1) = SP.ub ((T p)[j]! + 1) := by rw [HSX.out j hj4]; exact ubQ_succ _
                      unfold SP.encB at h1 h2
                      generalize SP.ub ((T p)[j]! + 1) = u at h1 h2 hw
                      rw [e1] at hcl
                      rw [e2] at hcg
                      go_wp2_with fail
                      go_quiet (fail)
                      have HST1 := Hid.mkP (HST.out.drewN nq)
                      have HLK1 := Hid.mkP (HLK.out.drewN nq)
                      clear HST HLK hcs hcg hcl h1 h2 hw
                      generalize wr.drewN nq = w7 at HST1 HLK1 ⊢
                      go_wp2
                      go_roundg (gk - 1)
                      case measure => omega
                      case rel => exact ⟨j + 1, by omega, rfl, HST1, HLK1⟩
                    · have hj3 : ¬ (j : Int) < (m : Int) := by omega
                      have hj7 : ¬ (j : Int) < (s.size : Int) := by omega
                      go_wp2
                      clear hcs hj3
                      go_loopg [13] 80 (fun gk s13 wr => ∃ j : Nat, j + gk = 80 ∧ s13 = .int .i64 (j : Int) ∧ Hid (AG w wr B kl i V (T2Q T i 0) (.slice (some ⟨gs, 0, none⟩) i cs) T (.slice (some ⟨gg, 0, none⟩) i cg) i i U) ∧ Hid (LookQ wr kl gs gg p qv qu m cv cu s b b3))
                      case atStart => exact ⟨0, Nat.zero_add _, rfl, HST, HLK⟩
                      case round =>
                        clear HST HLK hj hj2
                        obtain ⟨j, hj, rfl, HST, HLK⟩ := hrel
                        by_cases hj2 : j < 80
                        · have hj3 : (j : Int) < 80 := by omega
                          have hcs := HLK.out.cs
                          have hcg := HLK.out.cg
                          obtain ⟨m2, hm2⟩ : ∃ m2, m + j = m2 := ⟨_, rfl⟩
                          have i1 : (s.size : Int) + (j : Int) = (m2 : Int) := by omega
                          have i2 : (m2 : Int) < (m : Int) + 80 := by omega
                          obtain ⟨g2, c2, e2, h2, -⟩ := HLK.out.hg.at (k := m2) (by rw [HSS.out.2]; omega)
                          injection e2 with e2 _ _
                          rw [e2] at hcg
                          rw [← hm2, HB3.out j hj2, hm2] at h2
                          have hf := fillQ_int p j
                          unfold SP.encB at h2
                          generalize SP.ub (fillQ p j) = u at h2 hf
                          go_wp2_with fail
                          go_quiet (fail)
                          have HST1 := Hid.mkP (HST.out.drewN nq)
                          have HLK1 := Hid.mkP (HLK.out.drewN nq)
                          clear HST HLK hcs hcg h2 hf
                          generalize wr.drewN nq = w7 at HST1 HLK1 ⊢
                          go_wp2
                          go_roundg (gk - 1)
                          case measure => omega
                          case rel => exact ⟨j + 1, by omega, rfl, HST1, HLK1⟩
                        · have hj3 : ¬ (j : Int) < 80 := by omega
                          go_wp2
                          go_roundg (i - (p + 1))
                          case measure => omega
                          case rel => exact ⟨p + 1, by omega, rfl, HST⟩
                · have hge : ¬ (p : Int) < (i : Int) := by omega
                  go_wp2
                  go_ret
                  exact ⟨rfl, HST.out.bl⟩
end Go.Proofs.Ytboigmhioojenaa
namespace Go.Proofs.Ytboigmhioojenaa
open Go.RowKit Go.Sort Go.Deep
open Classical in
/-- How many entries what was read has, its parts, and the errno. -/
noncomputable def kS (s : SP.Bs) : Nat := if RGood s then s[0]!.toNat else 0
open Classical in
noncomputable def tS (s : SP.Bs) (j : Nat) : SP.Bs := if RGood s then chk s s[0]!.toNat j else #[]
open Classical in
noncomputable def eS (s : SP.Bs) : Nat := if RGood s then 0 else 2
theorem kS_le (s : SP.Bs) : kS s ≤ 6 := by
  unfold kS
  split
  · next h => exact h.2.1
  · omega
theorem tS_le (s : SP.Bs) (h : s.size ≤ 4096) (j : Nat) : (tS s j).size ≤ 100000 := by
  unfold tS
  split
  · unfold chk
    rw [Array.size_extract]
    omega
  · show 0 ≤ _; omega
def zV : Sv := ⟨none, 0, 0⟩
def zRg : Rg := ⟨zV, zV, zV, zV, zV, zV, zV, zV, zV, zV, zV⟩
theorem VL.keep {W W' : World} {q : Option Addr} {m : Nat} {ys : List Value} (h : VL W q m ys) (hk : ∀ b o, q = some ⟨b, o, none⟩ → 0 < m → W'.heap[b]? = W.heap[b]?) (hs : W.heap.size ≤ W'.heap.size) : VL W' q m ys := by
  refine ⟨h.len, h.nil, ?_, h.one⟩
  rcases h.cells with h0 | ⟨b, o, h1, h2, h3⟩
  · exact Or.inl h0
  · by_cases hm : 0 < m
    · refine Or.inr ⟨b, o, h1, by omega, fun j u hj => ?_⟩
      rw [(cell_blk (hk b o h1 hm) (o + j)).1]
      exact h3 j u hj
    · exact Or.inl (List.length_eq_zero_iff.1 (by have := h.len; omega))
/-- What was read, in memory. -/
structure RdU (N B : Nat) (W : World) (s : SP.Bs) (q : Rg) (l1 l2 : List Value) : Prop where
  vl : VL W q.l.q q.l.n l1
  vr : VL W q.r.q q.r.n l2
  nl : q.l.n = kS s
  nr : q.r.n = kS s
  bl : ∀ b o, q.l.q = some ⟨b, o, none⟩ → 0 < kS s → N ≤ b
  br : ∀ b o, q.r.q = some ⟨b, o, none⟩ → 0 < kS s → N ≤ b
  NB : N ≤ B
  BW : B ≤ W.heap.size
  ow : ∀ j, j < kS s + kS s + 9 → ∃ u, (ordV q l1 l2)[j]? = some u ∧ W.ownsRow B 5 1 u (tS s j).size (bC (tS s j))
  ne : ∀ (j j' : Nat) u u' g, j < j' → (ordV q l1 l2)[j]? = some u → (ordV q l1 l2)[j']? = some u' → u.ownBlock = some g → u'.ownBlock ≠ some g
theorem RdU.keep {N B : Nat} {W W' : World} {s : SP.Bs} {q : Rg} {l1 l2 : List Value} (h : RdU N B W s q l1 l2) (hk : ∀ b, N ≤ b → b < W.heap.size → W'.heap[b]? = W.heap[b]?) (hs : W.heap.size ≤ W'.heap.size) : RdU N B W' s q l1 l2 := by
  have hN := h.NB
  refine ⟨?_, ?_, h.nl, h.nr, h.bl, h.br, hN, Nat.le_trans h.BW hs, fun j hj => ?_, h.ne⟩
  · rcases h.vl.cells with h0 | ⟨b, o, h1, h2, h3⟩
    · exact ⟨h.vl.len, h.vl.nil, Or.inl h0, h.vl.one⟩
    · exact h.vl.keep (fun b' o' e hm => by
        rw [h1] at e
        injection e with e
        injection e with e _ _
        subst e
        exact hk b (h.bl b o h1 (by have := h.nl; omega)) h2) hs
  · rcases h.vr.cells with h0 | ⟨b, o, h1, h2, h3⟩
    · exact ⟨h.vr.len, h.vr.nil, Or.inl h0, h.vr.one⟩
    · exact h.vr.keep (fun b' o' e hm => by
        rw [h1] at e
        injection e with e
        injection e with e _ _
        subst e
        exact hk b (h.br b o h1 (by have := h.nr; omega)) h2) hs
  · obtain ⟨u, h1, h2⟩ := h.ow j hj
    exact ⟨u, h1, own_keep h2 (fun g hg => hk g (by have := (own_lt h2 hg).1; omega) (own_lt h2 hg).2.1)⟩
theorem RdU.below {N B : Nat} {W W' : World} {s : SP.Bs} {q : Rg} {l1 l2 : List Value} (h : RdU N B W s q l1 l2) (hb : Below W.heap.size W W') : RdU N B W' s q l1 l2 := h.keep (fun b _ hlt => hb.block b hlt) hb.size
theorem zero_u (W : World) (N : Nat) (hN : N ≤ W.heap.size) (s : SP.Bs) (h : ¬ RGood s) : RdU N N W s zRg [] [] := by
  have k0 : kS s = 0 := by unfold kS; rw [if_neg h]
  have t0 : ∀ j, tS s j = #[] := fun j => by unfold tS; rw [if_neg h]
  have hz : ∀ j, j < 9 → (ordV zRg [] [])[j]? = some (.slice none 0 0) := fun j hj => by
    match j, hj with
    | 0, _ | 1, _ | 2, _ | 3, _ | 4, _ | 5, _ | 6, _ | 7, _ | 8, _ => rfl
  refine ⟨⟨rfl, fun _ => rfl, Or.inl rfl, fun u hu => by cases hu⟩, ⟨rfl, fun _ => rfl, Or.inl rfl, fun u hu => by cases hu⟩, k0.symm, k0.symm, fun b o e => (by cases e), fun b o e => (by cases e), Nat.le_refl _, hN, fun j hj => ⟨_, hz j (by omega), by rw [t0]; exact ⟨rfl, Or.inl ⟨rfl, rfl⟩⟩⟩, fun j j' u u' g _ hu _ e => ?_⟩
  have hj : j < 9 := (List.getElem?_eq_some_iff.1 hu).1
  rw [hz j hj] at hu
  obtain rfl := Option.some.inj hu
  cases e
theorem zcs : zRg.cs = zR := rfl
theorem rdu {w W : World} {s : SP.Bs} {e : Ending} (h : RdR w s s[0]!.toNat e W) : Below w.heap.size w W ∧ ∃ q l1 l2 B, e = .returned (.tuple #[.agg q.cs.toArray, .int .i64 (eS s : Int)]) ∧ RdU w.heap.size B W s q l1 l2 := by
  by_cases hg : RGood s
  · obtain ⟨hb, p, l1, l2, B, rfl, h1, h2, h3, h4, h5, h6, h7, h8, h9, h10⟩ := rdr_good h hg
    have k0 : kS s = s[0]!.toNat := by unfold kS; rw [if_pos hg]
    have t0 : ∀ j, tS s j = chk s s[0]!.toNat j := fun j => by unfold tS; rw [if_pos hg]
    have e0 : eS s = 0 := by unfold eS; rw [if_pos hg]
    refine ⟨hb, p, l1, l2, B, by rw [e0]; rfl, h1, h2, by rw [k0]; exact h3, by rw [k0]; exact h4, by rw [k0]; exact h5, by rw [k0]; exact h6, h7, h8, fun j hj => ?_, h10⟩
    rw [k0] at hj
    obtain ⟨u, y1, y2⟩ := h9 j hj
    exact ⟨u, y1, by rw [t0]; exact y2.own⟩
  · rcases h with ⟨-, hb, rfl⟩ | ⟨h, -⟩
    · have e0 : eS s = 2 := by unfold eS; rw [if_neg hg]
      exact ⟨hb, zRg, [], [], _, by rw [e0, zcs]; rfl, zero_u W _ hb.size s hg⟩
    · exact absurd h hg
/-- What the reference's Read answers, in memory. -/
structure RfU (W : World) (s : SP.Bs) (p : Rg) (l1 l2 : List Value) : Prop where
  vl : VL W p.l.q p.l.n l1
  vr : VL W p.r.q p.r.n l2
  nl : p.l.n = kS s
  nr : p.r.n = kS s
  pt : ∀ j, j < kS s + kS s + 9 → ∃ u, (ordV p l1 l2)[j]? = some u ∧ Pt W u (tS s j)
theorem RfU.below {W W' : World} {s : SP.Bs} {p : Rg} {l1 l2 : List Value} (h : RfU W s p l1 l2) (hb : Below W.heap.size W W') : RfU W' s p l1 l2 :=
  ⟨h.vl.below hb, h.vr.below hb, h.nl, h.nr, fun j hj => by obtain ⟨u, h1, h2⟩ := h.pt j hj; exact ⟨u, h1, h2.below hb⟩⟩
theorem rfu (s : ByteArray) (hs : s.size ≤ 100000) (w : World) : Calls Try.prog 10 #[.string s] w fun e W => Below w.heap.size w W ∧ ∃ p l1 l2, e = .returned (.tuple #[.agg p.cs.toArray, .int .i64 (eS s.data : Int)]) ∧ RfU W s.data p l1 l2 := by
  by_cases hg : RGood s.data
  · have k0 : kS s.data = s.data[0]!.toNat := by unfold kS; rw [if_pos hg]
    have t0 : ∀ j, tS s.data j = chk s.data s.data[0]!.toNat j := fun j => by unfold tS; rw [if_pos hg]
    have e0 : eS s.data = 0 := by unfold eS; rw [if_pos hg]
    refine (rRead_y s hs _ rfl hg.2.1 hg.2.2 w).mono ?_
    rintro e W ⟨hb, p, l1, l2, rfl, h1, h2, h3, h4, h5⟩
    refine ⟨hb, p, l1, l2, by rw [e0]; rfl, h1, h2, by rw [k0]; exact h3, by rw [k0]; exact h4, fun j hj => ?_⟩
    rw [k0] at hj
    obtain ⟨u, y1, y2⟩ := h5 j hj
    exact ⟨u, y1, by rw [t0]; exact y2⟩
  · have k0 : kS s.data = 0 := by unfold kS; rw [if_neg hg]
    have t0 : ∀ j, tS s.data j = #[] := fun j => by unfold tS; rw [if_neg hg]
    have e0 : eS s.data = 2 := by unfold eS; rw [if_neg hg]
    refine (rRead_n s hs _ rfl hg w).mono ?_
    rintro e W ⟨rfl, hb⟩
    have hz : ∀ j, j < 9 → (ordV zRg [] [])[j]? = some (.slice none 0 0) := fun j hj => by
      match j, hj with
      | 0, _ | 1, _ | 2, _ | 3, _ | 4, _ | 5, _ | 6, _ | 7, _ | 8, _ => rfl
    refine ⟨hb, zRg, [], [], by rw [e0, zcs]; rfl, ⟨⟨rfl, fun _ => rfl, Or.inl rfl, fun u hu => by cases hu⟩, ⟨rfl, fun _ => rfl, Or.inl rfl, fun u hu => by cases hu⟩, k0.symm, k0.symm, fun j hj => ⟨_, hz j (by omega), by rw [t0]; exact ⟨none, 0, rfl, Or.inl rfl⟩⟩⟩⟩
theorem own_pt {W : World} {B : Nat} {u : Value} {b : SP.Bs} (h : W.ownsRow B 5 1 u b.size (bC b)) : Pt W u b := by
  rcases id h with ⟨-, ⟨rfl, h0⟩ | ⟨g, cap, cur, rfl, -⟩⟩
  · exact ⟨none, 0, by rw [h0], Or.inl h0⟩
  · refine ⟨some ⟨g, 0, none⟩, cap, rfl, Or.inr ⟨g, 0, rfl, (own_lt h rfl).2.1, fun j hj => ?_⟩⟩
    obtain ⟨g', c', e, h1, h2⟩ := (RV.of h).at hj
    injection e with e _ _
    injection e with e
    injection e with e _ _
    subst e
    rw [Nat.zero_add]
    exact ⟨h1, h2⟩
/-- 'all' has the parts in another order: turned by seven. -/
theorem all_ord (p : Rg) (l1 l2 : List Value) (k : Nat) (h1 : l1.length = k) (h2 : l2.length = k) (j : Nat) (hj : j < k + k + 9) : (p.all l1 l2)[j]? = (ordV p l1 l2)[if j < k + k + 2 then 7 + j else j - (k + k + 2)]? := by
  have e1 : p.all l1 l2 = (l1 ++ l2 ++ [p.x.v, p.y.v]) ++ [p.a.v, p.b.v, p.c.v, p.d.v, p.e.v, p.f.v, p.g.v] := rfl
  have e2 : ordV p l1 l2 = [p.a.v, p.b.v, p.c.v, p.d.v, p.e.v, p.f.v, p.g.v] ++ (l1 ++ l2 ++ [p.x.v, p.y.v]) := by unfold ordV; simp only [List.append_assoc]
  have hl : (l1 ++ l2 ++ [p.x.v, p.y.v]).length = k + k + 2 := by rw [List.length_append, List.length_append, h1, h2]; rfl
  rw [e1, e2]
  have h7 : [p.a.v, p.b.v, p.c.v, p.d.v, p.e.v, p.f.v, p.g.v].length = 7 := rfl
  generalize l1 ++ l2 ++ [p.x.v, p.y.v] = M at hl
  generalize [p.a.v, p.b.v, p.c.v, p.d.v, p.e.v, p.f.v, p.g.v] = H at h7
  split
  · rw [List.getElem?_append_left (by omega), List.getElem?_append_right (by omega), h7, Nat.add_sub_cancel_left]
  · rw [List.getElem?_append_right (by omega), List.getElem?_append_left (by omega), hl]
end Go.Proofs.Ytboigmhioojenaa
namespace Go.Proofs.Ytboigmhioojenaa
open Go.RowKit Go.Sort Go.Deep
open Classical in
/-- What Put makes, and its errno. -/
noncomputable def xP (n m : Nat) (BB : List SP.Bs) : SP.Bs := if GoodP n m BB then catI n BB (n + m + 9) else #[]
open Classical in
noncomputable def erP (n m : Nat) (BB : List SP.Bs) : Nat := if GoodP n m BB then 0 else 2
theorem put_u {w W : World} {n m : Nat} {BB : List SP.Bs} {e : Ending} (h : PutR w n m BB e W) : Below w.heap.size w W ∧ ∃ q c, e = .returned (.tuple #[.slice q (Array.size (xP n m BB)) c, .int .i64 (erP n m BB : Int)]) ∧ Pt W (.slice q (Array.size (xP n m BB)) c) (xP n m BB) := by
  obtain ⟨hb, ⟨hg, v, rfl, hp⟩ | ⟨hg, rfl⟩⟩ := h
  · have e1 : xP n m BB = catI n BB (n + m + 9) := by unfold xP; rw [if_pos hg]
    have e2 : erP n m BB = 0 := by unfold erP; rw [if_pos hg]
    rw [e1, e2]
    obtain ⟨q, c, rfl, h2⟩ := hp
    exact ⟨hb, q, c, rfl, q, c, rfl, h2⟩
  · have e1 : xP n m BB = #[] := by unfold xP; rw [if_neg hg]
    have e2 : erP n m BB = 2 := by unfold erP; rw [if_neg hg]
    rw [e1, e2]
    exact ⟨hb, none, 0, rfl, none, 0, rfl, Or.inl rfl⟩
theorem rput_u {w W : World} {n m : Nat} {BB : List SP.Bs} {e : Ending} (h : RPutR w n m BB e W) : Below w.heap.size w W ∧ e = .returned (.tuple #[.string ⟨xP n m BB⟩, .int .i64 (erP n m BB : Int)]) := by
  obtain ⟨hb, ⟨hg, rfl⟩ | ⟨hg, rfl⟩⟩ := h
  · have e1 : xP n m BB = catI n BB (n + m + 9) := by unfold xP; rw [if_pos hg]
    have e2 : erP n m BB = 0 := by unfold erP; rw [if_pos hg]
    rw [e1, e2]
    exact ⟨hb, rfl⟩
  · have e1 : xP n m BB = #[] := by unfold xP; rw [if_neg hg]
    have e2 : erP n m BB = 2 := by unfold erP; rw [if_neg hg]
    rw [e1, e2]
    exact ⟨hb, rfl⟩
def pm (k j : Nat) : Nat := if j < k + k + 2 then 7 + j else j - (k + k + 2)
theorem pm_lt (k j : Nat) (h : j < k + k + 9) : pm k j < k + k + 9 := by unfold pm; split <;> omega
theorem pm_inj (k j j' : Nat) (h : j < k + k + 9) (h' : j' < k + k + 9) (hne : j ≠ j') : pm k j ≠ pm k j' := by unfold pm; split <;> split <;> omega
theorem RdU.all {N B : Nat} {W : World} {s : SP.Bs} {q : Rg} {l1 l2 : List Value} (h : RdU N B W s q l1 l2) (j : Nat) (hj : j < kS s + kS s + 9) : (q.all l1 l2)[j]? = (ordV q l1 l2)[pm (kS s) j]? := all_ord q l1 l2 _ (h.vl.len.trans h.nl) (h.vr.len.trans h.nr) j hj
theorem RfU.all {W : World} {s : SP.Bs} {q : Rg} {l1 l2 : List Value} (h : RfU W s q l1 l2) (j : Nat) (hj : j < kS s + kS s + 9) : (q.all l1 l2)[j]? = (ordV q l1 l2)[pm (kS s) j]? := all_ord q l1 l2 _ (h.vl.len.trans h.nl) (h.vr.len.trans h.nr) j hj
theorem same_u {N B : Nat} {W : World} {s : SP.Bs} {q p : Rg} {l1 l2 m1 m2 : List Value} (h : RdU N B W s q l1 l2) (h' : RfU W s p m1 m2) :
    Calls Try.prog 11 #[.agg q.cs.toArray, .agg p.cs.toArray] W fun e' w' => e' = .returned (.bool true) ∧ Below W.heap.size W w' := by
  have k6 := kS_le s
  refine sameRange_c q p W h.vl h.vr h'.vl h'.vr (by rw [h.nl]; omega) (by rw [h.nr]; omega) (by rw [h.nl, h'.nl]) (by rw [h.nr, h'.nr]) (fun j hj => ?_)
  rw [h.nl, h.nr] at hj
  obtain ⟨u, y1, y2⟩ := h.ow _ (pm_lt _ j hj)
  obtain ⟨v, z1, z2⟩ := h'.pt _ (pm_lt _ j hj)
  exact ⟨u, v, _, by rw [h.all j hj]; exact y1, by rw [h'.all j hj]; exact z1, own_pt y2, z2⟩
theorem all_u {N B : Nat} {W : World} {s : SP.Bs} {q : Rg} {l1 l2 : List Value} (h : RdU N B W s q l1 l2) :
    Calls Try.prog 13 #[.agg q.cs.toArray] W fun e' w' => ∃ v, e' = .returned v ∧ GLs W w' v (q.all l1 l2) := by
  have k6 := kS_le s
  exact all_c q.a q.b q.c q.d q.e q.f q.g q.l q.r q.x q.y W h.vl h.vr (by rw [h.nl]; omega) (by rw [h.nr]; omega)
theorem apart_u {N B : Nat} {W W' : World} {s : SP.Bs} {q : Rg} {l1 l2 : List Value} {v : Value} (h : RdU N B W s q l1 l2) (hs : s.size ≤ 4096) (g : GLs W W' v (q.all l1 l2)) :
    Calls Try.prog 12 #[v] W' fun e w' => e = .returned (.bool true) ∧ Below B W' w' := by
  have k6 := kS_le s
  have hk := h.BW
  obtain ⟨kl, cap, rfl, h1, h2⟩ := g.lt
  have hlen : (q.all l1 l2).length = kS s + kS s + 9 := by
    unfold Rg.all
    rw [List.length_append, List.length_append, List.length_append, h.vl.len, h.vr.len, h.nl, h.nr]
    rfl
  have hat : ∀ j, j < kS s + kS s + 9 → ∃ u, (q.all l1 l2)[j]? = some u ∧ (ordV q l1 l2)[pm (kS s) j]? = some u ∧ W.ownsRow B 5 1 u (tS s (pm (kS s) j)).size (bC (tS s (pm (kS s) j))) := fun j hj => by
    obtain ⟨u, y1, y2⟩ := h.ow _ (pm_lt _ j hj)
    exact ⟨u, by rw [h.all j hj]; exact y1, y1, y2⟩
  rw [hlen]
  have hV : ∀ j, j < kS s + kS s + 9 → ((q.all l1 l2)[j]?).getD nilV ∈ ((q.all l1 l2)[j]?) := fun j hj => by
    obtain ⟨u, y1, -⟩ := hat j hj
    rw [y1]
    rfl
  have hO : ∀ j, j < kS s + kS s + 9 → W.ownsRow B 5 1 (((q.all l1 l2)[j]?).getD nilV) (tS s (pm (kS s) j)).size (bC (tS s (pm (kS s) j))) := fun j hj => by
    obtain ⟨u, y1, -, y2⟩ := hat j hj
    rw [y1]
    exact y2
  refine ApartQ kl (kS s + kS s + 9) cap B (some ⟨kl, 0, none⟩) (fun j => ((q.all l1 l2)[j]?).getD nilV) (fun j => tS s (pm (kS s) j)) W' (by omega) (fun _ => rfl) ⟨fun j hj => ?_, fun _ => h2, fun j hj e => ?_, fun j j' hj hj' hne g' e e' => ?_, fun j hj g' e => ?_⟩ (fun j hj => ?_) (fun j _ => tS_le s hs _) (Nat.le_trans hk g.bl.size)
  · obtain ⟨u, y1, -⟩ := hat j hj
    rw [y1]
    rw [hlen] at g
    exact g.cell j u y1
  · have := (own_lt (hO j hj) e).2.1
    omega
  · obtain ⟨u, y1, y2, -⟩ := hat j hj
    obtain ⟨u', z1, z2, -⟩ := hat j' hj'
    rw [y1] at e
    rw [z1] at e'
    have hp := pm_inj (kS s) j j' hj hj' hne
    rcases Nat.lt_or_gt_of_ne hp with hlt | hlt
    · exact h.ne _ _ u u' g' hlt y2 z2 e e'
    · exact h.ne _ _ u' u g' hlt z2 y2 e' e
  · obtain ⟨y1, y2, -⟩ := own_lt (hO j hj) e
    exact ⟨y1, Nat.lt_of_lt_of_le y2 g.bl.size⟩
  · exact own_keep (hO j hj) (fun g' hg => g.bl.block g' (own_lt (hO j hj) hg).2.1)
/-- Nothing but one block is written. -/
structure Ex1 (W W' : World) (gi n : Nat) : Prop where
  os : W'.os = W.os
  tape : W'.tape = W.tape
  output : W'.output = W.output
  size : W'.heap.size = W.heap.size
  bl : ∀ b, b ≠ gi → W'.heap[b]? = W.heap[b]?
  th : ∀ j, j < n → (∃ u, W'.cell? ⟨gi, j, none⟩ = some u) ∧ W'.frozen? ⟨gi, j, none⟩ = false
theorem Ex1.set {W W' : World} {gi n : Nat} (h : Ex1 W W' gi n) (j : Nat) (v : Value) : Ex1 W (W'.setCell ⟨gi, j, none⟩ v) gi n := by
  refine ⟨h.os, h.tape, h.output, (World.size_setCell _ _ _).trans h.size, fun b hb => (set_blk W' j v hb).trans (h.bl b hb), fun i hi => ⟨?_, (World.frozen?_setCells gi [v] j W' _).trans (h.th i hi).2⟩⟩
  obtain ⟨u, hu⟩ := (h.th i hi).1
  by_cases hij : i = j
  · subst hij
    exact ⟨v, World.cell?_setCell_same _ _ _ hu⟩
  · exact ⟨u, by rw [World.cell?_setCell_other _ _ _ _ (by intro e; injection e with _ e _; exact hij e.symm)]; exact hu⟩
theorem Ex1.below {W W' : World} {gi n N : Nat} {w : World} (h : Ex1 W W' gi n) (hb : Below N w W) (hg : N ≤ gi) : Below N w W' :=
  ⟨h.os.trans hb.os, h.tape.trans hb.tape, h.output.trans hb.output, by rw [h.size]; exact hb.size, fun k hk => (h.bl k (by omega)).trans (hb.block k hk)⟩
end Go.Proofs.Ytboigmhioojenaa
namespace Go.Proofs.Ytboigmhioojenaa.SP
open Go.RowKit Go.Sort
theorem holds_zero5 (w : World) (t : TypeId) : Holds enc (w.alloc (.cells #[.int .u64 0, .int .u64 0, .int .u64 0, .int .u64 0, .int .u64 0] t)) w.heap.size 0 (#[0, 0, 0, 0, 0] : St) := by
  have h := Holds.new (enc := enc) w t (#[0, 0, 0, 0, 0] : St)
  have e : Array.map enc (#[0, 0, 0, 0, 0] : St) = #[.int .u64 0, .int .u64 0, .int .u64 0, .int .u64 0, .int .u64 0] := by simp [enc, u]
  rw [e] at h
  exact h
attribute [local go_sem] bits_xor64 bits_and64 bits_or64
end Go.Proofs.Ytboigmhioojenaa.SP
namespace Go.Proofs.Ytboigmhioojenaa.SP
open Go.RowKit Go.Sort
attribute [local go_sem] bits_xor64 bits_and64 bits_or64
theorem offs_int (t : Nat) (h : t < 24) : (wrap64 ((wrap64 (((t : Int) + 1) * ((t : Int) + 2))).tdiv 2)).tmod 64 = (offs t : Int) := by
  have H : ∀ j : Fin 24, (wrap64 ((wrap64 (((j.val : Int) + 1) * ((j.val : Int) + 2))).tdiv 2)).tmod 64 = (offs j.val : Int) := by decide +kernel
  exact H ⟨t, h⟩
end Go.Proofs.Ytboigmhioojenaa.SP
namespace Go.Proofs.Ytboigmhioojenaa.SP
open Go.RowKit Go.Sort
attribute [local go_sem] bits_xor64 bits_and64 bits_or64 bits_not64
end Go.Proofs.Ytboigmhioojenaa.SP
namespace Go.Proofs.Ytboigmhioojenaa.SP
open Go.RowKit Go.Sort
attribute [local go_sem] bits_xor64 bits_and64 bits_or64 wrap_u
theorem place_int (j : Nat) (hj : j < 7) : ∃ p : Nat, wrap64 (wrap64 ((2 : Int) ^ j) - 1) = (p : Int) ∧ p ≤ 63 ∧ Hid (2 ^ j - 1 = p) := by
  have H : ∀ j : Fin 7, wrap64 (wrap64 ((2 : Int) ^ j.val) - 1) = ((2 ^ j.val - 1 : Nat) : Int) ∧ 2 ^ j.val - 1 ≤ 63 := by decide +kernel
  exact ⟨_, (H ⟨j, hj⟩).1, (H ⟨j, hj⟩).2, rfl⟩
end Go.Proofs.Ytboigmhioojenaa.SP
namespace Go.Proofs.Ytboigmhioojenaa.SP
open Go.RowKit
/-- A count as the model holds it. -/
def encI (n : Nat) : Value := .int .i64 (n : Int)
/-- The reference's round, step by step, as its loops have it. -/
def colIn (a : St) (x : Nat) (c : St) : Nat → St
  | 0 => c
  | y + 1 => xorAt (colIn a x c y) x a[x + 5 * y]!
def colTo (a : St) : Nat → St
  | 0 => Array.replicate 5 0
  | x + 1 => colIn a x (colTo a x) 5
def movIn (a : St) (tn : Array Nat) (x : Nat) (v : BitVec 64) (m : St) : Nat → St
  | 0 => m
  | y + 1 => (movIn a tn x v m y).setIfInBounds (y % 5 + 5 * ((2 * x + 3 * y) % 5)) (rol (a[x + 5 * y]! ^^^ v) tn[x + 5 * y]!)
def movTo (a : St) (tn : Array Nat) (c : St) : Nat → St
  | 0 => Array.replicate 25 0
  | x + 1 => movIn a tn x (dcol c x) (movTo a tn c x) 5
def outIn (m : St) (x : Nat) (o : St) : Nat → St
  | 0 => o
  | y + 1 => (outIn m x o y).setIfInBounds (x + 5 * y) (m[x + 5 * y]! ^^^ (~~~m[(x + 1) % 5 + 5 * y]! &&& m[(x + 2) % 5 + 5 * y]!))
def outTo (m : St) : Nat → St
  | 0 => Array.replicate 25 0
  | x + 1 => outIn m x (outTo m x) 5
def refRound (a : St) (tn : Array Nat) (c : BitVec 64) : St := xorAt (outTo (movTo a tn (colTo a 5) 5) 5) 0 c
theorem colIn_size (a : St) (x : Nat) (c : St) (y : Nat) : (colIn a x c y).size = c.size := by
  induction y with
  | zero => rfl
  | succ y ih => simp [colIn, xorAt_size, ih]
theorem colTo_size (a : St) (x : Nat) : (colTo a x).size = 5 := by
  induction x with
  | zero => simp [colTo]
  | succ x ih => simp [colTo, colIn_size, ih]
theorem movIn_size (a : St) (tn : Array Nat) (x : Nat) (v : BitVec 64) (m : St) (y : Nat) : (movIn a tn x v m y).size = m.size := by
  induction y with
  | zero => rfl
  | succ y ih => simp [movIn, ih]
theorem movTo_size (a : St) (tn : Array Nat) (c : St) (x : Nat) : (movTo a tn c x).size = 25 := by
  induction x with
  | zero => simp [movTo]
  | succ x ih => simp [movTo, movIn_size, ih]
theorem outIn_size (m : St) (x : Nat) (o : St) (y : Nat) : (outIn m x o y).size = o.size := by
  induction y with
  | zero => rfl
  | succ y ih => simp [outIn, ih]
theorem outTo_size (m : St) (x : Nat) : (outTo m x).size = 25 := by
  induction x with
  | zero => simp [outTo]
  | succ x ih => simp [outTo, outIn_size, ih]
theorem refRound_size (a : St) (tn : Array Nat) (c : BitVec 64) : (refRound a tn c).size = 25 := by simp [refRound, xorAt_size, outTo_size]
/-- The offsets, as the reference lays them. -/
structure Of where
  x : Nat
  y : Nat
  o : Array Nat
def ofTo : Nat → Of
  | 0 => { x := 1, y := 0, o := Array.replicate 25 0 }
  | t + 1 => { x := (ofTo t).y, y := (2 * (ofTo t).x + 3 * (ofTo t).y) % 5, o := (ofTo t).o.setIfInBounds ((ofTo t).x % 5 + 5 * ((ofTo t).y % 5)) (offs t) }
def offsetsL : Array Nat := (ofTo 24).o
theorem ofTo_ok (t : Nat) : (ofTo t).x < 5 ∧ (ofTo t).y < 5 ∧ (ofTo t).o.size = 25 := by
  induction t with
  | zero => exact ⟨show 1 < 5 by decide, show 0 < 5 by decide, show (Array.replicate 25 0).size = 25 by simp⟩
  | succ t ih =>
    obtain ⟨h1, h2, h3⟩ := ih
    refine ⟨h2, ?_, ?_⟩
    · show (2 * (ofTo t).x + 3 * (ofTo t).y) % 5 < 5
      omega
    · show ((ofTo t).o.setIfInBounds _ _).size = 25
      rw [Array.size_setIfInBounds, h3]
/-- BIT and CONSTANT of the reference. -/
def regTo : Nat → Nat
  | 0 => 1
  | i + 1 => rcReg (regTo i)
theorem regTo_lt (i : Nat) : regTo i < 256 := by
  induction i with
  | zero => decide
  | succ i ih => exact rcReg_lt _ ih
def bitL (t : Nat) : BitVec 64 := BitVec.ofNat 64 (regTo t % 2)
def conTo (r : Nat) : Nat → BitVec 64
  | 0 => 0
  | j + 1 => conTo r j ||| bitL (j + 7 * r) <<< (2 ^ j - 1)
def conL (r : Nat) : BitVec 64 := conTo r 7
def refTo (d : St) : Nat → St
  | 0 => d
  | k + 1 => refRound (refTo d k) offsetsL (conL k)
end Go.Proofs.Ytboigmhioojenaa.SP
namespace Go.Proofs.Ytboigmhioojenaa.SP
theorem con_eq : ∀ k : Fin 24, conL k.val = rcC (rcAt k.val) := by decide +kernel
theorem offsets_eq : offsetsL = #[0, 1, 62, 28, 27, 36, 44, 6, 55, 20, 3, 10, 43, 25, 39, 41, 45, 15, 21, 8, 18, 2, 61, 56, 14] := by decide +kernel
theorem rol_zero (x : BitVec 64) : rol x 0 = x := by
  unfold rol
  rw [BitVec.shiftLeft_zero, Nat.sub_zero, BitVec.ushiftRight_eq_zero (Nat.le_refl 64), BitVec.or_zero]
theorem zx (x : BitVec 64) : 0 ^^^ x = x := BitVec.zero_xor
theorem col_one (a0 a1 a2 a3 a4 a5 a6 a7 a8 a9 a10 a11 a12 a13 a14 a15 a16 a17 a18 a19 a20 a21 a22 a23 a24 : BitVec 64) : colTo #[a0, a1, a2, a3, a4, a5, a6, a7, a8, a9, a10, a11, a12, a13, a14, a15, a16, a17, a18, a19, a20, a21, a22, a23, a24] 5 = #[0 ^^^ a0 ^^^ a5 ^^^ a10 ^^^ a15 ^^^ a20, 0 ^^^ a1 ^^^ a6 ^^^ a11 ^^^ a16 ^^^ a21, 0 ^^^ a2 ^^^ a7 ^^^ a12 ^^^ a17 ^^^ a22, 0 ^^^ a3 ^^^ a8 ^^^ a13 ^^^ a18 ^^^ a23, 0 ^^^ a4 ^^^ a9 ^^^ a14 ^^^ a19 ^^^ a24] := by kernel_rfl
theorem sums_one (a0 a1 a2 a3 a4 a5 a6 a7 a8 a9 a10 a11 a12 a13 a14 a15 a16 a17 a18 a19 a20 a21 a22 a23 a24 : BitVec 64) : sumsTo #[a0, a1, a2, a3, a4, a5, a6, a7, a8, a9, a10, a11, a12, a13, a14, a15, a16, a17, a18, a19, a20, a21, a22, a23, a24] 5 = #[a0 ^^^ a5 ^^^ a10 ^^^ a15 ^^^ a20, a1 ^^^ a6 ^^^ a11 ^^^ a16 ^^^ a21, a2 ^^^ a7 ^^^ a12 ^^^ a17 ^^^ a22, a3 ^^^ a8 ^^^ a13 ^^^ a18 ^^^ a23, a4 ^^^ a9 ^^^ a14 ^^^ a19 ^^^ a24] := by kernel_rfl
theorem col_eq (a0 a1 a2 a3 a4 a5 a6 a7 a8 a9 a10 a11 a12 a13 a14 a15 a16 a17 a18 a19 a20 a21 a22 a23 a24 : BitVec 64) : colTo #[a0, a1, a2, a3, a4, a5, a6, a7, a8, a9, a10, a11, a12, a13, a14, a15, a16, a17, a18, a19, a20, a21, a22, a23, a24] 5 = sumsTo #[a0, a1, a2, a3, a4, a5, a6, a7, a8, a9, a10, a11, a12, a13, a14, a15, a16, a17, a18, a19, a20, a21, a22, a23, a24] 5 := by
  rw [col_one, sums_one]
  simp only [zx]
theorem mov_one (S : St) (a0 a1 a2 a3 a4 a5 a6 a7 a8 a9 a10 a11 a12 a13 a14 a15 a16 a17 a18 a19 a20 a21 a22 a23 a24 : BitVec 64) : movTo #[a0, a1, a2, a3, a4, a5, a6, a7, a8, a9, a10, a11, a12, a13, a14, a15, a16, a17, a18, a19, a20, a21, a22, a23, a24] #[0, 1, 62, 28, 27, 36, 44, 6, 55, 20, 3, 10, 43, 25, 39, 41, 45, 15, 21, 8, 18, 2, 61, 56, 14] S 5 = #[rol (a0 ^^^ dcol S 0) 0, rol (a6 ^^^ dcol S 1) 44, rol (a12 ^^^ dcol S 2) 43, rol (a18 ^^^ dcol S 3) 21, rol (a24 ^^^ dcol S 4) 14, rol (a3 ^^^ dcol S 3) 28, rol (a9 ^^^ dcol S 4) 20, rol (a10 ^^^ dcol S 0) 3, rol (a16 ^^^ dcol S 1) 45, rol (a22 ^^^ dcol S 2) 61, rol (a1 ^^^ dcol S 1) 1, rol (a7 ^^^ dcol S 2) 6, rol (a13 ^^^ dcol S 3) 25, rol (a19 ^^^ dcol S 4) 8, rol (a20 ^^^ dcol S 0) 18, rol (a4 ^^^ dcol S 4) 27, rol (a5 ^^^ dcol S 0) 36, rol (a11 ^^^ dcol S 1) 10, rol (a17 ^^^ dcol S 2) 15, rol (a23 ^^^ dcol S 3) 56, rol (a2 ^^^ dcol S 2) 62, rol (a8 ^^^ dcol S 3) 55, rol (a14 ^^^ dcol S 4) 39, rol (a15 ^^^ dcol S 0) 41, rol (a21 ^^^ dcol S 1) 2] := by kernel_rfl
theorem rho_one (S : St) (a0 a1 a2 a3 a4 a5 a6 a7 a8 a9 a10 a11 a12 a13 a14 a15 a16 a17 a18 a19 a20 a21 a22 a23 a24 : BitVec 64) : rhopi (thetaTo S #[a0, a1, a2, a3, a4, a5, a6, a7, a8, a9, a10, a11, a12, a13, a14, a15, a16, a17, a18, a19, a20, a21, a22, a23, a24] 5) = #[a0 ^^^ dcol S 0, rol (a6 ^^^ dcol S 1) 44, rol (a12 ^^^ dcol S 2) 43, rol (a18 ^^^ dcol S 3) 21, rol (a24 ^^^ dcol S 4) 14, rol (a3 ^^^ dcol S 3) 28, rol (a9 ^^^ dcol S 4) 20, rol (a10 ^^^ dcol S 0) 3, rol (a16 ^^^ dcol S 1) 45, rol (a22 ^^^ dcol S 2) 61, rol (a1 ^^^ dcol S 1) 1, rol (a7 ^^^ dcol S 2) 6, rol (a13 ^^^ dcol S 3) 25, rol (a19 ^^^ dcol S 4) 8, rol (a20 ^^^ dcol S 0) 18, rol (a4 ^^^ dcol S 4) 27, rol (a5 ^^^ dcol S 0) 36, rol (a11 ^^^ dcol S 1) 10, rol (a17 ^^^ dcol S 2) 15, rol (a23 ^^^ dcol S 3) 56, rol (a2 ^^^ dcol S 2) 62, rol (a8 ^^^ dcol S 3) 55, rol (a14 ^^^ dcol S 4) 39, rol (a15 ^^^ dcol S 0) 41, rol (a21 ^^^ dcol S 1) 2] := by kernel_rfl
theorem mov_eq (S : St) (a0 a1 a2 a3 a4 a5 a6 a7 a8 a9 a10 a11 a12 a13 a14 a15 a16 a17 a18 a19 a20 a21 a22 a23 a24 : BitVec 64) : movTo #[a0, a1, a2, a3, a4, a5, a6, a7, a8, a9, a10, a11, a12, a13, a14, a15, a16, a17, a18, a19, a20, a21, a22, a23, a24] offsetsL S 5 = rhopi (thetaTo S #[a0, a1, a2, a3, a4, a5, a6, a7, a8, a9, a10, a11, a12, a13, a14, a15, a16, a17, a18, a19, a20, a21, a22, a23, a24] 5) := by
  rw [offsets_eq, mov_one, rho_one, rol_zero]
theorem out_eq (a0 a1 a2 a3 a4 a5 a6 a7 a8 a9 a10 a11 a12 a13 a14 a15 a16 a17 a18 a19 a20 a21 a22 a23 a24 : BitVec 64) : outTo #[a0, a1, a2, a3, a4, a5, a6, a7, a8, a9, a10, a11, a12, a13, a14, a15, a16, a17, a18, a19, a20, a21, a22, a23, a24] 5 = chi #[a0, a1, a2, a3, a4, a5, a6, a7, a8, a9, a10, a11, a12, a13, a14, a15, a16, a17, a18, a19, a20, a21, a22, a23, a24] := by kernel_rfl
theorem list25 {α : Type} (l : List α) (h : l.length = 25) : ∃ a0 a1 a2 a3 a4 a5 a6 a7 a8 a9 a10 a11 a12 a13 a14 a15 a16 a17 a18 a19 a20 a21 a22 a23 a24, l = [a0, a1, a2, a3, a4, a5, a6, a7, a8, a9, a10, a11, a12, a13, a14, a15, a16, a17, a18, a19, a20, a21, a22, a23, a24] := by
  match l, h with
  | [a0, a1, a2, a3, a4, a5, a6, a7, a8, a9, a10, a11, a12, a13, a14, a15, a16, a17, a18, a19, a20, a21, a22, a23, a24], _ => exact ⟨_, _, _, _, _, _, _, _, _, _, _, _, _, _, _, _, _, _, _, _, _, _, _, _, _, rfl⟩
theorem arr25 {α : Type} (d : Array α) (h : d.size = 25) : ∃ a0 a1 a2 a3 a4 a5 a6 a7 a8 a9 a10 a11 a12 a13 a14 a15 a16 a17 a18 a19 a20 a21 a22 a23 a24, d = #[a0, a1, a2, a3, a4, a5, a6, a7, a8, a9, a10, a11, a12, a13, a14, a15, a16, a17, a18, a19, a20, a21, a22, a23, a24] := by
  obtain ⟨l⟩ := d
  obtain ⟨a0, a1, a2, a3, a4, a5, a6, a7, a8, a9, a10, a11, a12, a13, a14, a15, a16, a17, a18, a19, a20, a21, a22, a23, a24, rfl⟩ := list25 l h
  exact ⟨_, _, _, _, _, _, _, _, _, _, _, _, _, _, _, _, _, _, _, _, _, _, _, _, _, rfl⟩
theorem out_chi (m : St) (h : m.size = 25) : outTo m 5 = chi m := by
  obtain ⟨a0, a1, a2, a3, a4, a5, a6, a7, a8, a9, a10, a11, a12, a13, a14, a15, a16, a17, a18, a19, a20, a21, a22, a23, a24, rfl⟩ := arr25 m h
  exact out_eq _ _ _ _ _ _ _ _ _ _ _ _ _ _ _ _ _ _ _ _ _ _ _ _ _
theorem round_eq (d : St) (h : d.size = 25) (c : BitVec 64) : refRound d offsetsL c = kround d c := by
  have hm : movTo d offsetsL (colTo d 5) 5 = rhopi (theta d) := by
    obtain ⟨a0, a1, a2, a3, a4, a5, a6, a7, a8, a9, a10, a11, a12, a13, a14, a15, a16, a17, a18, a19, a20, a21, a22, a23, a24, rfl⟩ := arr25 d h
    rw [col_eq, mov_eq]
    rfl
  unfold refRound kround
  rw [hm, out_chi _ (rhopi_size _ (by rw [theta_size, h]))]
theorem refTo_eq (d : St) (h : d.size = 25) (k : Nat) (hk : k ≤ 24) : refTo d k = permTo d k := by
  induction k with
  | zero => rfl
  | succ k ih =>
    show refRound (refTo d k) offsetsL (conL k) = kround (permTo d k) (rcC (rcAt k))
    rw [ih (by omega), con_eq ⟨k, by omega⟩, round_eq _ (permTo_size d h k)]
theorem offsets_lt : ∀ i, i < 25 → offsetsL[i]! < 64 := by
  intro i hi
  have H : ∀ j : Fin 25, offsetsL[j.val]! < 64 := by decide +kernel
  exact H ⟨i, hi⟩
theorem offsets_size : offsetsL.size = 25 := by rw [offsets_eq]; rfl
end Go.Proofs.Ytboigmhioojenaa.SP
namespace Go.Proofs.Ytboigmhioojenaa.SP
open Go.Sort
def zero25 : St := Array.replicate 25 0
/-- S1: the state of 200 bytes, permuted. -/
def permB (bs : Bs) : Bs := front (perm (mixTo bs zero25 25)) 200
/-- The reference's words out of bytes, behind i rounds. -/
def orTo (bs : Bs) : Nat → St
  | 0 => zero25
  | i + 1 => (orTo bs i).setIfInBounds (i / 8) ((orTo bs i)[i / 8]! ||| wide bs[i]! <<< (8 * (i % 8)))
theorem orTo_size (bs : Bs) (i : Nat) : (orTo bs i).size = 25 := by
  induction i with
  | zero => simp [orTo, zero25]
  | succ i ih => simp [orTo, ih]
theorem zero25_at (j : Nat) (h : j < 25) : zero25[j]! = 0 := by
  have h' : j < (Array.replicate 25 (0 : BitVec 64)).size := by rw [Array.size_replicate]; exact h
  unfold zero25
  rw [getElem!_pos (Array.replicate 25 (0 : BitVec 64)) j h', Array.getElem_replicate]
theorem orTo_at (bs : Bs) (n j : Nat) (hn : n ≤ 200) (hj : j < 25) :
    (orTo bs n)[j]! = if j < n / 8 then wordOf bs (8 * j) else if j = n / 8 then wordTo bs (8 * j) (n % 8) else 0 := by
  induction n with
  | zero =>
    rw [orTo, zero25_at j hj]
    by_cases h : j = 0
    · subst h; rfl
    · simp [h]
  | succ n ih =>
    have ih := ih (by omega)
    rw [orTo]
    by_cases hjn : j = n / 8
    · rw [← hjn, getElem!_set_same _ _ _ (by rw [orTo_size]; omega), ih, if_neg (by omega), if_pos hjn]
      have hb : bs[n]! = bs[8 * j + n % 8]! := by
        have : n = 8 * j + n % 8 := by omega
        rw [← this]
      rw [hb]
      show wordTo bs (8 * j) (n % 8 + 1) = _
      by_cases h8 : n % 8 = 7
      · rw [if_pos (by omega), h8]
        rfl
      · rw [if_neg (by omega), if_pos (by omega), show (n + 1) % 8 = n % 8 + 1 by omega]
    · rw [getElem!_set_other _ _ _ _ hjn, ih]
      by_cases h1 : j < n / 8
      · rw [if_pos h1, if_pos (by omega)]
      · rw [if_neg h1, if_neg hjn, if_neg (by omega)]
        by_cases h2 : j = (n + 1) / 8
        · rw [if_pos h2, show (n + 1) % 8 = 0 by omega]
          rfl
        · rw [if_neg h2]
theorem mixTo_at (bs : Bs) (d : St) (hd : d.size = 25) (n j : Nat) (hn : n ≤ 25) (hj : j < 25) : (mixTo bs d n)[j]! = if j < n then d[j]! ^^^ wordOf bs (8 * j) else d[j]! := by
  induction n with
  | zero => rfl
  | succ n ih =>
    have ih := ih (by omega)
    rw [mixTo]
    unfold xorAt
    by_cases hjn : j = n
    · rw [← hjn, getElem!_set_same _ _ _ (by rw [mixTo_size, hd]; exact hj), if_pos (by omega)]
      rw [← hjn] at ih
      rw [ih, if_neg (by omega)]
    · rw [getElem!_set_other _ _ _ _ hjn, ih]
      by_cases h1 : j < n
      · rw [if_pos h1, if_pos (by omega)]
      · rw [if_neg h1, if_neg (by omega)]
theorem st_ext (a b : St) (ha : a.size = 25) (hb : b.size = 25) (h : ∀ j, j < 25 → a[j]! = b[j]!) : a = b := by
  apply Array.ext (by omega)
  intro i h1 h2
  have := h i (by omega)
  rwa [getElem!_pos a i h1, getElem!_pos b i h2] at this
theorem or_mix (bs : Bs) : orTo bs 200 = mixTo bs zero25 25 := by
  have hz : zero25.size = 25 := by simp [zero25]
  refine st_ext _ _ (orTo_size _ _) (by rw [mixTo_size, hz]) (fun j hj => ?_)
  rw [orTo_at bs 200 j (Nat.le_refl _) hj, mixTo_at bs zero25 hz 25 j (Nat.le_refl _) hj, if_pos (by omega), if_pos hj, zero25_at j hj, zx]
theorem ref_permB (bs : Bs) : front (refTo (orTo bs 200) 24) 200 = permB bs := by
  have hz : zero25.size = 25 := by simp [zero25]
  rw [refTo_eq _ (orTo_size _ _) 24 (Nat.le_refl _), or_mix]
  rfl
end Go.Proofs.Ytboigmhioojenaa.SP
namespace Go.Proofs.Ytboigmhioojenaa.SP
open Go.RowKit Go.Sort
theorem holds_zero25 (w : World) (t : TypeId) : Holds enc (w.alloc (.cells #[.int .u64 0, .int .u64 0, .int .u64 0, .int .u64 0, .int .u64 0, .int .u64 0, .int .u64 0, .int .u64 0, .int .u64 0, .int .u64 0, .int .u64 0, .int .u64 0, .int .u64 0, .int .u64 0, .int .u64 0, .int .u64 0, .int .u64 0, .int .u64 0, .int .u64 0, .int .u64 0, .int .u64 0, .int .u64 0, .int .u64 0, .int .u64 0, .int .u64 0] t)) w.heap.size 0 zero25 := by
  have h := Holds.new (enc := enc) w t zero25
  have e : Array.map enc zero25 = #[.int .u64 0, .int .u64 0, .int .u64 0, .int .u64 0, .int .u64 0, .int .u64 0, .int .u64 0, .int .u64 0, .int .u64 0, .int .u64 0, .int .u64 0, .int .u64 0, .int .u64 0, .int .u64 0, .int .u64 0, .int .u64 0, .int .u64 0, .int .u64 0, .int .u64 0, .int .u64 0, .int .u64 0, .int .u64 0, .int .u64 0, .int .u64 0, .int .u64 0] := by
    simp [zero25, Array.replicate, List.replicate]
    rfl
  rw [e] at h
  exact h
end Go.Proofs.Ytboigmhioojenaa.SP
namespace Go.Proofs.Ytboigmhioojenaa.SP
open Go.RowKit Go.Sort Go.Deep
attribute [local go_sem] bits_xor64 bits_and64 bits_or64 wrap_u
end Go.Proofs.Ytboigmhioojenaa.SP
namespace Go.Proofs.Ytboigmhioojenaa.SP
open Go.RowKit Go.Sort Go.Deep
attribute [local go_sem] bits_xor64 bits_and64 bits_or64 wrap_u
theorem place_uint (j : Nat) (hj : j < 7) : min (IntKind.u64.wrap (IntKind.u64.wrap ((2 : Int) ^ j) - 1)).toNat 64 = 2 ^ j - 1 := by
  have H : ∀ j : Fin 7, min (IntKind.u64.wrap (IntKind.u64.wrap ((2 : Int) ^ j.val) - 1)).toNat 64 = 2 ^ j.val - 1 := by decide +kernel
  exact H ⟨j, hj⟩
theorem info3 : (Try.prog.info? 3).map (fun i => (i.zero, i.size, i.bytes)) = some (some (.int .i64 0), 1, 8) := by kernel_rfl
theorem at_int {w : World} {b off : Nat} {d : Array Nat} (h : Holds encI w b off d) (i : Nat) (hi : i < d.size) {x : Nat} (hx : d[i]! = x) :
    w.cell? ⟨b, off + i, none⟩ = some (.int .i64 (x : Int)) ∧ w.frozen? ⟨b, off + i, none⟩ = false := by
  rw [← hx]; exact h i hi
theorem offs_int' (t : Nat) (h : t < 24) : (wrap64 ((wrap64 (((t : Int) + 1) * ((t : Int) + 2))).tdiv 2)).tmod 64 = (offs t : Int) := by
  have H : ∀ j : Fin 24, (wrap64 ((wrap64 (((j.val : Int) + 1) * ((j.val : Int) + 2))).tdiv 2)).tmod 64 = (offs j.val : Int) := by decide +kernel
  exact H ⟨t, h⟩
end Go.Proofs.Ytboigmhioojenaa.SP
namespace Go.Proofs.Ytboigmhioojenaa.SP
open Go.RowKit Go.Sort Go.Deep
attribute [local go_sem] bits_xor64 bits_and64 bits_or64 bits_not64 wrap_u
end Go.Proofs.Ytboigmhioojenaa.SP
namespace Go.Proofs.Ytboigmhioojenaa.SP
open Go.RowKit Go.Sort Go.Deep
attribute [local go_sem] bits_xor64 bits_and64 bits_or64 bits_not64 wrap_u wrap_ub low_u
end Go.Proofs.Ytboigmhioojenaa.SP
namespace Go.Proofs.Ytboigmhioojenaa.SP
open Go.RowKit Go.Sort Go.Deep
/-- What is at the front is held. -/
theorem Holds.fore {α : Type} [Inhabited α] {f : α → Value} {w : World} {b o : Nat} {d e : Array α} (h : Holds f w b o d) (hs : e.size ≤ d.size) (he : ∀ j, j < e.size → e[j]! = d[j]!) : Holds f w b o e := by
  intro j hj
  rw [he j hj]
  exact h j (by omega)
theorem lentTo_front (s : ByteArray) (k j : Nat) (hj : j < s.data.size) : (lentTo s k)[j]! = s.data[j]! := by
  induction k with
  | zero => rw [lent_front s j hj, getElem!_pos s.data j hj]
  | succ k ih =>
    show ((lentTo s k).setIfInBounds (s.size + k) (fill (s.size + k)))[j]! = _
    have : s.data.size = s.size := rfl
    rw [getElem!_set_other _ _ _ _ (by omega), ih]
theorem holds_text {w : World} {b : Nat} (s : ByteArray) (h : Holds encB w b 0 (lent s)) : Holds encB w b 0 s.data := by
  have : s.data.size = s.size := rfl
  exact Holds.fore h (by rw [lent_size]; omega) (fun j hj => (lentTo_front s 160 j hj).symm)
end Go.Proofs.Ytboigmhioojenaa.SP
