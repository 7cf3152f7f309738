import Derived.Lib.ConvBytes
import Derived.Laws.IdiomCopy
import Derived.Test.YtfkgfcggcfkkiaaDoorwk6
set_option linter.unusedVariables false
set_option linter.unusedSimpArgs false
namespace Go.Proofs.YtfkgfcggcfkkiaaDoor
open Go.RowKit Go.Sort Go.Deep
namespace WI
/-- Items' cells, in a row. -/
def IC (w : World) (B : Nat) : List Itm → List Value → Prop
  | [], cs => cs = []
  | i :: r, cs => ∃ vd vl cs', cs = .int .i64 i.k :: .int .u64 (i.n : Int) :: vd :: vl :: cs' ∧ InM w B i vd vl ∧ IC w B r cs'
theorem IC.len {w : World} {B : Nat} : ∀ {l : List Itm} {cs : List Value}, IC w B l cs → cs.length = l.length * 4
  | [], cs, h => by rw [IC] at h; rw [h]; rfl
  | i :: r, cs, h => by
    rw [IC] at h
    obtain ⟨vd, vl, cs', rfl, -, h3⟩ := h
    have := h3.len
    simp only [List.length_cons]
    omega
theorem IC.app {w : World} {B : Nat} {m : List Itm} {ds : List Value} (h2 : IC w B m ds) : ∀ {l : List Itm} {cs : List Value}, IC w B l cs → IC w B (l ++ m) (cs ++ ds)
  | [], cs, h => by rw [IC] at h; rw [h]; exact h2
  | i :: r, cs, h => by
    rw [IC] at h
    obtain ⟨vd, vl, cs', rfl, h1, h3⟩ := h
    rw [List.cons_append, IC]
    exact ⟨vd, vl, cs' ++ ds, rfl, h1, IC.app h2 h3⟩
theorem IC.cut {w : World} {B : Nat} : ∀ {l : List Itm} {cs : List Value} (k : Nat), IC w B l cs → IC w B (l.take k) (cs.take (k * 4)) ∧ IC w B (l.drop k) (cs.drop (k * 4))
  | l, cs, 0, h => by simp only [List.take_zero, Nat.zero_mul, List.drop_zero]; exact ⟨by rw [IC], h⟩
  | [], cs, k + 1, h => by rw [IC] at h; rw [h]; simp [IC]
  | i :: r, cs, k + 1, h => by
    rw [IC] at h
    obtain ⟨vd, vl, cs', rfl, h1, h3⟩ := h
    have := IC.cut k h3
    rw [show (k + 1) * 4 = k * 4 + 1 + 1 + 1 + 1 by omega]
    simp only [List.take_succ_cons, List.drop_succ_cons]
    refine ⟨?_, this.2⟩
    rw [IC]
    exact ⟨vd, vl, _, rfl, h1, this.1⟩
theorem IC.at {w w' : World} {B : Nat} (hb : ∀ k, k < B → w'.heap[k]? = w.heap[k]?) : ∀ {l : List Itm} {cs : List Value}, IC w B l cs → IC w' B l cs
  | [], cs, h => by rw [IC] at h ⊢; exact h
  | i :: r, cs, h => by
    rw [IC] at h ⊢
    obtain ⟨vd, vl, cs', h0, h1, h3⟩ := h
    exact ⟨vd, vl, cs', h0, InM.at hb i vd vl h1, IC.at hb h3⟩
theorem IC.mono {w : World} {B B' : Nat} (hB : B ≤ B') : ∀ {l : List Itm} {cs : List Value}, IC w B l cs → IC w B' l cs
  | [], cs, h => by rw [IC] at h ⊢; exact h
  | i :: r, cs, h => by
    rw [IC] at h ⊢
    obtain ⟨vd, vl, cs', h0, h1, h3⟩ := h
    exact ⟨vd, vl, cs', h0, InM.mono hB i vd vl h1, IC.mono hB h3⟩
theorem IC.up {w w' : World} {l : List Itm} {cs : List Value} (h : IC w w.heap.size l cs) (hb : Below w.heap.size w w') : IC w' w'.heap.size l cs := IC.mono hb.size (IC.at (fun k hk => hb.block k hk) h)
theorem IC.one {w : World} {B : Nat} : ∀ {l : List Itm} {cs : List Value}, IC w B l cs → ∀ u ∈ cs, u.oneCell' = true
  | [], cs, h => by rw [IC] at h; rw [h]; intro u hu; cases hu
  | i :: r, cs, h => by
    rw [IC] at h
    obtain ⟨vd, vl, cs', rfl, h1, h3⟩ := h
    obtain ⟨qd, dl, cd, ql, m, cl, rfl, rfl⟩ := h1.form
    intro u hu
    simp only [List.mem_cons] at hu
    rcases hu with rfl | rfl | rfl | rfl | hu
    · rfl
    · rfl
    · rfl
    · rfl
    · exact IC.one h3 u hu
theorem IC.inl {w : World} {B b : Nat} : ∀ {l : List Itm} {cs : List Value} (o : Nat), IC w B l cs → (∀ j u, cs[j]? = some u → w.cell? ⟨b, o + j, none⟩ = some u) → InL w B l b o
  | [], cs, o, h, _ => by rw [InL]; trivial
  | i :: r, cs, o, h, hc => by
    rw [IC] at h
    obtain ⟨vd, vl, cs', rfl, h1, h3⟩ := h
    rw [InL]
    refine ⟨⟨vd, vl, ⟨hc 0 _ rfl, hc 1 _ rfl, hc 2 _ rfl, hc 3 _ rfl⟩, h1⟩, IC.inl (o + 4) h3 fun j u hj => ?_⟩
    rw [Nat.add_assoc, Nat.add_comm 4 j]
    exact hc (j + 4) u hj
theorem IC.last {w : World} {B : Nat} {i : Itm} {l : List Itm} {cs : List Value} (h : IC w B (l ++ [i]) cs) : ∃ vd vl, cs[l.length * 4]? = some (.int .i64 i.k) ∧ cs[l.length * 4 + 1]? = some (.int .u64 (i.n : Int)) ∧ cs[l.length * 4 + 2]? = some vd ∧ cs[l.length * 4 + 3]? = some vl ∧ InM w B i vd vl := by
  have := (IC.cut l.length h).2
  rw [List.drop_left] at this
  rw [IC] at this
  obtain ⟨vd, vl, cs', h0, h1, h3⟩ := this
  have e : ∀ j, cs[l.length * 4 + j]? = (cs.drop (l.length * 4))[j]? := fun j => by rw [List.getElem?_drop]
  exact ⟨vd, vl, by rw [← Nat.add_zero (l.length * 4), e, h0]; rfl, by rw [e, h0]; rfl, by rw [e, h0]; rfl, by rw [e, h0]; rfl, h1⟩
theorem undI : Tryd.prog.underlying 25 = some (.slice 27) := by kernel_rfl
theorem infoI : (Tryd.prog.info? 27).map (fun i => (i.size, i.bytes, i.zero.map (fun z => z.cells.size))) = some (4, 64, some 4) := by kernel_rfl
/-- 'append(l, x...)' of items. -/
theorem it_app {base : Nat} {W : World} {v : Value} {n m c : Nat} {xs news : List Value} {q : Option Addr} (hown : W.ownsRow base 27 4 v n xs) (hl : news.length = m * 4) (hq : m = 0 ∨ ∃ b o, q = some ⟨b, o, none⟩ ∧ ∀ j u, news[j]? = some u → W.cell? ⟨b, o + j, none⟩ = some u) (h1 : ∀ u ∈ news, u.oneCell' = true) (hn : n + m ≤ 1000000) (hb : base ≤ W.heap.size) :
    ∃ v' W', (Builtin.append_ #[25, 25] 25 #[v, .slice q m c]).run Tryd.prog W = .ok v' W' ∧ W'.ownsRow base 27 4 v' (n + m) (xs ++ news) ∧ W.grownBy W' v.ownBlock := by
  obtain ⟨i, hi, he⟩ := Option.map_eq_some_iff.1 infoI
  simp only [Prod.mk.injEq] at he
  obtain ⟨h2, h3, h4⟩ := he
  obtain ⟨z, hz, hz2⟩ := Option.map_eq_some_iff.1 h4
  cases q with
  | none =>
    obtain rfl : m = 0 := by
      rcases hq with h | ⟨b, o, h, -⟩
      · exact h
      · cases h
    obtain rfl : news = [] := List.length_eq_zero_iff.1 (by simpa using hl)
    rcases id hown with ⟨-, ⟨rfl, rfl⟩ | ⟨g, cap, cur, rfl, g1, g2, g3, g4⟩⟩
    · refine ⟨.slice none 0 0, W, ?_, by rw [List.append_nil]; exact hown, ⟨rfl, rfl, rfl, Nat.le_refl _, fun _ _ _ => rfl⟩⟩
      kernel_rfl
    · have hap := run_append_room_src (P := Tryd.prog) W 25 25 25 27 i undI hi g 0 n cap (.slice none 0 c) 0 [] (Src.ofNil (e' := 27) _ undI c) g3 (fun j hj => by cases hj) (fun j hj => by cases hj)
      refine ⟨_, _, hap, ?_, ⟨rfl, rfl, rfl, Nat.le_refl _, fun _ _ _ => rfl⟩⟩
      rw [List.append_nil]
      exact hown
  | some a =>
    by_cases h0 : m = 0
    · subst h0
      obtain rfl : news = [] := List.length_eq_zero_iff.1 (by simpa using hl)
      obtain ⟨v', W', r1, r2, r3, r4⟩ := run_append_own (P := Tryd.prog) W base 25 25 27 i z 4 64 undI hi hz h2 h3 hz2 (by decide) v n xs hown a 0 c [] rfl (fun j u hj => by cases hj) (fun u hu => by cases hu) (by unfold maxLen; omega) (by omega) hb
      exact ⟨v', W', r1, r2, r3⟩
    · rcases hq with h | ⟨b, o, h, hc⟩
      · exact absurd h h0
      · obtain rfl := Option.some.inj h
        obtain ⟨v', W', r1, r2, r3, r4⟩ := run_append_own (P := Tryd.prog) W base 25 25 27 i z 4 64 undI hi hz h2 h3 hz2 (by decide) v n xs hown ⟨b, o, none⟩ m c news hl (fun j u hj => by rw [addS0]; exact hc j u hj) h1 (by unfold maxLen; omega) (by omega) hb
        exact ⟨v', W', r1, r2, r3⟩
/-- The cells of a row of one's own. -/
theorem own_cells {base n : Nat} {W : World} {v : Value} {xs : List Value} (h : W.ownsRow base 27 4 v n xs) : (n = 0 ∧ v = .slice none 0 0 ∧ xs = []) ∨ ∃ g cap, v = .slice (some ⟨g, 0, none⟩) n cap ∧ base ≤ g ∧ g < W.heap.size ∧ n ≤ cap ∧ cap ≤ maxLen ∧ ∀ j u, xs[j]? = some u → W.cell? ⟨g, j, none⟩ = some u := by
  rcases h with ⟨h0, ⟨rfl, rfl⟩ | ⟨g, cap, cur, rfl, h1, h2, h3, h4, h5, h6⟩⟩
  · exact Or.inl ⟨rfl, rfl, List.length_eq_zero_iff.1 (by simpa using h0)⟩
  · refine Or.inr ⟨g, cap, rfl, h1, (Array.getElem?_eq_some_iff.1 h2).1, h3, h4, fun j u hj => ?_⟩
    have hl := (List.getElem?_eq_some_iff.1 hj).1
    rw [← h6, List.getElem?_take] at hj
    split at hj
    · rw [Array.getElem?_toList] at hj
      unfold World.cell?
      simp only [h2]
      exact hj
    · cases hj
theorem slI_hi (b o n c k : Nat) (hk : k ≤ c) (w : World) : (Instr.sliceAt 25 (.slice (some ⟨b, o, none⟩) n c) none (some (.int .i64 (k : Int))) none).run Tryd.prog w = .ok (.slice (some ⟨b, o, none⟩) k c) w := by
  have h1 : (k : Int) ≤ c := by omega
  go_simp
theorem slI_lo (b o n c k : Nat) (hk : k ≤ n) (hc : n ≤ c) : ∃ o', (∀ w : World, (Instr.sliceAt 25 (.slice (some ⟨b, o, none⟩) n c) (some (.int .i64 (k : Int))) none none).run Tryd.prog w = .ok (.slice (some ⟨b, o', none⟩) (n - k) (c - k)) w) ∧ (k < n → o' = o + k * 4) := by
  have h1 : ¬ (k : Int) < 0 := by omega
  have h2 : (k : Int) ≤ (n : Int) := by omega
  by_cases h : k = c
  · obtain rfl : n = k := by omega
    subst h
    exact ⟨o, fun w => by go_simp, fun h => by omega⟩
  · have h3 : ¬ c = k := fun e => h e.symm
    have e := addS0 b o (k * 4)
    have e' := addS0 b o (4 * k)
    rw [Nat.mul_comm] at e'
    refine ⟨o + k * 4, fun w => ?_, fun _ => rfl⟩
    have h4 : (n : Int) ≤ (c : Int) := by omega
    go_simp
    try rw [if_neg (by omega), Nat.mul_comm]
theorem slI_n1 (w : World) : (Instr.sliceAt 25 (.slice none 0 0) none (some (.int .i64 0)) none).run Tryd.prog w = .ok (.slice none 0 0) w := by kernel_rfl
theorem slI_n2 (w : World) : (Instr.sliceAt 25 (.slice none 0 0) (some (.int .i64 0)) none none).run Tryd.prog w = .ok (.slice none 0 0) w := by kernel_rfl
end WI
end Go.Proofs.YtfkgfcggcfkkiaaDoor
namespace Go.Proofs.YtfkgfcggcfkkiaaDoor
open Go.RowKit Go.Sort Go.Deep
namespace WI
/-- How many of the last a step takes. -/
def cnS (c : Int) : Nat := (if c < 0 then -(c + 1) else c).toNat % 9
/-- A step. -/
def stp (st : List Itm) (x : Nd) : List Itm := st.take (st.length - min (cnS x.c) st.length) ++ [.mk x.k x.n x.s.data.toList (st.drop (st.length - min (cnS x.c) st.length))]
def bst (L : List Nd) : List Itm := L.foldl stp []
/-- What is built. -/
def bld (L : List Nd) : Itm := (bst L).getLast?.getD (.mk 0 0 [] [])
theorem stp_len (st : List Itm) (x : Nd) : (stp st x).length ≤ st.length + 1 := by
  unfold stp; rw [List.length_append, List.length_take]; have : ([Itm.mk x.k x.n x.s.data.toList (st.drop (st.length - min (cnS x.c) st.length))]).length = 1 := rfl; omega
theorem bst_snoc (L : List Nd) (x : Nd) : bst (L ++ [x]) = stp (bst L) x := by unfold bst; rw [List.foldl_append]; rfl
theorem bst_take (L : List Nd) (j : Nat) (x : Nd) (h : L[j]? = some x) : bst (L.take (j + 1)) = stp (bst (L.take j)) x := by
  obtain ⟨hj, e⟩ := List.getElem?_eq_some_iff.1 h
  rw [List.take_succ_eq_append_getElem hj, e, bst_snoc]
theorem bst_len (L : List Nd) (j : Nat) : (bst (L.take j)).length ≤ j := by
  induction j with
  | zero => rw [List.take_zero]; exact Nat.le_refl _
  | succ j ih =>
    cases h : L[j]? with
    | none =>
      have := List.getElem?_eq_none_iff.1 h
      rw [List.take_of_length_le (by omega)]
      rw [List.take_of_length_le (by omega)] at ih
      omega
    | some x =>
      rw [bst_take L j x h]
      have := stp_len (bst (L.take j)) x
      omega
/-- A text's bytes, new. -/
def DB (w : World) (base : Nat) (v : Value) (s : ByteArray) : Prop := ∃ (g cap : Nat) (cs : Array Value) (fz : Nat × Nat), v = .slice (some ⟨g, 0, none⟩) s.size cap ∧ s.size ≤ cap ∧ base ≤ g ∧ w.heap[g]? = some (.cells cs 5 fz) ∧ ∀ (j : Nat) (u : UInt8), s.data.toList[j]? = some u → cs[j]? = some (Value.int .u8 (u.toNat : Int))
theorem DB.below {w w' : World} {base : Nat} {v : Value} {s : ByteArray} (h : DB w base v s) (hb : Below w.heap.size w w') : DB w' base v s := by
  obtain ⟨g, cap, cs, fz, h1, h2, h3, h4, h5⟩ := h
  exact ⟨g, cap, cs, fz, h1, h2, h3, by rw [hb.block g (Array.getElem?_eq_some_iff.1 h4).1]; exact h4, h5⟩
theorem DB.pbb {w : World} {base : Nat} {v : Value} {s : ByteArray} (h : DB w base v s) : PBb w w.heap.size v s.data.toList := by
  obtain ⟨g, cap, cs, fz, h1, h2, h3, h4, h5⟩ := h
  have hl : s.data.toList.length = s.size := by rw [Array.length_toList]; rfl
  refine ⟨some ⟨g, 0, none⟩, cap, by rw [hl]; exact h1, by rw [hl]; exact h2, Or.inr ⟨g, 0, rfl, (Array.getElem?_eq_some_iff.1 h4).1, fun j u hj => ?_⟩⟩
  have := h5 j u hj
  unfold World.cell?
  simp only [h4, Nat.zero_add]
  exact this
theorem conv_DB (s : ByteArray) (w : World) (base : Nat) (hb : base ≤ w.heap.size) : ∃ v w', (convert 9 22 (.string s)).run Tryd.prog w = .ok v w' ∧ DB w' base v s ∧ Below w.heap.size w w' := by
  have h := Lib.run_convert_string_bytes (P := Tryd.prog) w 9 22 5 s (u := .string) (by kernel_rfl) undB (by kernel_rfl)
  have hcap : s.size ≤ grownCap w s.size 0 5 := by
    unfold grownCap Question.cut
    exact Nat.le_add_right _ _
  refine ⟨_, _, h, ⟨w.heap.size, _, _, _, rfl, hcap, hb, Lib.bytesWorld_at_new w 5 s, fun j u hj => ?_⟩, ⟨?_, ?_, ?_, ?_, fun k hk => Lib.bytesWorld_at_old w 5 s k hk⟩⟩
  · have hj2 := (List.getElem?_eq_some_iff.1 hj).1
    rw [Array.getElem?_toList] at hj
    rw [Array.length_toList] at hj2
    unfold Lib.bytesCells
    rw [Array.getElem?_append_left (by rw [Array.size_map]; exact hj2), Array.getElem?_map, hj]
    rfl
  · unfold Lib.bytesWorld World.freeze
    rw [if_neg (by decide)]
    rfl
  · unfold Lib.bytesWorld World.freeze
    rw [if_neg (by decide)]
    rfl
  · unfold Lib.bytesWorld World.freeze
    rw [if_neg (by decide)]
    rfl
  · rw [Lib.bytesWorld_size]; omega
/-- A box of an item, new. -/
def BXi (w : World) (base g : Nat) (cs : List Value) : Prop := base ≤ g ∧ w.heap[g]? = some (.cells cs.toArray 27 (0, 0))
theorem BXi.below {w w' : World} {base g : Nat} {cs : List Value} (h : BXi w base g cs) (hb : Below w.heap.size w w') : BXi w' base g cs := ⟨h.1, by rw [hb.block g (Array.getElem?_eq_some_iff.1 h.2).1]; exact h.2⟩
/-- The values of region 11. -/
def G11 (q : Option Addr) (m c j b o : Nat) (x : Nd) (base : Nat) (w0 : World) : RX.Gw where
  R i v w := if i = 15 then DB w base v x.s else if i = 16 then ∃ v', v = .agg #[.int .i64 x.k, .int .u64 (x.n : Int), v', .slice none 0 0] ∧ DB w base v' x.s else if i = 17 then ∃ g, v = .pointer (some ⟨g, 0, none⟩) ∧ BXi w base g [.int .i64 0, .int .u64 0, .slice none 0 0, .slice none 0 0] else v = ([.slice q m c, .int .i64 (j : Int), .pointer (some ⟨b, o, none⟩), .pointer (some ⟨b, o, none⟩), .int .i64 x.k, .slice q m c, .int .i64 (j : Int), .pointer (some ⟨b, o, none⟩), .pointer (some ⟨b, o + 1, none⟩), .int .u64 (x.n : Int), .slice q m c, .int .i64 (j : Int), .pointer (some ⟨b, o, none⟩), .pointer (some ⟨b, o + 2, none⟩), .string x.s] : List Value).getD i undef
  B w := Below w0.heap.size w0 w
  sR i v w w' hb h := by
    by_cases e : i = 15
    · rw [if_pos e] at h ⊢; exact h.below hb
    · rw [if_neg e] at h ⊢
      by_cases e : i = 16
      · rw [if_pos e] at h ⊢
        obtain ⟨v', h1, h2⟩ := h
        exact ⟨v', h1, h2.below hb⟩
      · rw [if_neg e] at h ⊢
        by_cases e : i = 17
        · rw [if_pos e] at h ⊢
          obtain ⟨g, h1, h2⟩ := h
          exact ⟨g, h1, h2.below hb⟩
        · rw [if_neg e] at h ⊢; exact h
  sB w w' hb h := h.trans (hb.mono h.size)
end WI
namespace RX
open Go.Proofs.YtfkgfcggcfkkiaaDoor.RG
theorem gw_idxX {P : Program} {ops : Array Oper} {Q : Exit → Act → World → Prop} {a0 : Act} {G : Gw} {k : Nat} {o : Oper} (T : TypeId) (s t : Tmp) (ho : o.op = .indexAddr T (.tmp s) (.tmp t))
    (h : ∀ (a : Act) (w : World), PreG G ops a0 k o a w → ∃ v1 v2 v, a.eval (.tmp s) = v1 ∧ a.eval (.tmp t) = v2 ∧ (Instr.indexAt T v1 v2).run P w = .ok v w ∧ G.R k v w) : CertF P Q G.flow ops a0 k o :=
  cf_val fun a w hp => by
    obtain ⟨v1, v2, v, h1, h2, h3, hR⟩ := h a w (pre_of hp)
    refine ⟨v, w, ?_, Below.refl _ _, hR⟩
    unfold execOp
    rw [ho]
    dsimp only
    rw [h1, h2, Sem.run_bind, h3]
    rfl
/-- A conversion that makes memory. -/
theorem gw_cnvM {P : Program} {ops : Array Oper} {Q : Exit → Act → World → Prop} {a0 : Act} {G : Gw} {k : Nat} {o : Oper} (T T' : TypeId) (t : Tmp) (ho : o.op = .convert T T' (.tmp t))
    (h : ∀ (a : Act) (w : World), PreG G ops a0 k o a w → ∃ v1 v w', a.eval (.tmp t) = v1 ∧ (convert T T' v1).run P w = .ok v w' ∧ Below w.heap.size w w' ∧ G.R k v w') : CertF P Q G.flow ops a0 k o :=
  cf_val fun a w hp => by
    obtain ⟨v1, v, w', h1, h3, hb, hR⟩ := h a w (pre_of hp)
    refine ⟨v, w', ?_, hb, hR⟩
    unfold execOp
    rw [ho]
    dsimp only
    rw [h1, Sem.run_bind, h3]
    rfl
end RX
end Go.Proofs.YtfkgfcggcfkkiaaDoor
namespace Go.Proofs.YtfkgfcggcfkkiaaDoor
open Go.RowKit Go.Sort Go.Deep
namespace RX
open Go.Proofs.YtfkgfcggcfkkiaaDoor.RG
section
variable {P : Program} {ops : Array Oper} {Q : Exit → Act → World → Prop} {a0 : Act} {F : Flow} {k : Nat} {o : Oper}
theorem cf_shiX (T : TypeId) (s t : Tmp) (ho : o.op = .slice T (.tmp s) none (some (.tmp t)) none)
    (h : ∀ (a : Act) (w : World), PreF F ops a0 k o a w → ∃ v1 v2 v, a.eval (.tmp s) = v1 ∧ a.eval (.tmp t) = v2 ∧ (Instr.sliceAt T v1 none (some v2) none).run P w = .ok v w ∧ F.E k w w ∧ F.R k v w) : CertF P Q F ops a0 k o :=
  cf_val fun a w hp => by
    obtain ⟨v1, v2, v, h1, h2, h3, hE, hR⟩ := h a w hp
    refine ⟨v, w, ?_, hE, hR⟩
    unfold execOp
    rw [ho]
    dsimp only [Option.map]
    rw [h1, h2, Sem.run_bind, h3]
    rfl
theorem cf_sloX (T : TypeId) (s t : Tmp) (ho : o.op = .slice T (.tmp s) (some (.tmp t)) none none)
    (h : ∀ (a : Act) (w : World), PreF F ops a0 k o a w → ∃ v1 v2 v, a.eval (.tmp s) = v1 ∧ a.eval (.tmp t) = v2 ∧ (Instr.sliceAt T v1 (some v2) none none).run P w = .ok v w ∧ F.E k w w ∧ F.R k v w) : CertF P Q F ops a0 k o :=
  cf_val fun a w hp => by
    obtain ⟨v1, v2, v, h1, h2, h3, hE, hR⟩ := h a w hp
    refine ⟨v, w, ?_, hE, hR⟩
    unfold execOp
    rw [ho]
    dsimp only [Option.map]
    rw [h1, h2, Sem.run_bind, h3]
    rfl
theorem cf_subX (T T' : TypeId) (s t : Tmp) (ho : o.op = .binOp .sub T (.tmp s) (.tmp t) T')
    (h : ∀ (a : Act) (w : World), PreF F ops a0 k o a w → ∃ v1 v2 v, a.eval (.tmp s) = v1 ∧ a.eval (.tmp t) = v2 ∧ (binOp .sub T v1 v2).run P w = .ok v w ∧ F.E k w w ∧ F.R k v w) : CertF P Q F ops a0 k o :=
  cf_val fun a w hp => by
    obtain ⟨v1, v2, v, h1, h2, h3, hE, hR⟩ := h a w hp
    refine ⟨v, w, ?_, hE, hR⟩
    unfold execOp
    rw [ho]
    dsimp only
    rw [h1, h2, Sem.run_bind, Sem.run_bind, show (eqGuard .sub T (.tmp s) (.tmp t) v1 v2).run P w = .ok () w from rfl]
    dsimp only [Result.andThen]
    rw [h3]
    rfl
end
end RX
namespace WI
theorem own_atI {base n : Nat} {W W' : World} {v : Value} {xs : List Value} (h : W.ownsRow base 27 4 v n xs) (hb : ∀ g, g < W.heap.size → W'.heap[g]? = W.heap[g]?) : W'.ownsRow base 27 4 v n xs := by
  rcases h with ⟨h0, h1 | ⟨g, cap, cur, h1, h2, h3, h4⟩⟩
  · exact ⟨h0, Or.inl h1⟩
  · exact ⟨h0, Or.inr ⟨g, cap, cur, h1, h2, by rw [hb g (Array.getElem?_eq_some_iff.1 h3).1]; exact h3, h4⟩⟩
/-- 'append([]api.Item{}, x...)'. -/
theorem it_app0 {base g : Nat} {W : World} {m c : Nat} {news : List Value} {q : Option Addr} (hg : base ≤ g) (hg2 : W.heap[g]? = some (.cells #[] 27 (0, 0))) (hl : news.length = m * 4) (hq : m = 0 ∨ ∃ b o, q = some ⟨b, o, none⟩ ∧ ∀ j u, news[j]? = some u → W.cell? ⟨b, o + j, none⟩ = some u) (h1 : ∀ u ∈ news, u.oneCell' = true) (hn : m ≤ 1000000) (hb : base ≤ W.heap.size) :
    ∃ v' W', (Builtin.append_ #[25, 25] 25 #[.slice (some ⟨g, 0, none⟩) 0 0, .slice q m c]).run Tryd.prog W = .ok v' W' ∧ W'.ownsRow base 27 4 v' m news ∧ Below W.heap.size W W' := by
  obtain ⟨i, hi, he⟩ := Option.map_eq_some_iff.1 infoI
  simp only [Prod.mk.injEq] at he
  obtain ⟨h2, h3, h4⟩ := he
  obtain ⟨z, hz, hz2⟩ := Option.map_eq_some_iff.1 h4
  have hown : W.ownsRow base 27 4 (.slice (some ⟨g, 0, none⟩) 0 0) 0 [] := ⟨rfl, .inr ⟨g, 0, #[], rfl, hg, hg2, Nat.le_refl _, Nat.zero_le _, rfl, rfl⟩⟩
  by_cases h0 : m = 0
  · subst h0
    obtain rfl : news = [] := List.length_eq_zero_iff.1 (by simpa using hl)
    have hs : Src Tryd.prog i.size 25 (.slice q 0 c) 0 [] W := by
      cases q with
      | none => exact Src.ofNil (e' := 27) _ undI c
      | some a => exact Src.ofSlice (e' := 27) _ undI a 0 c [] (by simp) (fun j u hj => by simp at hj) (fun u hu => by cases hu)
    have hap := run_append_room_src (P := Tryd.prog) W 25 25 25 27 i undI hi g 0 0 0 (.slice q 0 c) 0 [] hs (Nat.le_refl _) (fun j hj => by cases hj) (fun j hj => by cases hj)
    exact ⟨_, _, hap, hown, Below.refl _ _⟩
  · obtain ⟨v', W', r1, r2, r3⟩ := it_app (c := c) hown hl hq h1 (by omega) hb
    rw [Nat.zero_add, List.nil_append] at r2
    refine ⟨v', W', r1, r2, ?_⟩
    rcases hq with h | ⟨b, o, rfl, hc⟩
    · exact absurd h h0
    have hs : Src Tryd.prog i.size 25 (.slice (some ⟨b, o, none⟩) m c) m news W := Src.ofSlice (e' := 27) _ undI ⟨b, o, none⟩ m c news (by rw [hl, h2]) (fun j u hj => by rw [addS0]; exact hc j u hj) h1
    have hh1 := nextcap_le (0 + m) 0 (by omega)
    have hh2 : Builtin.nextslicecap (0 + m) 0 * i.bytes ≤ (2 * (0 + m) + 768) * 64 := by rw [h3]; exact Nat.mul_le_mul_right _ hh1
    have hap := run_append_grow_src (P := Tryd.prog) W 25 25 25 27 i z undI hi hz (some ⟨g, 0, none⟩) 0 0 [] (by
      unfold Builtin.firstCells
      rw [Nat.zero_mul]
      rfl) (.slice (some ⟨b, o, none⟩) m c) m news hs (by omega) (by omega) (Nat.le_trans hh2 (by clear hh1 hh2; omega))
    rw [hap] at r1
    injection r1 with e1 e2
    rw [← e2]
    exact (⟨rfl, rfl, rfl, Nat.le_refl _, fun _ _ => rfl⟩ : Below W.heap.size W W.drew).trans ((Below.refl _ W.drew).alloc (Nat.le_refl _) _)
theorem sc_other (g k : Nat) (h : k ≠ g) : ∀ (vs : List Value) (o : Nat) (w : World), (w.setCells g o vs).heap[k]? = w.heap[k]?
  | [], _, _ => rfl
  | v :: r, o, w => (sc_other g k h r (o + 1) _).trans (blk_other _ _ _ _ h)
theorem sc_lt (g : Nat) (vs : List Value) (w : World) (h : g < w.heap.size) : g < (w.setCells g 0 vs).heap.size := Nat.lt_of_lt_of_le h (RG.below_setCells (B := g) (Nat.le_refl _) vs 0 w ⟨rfl, rfl, rfl, Nat.le_refl _, fun _ _ => rfl⟩ |>.size |> fun h => h)
theorem four_one (k : Int) (n : Nat) (q : Option Addr) (a b : Nat) (q' : Option Addr) (a' b' : Nat) : (#[Value.int .i64 k, .int .u64 (n : Int), .slice q a b, .slice q' a' b'] : Array Value).all (·.oneCell') = true := by kernel_rfl
/-- A row of one's own, cut in two. -/
theorem st_cut {base n d mm c3 : Nat} {W : World} {q3 : Option Addr} {cs : List Value} (h : W.ownsRow base 27 4 (.slice q3 n c3) n cs) (hd : d + mm = n) :
    ∃ q7 c7, (∀ X : World, (Instr.sliceAt 25 (.slice q3 n c3) (some (.int .i64 (d : Int))) none none).run Tryd.prog X = .ok (.slice q7 mm c7) X) ∧ (mm = 0 ∨ ∃ b o, q7 = some ⟨b, o, none⟩ ∧ b < W.heap.size ∧ ∀ j u, (cs.drop (d * 4))[j]? = some u → W.cell? ⟨b, o + j, none⟩ = some u) ∧
      (∀ X : World, (Instr.sliceAt 25 (.slice q3 n c3) none (some (.int .i64 (d : Int))) none).run Tryd.prog X = .ok (.slice q3 d c3) X) ∧ (d = 0 ∨ ∃ b o, q3 = some ⟨b, o, none⟩ ∧ b < W.heap.size ∧ ∀ j u, (cs.take (d * 4))[j]? = some u → W.cell? ⟨b, o + j, none⟩ = some u) := by
  rcases own_cells h with ⟨h0, h1, h2⟩ | ⟨g, cap, h1, h2, h3, h4, h5, h6⟩
  · injection h1 with e1 e2 e3
    subst e1 e3 h0
    obtain rfl : d = 0 := by omega
    obtain rfl : mm = 0 := by omega
    exact ⟨none, 0, fun X => slI_n2 X, Or.inl rfl, fun X => slI_n1 X, Or.inl rfl⟩
  · injection h1 with e1 e2 e3
    subst e1 e3
    obtain ⟨o', h7, h8⟩ := slI_lo g 0 n c3 d (by omega) h4
    have e : n - d = mm := by omega
    rw [e] at h7
    refine ⟨some ⟨g, o', none⟩, c3 - d, h7, ?_, fun X => slI_hi g 0 n c3 d (by omega) X, ?_⟩
    · by_cases hm : mm = 0
      · exact Or.inl hm
      · refine Or.inr ⟨g, o', rfl, h3, fun j u hj => ?_⟩
        rw [List.getElem?_drop] at hj
        rw [h8 (by omega), Nat.zero_add]
        exact h6 _ _ hj
    · by_cases hm : d = 0
      · exact Or.inl hm
      · refine Or.inr ⟨g, 0, rfl, h3, fun j u hj => ?_⟩
        rw [List.getElem?_take] at hj
        split at hj
        · rw [Nat.zero_add]; exact h6 _ _ hj
        · cases hj
/-- A text's bytes, not in block g. -/
def DBn (w : World) (base : Nat) (v : Value) (s : ByteArray) (g : Nat) : Prop := ∃ (gd cap : Nat) (cs : Array Value) (fz : Nat × Nat), v = .slice (some ⟨gd, 0, none⟩) s.size cap ∧ s.size ≤ cap ∧ (gd ≠ g ∧ base ≤ gd) ∧ w.heap[gd]? = some (.cells cs 5 fz) ∧ ∀ (j : Nat) (u : UInt8), s.data.toList[j]? = some u → cs[j]? = some (Value.int .u8 (u.toNat : Int))
theorem DBn.keep {w w' : World} {base : Nat} {v : Value} {s : ByteArray} {g : Nat} (h : DBn w base v s g) (hb : ∀ k, k < w.heap.size → k ≠ g → w'.heap[k]? = w.heap[k]?) : DBn w' base v s g := by
  obtain ⟨gd, cap, cs, fz, h1, h2, h3, h4, h5⟩ := h
  exact ⟨gd, cap, cs, fz, h1, h2, h3, by rw [hb gd (Array.getElem?_eq_some_iff.1 h4).1 h3.1]; exact h4, h5⟩
theorem DBn.pbb {w W : World} {base B : Nat} {v : Value} {s : ByteArray} {g : Nat} (h : DBn w base v s g) (hB : B ≤ base) (hW : ∀ k, B ≤ k → k < w.heap.size → W.heap[k]? = w.heap[k]?) : PBb W w.heap.size v s.data.toList := by
  obtain ⟨gd, cap, cs, fz, h1, h2, h3, h4, h5⟩ := h
  have hlt := (Array.getElem?_eq_some_iff.1 h4).1
  have hl : s.data.toList.length = s.size := by rw [Array.length_toList]; rfl
  refine ⟨some ⟨gd, 0, none⟩, cap, by rw [hl]; exact h1, by rw [hl]; exact h2, Or.inr ⟨gd, 0, rfl, hlt, fun j u hj => ?_⟩⟩
  have := h5 j u hj
  have h4' := (hW gd (Nat.le_trans hB h3.2) hlt).trans h4
  unfold World.cell?
  simp only [h4', Nat.zero_add]
  exact this
/-- Items' cells, whatever lies below base. -/
def ICQ (base : Nat) (w : World) (l : List Itm) (cs : List Value) : Prop := ∀ W : World, (∀ k, base ≤ k → k < w.heap.size → W.heap[k]? = w.heap[k]?) → IC W w.heap.size l cs
def IMQ (base : Nat) (w : World) (i : Itm) (vd vl : Value) : Prop := ∀ W : World, (∀ k, base ≤ k → k < w.heap.size → W.heap[k]? = w.heap[k]?) → InM W w.heap.size i vd vl
theorem ICQ.up {base : Nat} {w w' : World} {l : List Itm} {cs : List Value} (h : ICQ base w l cs) (hb : Below w.heap.size w w') : ICQ base w' l cs := fun W hW => IC.mono hb.size (h W fun k h1 h2 => (hW k h1 (Nat.lt_of_lt_of_le h2 hb.size)).trans (hb.block k h2))
theorem IMQ.up {base : Nat} {w w' : World} {i : Itm} {vd vl : Value} (h : IMQ base w i vd vl) (hb : Below w.heap.size w w') : IMQ base w' i vd vl := fun W hW => InM.mono hb.size i _ _ (h W fun k h1 h2 => (hW k h1 (Nat.lt_of_lt_of_le h2 hb.size)).trans (hb.block k h2))
theorem own_upI {B B' n : Nat} {w2 : World} {v : Value} {xs : List Value} (h : w2.ownsRow B' 27 4 v n xs) (hB : B ≤ B') : w2.ownsRow B 27 4 v n xs := by
  rcases h with ⟨h0, h1 | ⟨g, cap, cur, h1, h2, h3⟩⟩
  · exact ⟨h0, Or.inl h1⟩
  · exact ⟨h0, Or.inr ⟨g, cap, cur, h1, Nat.le_trans hB h2, h3⟩⟩
/-- An item of a step, in memory. -/
theorem inm_step {w wr : World} {base B B' n mm gb : Nat} {k : Int} {s : ByteArray} {l : List Itm} {cs : List Value} {vd : Value} {q8 : Option Addr} {c8 : Nat} (hn : n < 18446744073709551616) (hs : s.size ≤ 4611686018427387904) (hD : DBn w B' vd s gb) (hl : l.length = mm) (hm : mm ≤ 256) (hI : ICQ base wr l cs) (hb : Below wr.heap.size wr w) (h8 : w.ownsRow B 27 4 (.slice q8 mm c8) mm cs) (hB : base ≤ B) (hB' : base ≤ B') : IMQ base w (.mk k n s.data.toList l) vd (.slice q8 mm c8) := fun W hW => by
  rw [InM]
  refine ⟨hn, by rw [Array.length_toList]; exact hs, by omega, hD.pbb hB' hW, q8, c8, by rw [hl], ?_⟩
  rcases own_cells h8 with ⟨h0, -⟩ | ⟨g, cap, h1, h2, h3, -, -, h6⟩
  · exact Or.inl (List.length_eq_zero_iff.1 (by omega))
  · injection h1 with e1 _ _
    exact Or.inr ⟨g, 0, e1, h3, IC.inl 0 (hI.up hb W hW) fun j u hj => by
      rw [Nat.zero_add, World.cell?_of_block (a := ⟨g, j, none⟩) (hW g (Nat.le_trans hB h2) h3)]; exact h6 j u hj⟩
theorem results_cellI {P : Program} {fn : Func} {tmps : Array Value} {W : World} {k : Nat} {vs : List Value} (t : Tmp) (T : TypeId) (hr : fn.results = #[.cell t T]) (h : RowS W k vs) (ht : tmps[t]? = some (.pointer (some ⟨k, 0, none⟩)))
    (hu : (P.underlying T).map (·.isRow) = some true) (hi : (P.info? T).map (·.size) = some vs.length) : (results fn tmps).run P W = .ok (.agg vs.toArray) W := by
  obtain ⟨d, hu, hd⟩ := Option.map_eq_some_iff.1 hu
  have h1 := run_loadVar_mid (P := P) W k 0 T vs d h.2.1 hu hd hi
  have h2 : tmps.getD t undef = .pointer (some ⟨k, 0, none⟩) := by rw [Array.getD_eq_getD_getElem?, ht]; rfl
  unfold results
  rw [hr]
  simp only [Array.mapM_eq_mapM_toList, List.mapM_cons, List.mapM_nil, h2, asAddr]
  simp [Sem.run_bind, h1]
theorem isz27 : (Tryd.prog.info? 27).map (·.size) = some 4 := by kernel_rfl
theorem urw27 : (Tryd.prog.underlying 27).map (·.isRow) = some true := by kernel_rfl
/-- The values of region 12. -/
def G12 (gb : Nat) (v3 : Value) (n3 mm d : Nat) (v7 : Value) (cs : List Value) (w0 : World) : RX.Gw where
  R i v w := if i = 8 then w.ownsRow w0.heap.size 27 4 v mm cs else v = ([.pointer (some ⟨gb, 3, none⟩), .slice none 0 0, v3, v3, .int .i64 (n3 : Int), .int .i64 (mm : Int), .int .i64 (d : Int), v7, undef, .pointer (some ⟨gb, 3, none⟩)] : List Value).getD i undef
  B w := Below w0.heap.size w0 w
  sR i v w w' hb h := by
    by_cases e : i = 8
    · rw [if_pos e] at h ⊢; exact own_atI h (fun g hg => hb.block g hg)
    · rw [if_neg e] at h ⊢; exact h
  sB w w' hb h := h.trans (hb.mono h.size)
def mem13 (i : Nat) : Bool := i == 0 || i == 7 || i == 9 || i == 10 || i == 11
def R13 (base d : Nat) (cs it : List Value) (i : Nat) (v : Value) (w : World) : Prop :=
  if i = 0 then ∃ g, v = .slice (some ⟨g, 0, none⟩) 0 0 ∧ base ≤ g ∧ w.heap[g]? = some (.cells #[] 27 (0, 0))
  else if i = 7 then w.ownsRow base 27 4 v d cs
  else if i = 9 then ∃ g, v = .slice (some ⟨g, 0, none⟩) 1 1 ∧ BXi w base g it
  else w.ownsRow base 27 4 v (d + 1) (cs ++ it)
theorem R13.below {base d : Nat} {cs it : List Value} {i : Nat} {v : Value} {w w' : World} (h : R13 base d cs it i v w) (hb : Below w.heap.size w w') : R13 base d cs it i v w' := by
  unfold R13 at h ⊢
  by_cases e0 : i = 0
  · rw [if_pos e0] at h ⊢
    obtain ⟨g, h1, h2, h3⟩ := h
    exact ⟨g, h1, h2, by rw [hb.block g (Array.getElem?_eq_some_iff.1 h3).1]; exact h3⟩
  · rw [if_neg e0] at h ⊢
    by_cases e7 : i = 7
    · rw [if_pos e7] at h ⊢; exact own_atI h (fun g hg => hb.block g hg)
    · rw [if_neg e7] at h ⊢
      by_cases e9 : i = 9
      · rw [if_pos e9] at h ⊢
        obtain ⟨g, h1, h2⟩ := h
        exact ⟨g, h1, h2.below hb⟩
      · rw [if_neg e9] at h ⊢; exact own_atI h (fun g hg => hb.block g hg)
/-- Region 13. -/
def F13 (w0 : World) (ks : List Value) (d : Nat) (cs it : List Value) : RX.Flow where
  R i v w := if mem13 i = true then R13 w0.heap.size d cs it i v w else v = ks.getD i undef
  B _ w := Below w0.heap.size w0 w
  E i w w' := if i = 10 then Below w0.heap.size w w' else Below w.heap.size w w'
  kill i := if mem13 i && decide (i < 10) then [10] else []
  killB _ := []
theorem F13.reg {P : Program} {ops : Array Oper} {Q : Exit → Act → World → Prop} {a0 : Act} {w0 : World} {ks : List Value} {d : Nat} {cs it : List Value} (hs : ops.size = 12) (hd : RX.depOn ops 11 10 = true) (hc : RX.chkF ops a0.tmps.size = true) (h : RX.CertsF P Q (F13 w0 ks d cs it) ops a0 0 (ops.toList.take ops.size)) : RX.RegF P Q (F13 w0 ks d cs it) ops a0 ops.size := by
  refine ⟨hc, RX.certs_but h, fun i j hi hj hij hk hdp v w w' hE hR => ?_, fun i b hi hk w w' hE hB => ?_⟩
  · show (if mem13 j = true then R13 w0.heap.size d cs it j v w' else v = ks.getD j undef)
    have hR' : (if mem13 j = true then R13 w0.heap.size d cs it j v w else v = ks.getD j undef) := hR
    by_cases hm : mem13 j = true
    · rw [if_pos hm] at hR' ⊢
      have hE' : (if i = 10 then Below w0.heap.size w w' else Below w.heap.size w w') := hE
      by_cases h10 : i = 10
      · exfalso
        subst h10
        by_cases hj10 : j < 10
        · have hk' : ((if mem13 j && decide (j < 10) then [10] else []) : List Nat).contains 10 = false := hk
          rw [hm, decide_eq_true hj10] at hk'
          simp at hk'
        · obtain rfl : j = 11 := by omega
          rw [hd] at hdp; cases hdp
      · rw [if_neg h10] at hE'
        exact hR'.below hE'
    · rw [if_neg hm] at hR' ⊢; exact hR'
  · have hE' : (if i = 10 then Below w0.heap.size w w' else Below w.heap.size w w') := hE
    have hB' : Below w0.heap.size w0 w := hB
    show Below w0.heap.size w0 w'
    split at hE'
    · exact hB'.trans hE'
    · exact hB'.trans (hE'.mono hB'.size)
end WI
end Go.Proofs.YtfkgfcggcfkkiaaDoor
namespace Go.Proofs.YtfkgfcggcfkkiaaDoor
open Go.RowKit Go.Sort Go.Deep
namespace WI
theorem zrow (w : World) : RowS (w.alloc (.cells #[.int .i64 0, .int .u64 0, .slice none 0 0, .slice none 0 0] 27)) w.heap.size [.int .i64 0, .int .u64 0, .slice none 0 0, .slice none 0 0] := by
  have e : (w.alloc (.cells #[.int .i64 0, .int .u64 0, .slice none 0 0, .slice none 0 0] 27)).heap[w.heap.size]? = some (.cells #[.int .i64 0, .int .u64 0, .slice none 0 0, .slice none 0 0] 27 (0, 0)) := Array.getElem?_push_size
  refine ⟨(Array.getElem?_eq_some_iff.1 e).1, al_r w _ _ _ rfl, fun k hk => ?_⟩
  unfold World.cell? World.frozen?
  simp only [e, Nat.zero_add]
  obtain rfl | rfl | rfl | rfl : k = 0 ∨ k = 1 ∨ k = 2 ∨ k = 3 := by simp only [List.length_cons, List.length_nil] at hk; omega
  all_goals exact ⟨rfl, rfl⟩
set_option maxHeartbeats 1000000 in
set_option maxRecDepth 20000 in
/-- A number is read: it is the head's. -/
theorem rNum_c (w : World) (R n : Nat) : Calls Tryd.prog 83 #[.pointer (some ⟨R, 0, none⟩), .int .u64 (n : Int)] w (RetW fun e w' => Below w.heap.size w w' ∧ e = itv 0 n none 0 0 none 0 0) := by
  obtain ⟨wb, hwb⟩ : ∃ wb, Hid (w.alloc (.cells #[.int .i64 0, .int .u64 0, .slice none 0 0, .slice none 0 0] 27) = wb) := ⟨_, rfl⟩
  have hRr : Hid (RowS wb w.heap.size [.int .i64 0, .int .u64 0, .slice none 0 0, .slice none 0 0]) := by rw [← hwb.out]; exact zrow w
  have hB : Hid (Below w.heap.size w wb) := by rw [← hwb.out]; exact alloc_below _ _
  obtain ⟨w3, hw3⟩ : ∃ w3, Hid (wb.setCells w.heap.size 0 [.int .i64 0, .int .u64 (n : Int), .slice none 0 0, .slice none 0 0] = w3) := ⟨_, rfl⟩
  have K3 : Hid (RowS w3 w.heap.size [.int .i64 0, .int .u64 (n : Int), .slice none 0 0, .slice none 0 0] ∧ Below w.heap.size w w3) := by
    rw [← hw3.out]
    exact ⟨⟨sc_lt _ _ _ hRr.out.1, World.rangeAt_setCells_same _ _ _ _ hRr.out.2.2, World.there_setCells hRr.out.2.2 _ _ _⟩, RG.below_setCells (Nat.le_refl _) _ _ _ hB.out⟩
  go_enter Tryd.func83, Tryd.ntmps83
  go_upto_region 1 with fail
  rw [hwb.out]
  go_wp2_with (first | (refine wpList_store_mid rfl 27 _ _ rfl w.heap.size 0 #[.int .i64 0, .int .u64 (n : Int), .slice none 0 0, .slice none 0 0] ?_ ?_ ?_ ?_ ?_ ?_; rfl; rfl; exact hRr.out.2.2; exact isz27; exact four_one _ _ _ _ _ _ _ _; (show wpList _ _ _ _ _ (wb.setCells w.heap.size 0 [.int .i64 0, .int .u64 (n : Int), .slice none 0 0, .slice none 0 0])); rw [hw3.out]))
  refine bodyPost_ret (results_cellI 4 27 rfl K3.out.1 rfl urw27 isz27) rfl ?_
  exact ⟨_, rfl, K3.out.2, rfl⟩
end WI
end Go.Proofs.YtfkgfcggcfkkiaaDoor
namespace Go.Proofs.YtfkgfcggcfkkiaaDoor
open Go.RowKit Go.Sort Go.Deep
namespace WI
/-- Rows of one's own, each above the one before. -/
def Asc : Nat → Nat → List Value → Prop
  | lo, hi, [] => lo ≤ hi
  | lo, hi, v :: r => (v.ownBlock = none ∧ Asc lo hi r) ∨ ∃ g, v.ownBlock = some g ∧ lo ≤ g ∧ g < hi ∧ Asc (g + 1) hi r
theorem Asc.le : ∀ {vs : List Value} {lo hi : Nat}, Asc lo hi vs → lo ≤ hi
  | [], lo, hi, h => h
  | v :: r, lo, hi, h => by
    rw [Asc] at h
    rcases h with ⟨-, h⟩ | ⟨g, -, h1, h2, -⟩
    · exact h.le
    · omega
theorem Asc.lo {lo lo' hi : Nat} (hl : lo' ≤ lo) : ∀ {vs : List Value}, Asc lo hi vs → Asc lo' hi vs
  | [], h => Nat.le_trans hl h
  | v :: r, h => by
    rw [Asc] at h ⊢
    rcases h with ⟨h0, h⟩ | ⟨g, h0, h1, h2, h3⟩
    · exact Or.inl ⟨h0, h.lo hl⟩
    · exact Or.inr ⟨g, h0, by omega, h2, h3⟩
theorem Asc.hi {hi hi' : Nat} (hl : hi ≤ hi') : ∀ {vs : List Value} {lo : Nat}, Asc lo hi vs → Asc lo hi' vs
  | [], lo, h => Nat.le_trans h hl
  | v :: r, lo, h => by
    rw [Asc] at h ⊢
    rcases h with ⟨h0, h⟩ | ⟨g, h0, h1, h2, h3⟩
    · exact Or.inl ⟨h0, h.hi hl⟩
    · exact Or.inr ⟨g, h0, h1, by omega, h3.hi hl⟩
theorem Asc.app {mid hi : Nat} {b : List Value} (hb : Asc mid hi b) : ∀ {a : List Value} {lo : Nat}, Asc lo mid a → Asc lo hi (a ++ b)
  | [], lo, h => hb.lo h
  | v :: r, lo, h => by
    have hm := hb.le
    rw [List.cons_append]
    rw [Asc] at h ⊢
    rcases h with ⟨h0, h⟩ | ⟨g, h0, h1, h2, h3⟩
    · exact Or.inl ⟨h0, hb.app h⟩
    · exact Or.inr ⟨g, h0, h1, by omega, hb.app h3⟩
mutual
/-- The data in an item, in their order: rows of one's own. -/
def DsM (w : World) (B : Nat) : Itm → Value → Value → List Value → Prop
  | .mk _ _ d l, vd, vl, vs => w.ownsRow B 5 1 vd d.length (Lib.byteCells d) ∧ ∃ ws, vs = vd :: ws ∧ ((l = [] ∧ ws = []) ∨ ∃ b o m c, vl = .slice (some ⟨b, o, none⟩) m c ∧ DsL w B l b o ws)
def DsL (w : World) (B : Nat) : List Itm → Nat → Nat → List Value → Prop
  | [], _, _, ws => ws = []
  | i :: r, b, o, ws => ∃ vd vl vs1 vs2, CeI w b o i vd vl ∧ DsM w B i vd vl vs1 ∧ DsL w B r b (o + 4) vs2 ∧ ws = vs1 ++ vs2
end
theorem own_low {B B' n : Nat} {w : World} {v : Value} {xs : List Value} (h : w.ownsRow B 5 1 v n xs) (hB : B' ≤ B) : w.ownsRow B' 5 1 v n xs := by
  rcases h with ⟨h0, h1 | ⟨g, cap, cur, h1, h2, h3⟩⟩
  · exact ⟨h0, Or.inl h1⟩
  · exact ⟨h0, Or.inr ⟨g, cap, cur, h1, Nat.le_trans hB h2, h3⟩⟩
mutual
theorem DsM.dn {w : World} {B B' : Nat} (hB : B' ≤ B) : ∀ (i : Itm) (vd vl : Value) (vs : List Value), DsM w B i vd vl vs → DsM w B' i vd vl vs
  | .mk k n d l, vd, vl, vs, h => by
    rw [DsM] at h ⊢
    obtain ⟨h1, ws, h2, h3⟩ := h
    refine ⟨own_low h1 hB, ws, h2, ?_⟩
    rcases h3 with h3 | ⟨b, o, m, c, h3, h4⟩
    · exact Or.inl h3
    · exact Or.inr ⟨b, o, m, c, h3, DsL.dn hB l b o ws h4⟩
theorem DsL.dn {w : World} {B B' : Nat} (hB : B' ≤ B) : ∀ (l : List Itm) (b o : Nat) (ws : List Value), DsL w B l b o ws → DsL w B' l b o ws
  | [], _, _, ws, h => by rw [DsL] at h ⊢; exact h
  | i :: r, b, o, ws, h => by
    rw [DsL] at h ⊢
    obtain ⟨vd, vl, vs1, vs2, h1, h2, h3, h4⟩ := h
    exact ⟨vd, vl, vs1, vs2, h1, DsM.dn hB i vd vl vs1 h2, DsL.dn hB r b (o + 4) vs2 h3, h4⟩
end
/-- Likewise, over items' cells. -/
def DC (w : World) (B : Nat) : List Itm → List Value → List Value → Prop
  | [], cs, vs => cs = [] ∧ vs = []
  | i :: r, cs, vs => ∃ vd vl cs' vs1 vs2, cs = .int .i64 i.k :: .int .u64 (i.n : Int) :: vd :: vl :: cs' ∧ DsM w B i vd vl vs1 ∧ DC w B r cs' vs2 ∧ vs = vs1 ++ vs2
theorem DC.app {w : World} {B : Nat} {m : List Itm} {ds us : List Value} (h2 : DC w B m ds us) : ∀ {l : List Itm} {cs vs : List Value}, DC w B l cs vs → DC w B (l ++ m) (cs ++ ds) (vs ++ us)
  | [], cs, vs, h => by rw [DC] at h; rw [h.1, h.2]; exact h2
  | i :: r, cs, vs, h => by
    rw [DC] at h
    obtain ⟨vd, vl, cs', vs1, vs2, rfl, h1, h3, rfl⟩ := h
    rw [List.cons_append, DC]
    exact ⟨vd, vl, cs' ++ ds, vs1, vs2 ++ us, rfl, h1, DC.app h2 h3, by rw [List.append_assoc]⟩
theorem DC.dsl {w : World} {B b : Nat} : ∀ {l : List Itm} {cs vs : List Value} (o : Nat), DC w B l cs vs → (∀ j u, cs[j]? = some u → w.cell? ⟨b, o + j, none⟩ = some u) → DsL w B l b o vs
  | [], cs, vs, o, h, _ => by rw [DC] at h; rw [DsL]; exact h.2
  | i :: r, cs, vs, o, h, hc => by
    rw [DC] at h
    obtain ⟨vd, vl, cs', vs1, vs2, rfl, h1, h3, rfl⟩ := h
    rw [DsL]
    refine ⟨vd, vl, vs1, vs2, ⟨hc 0 _ rfl, hc 1 _ rfl, hc 2 _ rfl, hc 3 _ rfl⟩, h1, DC.dsl (o + 4) h3 fun j u hj => ?_, rfl⟩
    rw [Nat.add_assoc, Nat.add_comm 4 j]
    exact hc (j + 4) u hj
/-- An item in new memory, its data in rows of their own. -/
def IMO (base : Nat) (w : World) (i : Itm) (vd vl : Value) : Prop := ∃ vs, Asc base w.heap.size vs ∧ ∀ W : World, (∀ k, base ≤ k → k < w.heap.size → W.heap[k]? = w.heap[k]?) → InM W w.heap.size i vd vl ∧ DsM W base i vd vl vs
theorem IMO.at {base : Nat} {w w' : World} {i : Itm} {vd vl : Value} (h : IMO base w i vd vl) (hs : w.heap.size ≤ w'.heap.size) (hb : ∀ k, base ≤ k → k < w.heap.size → w'.heap[k]? = w.heap[k]?) : IMO base w' i vd vl := by
  obtain ⟨vs, h1, h2⟩ := h
  refine ⟨vs, h1.hi hs, fun W hW => ?_⟩
  obtain ⟨h3, h4⟩ := h2 W fun k h1 h2 => (hW k h1 (Nat.lt_of_lt_of_le h2 hs)).trans (hb k h1 h2)
  exact ⟨InM.mono hs i _ _ h3, h4⟩
theorem IMO.up {base : Nat} {w w' : World} {i : Itm} {vd vl : Value} (h : IMO base w i vd vl) (hb : Below w.heap.size w w') : IMO base w' i vd vl := h.at hb.size fun k _ h2 => hb.block k h2
theorem IMO.dn {base base' : Nat} {w : World} {i : Itm} {vd vl : Value} (h : IMO base w i vd vl) (hb : base' ≤ base) : IMO base' w i vd vl := by
  obtain ⟨vs, h1, h2⟩ := h
  refine ⟨vs, h1.lo hb, fun W hW => ?_⟩
  obtain ⟨h3, h4⟩ := h2 W fun k h1 h2 => hW k (Nat.le_trans hb h1) h2
  exact ⟨h3, DsM.dn hb i _ _ _ h4⟩
theorem IMO.in {base : Nat} {w : World} {i : Itm} {vd vl : Value} (h : IMO base w i vd vl) : InM w w.heap.size i vd vl := by
  obtain ⟨vs, -, h2⟩ := h
  exact (h2 w fun _ _ _ => rfl).1
end WI
end Go.Proofs.YtfkgfcggcfkkiaaDoor
namespace Go.Proofs.YtfkgfcggcfkkiaaDoor
namespace WI
variable (u : List UInt8 → Bool)
mutual
/-- Its numbers have 64 bits. -/
def n64 : Itm → Prop
  | .mk _ n _ l => n < 18446744073709551616 ∧ n64s l
def n64s : List Itm → Prop
  | [] => True
  | i :: r => n64 i ∧ n64s r
end
/-- What is known of a thing that was read. -/
def RdS (f c : Nat) (b : List UInt8) (i : Itm) (c' : Nat) (b' : List UInt8) : Prop := b = byt i ++ b' ∧ shp u i = true ∧ dep i ≤ f ∧ c' = c + cnt i ∧ c' ≤ 4096 ∧ n64 i
def RdSs (f c : Nat) (b : List UInt8) (l : List Itm) (n c' : Nat) (b' : List UInt8) : Prop := b = (byts l).flatten ++ b' ∧ l.length = n ∧ shps u l = true ∧ deps l ≤ f ∧ c' = c + cnts l ∧ c' ≤ 4096 ∧ n64s l
theorem rdN_some {rdf : Nat → List UInt8 → Option (Itm × Nat × List UInt8)} {f : Nat} (hrd : ∀ c b i c' b', rdf c b = some (i, c', b') → RdS u f c b i c' b') : ∀ (n c : Nat) (b : List UInt8) (l : List Itm) (c' : Nat) (b' : List UInt8), c ≤ 4096 → rdN rdf n c b = some (l, c', b') → RdSs u f c b l n c' b'
  | 0, c, b, l, c', b', hc, h => by
    simp only [rdN, Option.some.injEq, Prod.mk.injEq] at h
    obtain ⟨rfl, rfl, rfl⟩ := h
    refine ⟨by simp [byts], rfl, rfl, by rw [deps]; omega, by rw [cnts]; omega, hc, ?_⟩
    rw [n64s]; trivial
  | n + 1, c, b, l, c', b', hc, h => by
    rw [rdN] at h
    cases h1 : rdf c b with
    | none => rw [h1] at h; cases h
    | some x =>
      obtain ⟨i, c1, b1⟩ := x
      rw [h1] at h
      obtain ⟨g1, g2, g3, g4, g5, g6⟩ := hrd _ _ _ _ _ h1
      cases h2 : rdN rdf n c1 b1 with
      | none => simp only [h2] at h; cases h
      | some y =>
        obtain ⟨l2, c2, b2⟩ := y
        simp only [h2, Option.some.injEq, Prod.mk.injEq] at h
        obtain ⟨rfl, rfl, rfl⟩ := h
        obtain ⟨k1, k2, k3, k4, k5, k6, k7⟩ := rdN_some hrd n c1 b1 l2 c2 b2 g5 h2
        refine ⟨by rw [byts, List.flatten_cons, g1, k1, List.append_assoc], by rw [List.length_cons, k2], by rw [shps, g2, k3]; rfl, by rw [deps]; omega, by rw [cnts]; omega, k6, ?_⟩
        rw [n64s]; exact ⟨g6, k7⟩
theorem rd_some : ∀ (f c : Nat) (b : List UInt8) (i : Itm) (c' : Nat) (b' : List UInt8), rd u f c b = some (i, c', b') → RdS u f c b i c' b'
  | 0, c, b, i, c', b', h => by cases h
  | f + 1, c, b, i, c', b', h => by
    rw [rd] at h
    cases h1 : rdHead b with
    | none => simp only [h1] at h; cases h
    | some x =>
      obtain ⟨k, n, r⟩ := x
      simp only [h1] at h
      obtain ⟨hb, hk, hn⟩ := rdHead_some b r k n h1
      split at h
      · cases h
      rename_i hc
      split at h
      · rename_i hk3
        split at h
        · rename_i ho
          simp only [Option.some.injEq, Prod.mk.injEq] at h
          obtain ⟨rfl, rfl, rfl⟩ := h
          refine ⟨?_, ?_, by simp [dep, deps], by simp [cnt, cnts], by omega, by simp [n64, n64s, hn]⟩
          · rw [hb, byt]
            rcases hk3 with rfl | rfl | rfl <;> simp
          · have ho' : own u (k : Int) n [] ([] : List Itm).length = true := ho
            rw [shp, ho', shps]
            rcases hk3 with rfl | rfl | rfl <;> simp
        · cases h
      split at h
      · rename_i _ hk3
        split at h
        · rename_i hl
          split at h
          · rename_i ho
            simp only [Option.some.injEq, Prod.mk.injEq] at h
            obtain ⟨rfl, rfl, rfl⟩ := h
            have htl : (r.take n).length = n := by rw [List.length_take]; omega
            refine ⟨?_, ?_, by simp [dep, deps], by simp [cnt, cnts], by omega, by simp [n64, n64s]⟩
            · rw [hb, byt, if_pos (by omega), htl, List.append_assoc, List.take_append_drop]
              simp
            · have ho' : own u (k : Int) 0 (r.take n) ([] : List Itm).length = true := ho
              rw [shp, ho', shps]
              rcases hk3 with rfl | rfl <;> simp
          · cases h
        · cases h
      split at h
      · rename_i hk4
        subst hk4
        cases h2 : rdN (rd u f) n (c + 1) r with
        | none => simp only [h2] at h; cases h
        | some y =>
          obtain ⟨l, c2, r2⟩ := y
          simp only [h2, Option.some.injEq, Prod.mk.injEq] at h
          obtain ⟨rfl, rfl, rfl⟩ := h
          obtain ⟨k1, k2, k3, k4, k5, k6, k7⟩ := rdN_some u (rd_some f) n (c + 1) r l c2 r2 (by omega) h2
          refine ⟨?_, ?_, by rw [dep]; omega, by rw [cnt]; omega, k6, ?_⟩
          · rw [hb, byt, k1, k2]; simp
          · rw [shp, k3]; simp [own]
          · rw [n64]; exact ⟨by omega, k7⟩
      split at h
      · rename_i hk5
        subst hk5
        cases h2 : rdN (rd u f) (2 * n) (c + 1) r with
        | none => simp only [h2] at h; cases h
        | some y =>
          obtain ⟨l, c2, r2⟩ := y
          simp only [h2] at h
          split at h
          · rename_i hrise
            simp only [Option.some.injEq, Prod.mk.injEq] at h
            obtain ⟨rfl, rfl, rfl⟩ := h
            obtain ⟨k1, k2, k3, k4, k5, k6, k7⟩ := rdN_some u (rd_some f) (2 * n) (c + 1) r l c2 r2 (by omega) h2
            refine ⟨?_, ?_, by rw [dep]; omega, by rw [cnt]; omega, k6, ?_⟩
            · rw [hb, byt, k1, k2]; simp
            · rw [shp, k3, hrise]; simp [own]; omega
            · rw [n64]; exact ⟨by omega, k7⟩
          · cases h
      · cases h
theorem rdN_of {rdf : Nat → List UInt8 → Option (Itm × Nat × List UInt8)} : ∀ (l : List Itm) (c : Nat) (r : List UInt8), (∀ i ∈ l, ∀ c r, c + cnt i ≤ 4096 → rdf c (byt i ++ r) = some (i, c + cnt i, r)) → c + cnts l ≤ 4096 → rdN rdf l.length c ((byts l).flatten ++ r) = some (l, c + cnts l, r)
  | [], c, r, _, _ => by simp [rdN, byts, cnts]
  | i :: l, c, r, h, hc => by
    rw [cnts] at hc
    rw [List.length_cons, rdN, byts, List.flatten_cons, List.append_assoc, h i (by simp) c _ (by omega)]
    simp only
    rw [rdN_of l (c + cnt i) r (fun j hj => h j (by simp [hj])) (by omega)]
    simp only [cnts, Nat.add_assoc]
theorem len_byts : ∀ l : List Itm, l.length ≤ (byts l).flatten.length
  | [] => by simp
  | i :: l => by
    have h1 := byt_pos i
    have h2 := len_byts l
    rw [byts, List.flatten_cons, List.length_append, List.length_cons]; omega
theorem deps_mem : ∀ (l : List Itm) (i : Itm), i ∈ l → dep i ≤ deps l
  | [], _, h => by cases h
  | j :: l, i, h => by
    rw [deps]
    rcases List.mem_cons.1 h with rfl | h
    · omega
    · have := deps_mem l i h; omega
theorem shps_mem : ∀ (l : List Itm) (i : Itm), shps u l = true → i ∈ l → shp u i = true
  | [], _, _, h => by cases h
  | j :: l, i, hs, h => by
    rw [shps, Bool.and_eq_true] at hs
    rcases List.mem_cons.1 h with rfl | h
    · exact hs.1
    · exact shps_mem l i hs.2 h
theorem n64_mem : ∀ (l : List Itm) (i : Itm), n64s l → i ∈ l → n64 i
  | [], _, _, h => by cases h
  | j :: l, i, hs, h => by
    rw [n64s] at hs
    rcases List.mem_cons.1 h with rfl | h
    · exact hs.1
    · exact n64_mem l i hs.2 h
theorem byt_mem : ∀ (l : List Itm) (i : Itm), i ∈ l → (byt i).length ≤ (byts l).flatten.length
  | [], _, h => by cases h
  | j :: l, i, h => by
    rw [byts, List.flatten_cons, List.length_append]
    rcases List.mem_cons.1 h with rfl | h
    · omega
    · have := byt_mem l i h; omega
theorem rd_of : ∀ (f : Nat) (i : Itm) (c : Nat) (r : List UInt8), shp u i = true → dep i ≤ f → c + cnt i ≤ 4096 → (byt i).length ≤ 65536 → n64 i → rd u f c (byt i ++ r) = some (i, c + cnt i, r)
  | 0, i, c, r, _, hd', _, _, _ => by have := dep_pos i; omega
  | f + 1, .mk k n d l, c, r, hs, hdp, hc, hb, hn => by
    rw [shp, Bool.and_eq_true, Bool.and_eq_true] at hs
    obtain ⟨⟨ho, hr⟩, hsl⟩ := hs
    rw [dep] at hdp
    rw [cnt] at hc
    rw [n64] at hn
    obtain ⟨hn1, hn2⟩ := hn
    have hl : k = 4 ∨ k = 5 → ∀ i ∈ l, ∀ c r, c + cnt i ≤ 4096 → rd u f c (byt i ++ r) = some (i, c + cnt i, r) := fun hk i hi c r hc' => by
      have h1 := byt_mem l i hi
      have h2 : (byts l).flatten.length ≤ (byt (.mk k n d l)).length := by
        rcases hk with rfl | rfl <;> (rw [byt]; simp)
      exact rd_of f i c r (shps_mem u l i hsl hi) (by have := deps_mem l i hi; omega) hc' (by omega) (n64_mem l i hn2 hi)
    rcases own_kind u k n d l.length ho with rfl | rfl | rfl | rfl | rfl | rfl | rfl
    · obtain ⟨rfl, rfl⟩ : d = [] ∧ l = [] := by simp [own] at ho; exact ho
      rw [show byt (.mk 0 n [] []) = hd 0 n by rw [byt]; simp, rd, rdHead_hd 0 n (by omega) hn1]
      have ho' : own u ((0 : Nat) : Int) n [] 0 = true := ho
      simp only [cnt, cnts]
      rw [if_neg (by omega), if_pos (by simp)]
      rw [if_pos ho']
      simp
    · obtain ⟨rfl, rfl⟩ : d = [] ∧ l = [] := by simp [own] at ho; exact ho
      rw [show byt (.mk 1 n [] []) = hd 1 n by rw [byt]; simp, rd, rdHead_hd 1 n (by omega) hn1]
      have ho' : own u ((1 : Nat) : Int) n [] 0 = true := ho
      simp only [cnt, cnts]
      rw [if_neg (by omega), if_pos (by simp)]
      rw [if_pos ho']
      simp
    · obtain ⟨rfl, rfl⟩ : n = 0 ∧ l = [] := by simp [own] at ho; exact ho
      have e : byt (.mk 2 0 d []) = hd 2 d.length ++ d := by rw [byt]; simp
      rw [e, List.length_append] at hb
      rw [e, List.append_assoc, rd, rdHead_hd 2 d.length (by omega) (by omega)]
      have ho' : own u ((2 : Nat) : Int) 0 d 0 = true := ho
      simp only [cnt, cnts]
      rw [if_neg (by omega), if_neg (by omega), if_pos (by simp), if_pos (by simp), List.take_left', List.drop_left', if_pos ho'] <;> simp
    · obtain ⟨⟨rfl, rfl⟩, -⟩ : (n = 0 ∧ l = []) ∧ u d = true := by simp [own] at ho; exact ho
      have e : byt (.mk 3 0 d []) = hd 3 d.length ++ d := by rw [byt]; simp
      rw [e, List.length_append] at hb
      rw [e, List.append_assoc, rd, rdHead_hd 3 d.length (by omega) (by omega)]
      have ho' : own u ((3 : Nat) : Int) 0 d 0 = true := ho
      simp only [cnt, cnts]
      rw [if_neg (by omega), if_neg (by omega), if_pos (by simp), if_pos (by simp), List.take_left', List.drop_left', if_pos ho'] <;> simp
    · obtain ⟨rfl, rfl⟩ : n = 0 ∧ d = [] := by simp [own] at ho; exact ho
      have e : byt (.mk 4 0 [] l) = hd 4 l.length ++ (byts l).flatten := by rw [byt]; simp
      have h4 := len_byts l
      rw [e, List.length_append] at hb
      rw [e, List.append_assoc, rd, rdHead_hd 4 l.length (by omega) (by omega)]
      simp only [cnt]
      rw [if_neg (by omega), if_neg (by omega), if_neg (by omega), if_pos trivial, rdN_of l (c + 1) r (hl (Or.inl rfl)) (by omega)]
      simp only [Nat.add_assoc, Nat.add_comm 1]
    · obtain ⟨⟨rfl, rfl⟩, h2⟩ : (n = 0 ∧ d = []) ∧ l.length % 2 = 0 := by simp [own] at ho; exact ho
      have e : byt (.mk 5 0 [] l) = hd 5 (l.length / 2) ++ (byts l).flatten := by rw [byt]; simp
      have h4 := len_byts l
      rw [e, List.length_append] at hb
      rw [e, List.append_assoc, rd, rdHead_hd 5 (l.length / 2) (by omega) (by omega)]
      simp only [cnt]
      rw [if_neg (by omega), if_neg (by omega), if_neg (by omega), if_neg (by omega), if_pos trivial, show 2 * (l.length / 2) = l.length by omega, rdN_of l (c + 1) r (hl (Or.inr rfl)) (by omega)]
      have hr' : rise [] (byts l) = true := by simpa using hr
      simp only [hr', if_true, Nat.add_assoc, Nat.add_comm 1]
    · obtain ⟨⟨rfl, rfl⟩, -⟩ : (d = [] ∧ l = []) ∧ _ := by simp only [own] at ho; simpa using ho
      rw [show byt (.mk 7 n [] []) = hd 7 n by rw [byt]; simp, rd, rdHead_hd 7 n (by omega) hn1]
      have ho' : own u ((7 : Nat) : Int) n [] 0 = true := ho
      simp only [cnt, cnts]
      rw [if_neg (by omega), if_pos (by simp)]
      rw [if_pos ho']
      simp
end WI
end Go.Proofs.YtfkgfcggcfkkiaaDoor
namespace Go.Proofs.YtfkgfcggcfkkiaaDoor
namespace WI
section
variable {rdf : Nat → List UInt8 → Option (Itm × Nat × List UInt8)}
theorem rdN_len : ∀ (n c : Nat) (b : List UInt8) (l : List Itm) (c' : Nat) (b' : List UInt8), rdN rdf n c b = some (l, c', b') → l.length = n
  | 0, c, b, l, c', b', h => by
    simp only [rdN, Option.some.injEq, Prod.mk.injEq] at h
    rw [← h.1]; rfl
  | n + 1, c, b, l, c', b', h => by
    rw [rdN] at h
    cases h1 : rdf c b with
    | none => simp only [h1] at h; cases h
    | some x =>
      obtain ⟨i, c1, b1⟩ := x
      simp only [h1] at h
      cases h2 : rdN rdf n c1 b1 with
      | none => simp only [h2] at h; cases h
      | some y =>
        obtain ⟨l1, c2, b2⟩ := y
        simp only [h2, Option.some.injEq, Prod.mk.injEq] at h
        rw [← h.1, List.length_cons, rdN_len n c1 b1 l1 c2 b2 h2]
theorem rdN_add (m : Nat) : ∀ (n c : Nat) (b : List UInt8), rdN rdf (n + m) c b = match rdN rdf n c b with
    | none => none
    | some (l, c', b') => match rdN rdf m c' b' with
      | none => none
      | some (l2, c'', b'') => some (l ++ l2, c'', b'')
  | 0, c, b => by
    rw [Nat.zero_add, rdN]
    simp only
    cases rdN rdf m c b with
    | none => rfl
    | some x => rfl
  | n + 1, c, b => by
    rw [show n + 1 + m = n + m + 1 by omega, rdN, rdN]
    cases rdf c b with
    | none => rfl
    | some x =>
      obtain ⟨i, c1, b1⟩ := x
      simp only
      rw [rdN_add m n c1 b1]
      cases rdN rdf n c1 b1 with
      | none => rfl
      | some y =>
        obtain ⟨l1, c2, b2⟩ := y
        simp only
        cases rdN rdf m c2 b2 with
        | none => rfl
        | some z => rfl
theorem rdN_one (c : Nat) (b : List UInt8) : rdN rdf 1 c b = match rdf c b with
    | none => none
    | some (i, c', b') => some ([i], c', b') := by
  rw [rdN]
  cases rdf c b with
  | none => rfl
  | some x => rfl
theorem rdN_snoc_y {n c : Nat} {b : List UInt8} {l : List Itm} {c1 : Nat} {b1 : List UInt8} {i : Itm} {c2 : Nat} {b2 : List UInt8} (h : rdN rdf n c b = some (l, c1, b1)) (h2 : rdf c1 b1 = some (i, c2, b2)) : rdN rdf (n + 1) c b = some (l ++ [i], c2, b2) := by
  rw [rdN_add, h]; simp only; rw [rdN_one, h2]
theorem rdN_snoc_n {n c : Nat} {b : List UInt8} {l : List Itm} {c1 : Nat} {b1 : List UInt8} (h : rdN rdf n c b = some (l, c1, b1)) (h2 : rdf c1 b1 = none) (m : Nat) (hm : n < m) : rdN rdf m c b = none := by
  obtain ⟨k, rfl⟩ : ∃ k, m = n + 1 + k := ⟨m - (n + 1), by omega⟩
  rw [rdN_add, rdN_add, h]; simp only; rw [rdN_one, h2]
theorem rdN_pre {n c : Nat} {b : List UInt8} {l : List Itm} {c1 : Nat} {b1 : List UInt8} (h : rdN rdf n c b = some (l, c1, b1)) (m : Nat) (hm : n ≤ m) {L : List Itm} {c2 : Nat} {b2 : List UInt8} (h2 : rdN rdf m c b = some (L, c2, b2)) : ∃ l2, L = l ++ l2 := by
  obtain ⟨k, rfl⟩ : ∃ k, m = n + k := ⟨m - n, by omega⟩
  rw [rdN_add, h] at h2
  simp only at h2
  cases h3 : rdN rdf k c1 b1 with
  | none => simp only [h3] at h2; cases h2
  | some x =>
    obtain ⟨l2, c3, b3⟩ := x
    simp only [h3, Option.some.injEq, Prod.mk.injEq] at h2
    exact ⟨l2, h2.1.symm⟩
variable (rdf)
/-- So many pairs are read; the keys rise. -/
def rdP (n c : Nat) (b : List UInt8) : Option (List Itm × Nat × List UInt8) := match rdN rdf (2 * n) c b with
  | none => none
  | some (l, c', r) => if rise [] (byts l) then some (l, c', r) else none
end
section
variable (u : List UInt8 → Bool)
/-- What lies behind a head is read. -/
def pay (f k n c : Nat) (r : List UInt8) : Option (Nat × List UInt8 × List Itm × Nat × List UInt8) :=
  if k = 0 ∨ k = 1 ∨ k = 7 then some (n, [], [], c, r)
  else if k = 2 ∨ k = 3 then (if n ≤ r.length then some (0, r.take n, [], c, r.drop n) else none)
  else if k = 4 then (match rdN (rd u f) n c r with
    | none => none
    | some (l, c', r') => some (0, [], l, c', r'))
  else if k = 5 then (match rdP (rd u f) n c r with
    | none => none
    | some (l, c', r') => some (0, [], l, c', r'))
  else none
theorem rd_pay (f c : Nat) (b : List UInt8) (k n : Nat) (r : List UInt8) (h : rdHead b = some (k, n, r)) : rd u (f + 1) c b = if 4096 < c + 1 then none else match pay u f k n (c + 1) r with
    | none => none
    | some (nn, dd, l, c', r') => if own u k nn dd l.length then some (.mk k nn dd l, c', r') else none := by
  rw [rd, h]
  simp only
  by_cases h0 : 4096 < c + 1
  · rw [if_pos h0, if_pos h0]
  rw [if_neg h0, if_neg h0, pay]
  by_cases h1 : k = 0 ∨ k = 1 ∨ k = 7
  · rw [if_pos h1, if_pos h1]; rfl
  rw [if_neg h1, if_neg h1]
  by_cases h2 : k = 2 ∨ k = 3
  · rw [if_pos h2, if_pos h2]
    by_cases h3 : n ≤ r.length
    · rw [if_pos h3, if_pos h3]; rfl
    · rw [if_neg h3, if_neg h3]
  rw [if_neg h2, if_neg h2]
  by_cases h4 : k = 4
  · subst h4
    rw [if_pos rfl, if_pos rfl]
    cases rdN (rd u f) n (c + 1) r with
    | none => rfl
    | some x =>
      obtain ⟨l, c', r'⟩ := x
      simp only
      rw [if_pos (by simp [own])]
      rfl
  rw [if_neg h4, if_neg h4]
  by_cases h5 : k = 5
  · subst h5
    rw [if_pos rfl, if_pos rfl, rdP]
    cases hx : rdN (rd u f) (2 * n) (c + 1) r with
    | none => rfl
    | some x =>
      obtain ⟨l, c', r'⟩ := x
      have hl := rdN_len _ _ _ _ _ _ hx
      simp only
      by_cases h6 : rise [] (byts l) = true
      · rw [if_pos h6, if_pos h6]
        simp only
        rw [if_pos (by simp [own, hl])]
        rfl
      · rw [if_neg h6, if_neg h6]
  rw [if_neg h5, if_neg h5]
theorem rd_no (f c : Nat) (b : List UInt8) (h : rdHead b = none) : rd u f c b = none := by
  cases f with
  | zero => rfl
  | succ f => rw [rd, h]
end
end WI
end Go.Proofs.YtfkgfcggcfkkiaaDoor
namespace Go.Proofs.YtfkgfcggcfkkiaaDoor
open Go.RowKit Go.Sort Go.Deep
namespace WI
theorem PBq.pb {w : World} {R : Nat} {q : Option Addr} {m c : Nat} {x : List UInt8} (h : PBq w R q m c x) : PB w (.slice q m c) x := by
  obtain ⟨rfl, h2, ⟨rfl, rfl⟩ | ⟨b, o, rfl, -, -, h3⟩⟩ := h
  · exact ⟨none, 0, rfl, Or.inl (List.length_eq_zero_iff.1 (by omega))⟩
  · exact ⟨_, c, rfl, Or.inr ⟨b, o, rfl, h3⟩⟩
theorem PBq.at {w w' : World} {R : Nat} {q : Option Addr} {m c : Nat} {x : List UInt8} (h : PBq w R q m c x) (hF : FrX (· = R) w w') : PBq w' R q m c x := by
  obtain ⟨h1, h2, h3 | ⟨b, o, h3, h4, h5, h6⟩⟩ := h
  · exact ⟨h1, h2, Or.inl h3⟩
  · refine ⟨h1, h2, Or.inr ⟨b, o, h3, h4, Nat.lt_of_lt_of_le h5 hF.size, fun j u hj => ?_⟩⟩
    rw [World.cell?_of_block (a := ⟨b, o + j, none⟩) (hF.block b h5 (Nat.ne_of_lt h4))]; exact h6 j u hj
theorem nil_tX (w : World) : (binOp .eql 22 (.slice none 0 0) (.slice none 0 0)).run Tryd.prog w = .ok (.bool true) w := by kernel_rfl
theorem nil_fX (a : Addr) (n c : Nat) (w : World) : (binOp .eql 22 (.slice (some a) n c) (.slice none 0 0)).run Tryd.prog w = .ok (.bool false) w := by kernel_rfl
theorem own_newX {w : World} (e : TypeId) (size : Nat) : (w.alloc (.cells #[] e)).ownsRow w.heap.size e size (.slice (some ⟨w.heap.size, 0, none⟩) 0 0) 0 [] := ⟨by rw [Nat.zero_mul]; rfl, .inr ⟨w.heap.size, 0, #[], rfl, Nat.le_refl _, Array.getElem?_push_size, Nat.le_refl _, Nat.zero_le _, by rw [Nat.zero_mul]; rfl, by simp⟩⟩
theorem below_grown {B : Nat} {w w1 w2 : World} {row : Option Nat} (h : Below B w w1) (hg : w1.grownBy w2 row) (hB : B ≤ w1.heap.size) (hr : ∀ k, row = some k → B ≤ k) : Below B w w2 :=
  ⟨hg.os.trans h.os, hg.tape.trans h.tape, hg.output.trans h.output, Nat.le_trans h.size hg.size, fun k hk => by
    rw [hg.block k (by omega) (fun e => by have := hr k e.symm; omega)]
    exact h.block k hk⟩
set_option maxHeartbeats 1000000 in
theorem cloneX_c (q : Option Addr) (m c R : Nat) (x : List UInt8) (hx : x.length ≤ 100000000) (w : World) (h : PBq w R q m c x) :
    Calls Tryd.prog 88 #[.slice q m c] w (RetW fun e w' => Below w.heap.size w w' ∧ ∃ q' c', e = .slice q' x.length c' ∧ w'.ownsRow w.heap.size 5 1 e x.length (Lib.byteCells x)) := by
  have hP := h.pb
  obtain ⟨rfl, h2, ⟨rfl, rfl⟩ | ⟨b, o, rfl, -, -, h3⟩⟩ := h
  · obtain rfl : x = [] := List.length_eq_zero_iff.1 (by omega)
    have hn := nil_tX
    show Calls _ _ #[.slice none 0 0] _ _
    go_enter Tryd.func88, Tryd.ntmps88
    go_wp2
    go_ret
    exact ⟨_, rfl, Below.refl _ _, none, 0, rfl, World.ownsRow_nil _ _ _ _⟩
  · have hb0 : Below w.heap.size w (w.alloc (.cells #[] 5)) := alloc_below _ _
    obtain ⟨q', n', c', W', r1, r2, r3, r4, r5⟩ := own_appW (xs := []) (own_newX (w := w) 5 1) (hP.below hb0) (Or.inl (by simp [Value.ownBlock])) (by simpa using (by omega : x.length ≤ 1000000000)) hb0.size
    rw [List.nil_append] at r2
    have K : Hid (Below w.heap.size w W' ∧ ∃ q1 c1, Value.slice q' n' c' = .slice q1 x.length c1 ∧ W'.ownsRow w.heap.size 5 1 (.slice q' n' c') x.length (Lib.byteCells x)) := ⟨below_grown hb0 r3 hb0.size (fun k hk => by
      have : k = w.heap.size := by simpa [Value.ownBlock] using hk.symm
      omega), by
        obtain ⟨q1, c1, e⟩ := slice_own r2
        exact ⟨q1, c1, e, r2⟩⟩
    have HAP := hidW r1
    clear r1 r2 r3 r4 r5 hb0 hP h3 h2
    have hn := nil_fX ⟨b, o, none⟩ x.length c
    go_enter Tryd.func88, Tryd.ntmps88
    go_wp2_with (at_builtin; refine Lib.wpList_append_run _ rfl _ _ _ _ rfl _ _ rfl rfl _ _ HAP.out ?_)
    go_ret
    exact ⟨_, rfl, K.out.1, K.out.2⟩
theorem own_pbb {base : Nat} {w : World} {v : Value} {x : List UInt8} (h : w.ownsRow base 5 1 v x.length (Lib.byteCells x)) (W : World) (hW : ∀ k, base ≤ k → k < w.heap.size → W.heap[k]? = w.heap[k]?) : PBb W w.heap.size v x := by
  have hp := own_pb h
  rcases id h with ⟨-, ⟨rfl, h0⟩ | ⟨g, cap, cur, rfl, g1, g2, g3, g4⟩⟩
  · obtain rfl := List.length_eq_zero_iff.1 h0
    exact ⟨none, 0, rfl, Nat.le_refl _, Or.inl rfl⟩
  · have hlt := (Array.getElem?_eq_some_iff.1 g2).1
    refine ⟨_, cap, rfl, g3, Or.inr ⟨g, 0, rfl, hlt, fun j u hj => ?_⟩⟩
    rw [World.cell?_of_block (a := ⟨g, 0 + j, none⟩) (hW g g1 hlt)]
    obtain ⟨q, c, he, h1 | ⟨b, o, h1, h2⟩⟩ := hp
    · subst h1; cases hj
    · injection he with e1 _ _
      rw [h1] at e1
      injection Option.some.inj e1 with e2 e3 _
      subst e2 e3
      exact h2 j u hj
/-- What a kind's read does. -/
def RkR (w : World) (R h d : Nat) (rr : Option (Nat × List UInt8 × List Itm × Nat × List UInt8)) (e : Ending) (w' : World) : Prop := FrX (· = R) w w' ∧ ((∃ nn dd l n' r q' c' qd cd ql cl, rr = some (nn, dd, l, n', r) ∧ e = .returned (itv 0 nn qd dd.length cd ql l.length cl) ∧ RowS w' R (wkc h d n' (.slice q' r.length c')) ∧ PBq w' R q' r.length c' r ∧ ∀ k, IMO w.heap.size w' (.mk k nn dd l) (.slice qd dd.length cd) (.slice ql l.length cl)) ∨ (rr = none ∧ e = thrown))
end WI
end Go.Proofs.YtfkgfcggcfkkiaaDoor
namespace Go.Proofs.YtfkgfcggcfkkiaaDoor
open Go.RowKit Go.Sort Go.Deep
namespace WI
theorem sc_below (g : Nat) (vs : List Value) (w : World) : Below g w (w.setCells g 0 vs) := RG.below_setCells (Nat.le_refl _) vs 0 w (Below.refl _ _)
theorem PBq.sc {w : World} {R : Nat} {q : Option Addr} {m c : Nat} {x : List UInt8} (h : PBq w R q m c x) {g : Nat} (hg : R ≤ g) (vs : List Value) : PBq (w.setCells g 0 vs) R q m c x := by
  obtain ⟨h1, h2, h3 | ⟨b, o, h3, h4, h5, h6⟩⟩ := h
  · exact ⟨h1, h2, Or.inl h3⟩
  · refine ⟨h1, h2, Or.inr ⟨b, o, h3, h4, Nat.lt_of_lt_of_le h5 (sc_below g vs w).size, fun j u hj => ?_⟩⟩
    rw [World.cell?_of_block (a := ⟨b, o + j, none⟩) (sc_other g b (by omega) vs 0 w)]
    exact h6 j u hj
theorem FrX.sc {X : Nat → Prop} {a w : World} (h : FrX X a w) {g : Nat} (hg : a.heap.size ≤ g) (vs : List Value) : FrX X a (w.setCells g 0 vs) := by
  have hb := sc_below g vs w
  exact ⟨hb.os.trans h.os, hb.tape.trans h.tape, hb.output.trans h.output, Nat.le_trans h.size hb.size, fun k hk hx => (hb.block k (by omega)).trans (h.block k hk hx)⟩
theorem RowS.sc {w : World} {k : Nat} {us : List Value} (h : RowS w k us) {g : Nat} (hg : k ≠ g) (vs : List Value) : RowS (w.setCells g 0 vs) k us := h.at (sc_below g vs w).size (sc_other g k hg vs 0 w)
theorem RowS.scs {w : World} {g : Nat} {us : List Value} (h : RowS w g us) (vs : List Value) (hl : vs.length = us.length) : RowS (w.setCells g 0 vs) g vs :=
  ⟨sc_lt _ _ _ h.1, World.rangeAt_setCells_same _ _ _ _ (by rw [hl]; exact h.2.2), World.there_setCells (by rw [hl]; exact h.2.2) _ _ _⟩
theorem imq_dat {base : Nat} {w : World} {v : Value} {x : List UInt8} (h : w.ownsRow base 5 1 v x.length (Lib.byteCells x)) (hb : base ≤ w.heap.size) (hx : x.length ≤ 4611686018427387904) (k : Int) : IMO base w (.mk k 0 x []) v (.slice none 0 0) := by
  refine ⟨[v], ?_, fun W hW => ⟨?_, ?_⟩⟩
  · rw [Asc]
    cases hv : v.ownBlock with
    | none => exact Or.inl ⟨rfl, hb⟩
    | some g =>
      have := own_lt h g hv
      exact Or.inr ⟨g, rfl, this.1, this.2, this.2⟩
  · rw [InM]
    exact ⟨by decide, hx, by simp, own_pbb h W hW, none, 0, rfl, Or.inl rfl⟩
  · rw [DsM]
    exact ⟨own_at h (fun g hg => hW g (own_lt h g hg).1 (own_lt h g hg).2), [], rfl, Or.inl ⟨rfl, rfl⟩⟩
theorem imq_num {base : Nat} {w : World} (hb : base ≤ w.heap.size) (k : Int) (n : Nat) (hn : n < 18446744073709551616) : IMO base w (.mk k n [] []) (.slice none 0 0) (.slice none 0 0) := by
  refine ⟨[.slice none 0 0], ?_, fun W hW => ⟨?_, ?_⟩⟩
  · rw [Asc]
    exact Or.inl ⟨rfl, hb⟩
  · rw [InM]
    exact ⟨hn, by simp, by simp, ⟨none, 0, rfl, Nat.le_refl _, Or.inl rfl⟩, none, 0, rfl, Or.inl rfl⟩
  · rw [DsM]
    exact ⟨World.ownsRow_nil _ _ _ _, [], rfl, Or.inl ⟨rfl, rfl⟩⟩
theorem itcv (T : TypeId) (k : Int) (n : Nat) (q : Option Addr) (a b : Nat) (q' : Option Addr) (a' b' : Nat) : (Value.agg #[.int .i64 k, .int .u64 (n : Int), .slice q a b, .slice q' a' b']) = itv k n q a b q' a' b' := rfl
set_option maxHeartbeats 1000000 in
set_option maxRecDepth 20000 in
/-- Data is read. -/
theorem rDat_c (w : World) (R h d n : Nat) (q : Option Addr) (m c : Nat) (x : List UInt8) (k : Nat) (hk : k < 18446744073709551616) (hm : m ≤ 65536) (hR : RowS w R (wkc h d n (.slice q m c))) (hP : PBq w R q m c x) (rr : Option (Nat × List UInt8 × List Itm × Nat × List UInt8)) (hrr : Hid (rr = if k ≤ x.length then some (0, x.take k, [], n, x.drop k) else none)) :
    Calls Tryd.prog 87 #[.pointer (some ⟨R, 0, none⟩), .int .u64 (k : Int)] w (RkR w R h d rr) := by
  obtain ⟨wb, hwb⟩ : ∃ wb, Hid (w.alloc (.cells #[.int .i64 0, .int .u64 0, .slice none 0 0, .slice none 0 0] 27) = wb) := ⟨_, rfl⟩
  have hRr : Hid (RowS wb w.heap.size [.int .i64 0, .int .u64 0, .slice none 0 0, .slice none 0 0]) := by rw [← hwb.out]; exact zrow w
  have hB : Hid (Below w.heap.size w wb) := by rw [← hwb.out]; exact alloc_below _ _
  have hml := hP.1
  have hRw := hidW hR.1
  have hc := rbytes_c wb R h d n q m c x k hk (by omega) (hR.below hB.out) (hP.at (FrX.of hB.out))
  clear hR hP
  go_enter Tryd.func87, Tryd.ntmps87
  go_upto_region 1 with fail
  rw [hwb.out]
  go_wp2_with fail
  refine hc.mono ?_
  rintro e w1 (⟨hkx, q', rfl, hw1, hR1, p1, p2⟩ | ⟨hkx, rfl, rfl⟩)
  · have hlen : (x.take k).length = k := by rw [List.length_take]; omega
    have hlen2 : (x.drop k).length = m - k := by rw [List.length_drop]; omega
    have hcl := cloneX_c q k c R (x.take k) (by rw [hlen]; omega) w1 p1
    rw [hlen] at hcl
    have hF1 : Hid (FrX (· = R) wb w1) := by
      rw [hw1]
      exact (FrX.refl (· = R) wb).setCell (a := ⟨R, 3, none⟩) (Or.inl rfl) _
    have K1 := hidW (And.intro hR1 p2)
    clear hw1 hR1 p1 p2 hc
    go_wp2_with fail
    refine hcl.mono ?_
    rintro e w2 ⟨v2, rfl, hb2, qd, cd, rfl, how⟩
    have hRr2 : Hid (RowS w2 w.heap.size [.int .i64 0, .int .u64 0, .slice none 0 0, .slice none 0 0]) := (hRr.out.at hF1.out.size (hF1.out.block _ hRr.out.1 (fun e => by have := hRw.out; omega))).below hb2
    obtain ⟨w3, hw3⟩ : ∃ w3, Hid (w2.setCells w.heap.size 0 [.int .i64 0, .int .u64 0, .slice qd k cd, .slice none 0 0] = w3) := ⟨_, rfl⟩
    have K3 : Hid (RowS w3 w.heap.size [.int .i64 0, .int .u64 0, .slice qd k cd, .slice none 0 0] ∧ RkR w R h d rr (.returned (itv 0 0 qd k cd none 0 0)) w3) := by
      have hs1 : w.heap.size < w1.heap.size := Nat.lt_of_lt_of_le hRr.out.1 hF1.out.size
      rw [← hw3.out]
      refine ⟨hRr2.out.scs _ rfl, ?_, Or.inl ⟨0, x.take k, [], n, x.drop k, q', c - k, qd, cd, none, 0, by rw [hrr.out, if_pos hkx], by rw [hlen]; rfl, ?_, ?_, fun k' => ?_⟩⟩
      · exact (((FrX.of (X := (· = R)) hB.out).trans hF1.out (fun _ hk => Or.inl hk)).belowTo hb2).sc (Nat.le_refl _) _
      · rw [hlen2]
        exact (K1.out.1.below hb2).sc (by have := hRw.out; omega) _
      · rw [hlen2]
        exact (K1.out.2.at (FrX.of hb2)).sc (by have := hRw.out; omega) _
      · rw [hlen]
        have hq := imq_dat (base := w1.heap.size) (v := .slice qd k cd) (x := x.take k) (by rw [hlen]; exact how) hb2.size (by rw [hlen]; omega) k'
        refine (hq.at (sc_below _ _ _).size (fun g h1 h2 => ?_)).dn (by omega)
        exact sc_other _ _ (by omega) _ _ _
    clear hb2 how hcl K1 hF1
    go_wp2_with (first | (refine wpList_store_mid rfl 27 _ _ rfl w.heap.size 0 #[.int .i64 0, .int .u64 0, .slice qd k cd, .slice none 0 0] ?_ ?_ ?_ ?_ ?_ ?_; rfl; rfl; exact hRr2.out.2.2; exact isz27; exact four_one _ 0 _ _ _ _ _ _; (show wpList _ _ _ _ _ (w2.setCells w.heap.size 0 [.int .i64 0, .int .u64 0, .slice qd k cd, .slice none 0 0])); rw [hw3.out]))
    refine bodyPost_ret (results_cellI 4 27 rfl K3.out.1 rfl urw27 isz27) rfl ?_
    exact K3.out.2
  · have KR : Hid (RkR w R h d rr thrown w1) := ⟨FrX.of hB.out, Or.inr ⟨by rw [hrr.out, if_neg hkx], rfl⟩⟩
    clear hc
    simp only [thrown, Exit.inBlock, Exit.then, bodyPost]
    exact ⟨trivial, KR.out⟩
end WI
end Go.Proofs.YtfkgfcggcfkkiaaDoor
namespace Go.Proofs.YtfkgfcggcfkkiaaDoor
open Go.RowKit Go.Sort Go.Deep
namespace WI
variable {T : World → Prop} {u : List UInt8 → Bool}
/-- How a reader stands. -/
structure RSt (T : World → Prop) (w : World) (R h d n : Nat) (q : Option Addr) (m c : Nat) (x : List UInt8) : Prop where
  ks : KS w h
  row : RowS w R (wkc h d n (.slice q m c))
  rest : PBq w R q m c x
  tb : T w
  sep : ¬ (h ≤ R ∧ R < h + 19)
  r2 : 2 ≤ R
  hd : d ≤ 16
  hn : n ≤ 4096
  hm : m ≤ 65536
theorem RSt.next (hU : UV T u) {w w' : World} {R h d n d' n' : Nat} {q q' : Option Addr} {m c m' c' : Nat} {x x' : List UInt8} (S : RSt T w R h d n q m c x) (hF : FrX (· = R) w w') (hr : RowS w' R (wkc h d' n' (.slice q' m' c'))) (hp : PBq w' R q' m' c' x') (hd : d' ≤ 16) (hn : n' ≤ 4096) (hm : m' ≤ 65536) : RSt T w' R h d' n' q' m' c' x' := by
  have h18 := S.ks.lt
  have h2 := hU.2.1 w S.tb
  refine ⟨S.ks.at hF.size (fun k h1 h2 => hF.block k (by omega) (fun e => S.sep (by subst e; exact ⟨h1, h2⟩))), hr, hp, hU.1 w w' S.tb (fun k hk => hF.block k (by omega) (fun e => by have := S.r2; omega)), S.sep, S.r2, hd, hn, hm⟩
theorem RSt.below (hU : UV T u) {w w' : World} {R h d n : Nat} {q : Option Addr} {m c : Nat} {x : List UInt8} (S : RSt T w R h d n q m c x) (hb : Below w.heap.size w w') : RSt T w' R h d n q m c x := S.next hU (FrX.of hb) (S.row.below hb) (S.rest.at (FrX.of hb)) S.hd S.hn S.hm
/-- What item does. -/
def RtR (u : List UInt8 → Bool) (f : Nat) (w : World) (R h d n : Nat) (x : List UInt8) (e : Ending) (w' : World) : Prop := FrX (· = R) w w' ∧ ((∃ i n' r q' c' qd dl cd ql ml cl, rd u f n x = some (i, n', r) ∧ e = .returned (itv i.k i.n qd dl cd ql ml cl) ∧ IMO w.heap.size w' i (.slice qd dl cd) (.slice ql ml cl) ∧ RowS w' R (wkc h d n' (.slice q' r.length c')) ∧ PBq w' R q' r.length c' r) ∨ (rd u f n x = none ∧ e = thrown))
def RSp (T : World → Prop) (u : List UInt8 → Bool) (f : Nat) : Prop := ∀ (w : World) (R h d n : Nat) (q : Option Addr) (m c : Nat) (x : List UInt8), RSt T w R h d n q m c x → d + f = 16 → Calls Tryd.prog 42 #[.pointer (some ⟨R, 0, none⟩)] w (RtR u f w R h d n x)
/-- What items and pairs do. -/
def RlR (w : World) (R h d : Nat) (rl : Option (List Itm × Nat × List UInt8)) (e : Ending) (w' : World) : Prop := FrX (· = R) w w' ∧ ((∃ l n' r q' c' ql cl, rl = some (l, n', r) ∧ e = .returned (.slice ql l.length cl) ∧ RowS w' R (wkc h d n' (.slice q' r.length c')) ∧ PBq w' R q' r.length c' r ∧ ∀ k, IMO w.heap.size w' (.mk k 0 [] l) (.slice none 0 0) (.slice ql l.length cl)) ∨ (rl = none ∧ e = thrown))
/-- What the loop of items keeps. -/
structure LrI (u : List UInt8 → Bool) (f : Nat) (w : World) (R h d n : Nat) (x : List UInt8) (j : Nat) (v : Value) (l : List Itm) (n' : Nat) (r : List UInt8) (q' : Option Addr) (c' : Nat) (cs : List Value) (w' : World) : Prop where
  fr : FrX (· = R) w w'
  rd : rdN (rd u f) j n x = some (l, n', r)
  row : RowS w' R (wkc h d n' (.slice q' r.length c'))
  rest : PBq w' R q' r.length c' r
  own : w'.ownsRow w.heap.size 27 4 v j cs
  ic : ∃ vs, Asc w.heap.size w'.heap.size vs ∧ ∀ W : World, (∀ k, w.heap.size ≤ k → k < w'.heap.size → v.ownBlock ≠ some k → W.heap[k]? = w'.heap[k]?) → IC W w'.heap.size l cs ∧ DC W w.heap.size l cs vs
theorem len_cnts : ∀ l : List Itm, l.length ≤ cnts l
  | [] => by simp
  | i :: l => by
    have h1 := cnt_pos i
    have h2 := len_cnts l
    rw [cnts, List.length_cons]; omega
theorem LrI.bnd {f : Nat} {w : World} {R h d n : Nat} {x : List UInt8} {j : Nat} {v : Value} {l : List Itm} {n' : Nat} {r : List UInt8} {q' : Option Addr} {c' : Nat} {cs : List Value} {w' : World} (L : LrI u f w R h d n x j v l n' r q' c' cs w') (hn : n ≤ 4096) (hx : x.length ≤ 65536) : n' ≤ 4096 ∧ r.length ≤ 65536 ∧ l.length = j ∧ j ≤ 4096 ∧ x = (byts l).flatten ++ r := by
  obtain ⟨h1, h2, h3, h4, h5, h6, h7⟩ := rdN_some u (fun c b i c' b' h => rd_some u f c b i c' b' h) j n x l n' r hn L.rd
  have := len_cnts l
  refine ⟨h6, ?_, h2, by omega, h1⟩
  have := congrArg List.length h1
  rw [List.length_append] at this
  omega
theorem LrI.st (hU : UV T u) {f : Nat} {w : World} {R h d n : Nat} {q : Option Addr} {m c : Nat} {x : List UInt8} {j : Nat} {v : Value} {l : List Itm} {n' : Nat} {r : List UInt8} {q' : Option Addr} {c' : Nat} {cs : List Value} {w' : World} (S : RSt T w R h d n q m c x) (L : LrI u f w R h d n x j v l n' r q' c' cs w') : RSt T w' R h d n' q' r.length c' r := by
  have hb := L.bnd S.hn (by have h1 := S.hm; rw [S.rest.1] at h1; exact h1)
  exact S.next hU L.fr L.row L.rest S.hd hb.1 hb.2.1
/-- The cells of an item's value. -/
def itc (i : Itm) (vd vl : Value) : List Value := [.int .i64 i.k, .int .u64 (i.n : Int), vd, vl]
/-- One item more. -/
theorem LrI.add {f : Nat} {w w1 w2 : World} {R h d n : Nat} {x : List UInt8} {j : Nat} {v : Value} {l : List Itm} {n1 : Nat} {r1 : List UInt8} {q1 : Option Addr} {c1 : Nat} {cs : List Value} {i : Itm} {n2 : Nat} {r2 : List UInt8} {q2 : Option Addr} {c2 : Nat} {vd vl : Value} (hR : R < w.heap.size) (hn : n ≤ 4096) (hx : x.length ≤ 65536) (L : LrI u f w R h d n x j v l n1 r1 q1 c1 cs w1) (hF : FrX (· = R) w1 w2) (hrd : WI.rd u f n1 r1 = some (i, n2, r2)) (hI : IMO w1.heap.size w2 i vd vl) (hrow : RowS w2 R (wkc h d n2 (.slice q2 r2.length c2))) (hrest : PBq w2 R q2 r2.length c2 r2) :
    ∃ v' W', (Builtin.append_ #[25, 25] 25 #[v, .slice (some ⟨w2.heap.size, 0, none⟩) 1 1]).run Tryd.prog (w2.alloc (.cells (itc i vd vl).toArray 27)) = .ok v' W' ∧ LrI u f w R h d n x (j + 1) v' (l ++ [i]) n2 r2 q2 c2 (cs ++ itc i vd vl) W' := by
  obtain ⟨-, -, hlj, hj, -⟩ := L.bnd hn hx
  obtain ⟨ii, hi, he⟩ := Option.map_eq_some_iff.1 infoI
  simp only [Prod.mk.injEq] at he
  obtain ⟨g2, g3, g4⟩ := he
  obtain ⟨z, hz, hz2⟩ := Option.map_eq_some_iff.1 g4
  obtain ⟨wa, hwa⟩ : ∃ wa, w2.alloc (.cells (itc i vd vl).toArray 27) = wa := ⟨_, rfl⟩
  have hsa : wa.heap.size = w2.heap.size + 1 := by rw [← hwa]; exact World.size_alloc _ _
  have hba : Below w2.heap.size w2 wa := by rw [← hwa]; exact alloc_below _ _
  have hca : ∀ j u, (itc i vd vl)[j]? = some u → wa.cell? ⟨w2.heap.size, 0 + j, none⟩ = some u := fun j u hj => by
    rw [← hwa]; exact al_r w2 _ _ _ rfl j u hj
  have hIM := hI.in
  obtain ⟨qd, dl, cd, ql, ml, cl, rfl, rfl⟩ := hIM.form
  have hone : ∀ u ∈ itc i (.slice qd dl cd) (.slice ql ml cl), u.oneCell' = true := fun u hu => by
    simp only [itc, List.mem_cons, List.not_mem_nil, or_false] at hu
    rcases hu with rfl | rfl | rfl | rfl <;> rfl
  have hvw : ∀ g, v.ownBlock = some g → w.heap.size ≤ g ∧ g < w1.heap.size := fun g hg => by
    exact ⟨(L.own.lt g hg).1, (L.own.lt g hg).2⟩
  have hR1 : R < w1.heap.size := Nat.lt_of_lt_of_le hR L.fr.size
  have hown : wa.ownsRow w.heap.size 27 4 v j cs := own_at L.own (fun k hk => by
    have := hvw k hk
    rw [hba.block k (Nat.lt_of_lt_of_le this.2 hF.size), hF.block k this.2 (by omega)])
  rw [hwa]
  obtain ⟨v', W', a1, a2, a3⟩ := it_app (base := w.heap.size) (W := wa) (v := v) (n := j) (m := 1) (c := 1) (q := some ⟨w2.heap.size, 0, none⟩) hown (by rfl : (itc i (.slice qd dl cd) (.slice ql ml cl)).length = 1 * 4) (Or.inr ⟨_, _, rfl, hca⟩) hone (by omega) (by have := L.fr.size; have := hF.size; omega)
  have hsrc : Src Tryd.prog 4 25 (.slice (some ⟨w2.heap.size, 0, none⟩) 1 1) 1 (itc i (.slice qd dl cd) (.slice ql ml cl)) wa := Src.ofSlice (e' := 27) _ undI ⟨w2.heap.size, 0, none⟩ 1 1 _ (by rfl) (fun j u hj => by rw [addS0]; exact hca j u hj) hone
  have hwh := own_block undI hi hz g2 (by rw [g3]; decide) hown hsrc (by omega) a1
  have hv'w : ∀ g, v'.ownBlock = some g → w.heap.size ≤ g ∧ g < W'.heap.size := fun g hg => ⟨(a2.lt g hg).1, (a2.lt g hg).2⟩
  -- what W' keeps
  have hk1 : ∀ k, k < w.heap.size → W'.heap[k]? = wa.heap[k]? := fun k hk => a3.block k (by have := L.fr.size; have := hF.size; omega) (fun e => by have := hvw k e.symm; omega)
  have hk2 : ∀ k, w1.heap.size ≤ k → k < w2.heap.size → W'.heap[k]? = w2.heap[k]? ∧ v'.ownBlock ≠ some k := fun k h1 h2 => by
    refine ⟨?_, ?_⟩
    · rw [a3.block k (by omega) (fun e => by have := hvw k e.symm; omega), hba.block k h2]
    · rcases hwh with e | ⟨e, -⟩
      · rw [e]; intro h'; have := hvw k h'; omega
      · rw [e]; intro h'; have := Option.some.inj h'; omega
  have hk3 : ∀ k, w.heap.size ≤ k → k < w1.heap.size → v.ownBlock ≠ some k → W'.heap[k]? = w1.heap[k]? ∧ v'.ownBlock ≠ some k := fun k h1 h2 h3 => by
    have hs := hF.size
    refine ⟨?_, ?_⟩
    · rw [a3.block k (by omega) (fun e => h3 e.symm), hba.block k (by omega), hF.block k h2 (by omega)]
    · rcases hwh with e | ⟨e, -⟩
      · rw [e]; exact h3
      · rw [e]; intro h'; have := Option.some.inj h'; omega
  have hsW : w2.heap.size ≤ W'.heap.size := Nat.le_trans hba.size a3.size
  have hF2 : FrX (· = R) w W' := by
    have h1 := L.fr.trans hF (fun _ hk => Or.inl hk)
    refine ⟨a3.os.trans (hba.os.trans h1.os), a3.tape.trans (hba.tape.trans h1.tape), a3.output.trans (hba.output.trans h1.output), Nat.le_trans h1.size hsW, fun k hk hx => ?_⟩
    rw [hk1 k hk, hba.block k (Nat.lt_of_lt_of_le hk h1.size)]
    exact h1.block k hk hx
  have hRb : W'.heap[R]? = w2.heap[R]? := by rw [hk1 R hR, hba.block R (Nat.lt_of_lt_of_le hR1 hF.size)]
  refine ⟨v', W', a1, hF2, rdN_snoc_y L.rd hrd, hrow.at hsW hRb, ?_, a2, ?_⟩
  · obtain ⟨p1, p2, p3 | ⟨b, o, p3, p4, p5, p6⟩⟩ := hrest
    · exact ⟨p1, p2, Or.inl p3⟩
    · refine ⟨p1, p2, Or.inr ⟨b, o, p3, p4, by omega, fun t y ht => ?_⟩⟩
      rw [World.cell?_of_block (a := ⟨b, o + t, none⟩) (hk1 b (by omega)), hba.cell (p := ⟨b, o + t, none⟩) p5]
      exact p6 t y ht
  · obtain ⟨vs, hA, hC⟩ := L.ic
    obtain ⟨vs1, hA1, hC1⟩ := hI
    refine ⟨vs ++ vs1, Asc.hi hsW (hA1.app hA), fun W hW => ?_⟩
    obtain ⟨k1, k2⟩ := hC1 W fun k h1 h2 => by
      obtain ⟨e1, e2⟩ := hk2 k h1 h2
      rw [hW k (by have := L.fr.size; omega) (by omega) e2, e1]
    obtain ⟨k3, k4⟩ := hC W fun k h1 h2 h3 => by
      obtain ⟨e1, e2⟩ := hk3 k h1 h2 h3
      rw [hW k h1 (by have := hF.size; omega) e2, e1]
    refine ⟨IC.app (l := l) (m := [i]) ?_ (IC.mono (Nat.le_trans hF.size hsW) k3), DC.app (l := l) (m := [i]) ?_ k4⟩
    · rw [IC]
      exact ⟨_, _, [], rfl, InM.mono hsW i _ _ k1, by rw [IC]⟩
    · rw [DC]
      exact ⟨_, _, [], vs1, [], rfl, DsM.dn L.fr.size i _ _ _ k2, by rw [DC]; exact ⟨rfl, rfl⟩, by rw [List.append_nil]⟩
end WI
end Go.Proofs.YtfkgfcggcfkkiaaDoor
namespace Go.Proofs.YtfkgfcggcfkkiaaDoor
open Go.RowKit Go.Sort Go.Deep
namespace WI
variable {T : World → Prop} {u : List UInt8 → Bool}
theorem LrI.start {f : Nat} {w : World} {R h d n : Nat} {q : Option Addr} {m c : Nat} {x : List UInt8} (S : RSt T w R h d n q m c x) : LrI u f w R h d n x 0 (.slice none 0 0) [] n x q c [] w := by
  have hr := S.row
  have hp := S.rest
  have hm := hp.1
  rw [hm] at hr hp
  exact ⟨FrX.refl _ _, rfl, hr, hp, World.ownsRow_nil _ _ _ _, ⟨[], Nat.le_refl _, fun W hW => ⟨by rw [IC], by rw [DC]; exact ⟨rfl, rfl⟩⟩⟩⟩
/-- What was read, as it is given back. -/
theorem LrI.fin {f : Nat} {w : World} {R h d n : Nat} {x : List UInt8} {j : Nat} {v : Value} {l : List Itm} {n' : Nat} {r : List UInt8} {q' : Option Addr} {c' : Nat} {cs : List Value} {w' : World} (L : LrI u f w R h d n x j v l n' r q' c' cs w') (hn : n ≤ 4096) (hx : x.length ≤ 65536) {rl : Option (List Itm × Nat × List UInt8)} (hrl : rl = some (l, n', r)) : RlR w R h d rl (.returned v) w' := by
  obtain ⟨-, -, hlj, hj, -⟩ := L.bnd hn hx
  refine ⟨L.fr, Or.inl ?_⟩
  obtain ⟨vs, hA, hC⟩ := L.ic
  have hA1 : Asc w.heap.size w'.heap.size (.slice none 0 0 :: vs) := by rw [Asc]; exact Or.inl ⟨rfl, hA⟩
  rcases own_cells L.own with ⟨h0, hv, hc⟩ | ⟨g, cap, hv, h2, h3, h4, h5, h6⟩
  · subst hv
    refine ⟨l, n', r, q', c', none, 0, hrl, by rw [hlj, h0], L.row, L.rest, fun k => ?_⟩
    obtain rfl := List.length_eq_zero_iff.1 (show l.length = 0 by omega)
    exact imq_num L.fr.size k 0 (by decide)
  · subst hv
    refine ⟨l, n', r, q', c', some ⟨g, 0, none⟩, cap, hrl, by rw [hlj], L.row, L.rest, fun k => ⟨_, hA1, fun W hW => ?_⟩⟩
    obtain ⟨k1, k2⟩ := hC W fun k h1 h2 _ => hW k h1 h2
    have hcl : ∀ t y, cs[t]? = some y → W.cell? ⟨g, 0 + t, none⟩ = some y := fun t y ht => by
      rw [Nat.zero_add, World.cell?_of_block (a := ⟨g, t, none⟩) (hW g h2 h3)]
      exact h6 t y ht
    refine ⟨?_, ?_⟩
    · rw [InM]
      exact ⟨by decide, by simp, by omega, ⟨none, 0, rfl, Nat.le_refl _, Or.inl rfl⟩, _, cap, rfl, Or.inr ⟨g, 0, rfl, h3, IC.inl 0 k1 hcl⟩⟩
    · rw [DsM]
      exact ⟨World.ownsRow_nil _ _ _ _, vs, rfl, Or.inr ⟨g, 0, _, cap, rfl, DC.dsl 0 k2 hcl⟩⟩
set_option maxHeartbeats 1000000 in
set_option maxRecDepth 20000 in
theorem ritems_c (hU : UV T u) (f : Nat) (hI : RSp T u f) (w : World) (R h d n : Nat) (q : Option Addr) (m c : Nat) (x : List UInt8) (S : RSt T w R h d n q m c x) (hdf : d + f = 16) (N : Nat) (hN : N < 18446744073709551616) (rl : Option (List Itm × Nat × List UInt8)) (hrl : Hid (rl = rdN (rd u f) N n x)) :
    Calls Tryd.prog 65 #[.pointer (some ⟨R, 0, none⟩), .int .u64 (N : Int)] w (RlR w R h d rl) := by
  have H := hidW S
  have L0 := hidW (LrI.start (u := u) (f := f) S)
  have hx : Hid (x.length ≤ 65536) := by have h1 := S.hm; rw [S.rest.1] at h1; exact h1
  clear S
  go_enter Tryd.func65, Tryd.ntmps65
  go_wp2
  go_loopg [5, 7] (N + 1) (fun gk s5 s7 wr => ∃ j l n' r q' c' cs, s7 = .int .u64 ((j : Nat) : Int) ∧ gk = N + 1 - j ∧ j ≤ N ∧ LrI u f w R h d n x j s5 l n' r q' c' cs wr)
  case atStart => exact ⟨0, _, _, _, _, _, _, rfl, rfl, Nat.zero_le _, L0.out⟩
  case round =>
    rename_i v1 v2
    obtain ⟨j, l, n1, r1, q1, c1, cs, rfl, hg, hjN, L⟩ := hrel
    by_cases hj : j < N
    · have hjz : (j : Int) < (N : Int) := by omega
      have hjw : (j : Int) + 1 < 18446744073709551616 := by omega
      have hc := hI wr R h d n1 q1 r1.length c1 r1 (L.st hU H.out) hdf
      have HL := hidW L
      clear L
      go_wp2_with fail
      refine hc.mono ?_
      rintro e w2 ⟨hF, ⟨i, n2, r2, q2, c2, qd, dl, cd, ql, ml, cl, hrd, rfl, hIM, hrow, hrest⟩ | ⟨hrd, rfl⟩⟩
      · obtain ⟨v', W', ha, L2⟩ := HL.out.add H.out.row.1 H.out.hn hx.out hF hrd hIM hrow hrest
        have HAP : Hid ((Builtin.append_ #[25, 25] 25 #[_, .slice (some ⟨w2.heap.size, 0, none⟩) 1 1]).run Tryd.prog (w2.alloc (.cells #[.int .i64 i.k, .int .u64 (i.n : Int), .slice qd dl cd, .slice ql ml cl] 27)) = .ok v' W') := ha
        have L3 := hidW L2
        clear hF hrd hIM hrow hrest ha L2 hc HL
        unfold itv
        go_wp2_with (at_builtin; refine Lib.wpList_append_run _ rfl _ _ _ _ rfl _ _ rfl rfl _ _ HAP.out ?_)
        go_roundg (N + 1 - (j + 1))
        case measure => omega
        case rel => exact ⟨j + 1, _, _, _, _, _, _, rfl, rfl, by omega, L3.out⟩
      · have KR : Hid (RlR w R h d rl thrown w2) := ⟨HL.out.fr.trans hF (fun _ hk => Or.inl hk), Or.inr ⟨by rw [hrl.out, rdN_snoc_n HL.out.rd hrd N hj], rfl⟩⟩
        clear hF hrd hc HL
        simp only [thrown, Exit.inBlock, Exit.then, bodyPost]
        exact ⟨trivial, KR.out⟩
    · have hjz : ¬ (j : Int) < (N : Int) := by omega
      obtain rfl : j = N := by omega
      have KR := hidW (L.fin H.out.hn hx.out (hrl.out.trans L.rd))
      clear L
      go_wp2
      first | go_end0 | go_ret
      exact KR.out
end WI
end Go.Proofs.YtfkgfcggcfkkiaaDoor
namespace Go.Proofs.YtfkgfcggcfkkiaaDoor
open Go.RowKit Go.Sort Go.Deep
namespace WI
variable {T : World → Prop} {u : List UInt8 → Bool}
theorem nrow (w : World) (v : Value) : RowS (w.alloc (.cells #[v, v, v, v] 108)) w.heap.size [v, v, v, v] := by
  have e : (w.alloc (.cells #[v, v, v, v] 108)).heap[w.heap.size]? = some (.cells #[v, v, v, v] 108 (0, 0)) := Array.getElem?_push_size
  refine ⟨(Array.getElem?_eq_some_iff.1 e).1, al_r w _ _ _ rfl, fun k hk => ?_⟩
  unfold World.cell? World.frozen?
  simp only [e, Nat.zero_add]
  obtain rfl | rfl | rfl | rfl : k = 0 ∨ k = 1 ∨ k = 2 ∨ k = 3 := by simp only [List.length_cons, List.length_nil] at hk; omega
  all_goals exact ⟨rfl, rfl⟩
theorem fn_one (f1 f2 f3 f4 : FuncId) (q1 q2 q3 q4 : Array Value) : (#[Value.func (.func f1) #[] q1, .func (.func f2) #[] q2, .func (.func f3) #[] q3, .func (.func f4) #[] q4] : Array Value).all (·.oneCell') = true := by kernel_rfl
theorem iszK : (Tryd.prog.info? 108).map (·.size) = some 4 := by kernel_rfl
/-- The answer, out of what lay behind the head. -/
def fit (u : List UInt8 → Bool) (k : Nat) : Option (Nat × List UInt8 × List Itm × Nat × List UInt8) → Option (Itm × Nat × List UInt8)
  | none => none
  | some (nn, dd, l, c', r') => if own u k nn dd l.length then some (.mk k nn dd l, c', r') else none
theorem rdHead_len {x r : List UInt8} {k N : Nat} (h : rdHead x = some (k, N, r)) : r.length ≤ x.length ∧ k < 8 ∧ N < 18446744073709551616 := by
  obtain ⟨h1, h2, h3⟩ := rdHead_some x r k N h
  refine ⟨?_, h2, h3⟩
  rw [h1, List.length_append]; omega
theorem ritem_h (hU : UV T u) (F : Nat) (w : World) (R h d n : Nat) (q : Option Addr) (m c : Nat) (x : List UInt8) (S : RSt T w R h d n q m c x) (hh : rdHead x = none) : Calls Tryd.prog 42 #[.pointer (some ⟨R, 0, none⟩)] w (RtR u F w R h d n x) := by
  obtain ⟨w0, hw0⟩ : ∃ wb, Hid (w.alloc (.cells #[.int .i64 0, .int .u64 0, .slice none 0 0, .slice none 0 0] 27) = wb) := ⟨_, rfl⟩
  have hB0 : Hid (Below w.heap.size w w0) := by rw [← hw0.out]; exact alloc_below _ _
  have S0 := S.below hU hB0.out
  have hc := rdhead_c w0 R h d n q m c x (by have := S.hm; omega) S0.row S0.rest
  have KR : Hid (∀ w', FrX (· = R) w0 w' → RtR u F w R h d n x thrown w') := fun w' hF => ⟨(FrX.of (X := (· = R)) hB0.out).trans hF (fun _ hk => Or.inl hk), Or.inr ⟨rd_no u F n x hh, rfl⟩⟩
  clear S S0
  go_enter Tryd.func42, Tryd.ntmps42
  go_upto_region 1 with fail
  rw [hw0.out]
  go_wp2_with fail
  refine hc.mono ?_
  rintro e w1 ⟨hF1, ⟨k', N', r', qa, ca, hr', -⟩ | ⟨hr', rfl⟩⟩
  · rw [hh] at hr'; cases hr'
  · have K := hidW (KR.out w1 hF1)
    clear hF1 hc KR
    simp only [thrown, Exit.inBlock, Exit.then, bodyPost]
    exact ⟨trivial, K.out⟩
theorem ritem_n (hU : UV T u) (F : Nat) (w : World) (R h d n : Nat) (q : Option Addr) (m c : Nat) (x : List UInt8) (S : RSt T w R h d n q m c x) (k N : Nat) (r0 : List UInt8) (hh : rdHead x = some (k, N, r0)) (hno : kAt h (k : Int) = none ∨ ¬ d + 1 ≤ 16 ∨ ¬ n + 1 ≤ 4096) (hrd : rd u F n x = none) : Calls Tryd.prog 42 #[.pointer (some ⟨R, 0, none⟩)] w (RtR u F w R h d n x) := by
  obtain ⟨w0, hw0⟩ : ∃ wb, Hid (w.alloc (.cells #[.int .i64 0, .int .u64 0, .slice none 0 0, .slice none 0 0] 27) = wb) := ⟨_, rfl⟩
  have hB0 : Hid (Below w.heap.size w w0) := by rw [← hw0.out]; exact alloc_below _ _
  have S0 := hidW (S.below hU hB0.out)
  have hm := S.rest.1
  have hm2 := S.hm
  have hl := rdHead_len hh
  have hc := rdhead_c w0 R h d n q m c x (by have := S.hm; omega) S0.out.row S0.out.rest
  have KR : Hid (∀ w', FrX (· = R) w0 w' → RtR u F w R h d n x thrown w') := fun w' hF => ⟨(FrX.of (X := (· = R)) hB0.out).trans hF (fun _ hk => Or.inl hk), Or.inr ⟨hrd, rfl⟩⟩
  have HH := hidW (And.intro hh hno)
  clear S hh hno hrd
  go_enter Tryd.func42, Tryd.ntmps42
  go_upto_region 1 with fail
  rw [hw0.out]
  go_wp2_with fail
  refine hc.mono ?_
  rintro e w1 ⟨hF1, ⟨k', N', r', qa, ca, hr', rfl, hrow1, hrest1⟩ | ⟨hr', rfl⟩⟩
  · rw [HH.out.1] at hr'
    simp only [Option.some.injEq, Prod.mk.injEq] at hr'
    obtain ⟨rfl, rfl, rfl⟩ := hr'
    have S1 := S0.out.next hU hF1 hrow1 hrest1 S0.out.hd S0.out.hn (by omega)
    have hen := enter_c w1 R h (k : Int) d n (.slice qa r0.length ca) (by have := S1.hd; omega) (by have := S1.hn; omega) S1.ks S1.row S1.sep
    have H1 := hidW hF1
    clear hF1 hrow1 hrest1 S1 hc
    go_wp2_with fail
    refine hen.mono ?_
    rintro e w2 ⟨hF2, ⟨⟨j', v', hk', -⟩, h16, h40, -⟩ | ⟨-, rfl⟩⟩
    · rcases HH.out.2 with hno | hno | hno
      · rw [hno] at hk'; cases hk'
      · exact absurd h16 hno
      · exact absurd h40 hno
    · have K := hidW (KR.out w2 (H1.out.trans hF2 (fun _ hk => Or.inl hk)))
      clear hF2 hen KR
      simp only [thrown, Exit.inBlock, Exit.then, bodyPost]
      exact ⟨trivial, K.out⟩
  · rw [HH.out.1] at hr'; cases hr'
end WI
end Go.Proofs.YtfkgfcggcfkkiaaDoor
namespace Go.Proofs.YtfkgfcggcfkkiaaDoor
open Go.RowKit Go.Sort Go.Deep
namespace WI
variable {T : World → Prop} {u : List UInt8 → Bool}
attribute [local go_sem] st_fn st_nl
set_option maxHeartbeats 2000000 in
set_option maxRecDepth 20000 in
theorem ritem_g (hU : UV T u) (F : Nat) (f1 f2 f3 f4 : FuncId) (q1 q2 q3 q4 : Array Value) (w : World) (R h d n : Nat) (q : Option Addr) (m c : Nat) (x : List UInt8) (k N : Nat) (r0 : List UInt8) (jj : Nat) (rr : Option (Nat × List UInt8 × List Itm × Nat × List UInt8))
    (hhd : Hid (rdHead x = some (k, N, r0))) (hk : Hid (kAt h (k : Int) = some (jj, .agg #[.func (.func f1) #[] q1, .func (.func f2) #[] q2, .func (.func f3) #[] q3, .func (.func f4) #[] q4])))
    (S : RSt T w R h d n q m c x)
    (E1 : ∀ args w, (callFunc f1 args).run Tryd.prog w = .ok (.enter f1 args) w) (E4 : ∀ args w, (callFunc f4 args).run Tryd.prog w = .ok (.enter f4 args) w)
    (C4 : ∀ (w1 : World) (qq : Option Addr) (cc : Nat), RSt T w1 R h (d + 1) (n + 1) qq r0.length cc r0 → Calls Tryd.prog f4 (#[.pointer (some ⟨R, 0, none⟩), .int .u64 (N : Int)] ++ q4) w1 (RkR w1 R h (d + 1) rr))
    (C1 : ∀ (w1 : World) (nn : Nat) (dd : List UInt8) (l : List Itm) (n' : Nat) (r' : List UInt8) (qd : Option Addr) (cd : Nat) (ql : Option Addr) (cl : Nat), rr = some (nn, dd, l, n', r') → KS w1 h → T w1 → InM w1 w1.heap.size (.mk k nn dd l) (.slice qd dd.length cd) (.slice ql l.length cl) → Calls Tryd.prog f1 (#[.agg #[.int .i64 (k : Int), .int .u64 (nn : Int), .slice qd dd.length cd, .slice ql l.length cl]] ++ q1) w1 (RetW (BoR w1 (own u k nn dd l.length))))
    (hsh : ∀ nn dd l n' r', rr = some (nn, dd, l, n', r') → n' ≤ 4096 ∧ r'.length ≤ 65536)
    (hd1 : d + 1 ≤ 16) (hno : Hid (¬ n + 1 ≤ 4096 → rd u F n x = none)) (hrd : Hid (n + 1 ≤ 4096 → rd u F n x = fit u k rr)) : Calls Tryd.prog 42 #[.pointer (some ⟨R, 0, none⟩)] w (RtR u F w R h d n x) := by
  obtain ⟨w0, hw0⟩ : ∃ wb, Hid (w.alloc (.cells #[.int .i64 0, .int .u64 0, .slice none 0 0, .slice none 0 0] 27) = wb) := ⟨_, rfl⟩
  have hB0 : Hid (Below w.heap.size w w0) := by rw [← hw0.out]; exact alloc_below _ _
  have hz0 : Hid (RowS w0 w.heap.size [.int .i64 0, .int .u64 0, .slice none 0 0, .slice none 0 0]) := by rw [← hw0.out]; exact zrow w
  have S0 := hidW (S.below hU hB0.out)
  have hm := S.rest.1
  have hm2 := S.hm
  have hRw := S.row.1
  have hl := rdHead_len hhd.out
  have hc := rdhead_c w0 R h d n q m c x (by have := S.hm; omega) S0.out.row S0.out.rest
  have hds := S.hd
  have hns := S.hn
  clear S
  go_enter Tryd.func42, Tryd.ntmps42
  go_upto_region 1 with fail
  rw [hw0.out]
  go_wp2_with fail
  refine hc.mono ?_
  rintro e w1 ⟨hF1, ⟨k', N', r', qa, ca, hr', rfl, hrow1, hrest1⟩ | ⟨hr', rfl⟩⟩
  · rw [hhd.out] at hr'
    simp only [Option.some.injEq, Prod.mk.injEq] at hr'
    obtain ⟨rfl, rfl, rfl⟩ := hr'
    have S1 := S0.out.next hU hF1 hrow1 hrest1 S0.out.hd S0.out.hn (by omega)
    have hen := enter_c w1 R h (k : Int) d n (.slice qa r0.length ca) (by have := S1.hd; omega) (by have := S1.hn; omega) S1.ks S1.row S1.sep
    have F1 : Hid (FrX (· = R) w w1) := (FrX.of (X := (· = R)) hB0.out).trans hF1 (fun _ hk => Or.inl hk)
    have hz1 : Hid (RowS w1 w.heap.size [.int .i64 0, .int .u64 0, .slice none 0 0, .slice none 0 0]) := hz0.out.at hF1.size (hF1.block _ hz0.out.1 (by omega))
    have P1 := hidW (And.intro S1 hrest1)
    clear hF1 hrow1 hrest1 S1 hc hz0 hB0 S0
    go_wp2_with fail
    refine hen.mono ?_
    rintro e w2 ⟨hF2, ⟨⟨j', v', hk', rfl⟩, h16, h40, hrow2⟩ | ⟨hno', rfl⟩⟩
    · rw [hk.out] at hk'
      simp only [Option.some.injEq, Prod.mk.injEq] at hk'
      obtain ⟨rfl, rfl⟩ := hk'
      have hn2 := nrow w2 .nilFunc
      have hsz2 : w2.heap.size < (w2.alloc (.cells #[.nilFunc, .nilFunc, .nilFunc, .nilFunc] 108)).heap.size := hn2.1
      obtain ⟨w3, hw3⟩ : ∃ w3, Hid ((w2.alloc (.cells #[.nilFunc, .nilFunc, .nilFunc, .nilFunc] 108)).setCells w2.heap.size 0 [.func (.func f1) #[] q1, .func (.func f2) #[] q2, .func (.func f3) #[] q3, .func (.func f4) #[] q4] = w3) := ⟨_, rfl⟩
      have hb3 : Below w2.heap.size w2 w3 := by
        rw [← hw3.out]
        exact (alloc_below w2 _).trans (sc_below _ _ _)
      have F3 : Hid (FrX (· = R) w w3) := (F1.out.trans hF2 (fun _ hk => Or.inl hk)).belowTo hb3
      have hs12 : w1.heap.size ≤ w2.heap.size := hF2.size
      have S3 : Hid (RSt T w3 R h (d + 1) (n + 1) qa r0.length ca r0) := P1.out.1.next hU (hF2.belowTo hb3) (hrow2.below hb3) (P1.out.2.at (hF2.belowTo hb3)) hd1 h40 (by omega)
      have hz3 : Hid (RowS w3 w.heap.size [.int .i64 0, .int .u64 0, .slice none 0 0, .slice none 0 0]) := (hz1.out.at hF2.size (hF2.block _ hz1.out.1 (by omega))).below hb3
      have k3 : Hid (RowS w3 w2.heap.size [.func (.func f1) #[] q1, .func (.func f2) #[] q2, .func (.func f3) #[] q3, .func (.func f4) #[] q4]) := by
        rw [← hw3.out]
        exact hn2.scs _ rfl
      have hth := hidW hn2.2.2
      have hlz : w.heap.size < w2.heap.size := Nat.lt_of_lt_of_le hz1.out.1 hs12
      have hB3 := hidW hb3
      clear hen hn2 hb3 hF2 hrow2 P1 hz1 F1
      go_upto_region 3 with (first | (refine wpList_store_mid rfl 108 _ _ rfl w2.heap.size 0 #[.func (.func f1) #[] q1, .func (.func f2) #[] q2, .func (.func f3) #[] q3, .func (.func f4) #[] q4] ?_ ?_ ?_ ?_ ?_ ?_; rfl; rfl; exact hth.out; exact iszK; exact fn_one _ _ _ _ _ _ _ _; (show wpList _ _ _ _ _ ((w2.alloc (.cells #[.nilFunc, .nilFunc, .nilFunc, .nilFunc] 108)).setCells w2.heap.size 0 [.func (.func f1) #[] q1, .func (.func f2) #[] q2, .func (.func f3) #[] q3, .func (.func f4) #[] q4])); rw [hw3.out]) | fail)
      have c3 := k3.out.cell 3 _ rfl
      have hlk := k3.out.1
      have hc4 := C4 w3 qa ca S3.out
      clear hth hw3 hsz2
      go_wp2_with fail
      refine hc4.mono ?_
      rintro e w4 ⟨hF4, ⟨nn, dd, l, n', r', qb, cb, qd, cd, ql, cl, hrr, rfl, hrow4, hrest4, him⟩ | ⟨hrr, rfl⟩⟩
      · have hsh' := hsh nn dd l n' r' hrr
        unfold itv
        have hza := zrow w4
        obtain ⟨w5, hw5⟩ : ∃ w5, Hid ((w4.alloc (.cells #[.int .i64 0, .int .u64 0, .slice none 0 0, .slice none 0 0] 27)).setCells w4.heap.size 0 [.int .i64 0, .int .u64 (nn : Int), .slice qd dd.length cd, .slice ql l.length cl] = w5) := ⟨_, rfl⟩
        have hb5 : Below w4.heap.size w4 w5 := by rw [← hw5.out]; exact (alloc_below w4 _).trans (sc_below _ _ _)
        have i5 : RowS w5 w4.heap.size [.int .i64 0, .int .u64 (nn : Int), .slice qd dd.length cd, .slice ql l.length cl] := by rw [← hw5.out]; exact hza.scs _ rfl
        have i50 := i5.cell 0 _ rfl
        have i5f := i5.free 0 (by show 0 < 4; omega)
        have hl5 := i5.1
        obtain ⟨w6, hw6⟩ : ∃ w6, Hid (w5.setCell ⟨w4.heap.size, 0, none⟩ (.int .i64 (k : Int)) = w6) := ⟨_, rfl⟩
        have hb6 : Below w4.heap.size w4 w6 := by rw [← hw6.out]; exact hb5.setCell (p := ⟨w4.heap.size, 0, none⟩) (Nat.le_refl _) _
        have i6 : Hid (RowS w6 w4.heap.size [.int .i64 (k : Int), .int .u64 (nn : Int), .slice qd dd.length cd, .slice ql l.length cl]) := by
          rw [← hw6.out]
          exact i5.set 0 _ (by show 0 < 4; omega)
        have F6 : Hid (FrX (· = R) w w6) := (F3.out.trans hF4 (fun _ hk => Or.inl hk)).belowTo hb6
        have hs34 := hF4.size
        have hs23 := k3.out.1
        have k6 : Hid (RowS w6 w2.heap.size [.func (.func f1) #[] q1, .func (.func f2) #[] q2, .func (.func f3) #[] q3, .func (.func f4) #[] q4]) := (k3.out.at hF4.size (hF4.block _ k3.out.1 (by omega))).below hb6
        have z6 : Hid (RowS w6 w.heap.size [.int .i64 0, .int .u64 0, .slice none 0 0, .slice none 0 0]) := (hz3.out.at hF4.size (hF4.block _ hz3.out.1 (by omega))).below hb6
        have S6 : Hid (RSt T w6 R h (d + 1) n' qb r'.length cb r') := S3.out.next hU (hF4.belowTo hb6) (hrow4.below hb6) (hrest4.at (FrX.of hb6)) hd1 hsh'.1 hsh'.2
        have m6 : Hid (IMO w3.heap.size w6 (.mk k nn dd l) (.slice qd dd.length cd) (.slice ql l.length cl)) := (him k).up hb6
        have hs46 := hb6.size
        have hth5 := hidW hza.2.2
        have hc1 := C1 w6 nn dd l n' r' qd cd ql cl hrr S6.out.ks S6.out.tb m6.out.in
        have RR := hidW hrr
        obtain ⟨bv, hbv⟩ : ∃ bv, Hid (own u k nn dd l.length = bv) := ⟨_, rfl⟩
        rw [hbv.out] at hc1
        clear hF4 hrow4 hrest4 him hrr hc4 hza hb5 i5 hb6 c3 hlk k3 hz3 S3 F3 hB3
        go_upto_region 4 with (first | (refine wpList_store_mid rfl 27 _ _ rfl w4.heap.size 0 #[.int .i64 0, .int .u64 (nn : Int), .slice qd dd.length cd, .slice ql l.length cl] ?_ ?_ ?_ ?_ ?_ ?_; rfl; rfl; exact hth5.out; exact isz27; exact four_one _ _ _ _ _ _ _ _; (show wpList _ _ _ _ _ ((w4.alloc (.cells #[.int .i64 0, .int .u64 0, .slice none 0 0, .slice none 0 0] 27)).setCells w4.heap.size 0 [.int .i64 0, .int .u64 (nn : Int), .slice qd dd.length cd, .slice ql l.length cl])); rw [hw5.out]) | fail)
        go_upto_region 5 with fail
        rw [hw6.out]
        clear hw5 hw6 i50 i5f hl5 hth5
        have c0 := k6.out.cell 0 _ rfl
        have a0 := i6.out.cell 0 _ rfl
        have a1 := i6.out.cell 1 _ rfl
        have a2 := i6.out.cell 2 _ rfl
        have a3 := i6.out.cell 3 _ rfl
        have hlk6 := k6.out.1
        have hli6 := i6.out.1
        go_wp2_with fail
        refine hc1.mono ?_
        rintro e w7 ⟨v7, rfl, rfl, hb7⟩
        have HB7 := hidW hb7
        clear hb7 hc1 c0 a0 a1 a2 a3
        cases bv with
        | false =>
          have KR : Hid (RtR u F w R h d n x thrown w7) := ⟨F6.out.belowTo HB7.out, Or.inr ⟨by rw [hrd.out h40, RR.out]; simp only [fit]; rw [hbv.out]; rfl, rfl⟩⟩
          clear HB7
          go_wp2_with fail
          refine (must_n _).mono ?_
          rintro e w8 ⟨rfl, rfl⟩
          simp only [Exit.inBlock, Exit.then, bodyPost]
          exact ⟨trivial, KR.out⟩
        | true =>
          go_wp2_with fail
          refine (must_y _).mono ?_
          rintro e w8 ⟨rfl, rfl⟩
          have S7 := hidW (S6.out.below hU HB7.out)
          have hlv := leave_c w8 R h d n' (.slice qb r'.length cb) (by omega) S7.out.row
          go_wp2_with fail
          refine hlv.mono ?_
          rintro e w9 ⟨rfl, hF9, hrow9⟩
          have i9 := (i6.out.below HB7.out).at hF9.size (hF9.block _ (i6.out.below HB7.out).1 (by omega))
          have z9 : Hid (RowS w9 w.heap.size [.int .i64 0, .int .u64 0, .slice none 0 0, .slice none 0 0]) := (z6.out.below HB7.out).at hF9.size (hF9.block _ (z6.out.below HB7.out).1 (by omega))
          obtain ⟨wA, hwA⟩ : ∃ wA, Hid (w9.setCells w.heap.size 0 [.int .i64 (k : Int), .int .u64 (nn : Int), .slice qd dd.length cd, .slice ql l.length cl] = wA) := ⟨_, rfl⟩
          have KA : Hid (RowS wA w.heap.size [.int .i64 (k : Int), .int .u64 (nn : Int), .slice qd dd.length cd, .slice ql l.length cl] ∧ RtR u F w R h d n x (.returned (itv k nn qd dd.length cd ql l.length cl)) wA) := by
            have hs89 := hF9.size
            have hs67 := HB7.out.size
            rw [← hwA.out]
            refine ⟨z9.out.scs _ rfl, ((F6.out.belowTo HB7.out).trans hF9 (fun _ hk => Or.inl hk)).sc (Nat.le_refl _) _, Or.inl ⟨.mk k nn dd l, n', r', qb, cb, qd, dd.length, cd, ql, l.length, cl, ?_, rfl, ?_, hrow9.sc (by omega) _, (S7.out.rest.at hF9).sc (by omega) _⟩⟩
            · rw [hrd.out h40, RR.out]; simp only [fit]; rw [hbv.out]; rfl
            · refine ((((m6.out.up HB7.out).at hF9.size (fun g h1 h2 => hF9.block g h2 (by omega))).at (sc_below _ _ _).size (fun g h1 h2 => sc_other _ _ (by omega) _ _ _))).dn (by omega)
          have a0 := i9.cell 0 _ rfl
          have a1 := i9.cell 1 _ rfl
          have a2 := i9.cell 2 _ rfl
          have a3 := i9.cell 3 _ rfl
          have hli9 := i9.1
          clear hF9 hrow9 i9 hlv S7 HB7
          go_wp2_with (first | (refine wpList_store_mid rfl 27 _ _ rfl w.heap.size 0 #[.int .i64 (k : Int), .int .u64 (nn : Int), .slice qd dd.length cd, .slice ql l.length cl] ?_ ?_ ?_ ?_ ?_ ?_; rfl; rfl; exact z9.out.2.2; exact isz27; exact four_one _ _ _ _ _ _ _ _; (show wpList _ _ _ _ _ (w9.setCells w.heap.size 0 [.int .i64 (k : Int), .int .u64 (nn : Int), .slice qd dd.length cd, .slice ql l.length cl])); rw [hwA.out]) | fail)
          refine bodyPost_ret (results_cellI 2 27 rfl KA.out.1 rfl urw27 isz27) rfl ?_
          exact KA.out.2
      · have KR : Hid (RtR u F w R h d n x thrown w4) := ⟨F3.out.trans hF4 (fun _ hk => Or.inl hk), Or.inr ⟨by rw [hrd.out h40, hrr]; rfl, rfl⟩⟩
        clear hF4 hc4 hrr
        simp only [thrown, Exit.inBlock, Exit.then, bodyPost]
        exact ⟨trivial, KR.out⟩
    · have KR : Hid (RtR u F w R h d n x thrown w2) := by
        refine ⟨F1.out.trans hF2 (fun _ hk => Or.inl hk), Or.inr ⟨?_, rfl⟩⟩
        rcases hno' with h' | h' | h'
        · rw [hk.out] at h'; cases h'
        · exact absurd hd1 h'
        · exact hno.out h'
      clear hF2 hen hno'
      simp only [thrown, Exit.inBlock, Exit.then, bodyPost]
      exact ⟨trivial, KR.out⟩
  · rw [hhd.out] at hr'; cases hr'
end WI
end Go.Proofs.YtfkgfcggcfkkiaaDoor
namespace Go.Proofs.YtfkgfcggcfkkiaaDoor
open Go.RowKit Go.Sort Go.Deep
namespace WI
variable {T : World → Prop} {u : List UInt8 → Bool}
theorem PBq.via {w w1 w2 : World} {R : Nat} {q : Option Addr} {m c : Nat} {x : List UInt8} (h : PBq w1 R q m c x) (F1 : FrX (· = R) w w1) (F2 : FrX (· = R) w w2) (hR : R < w.heap.size) : PBq w2 R q m c x := by
  obtain ⟨h1, h2, h3 | ⟨b, o, h3, h4, h5, h6⟩⟩ := h
  · exact ⟨h1, h2, Or.inl h3⟩
  · refine ⟨h1, h2, Or.inr ⟨b, o, h3, h4, by have := F2.size; omega, fun j u hj => ?_⟩⟩
    rw [World.cell?_of_block (a := ⟨b, o + j, none⟩) ((F2.block b (by omega) (by omega)).trans (F1.block b (by omega) (by omega)).symm)]
    exact h6 j u hj
theorem rd_cut {f n : Nat} {r1 : List UInt8} {i : Itm} {n2 : Nat} {r2 : List UInt8} (h : rd u f n r1 = some (i, n2, r2)) : r1.take (r1.length - r2.length) = byt i ∧ r2.length ≤ r1.length := by
  obtain ⟨h1, -⟩ := rd_some u f n r1 i n2 r2 h
  rw [h1, List.length_append]
  refine ⟨?_, by omega⟩
  rw [Nat.add_sub_cancel, List.take_append_of_le_length (Nat.le_refl _), List.take_length]
theorem rise_two (l : List Itm) (j : Nat) (i i' : Itm) (hj : l.length = 2 * j) (hr : rise [] (byts l) = true) (hk : ltB (lastK [] (byts l)) (byt i) = true) : rise [] (byts (l ++ [i] ++ [i'])) = true ∧ lastK [] (byts (l ++ [i] ++ [i'])) = byt i := by
  have hl : (byts l).length % 2 = 0 := by rw [byts_length]; omega
  rw [List.append_assoc, byts_append]
  simp only [List.cons_append, List.nil_append, byts]
  rw [rise_app2 _ _ _ _ hl, lastK_app2 _ _ _ _ hl, hr, hk]
  exact ⟨rfl, rfl⟩
theorem rdP_bad {f N n : Nat} {x : List UInt8} {j : Nat} {l : List Itm} {n1 : Nat} {r1 : List UInt8} {i : Itm} (h : rdN (rd u f) (2 * j + 1) n x = some (l ++ [i], n1, r1)) (hj : j < N) (hl : l.length = 2 * j) (hk : ltB (lastK [] (byts l)) (byt i) = false) : rdP (rd u f) N n x = none := by
  unfold rdP
  cases h2 : rdN (rd u f) (2 * N) n x with
  | none => rfl
  | some y =>
    obtain ⟨L, c2, b2⟩ := y
    simp only
    obtain ⟨l2, rfl⟩ := rdN_pre h (2 * N) (by omega) h2
    have := rise_bad (l ++ [i] ++ l2) (2 * j) i (by omega) (by rw [List.append_assoc, List.getElem?_append_right (by omega), hl, Nat.sub_self]; rfl) (by rw [List.append_assoc, ← hl, List.take_left]; exact hk)
    rw [this]; rfl
theorem rdP_none {f N n : Nat} {x : List UInt8} (h : rdN (rd u f) (2 * N) n x = none) : rdP (rd u f) N n x = none := by
  unfold rdP; rw [h]
theorem rdP_some {f N n : Nat} {x : List UInt8} {l : List Itm} {n1 : Nat} {r1 : List UInt8} (h : rdN (rd u f) (2 * N) n x = some (l, n1, r1)) (hr : rise [] (byts l) = true) : rdP (rd u f) N n x = some (l, n1, r1) := by
  unfold rdP; rw [h]; simp only; rw [if_pos hr]
set_option maxHeartbeats 2000000 in
set_option maxRecDepth 20000 in
theorem rpairs_c (hU : UV T u) (f : Nat) (hI : RSp T u f) (w : World) (R h d n : Nat) (q : Option Addr) (m c : Nat) (x : List UInt8) (S : RSt T w R h d n q m c x) (hdf : d + f = 16) (N : Nat) (hN : N < 18446744073709551616) (rl : Option (List Itm × Nat × List UInt8)) (hrl : Hid (rl = rdP (rd u f) N n x)) :
    Calls Tryd.prog 67 #[.pointer (some ⟨R, 0, none⟩), .int .u64 (N : Int)] w (RlR w R h d rl) := by
  have H := hidW S
  have L0 := hidW (LrI.start (u := u) (f := f) S)
  have hx : Hid (x.length ≤ 65536) := by have h1 := S.hm; rw [S.rest.1] at h1; exact h1
  clear S
  go_enter Tryd.func67, Tryd.ntmps67
  go_wp2
  go_loopg [5, 6, 9] (N + 1) (fun gk s5 s6 s9 wr => ∃ j l n' r q' c' cs q6 m6 c6, s9 = .int .u64 ((j : Nat) : Int) ∧ gk = N + 1 - j ∧ j ≤ N ∧ s6 = .slice q6 m6 c6 ∧ LrI u f w R h d n x (2 * j) s5 l n' r q' c' cs wr ∧ rise [] (byts l) = true ∧ PBq wr R q6 m6 c6 (lastK [] (byts l)))
  case atStart => exact ⟨0, _, _, _, _, _, _, none, 0, 0, rfl, rfl, Nat.zero_le _, rfl, L0.out, by rw [byts, rise], by rw [show lastK [] (byts []) = [] by simp [byts, lastK]]; exact ⟨rfl, Nat.le_refl _, Or.inl ⟨rfl, rfl⟩⟩⟩
  case round =>
    obtain ⟨j, l, n1, r1, q1, c1, cs, q6, m6, c6, rfl, hg, hjN, rfl, L, hri, hla⟩ := hrel
    by_cases hj : j < N
    · have hjz : (j : Int) < (N : Int) := by omega
      have hjw : (j : Int) + 1 < 18446744073709551616 := by omega
      have S1 := L.st hU H.out
      have hc := hI wr R h d n1 q1 r1.length c1 r1 S1 hdf
      have cR := L.row.cell 3 _ rfl
      have hltR := L.row.1
      have HL := hidW (And.intro L (And.intro hri hla))
      have hlr1 := S1.hm
      clear L hri hla S1
      go_wp2_with fail
      refine hc.mono ?_
      rintro e w2 ⟨hF, ⟨i, n2, r2, q2, c2, qd, dl, cd, ql, ml, cl, hrd, rfl, hIM, hrow, hrest⟩ | ⟨hrd, rfl⟩⟩
      · obtain ⟨v', W', ha, L2⟩ := HL.out.1.add H.out.row.1 H.out.hn hx.out hF hrd hIM hrow hrest
        have HAP : Hid ((Builtin.append_ #[25, 25] 25 #[_, .slice (some ⟨w2.heap.size, 0, none⟩) 1 1]).run Tryd.prog (w2.alloc (.cells #[.int .i64 i.k, .int .u64 (i.n : Int), .slice qd dl cd, .slice ql ml cl] 27)) = .ok v' W') := ha
        obtain ⟨hcut, hle⟩ := rd_cut hrd
        have hsi := since_c W' R h d n2 q2 r2.length c2 q1 r1.length c1 r1 hle (by omega) L2.row (HL.out.1.rest.via HL.out.1.fr L2.fr H.out.row.1)
        rw [hcut] at hsi
        obtain ⟨hsi1, hsi2⟩ := hsi
        have hri2 := rise_c (HL.out.2.2.via HL.out.1.fr L2.fr H.out.row.1).pb hsi2.pb
        have S2 := L2.st hU H.out
        have hc2 := hI W' R h d n2 q2 r2.length c2 r2 S2 hdf
        have L3 := hidW (And.intro L2 hsi2)
        obtain ⟨-, -, hlj, -, -⟩ := HL.out.1.bnd H.out.hn hx.out
        have HJ := hidW hlj
        clear hF hrd hIM hrow hrest ha L2 hc hsi2 S2 hlj hcut cR hltR
        unfold itv
        go_wp2_with (at_builtin; refine Lib.wpList_append_run _ rfl _ _ _ _ rfl _ _ rfl rfl _ _ HAP.out ?_)
        refine hsi1.mono ?_
        rintro e w3 ⟨rfl, rfl⟩
        clear hsi1 HAP
        go_wp2_with fail
        refine hri2.mono ?_
        rintro e w4 ⟨hE4, hr4⟩
        subst hE4
        rcases hr4 with ⟨hk4, rfl⟩ | ⟨hk4, rfl⟩
        · clear hri2
          have HK := hidW hk4
          clear hk4
          go_wp2_with fail
          refine hc2.mono ?_
          rintro e w5 ⟨hF, ⟨i', n3, r3, q3, c3, qd', dl', cd', ql', ml', cl', hrd, rfl, hIM, hrow, hrest⟩ | ⟨hrd, rfl⟩⟩
          · obtain ⟨v5, W5, ha, L5⟩ := L3.out.1.add H.out.row.1 H.out.hn hx.out hF hrd hIM hrow hrest
            have HAP : Hid ((Builtin.append_ #[25, 25] 25 #[_, .slice (some ⟨w5.heap.size, 0, none⟩) 1 1]).run Tryd.prog (w5.alloc (.cells #[.int .i64 i'.k, .int .u64 (i'.n : Int), .slice qd' dl' cd', .slice ql' ml' cl'] 27)) = .ok v5 W5) := ha
            have R5 := rise_two l j i i' HJ.out HL.out.2.1 HK.out
            have L6 : Hid (LrI u f w R h d n x (2 * (j + 1)) v5 (l ++ [i] ++ [i']) n3 r3 q3 c3 _ W5 ∧ rise [] (byts (l ++ [i] ++ [i'])) = true ∧ PBq W5 R q1 (r1.length - r2.length) c1 (lastK [] (byts (l ++ [i] ++ [i'])))) := ⟨L5, R5.1, by rw [R5.2]; exact L3.out.2.via L3.out.1.fr L5.fr H.out.row.1⟩
            clear hF hrd hIM hrow hrest ha L5 R5 hc2 L3 HL HJ HK
            unfold itv
            go_wp2_with (at_builtin; refine Lib.wpList_append_run _ rfl _ _ _ _ rfl _ _ rfl rfl _ _ HAP.out ?_)
            go_roundg (N + 1 - (j + 1))
            case measure => omega
            case rel => exact ⟨j + 1, _, _, _, _, _, _, _, _, _, rfl, rfl, by omega, rfl, L6.out⟩
          · have KR : Hid (RlR w R h d rl thrown w5) := ⟨L3.out.1.fr.trans hF (fun _ hk => Or.inl hk), Or.inr ⟨by rw [hrl.out]; exact rdP_none (rdN_snoc_n L3.out.1.rd hrd (2 * N) (by omega)), rfl⟩⟩
            clear hF hrd hc2 HL L3
            simp only [thrown, Exit.inBlock, Exit.then, bodyPost]
            exact ⟨trivial, KR.out⟩
        · have KR : Hid (RlR w R h d rl thrown w4) := ⟨L3.out.1.fr, Or.inr ⟨by rw [hrl.out]; exact rdP_bad L3.out.1.rd hj HJ.out hk4, rfl⟩⟩
          clear hri2 hc2 HL L3 hk4
          simp only [thrown, Exit.inBlock, Exit.then, bodyPost]
          exact ⟨trivial, KR.out⟩
      · have KR : Hid (RlR w R h d rl thrown w2) := ⟨HL.out.1.fr.trans hF (fun _ hk => Or.inl hk), Or.inr ⟨by rw [hrl.out]; exact rdP_none (rdN_snoc_n HL.out.1.rd hrd (2 * N) (by omega)), rfl⟩⟩
        clear hF hrd hc HL
        simp only [thrown, Exit.inBlock, Exit.then, bodyPost]
        exact ⟨trivial, KR.out⟩
    · have hjz : ¬ (j : Int) < (N : Int) := by omega
      obtain rfl : j = N := by omega
      have KR := hidW (L.fin H.out.hn hx.out (hrl.out.trans (rdP_some L.rd hri)))
      clear L hla
      go_wp2
      first | go_end0 | go_ret
      exact KR.out
end WI
end Go.Proofs.YtfkgfcggcfkkiaaDoor
