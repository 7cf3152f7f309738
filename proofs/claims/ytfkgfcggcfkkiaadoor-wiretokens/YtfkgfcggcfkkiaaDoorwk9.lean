import Derived.WalkKit
import Derived.Sort.Row
import Derived.Deep.Draws
import Derived.Below
import Derived.Deep.OwnRows
import Derived.Test.YtfkgfcggcfkkiaaDoorRows
import Derived.Deep.LoopGhost
import Derived.Deep.QuietTactic
import Derived.StillTailTactics
import Derived.BigRegion
import Derived.BigQuiet
import Derived.WalkSpells
import Derived.WalkLawsBesides
import Derived.Deep.RegionWith
import Derived.Lib.LazyBuf
import Derived.Test.YtfkgfcggcfkkiaaDoorwk8
set_option linter.unusedVariables false
set_option linter.unusedSimpArgs false
namespace Go.Proofs.YtfkgfcggcfkkiaaDoor
open Go.RowKit Go.Sort Go.Deep
namespace WI
/-- Items' cells, whatever lies below base and in the row itself. -/
def ICX (base : Nat) (w : World) (v : Value) (l : List Itm) (cs : List Value) : Prop := ∀ W : World, (∀ k, base ≤ k → k < w.heap.size → v.ownBlock ≠ some k → W.heap[k]? = w.heap[k]?) → IC W w.heap.size l cs
theorem ICX.at {base : Nat} {w w' : World} {v : Value} {l : List Itm} {cs : List Value} (h : ICX base w v l cs) (hs : w.heap.size ≤ w'.heap.size) (hb : ∀ k, base ≤ k → k < w.heap.size → w'.heap[k]? = w.heap[k]?) : ICX base w' v l cs := fun W hW => IC.mono hs (h W fun k h1 h2 h3 => (hW k h1 (by omega) h3).trans (hb k h1 h2))
/-- One item more. -/
theorem ic_add {base j : Nat} {w1 wx wa : World} {v : Value} {l : List Itm} {cs : List Value} {i : Itm} {vd vl : Value} (hown1 : w1.ownsRow base 27 4 v j cs) (hic : ICX base w1 v l cs) (hb : Below w1.heap.size w1 wx) (hI : IMQ w1.heap.size wx i vd vl) (hwa : wx.alloc (.cells (itc i vd vl).toArray 27) = wa) (hj : j ≤ 100000) (hbase : base ≤ w1.heap.size) :
    ∃ v' W', (Builtin.append_ #[25, 25] 25 #[v, .slice (some ⟨wx.heap.size, 0, none⟩) 1 1]).run Tryd.prog wa = .ok v' W' ∧ W'.ownsRow base 27 4 v' (j + 1) (cs ++ itc i vd vl) ∧ ICX base W' v' (l ++ [i]) (cs ++ itc i vd vl) ∧ wx.heap.size ≤ W'.heap.size ∧ Below base wx W' := by
  obtain ⟨ii, hi, he⟩ := Option.map_eq_some_iff.1 infoI
  simp only [Prod.mk.injEq] at he
  obtain ⟨g2, g3, g4⟩ := he
  obtain ⟨z, hz, hz2⟩ := Option.map_eq_some_iff.1 g4
  have hsa : wa.heap.size = wx.heap.size + 1 := by rw [← hwa]; exact World.size_alloc _ _
  have hba : Below wx.heap.size wx wa := by rw [← hwa]; exact alloc_below _ _
  have hca : ∀ j u, (itc i vd vl)[j]? = some u → wa.cell? ⟨wx.heap.size, 0 + j, none⟩ = some u := fun j u hj => by
    rw [← hwa]; exact al_r wx _ _ _ rfl j u hj
  have hIM := hI wx (fun _ _ _ => rfl)
  obtain ⟨qd, dl, cd, ql, ml, cl, rfl, rfl⟩ := hIM.form
  have hone : ∀ u ∈ itc i (.slice qd dl cd) (.slice ql ml cl), u.oneCell' = true := fun u hu => by
    simp only [itc, List.mem_cons, List.not_mem_nil, or_false] at hu
    rcases hu with rfl | rfl | rfl | rfl <;> rfl
  have hvw : ∀ g, v.ownBlock = some g → base ≤ g ∧ g < w1.heap.size := fun g hg => ⟨(hown1.lt g hg).1, (hown1.lt g hg).2⟩
  have hs1 := hb.size
  have hown : wa.ownsRow base 27 4 v j cs := own_at hown1 (fun k hk => by
    have := hvw k hk
    rw [hba.block k (by omega), hb.block k this.2])
  obtain ⟨v', W', a1, a2, a3⟩ := it_app (base := base) (W := wa) (v := v) (n := j) (m := 1) (c := 1) (q := some ⟨wx.heap.size, 0, none⟩) hown (by rfl : (itc i (.slice qd dl cd) (.slice ql ml cl)).length = 1 * 4) (Or.inr ⟨_, _, rfl, hca⟩) hone (by omega) (by omega)
  have hsrc : Src Tryd.prog 4 25 (.slice (some ⟨wx.heap.size, 0, none⟩) 1 1) 1 (itc i (.slice qd dl cd) (.slice ql ml cl)) wa := Src.ofSlice (e' := 27) _ undI ⟨wx.heap.size, 0, none⟩ 1 1 _ (by rfl) (fun j u hj => by rw [addS0]; exact hca j u hj) hone
  have hwh := own_block undI hi hz g2 (by rw [g3]; decide) hown hsrc (by omega) a1
  have hsW : wa.heap.size ≤ W'.heap.size := a3.size
  have hk2 : ∀ k, w1.heap.size ≤ k → k < wx.heap.size → W'.heap[k]? = wx.heap[k]? ∧ v'.ownBlock ≠ some k := fun k h1 h2 => by
    refine ⟨?_, ?_⟩
    · rw [a3.block k (by omega) (fun e => by have := hvw k e.symm; omega), hba.block k h2]
    · rcases hwh with e | ⟨e, -⟩
      · rw [e]; intro h'; have := hvw k h'; omega
      · rw [e]; intro h'; have := Option.some.inj h'; omega
  have hk3 : ∀ k, base ≤ k → k < w1.heap.size → v.ownBlock ≠ some k → W'.heap[k]? = w1.heap[k]? ∧ v'.ownBlock ≠ some k := fun k h1 h2 h3 => by
    refine ⟨?_, ?_⟩
    · rw [a3.block k (by omega) (fun e => h3 e.symm), hba.block k (by omega), hb.block k h2]
    · rcases hwh with e | ⟨e, -⟩
      · rw [e]; exact h3
      · rw [e]; intro h'; have := Option.some.inj h'; omega
  refine ⟨v', W', a1, a2, fun W hW => ?_, by omega, below_grown (hba.mono (by omega)) a3 (by omega) (fun k hk => (hvw k hk).1)⟩
  refine IC.app (l := l) (m := [i]) ?_ ?_
  · rw [IC]
    refine ⟨_, _, [], rfl, ?_, by rw [IC]⟩
    exact InM.mono (by omega) i _ _ (hI W fun k h1 h2 => by
      obtain ⟨e1, e2⟩ := hk2 k h1 h2
      rw [hW k (by omega) (by omega) e2, e1])
  · exact IC.mono (by omega) (hic W fun k h1 h2 h3 => by
      obtain ⟨e1, e2⟩ := hk3 k h1 h2 h3
      rw [hW k h1 (by omega) e2, e1])
/-- What the loop over items keeps. -/
structure LlI (w1 : World) (ob k j : Nat) (l : List Itm) (v : Value) (cs : List Value) (wr : World) : Prop where
  bl : Below ob w1 wr
  row : RowS wr ob [.int .i64 (k : Int), .int .u64 0, .slice none 0 0, v]
  own : wr.ownsRow (ob + 1) 27 4 v j cs
  ic : ICX (ob + 1) wr v l cs
theorem LlI.start {w1 : World} {ob k : Nat} (h : RowS w1 ob [.int .i64 (k : Int), .int .u64 0, .slice none 0 0, .slice none 0 0]) : LlI w1 ob k 0 [] (.slice none 0 0) [] w1 := ⟨Below.refl _ _, h, World.ownsRow_nil _ _ _ _, fun W hW => by rw [IC]⟩
theorem LlI.add {w1 wr w2 wx wa : World} {ob k j : Nat} {l : List Itm} {v : Value} {cs : List Value} {i : Itm} {qd : Option Addr} {dl cd : Nat} {ql : Option Addr} {ml cl : Nat} (L : LlI w1 ob k j l v cs wr) (hb2 : Below wr.heap.size wr w2) (hI : IMQ wr.heap.size w2 i (.slice qd dl cd) (.slice ql ml cl)) (hbx : Below w2.heap.size w2 wx) (hwa : wx.alloc (.cells #[.int .i64 i.k, .int .u64 (i.n : Int), .slice qd dl cd, .slice ql ml cl] 27) = wa) (hj : j ≤ 100000) :
    ∃ q' n' c' W', (Builtin.append_ #[25, 25] 25 #[v, .slice (some ⟨wx.heap.size, 0, none⟩) 1 1]).run Tryd.prog wa = .ok (.slice q' n' c') W' ∧ W'.cell? ⟨ob, 3, none⟩ = some v ∧ W'.frozen? ⟨ob, 3, none⟩ = false ∧ ob < W'.heap.size ∧ ∃ cs', LlI w1 ob k (j + 1) (l ++ [i]) (.slice q' n' c') cs' (W'.setCell ⟨ob, 3, none⟩ (.slice q' n' c')) := by
  have hs := L.row.1
  have hbr : Below wr.heap.size wr wx := hb2.trans (hbx.mono hb2.size)
  obtain ⟨v', W', a1, a2, a3, a4, a5⟩ := ic_add (wa := wa) L.own L.ic hbr (hI.up hbx) hwa hj (by omega)
  obtain ⟨q', n', c', rfl⟩ : ∃ q' n' c', v' = .slice q' n' c' := by
    rcases own_cells a2 with ⟨-, h, -⟩ | ⟨g, cap, h, -⟩
    · exact ⟨_, _, _, h⟩
    · exact ⟨_, _, _, h⟩
  have hoW : W'.heap[ob]? = wr.heap[ob]? := by rw [a5.block ob (by omega), hbr.block ob hs]
  have hsW : wr.heap.size ≤ W'.heap.size := Nat.le_trans hbr.size a4
  have rW : RowS W' ob [.int .i64 (k : Int), .int .u64 0, .slice none 0 0, v] := L.row.at hsW hoW
  refine ⟨q', n', c', W', a1, rW.cell 3 _ rfl, rW.free 3 (by show 3 < 4; omega), rW.1, cs ++ itc i (.slice qd dl cd) (.slice ql ml cl), ?_, ?_, ?_, ?_⟩
  · refine Below.setCell (p := ⟨ob, 3, none⟩) ?_ (Nat.le_refl _) _
    exact (L.bl.trans (hbr.mono (by omega))).trans (a5.mono (by omega))
  · exact rW.set 3 (.slice q' n' c') (by show 3 < 4; omega)
  · exact own_at a2 (fun g hg => blk_other _ _ _ _ (by have := (a2.lt g hg).1; show g ≠ ob; omega))
  · exact a3.at (by rw [World.size_setCell]; exact Nat.le_refl _) (fun g h1 h2 => blk_other _ _ _ _ (by show g ≠ ob; omega))
/-- As it is given back. -/
theorem LlI.fin {w w1 wr : World} {ob k j : Nat} {l : List Itm} {q : Option Addr} {m c : Nat} {cs : List Value} (L : LlI w1 ob k j l (.slice q m c) cs wr) (hl : l.length = j) (hj : j ≤ 100000) (hob : w.heap.size < ob) (vs : List Value) : m = l.length ∧ IMQ w.heap.size (wr.setCells w.heap.size 0 vs) (.mk k 0 [] l) (.slice none 0 0) (.slice q m c) := by
  have hs := L.row.1
  have hz : (wr.setCells w.heap.size 0 vs).heap.size = wr.heap.size := RG.setCells_size _ _ _ _
  rcases own_cells L.own with ⟨h0, hv, hc⟩ | ⟨g, cap, hv, h2, h3, h4, h5, h6⟩
  · injection hv with e1 e2 e3
    subst e1 e2 e3
    refine ⟨by omega, fun W hW => ?_⟩
    rw [InM]
    exact ⟨by decide, by simp, by omega, ⟨none, 0, rfl, Nat.le_refl _, Or.inl rfl⟩, none, 0, by rw [hl, h0], Or.inl (List.length_eq_zero_iff.1 (by omega))⟩
  · injection hv with e1 e2 e3
    subst e1 e2 e3
    refine ⟨hl.symm, fun W hW => ?_⟩
    have hW2 : ∀ k, ob < k → k < wr.heap.size → W.heap[k]? = wr.heap[k]? := fun k h1 h2 => by
      rw [hW k (by omega) (by omega)]; exact sc_other _ _ (by omega) _ _ _
    rw [InM]
    refine ⟨by decide, by simp, by omega, ⟨none, 0, rfl, Nat.le_refl _, Or.inl rfl⟩, _, c, by rw [hl], Or.inr ⟨g, 0, rfl, by omega, IC.inl 0 (IC.mono (by omega) (L.ic W fun k h1 h2 _ => hW2 k (by omega) h2)) fun t y ht => ?_⟩⟩
    rw [Nat.zero_add, World.cell?_of_block (a := ⟨g, t, none⟩) (hW2 g (by omega) h3)]
    exact h6 t y ht
theorem LlI.sh {w1 wr : World} {ob k j : Nat} {l : List Itm} {v : Value} {cs : List Value} (L : LlI w1 ob k j l v cs wr) : ∃ q m c, v = .slice q m c := by
  rcases own_cells L.own with ⟨-, h, -⟩ | ⟨g, cap, h, -⟩
  · exact ⟨_, _, _, h⟩
  · exact ⟨_, _, _, h⟩
end WI
end Go.Proofs.YtfkgfcggcfkkiaaDoor
namespace Go.Proofs.YtfkgfcggcfkkiaaDoor
open Go.RowKit Go.Sort Go.Deep
namespace WI
set_option maxHeartbeats 4000000 in
set_option maxRecDepth 20000 in
theorem ritemL_s (f : Nat) (ih : LSp f) (left deep : Nat) (b : UInt8) (r : List UInt8) (S : ByteArray) (hS0 : S.data.toList = b :: r) (w : World) (hdf : deep + (f + 1) = 17) (hl0 : 0 < left) (hl4 : left ≤ 4096) (hlen : (b :: r).length ≤ 65536) : Calls Tryd.prog 26 #[.string S, .int .i64 (deep : Int), .int .i64 (left : Int)] w (RetW (LiR (f + 1) left (b :: r) w)) := by
  have hS := hidW hS0
  have hl : S.size = r.length + 1 := by
    have : S.data.toList.length = S.size := by rw [Array.length_toList]; rfl
    rw [← this, hS0, List.length_cons]
  obtain ⟨w0, hw0, hs0, hB0, hz0, hz1⟩ := two0 w
  obtain ⟨w3, hw3⟩ : ∃ w3, Hid (w0.setCells w.heap.size 0 [.int .i64 0, .int .u64 0, .slice none 0 0, .slice none 0 0] = w3) := ⟨_, rfl⟩
  have a0 := hz1.out.cell 0 _ rfl
  have a1 := hz1.out.cell 1 _ rfl
  have a2 := hz1.out.cell 2 _ rfl
  have a3 := hz1.out.cell 3 _ rfl
  have hlt := hz1.out.1
  have g0 : ((S.size : Int) == 0) = false := (eq0 S.size (by omega)).1
  have g1 : ¬ (16 : Int) < (deep : Int) := by omega
  have g2 : ¬ (left : Int) < 1 := by omega
  have hix0 : ∀ X : World, (Instr.index 9 (.string S) (.int .i64 0)).run Tryd.prog X = .ok (.int .u8 (b.toNat : Int)) X := fun X => ixTx S 0 b (by rw [hS0]; rfl) X
  have hf8 := b.toNat_lt
  have ha := and31 ⟨b.toNat, hf8⟩
  simp only at ha
  obtain ⟨fn, hfn⟩ : ∃ fn, Hid (b.toNat = fn) := ⟨_, rfl⟩
  rw [hfn.out] at ha hf8 hix0
  obtain ⟨k, hk⟩ : ∃ k, Hid (fn / 32 = k) := ⟨_, rfl⟩
  obtain ⟨nn, hnn⟩ : ∃ k, Hid (fn % 32 = k) := ⟨_, rfl⟩
  have hkz : (fn : Int) / 32 = (k : Int) := by have := hk.out; omega
  rw [hnn.out] at ha
  have hk8 : k < 8 := by have := hk.out; omega
  have hn32 : nn < 32 := by have := hnn.out; omega
  have hlS := hidW hl
  have hlenH := hidW hlen
  clear hS0 hlen
  by_cases h27 : (27 : Int) < (nn : Int)
  · have hno : lrd (f + 1) left (b :: r) = none := by
      rw [lrd, if_neg (by omega)]
      have : lhd (b :: r) = none := by
        rw [lhd, hfn.out, hnn.out, if_pos (by omega)]
      rw [this]
    have K3 := none_fin (w0 := w0) hno hB0.out hz0.out hw3.out
    clear hl hno
    go_enter Tryd.func26, Tryd.ntmps26
    go_upto_region 2 with fail
    rw [hw0.out]
    go_wp2_with (first | (refine wpList_store_mid rfl 27 _ _ rfl w.heap.size 0 #[.int .i64 0, .int .u64 0, .slice none 0 0, .slice none 0 0] ?_ ?_ ?_ ?_ ?_ ?_; rfl; rfl; exact hz0.out.2.2; exact isz27; exact zone; (show wpList _ _ _ _ _ (w0.setCells w.heap.size 0 [.int .i64 0, .int .u64 0, .slice none 0 0, .slice none 0 0])); rw [hw3.out]) | fail)
    refine bodyPost_ret (results_t3 6 27 7 8 9 _ _ _ rfl K3.1 rfl rfl rfl rfl urw27 isz27) rfl ?_
    exact ⟨_, rfl, K3.2⟩
  go_enter Tryd.func26, Tryd.ntmps26
  go_upto_region 2 with fail
  rw [hw0.out]
  go_upto_if 47 with fail
  go_cut [12, 13] (fun s12 s13 wc => ∃ (N a : Nat), s12 = .int .u64 (N : Int) ∧ s13 = .int .i64 (a : Int) ∧ w0 = wc ∧ a ≤ r.length + 1 ∧ lhd (b :: r) = some (k, N, (b :: r).drop a))
  case first =>
    by_cases h24 : (24 : Int) ≤ (nn : Int)
    · obtain e | e | e | e : nn = 24 ∨ nn = 25 ∨ nn = 26 ∨ nn = 27 := by omega
      · have hz : (nn : Int) = 24 := by omega
        by_cases hsh : r.length < 1
        · have hno : lrd (f + 1) left (b :: r) = none := by
            rw [lrd, if_neg (by omega)]
            have : lhd (b :: r) = none := by
              rw [lhd, hfn.out, hnn.out, if_neg (by omega), if_neg (by omega), show nn - 24 = 0 by omega, if_pos (by omega)]
            rw [this]
          have K3 := none_fin (w0 := w0) hno hB0.out hz0.out hw3.out
          have g : (S.size : Int) < 1 + 1 := by omega
          go_wp2_with (first | (refine wpList_store_mid rfl 27 _ _ rfl w.heap.size 0 #[.int .i64 0, .int .u64 0, .slice none 0 0, .slice none 0 0] ?_ ?_ ?_ ?_ ?_ ?_; rfl; rfl; exact hz0.out.2.2; exact isz27; exact zone; (show wpList _ _ _ _ _ (w0.setCells w.heap.size 0 [.int .i64 0, .int .u64 0, .slice none 0 0, .slice none 0 0])); rw [hw3.out]) | fail)
          refine bodyPost_ret (results_t3 6 27 7 8 9 _ _ _ rfl K3.1 rfl rfl rfl rfl urw27 isz27) rfl ?_
          exact ⟨_, rfl, K3.2⟩
        have g : ¬ (S.size : Int) < 1 + 1 := by omega
        have hlh : Hid (lhd (b :: r) = some (k, ofBE (r.take 1) 0, r.drop 1)) := by
          show _ = _
          rw [lhd, hfn.out, hnn.out, if_neg (by omega), if_neg (by omega), show nn - 24 = 0 by omega, if_neg (by omega), hk.out]
        clear ha hix0
        go_wp2
        go_loopg [12, 15] (1 + 1) (fun gk s12 s15 wr => ∃ (j a : Nat), s15 = .int .i64 (j : Int) ∧ s12 = .int .u64 (a : Int) ∧ Hid (a = ofBE (r.take j) 0) ∧ j ≤ 1 ∧ gk = 1 + 1 - j ∧ w0 = wr)
        case atStart => exact ⟨0, 0, rfl, rfl, (by show 0 = ofBE (r.take 0) 0; rw [List.take_zero, ofBE]), Nat.zero_le _, rfl, rfl⟩
        case round =>
          obtain ⟨j, a, rfl, rfl, ha, hjm, hgk, rfl⟩ := hrel
          by_cases hj : j < 1
          · obtain ⟨y, hy⟩ : ∃ y, r[j]? = some y := ⟨_, List.getElem?_eq_getElem (by omega)⟩
            have hjz : (j : Int) < 1 := by omega
            obtain ⟨j1, hj1⟩ : ∃ j1 : Nat, Hid (j1 = 1 + j) := ⟨_, rfl⟩
            have hjw : (1 : Int) + (j : Int) = (j1 : Int) := by have := hj1.out; omega
            have hix := fun X => ixTx S j1 y (by rw [hS.out, hj1.out, Nat.add_comm]; exact hy) X
            have hab : a * 256 < 18446744073709551616 := by
              have h1 := ofBE_lt (r.take j) 0
              have h2 : (r.take j).length ≤ 7 := by rw [List.length_take]; omega
              have h3 : 256 ^ (r.take j).length ≤ 256 ^ 7 := Nat.pow_le_pow_right (by decide) h2
              rw [ha.out]
              have h4 : (256 : Nat) ^ 7 = 72057594037927936 := by decide
              omega
            have hwr : IntKind.u64.wrap ((a : Int) * 256) = ((a * 256 : Nat) : Int) := by rw [IntKind.wrap_u64]; omega
            have hu8 := y.toNat_lt
            have hwu : IntKind.u64.wrap (y.toNat : Int) = (y.toNat : Int) := by rw [IntKind.wrap_u64]; omega
            have hor := or8 a y hab
            obtain ⟨a2, ha2⟩ : ∃ a2, Hid (a * 256 + y.toNat = a2) := ⟨_, rfl⟩
            rw [ha2.out] at hor
            obtain ⟨un, hun⟩ : ∃ un, Hid (y.toNat = un) := ⟨_, rfl⟩
            rw [hun.out] at hor hwu hix hu8
            obtain ⟨a1, ha1⟩ : ∃ a1, Hid (a * 256 = a1) := ⟨_, rfl⟩
            rw [ha1.out] at hor hwr
            have hN : Hid (a2 = ofBE (r.take (j + 1)) 0) := by
              show _ = _
              obtain ⟨hjx, e⟩ := List.getElem?_eq_some_iff.1 hy
              rw [List.take_succ_eq_append_getElem hjx, e, ofBE_snoc, ← ha.out, ha2.out]
            clear hab hy
            go_wp2
            go_roundg (1 + 1 - (j + 1))
            case measure => omega
            case rel => exact ⟨j + 1, a2, rfl, rfl, hN, by omega, rfl, rfl⟩
          · have hjz : ¬ (j : Int) < 1 := by omega
            obtain rfl : j = 1 := by omega
            have hN : Hid (lhd (b :: r) = some (k, a, r.drop 1)) := by show _ = _; rw [hlh.out, ha.out]
            go_wp2
            go_meet
            case rel => exact ⟨a, 1 + 1, rfl, rfl, rfl, by omega, by rw [hN.out, show 1 + 1 = 1 + 1 from Nat.add_comm _ _, List.drop_succ_cons]⟩
      · have hz : (nn : Int) = 25 := by omega
        by_cases hsh : r.length < 2
        · have hno : lrd (f + 1) left (b :: r) = none := by
            rw [lrd, if_neg (by omega)]
            have : lhd (b :: r) = none := by
              rw [lhd, hfn.out, hnn.out, if_neg (by omega), if_neg (by omega), show nn - 24 = 1 by omega, if_pos (by omega)]
            rw [this]
          have K3 := none_fin (w0 := w0) hno hB0.out hz0.out hw3.out
          have g : (S.size : Int) < 1 + 2 := by omega
          go_wp2_with (first | (refine wpList_store_mid rfl 27 _ _ rfl w.heap.size 0 #[.int .i64 0, .int .u64 0, .slice none 0 0, .slice none 0 0] ?_ ?_ ?_ ?_ ?_ ?_; rfl; rfl; exact hz0.out.2.2; exact isz27; exact zone; (show wpList _ _ _ _ _ (w0.setCells w.heap.size 0 [.int .i64 0, .int .u64 0, .slice none 0 0, .slice none 0 0])); rw [hw3.out]) | fail)
          refine bodyPost_ret (results_t3 6 27 7 8 9 _ _ _ rfl K3.1 rfl rfl rfl rfl urw27 isz27) rfl ?_
          exact ⟨_, rfl, K3.2⟩
        have g : ¬ (S.size : Int) < 1 + 2 := by omega
        have hlh : Hid (lhd (b :: r) = some (k, ofBE (r.take 2) 0, r.drop 2)) := by
          show _ = _
          rw [lhd, hfn.out, hnn.out, if_neg (by omega), if_neg (by omega), show nn - 24 = 1 by omega, if_neg (by omega), hk.out]
        clear ha hix0
        go_wp2
        go_loopg [12, 15] (2 + 1) (fun gk s12 s15 wr => ∃ (j a : Nat), s15 = .int .i64 (j : Int) ∧ s12 = .int .u64 (a : Int) ∧ Hid (a = ofBE (r.take j) 0) ∧ j ≤ 2 ∧ gk = 2 + 1 - j ∧ w0 = wr)
        case atStart => exact ⟨0, 0, rfl, rfl, (by show 0 = ofBE (r.take 0) 0; rw [List.take_zero, ofBE]), Nat.zero_le _, rfl, rfl⟩
        case round =>
          obtain ⟨j, a, rfl, rfl, ha, hjm, hgk, rfl⟩ := hrel
          by_cases hj : j < 2
          · obtain ⟨y, hy⟩ : ∃ y, r[j]? = some y := ⟨_, List.getElem?_eq_getElem (by omega)⟩
            have hjz : (j : Int) < 2 := by omega
            obtain ⟨j1, hj1⟩ : ∃ j1 : Nat, Hid (j1 = 1 + j) := ⟨_, rfl⟩
            have hjw : (1 : Int) + (j : Int) = (j1 : Int) := by have := hj1.out; omega
            have hix := fun X => ixTx S j1 y (by rw [hS.out, hj1.out, Nat.add_comm]; exact hy) X
            have hab : a * 256 < 18446744073709551616 := by
              have h1 := ofBE_lt (r.take j) 0
              have h2 : (r.take j).length ≤ 7 := by rw [List.length_take]; omega
              have h3 : 256 ^ (r.take j).length ≤ 256 ^ 7 := Nat.pow_le_pow_right (by decide) h2
              rw [ha.out]
              have h4 : (256 : Nat) ^ 7 = 72057594037927936 := by decide
              omega
            have hwr : IntKind.u64.wrap ((a : Int) * 256) = ((a * 256 : Nat) : Int) := by rw [IntKind.wrap_u64]; omega
            have hu8 := y.toNat_lt
            have hwu : IntKind.u64.wrap (y.toNat : Int) = (y.toNat : Int) := by rw [IntKind.wrap_u64]; omega
            have hor := or8 a y hab
            obtain ⟨a2, ha2⟩ : ∃ a2, Hid (a * 256 + y.toNat = a2) := ⟨_, rfl⟩
            rw [ha2.out] at hor
            obtain ⟨un, hun⟩ : ∃ un, Hid (y.toNat = un) := ⟨_, rfl⟩
            rw [hun.out] at hor hwu hix hu8
            obtain ⟨a1, ha1⟩ : ∃ a1, Hid (a * 256 = a1) := ⟨_, rfl⟩
            rw [ha1.out] at hor hwr
            have hN : Hid (a2 = ofBE (r.take (j + 1)) 0) := by
              show _ = _
              obtain ⟨hjx, e⟩ := List.getElem?_eq_some_iff.1 hy
              rw [List.take_succ_eq_append_getElem hjx, e, ofBE_snoc, ← ha.out, ha2.out]
            clear hab hy
            go_wp2
            go_roundg (2 + 1 - (j + 1))
            case measure => omega
            case rel => exact ⟨j + 1, a2, rfl, rfl, hN, by omega, rfl, rfl⟩
          · have hjz : ¬ (j : Int) < 2 := by omega
            obtain rfl : j = 2 := by omega
            have hN : Hid (lhd (b :: r) = some (k, a, r.drop 2)) := by show _ = _; rw [hlh.out, ha.out]
            go_wp2
            go_meet
            case rel => exact ⟨a, 1 + 2, rfl, rfl, rfl, by omega, by rw [hN.out, show 1 + 2 = 2 + 1 from Nat.add_comm _ _, List.drop_succ_cons]⟩
      · have hz : (nn : Int) = 26 := by omega
        by_cases hsh : r.length < 4
        · have hno : lrd (f + 1) left (b :: r) = none := by
            rw [lrd, if_neg (by omega)]
            have : lhd (b :: r) = none := by
              rw [lhd, hfn.out, hnn.out, if_neg (by omega), if_neg (by omega), show nn - 24 = 2 by omega, if_pos (by omega)]
            rw [this]
          have K3 := none_fin (w0 := w0) hno hB0.out hz0.out hw3.out
          have g : (S.size : Int) < 1 + 4 := by omega
          go_wp2_with (first | (refine wpList_store_mid rfl 27 _ _ rfl w.heap.size 0 #[.int .i64 0, .int .u64 0, .slice none 0 0, .slice none 0 0] ?_ ?_ ?_ ?_ ?_ ?_; rfl; rfl; exact hz0.out.2.2; exact isz27; exact zone; (show wpList _ _ _ _ _ (w0.setCells w.heap.size 0 [.int .i64 0, .int .u64 0, .slice none 0 0, .slice none 0 0])); rw [hw3.out]) | fail)
          refine bodyPost_ret (results_t3 6 27 7 8 9 _ _ _ rfl K3.1 rfl rfl rfl rfl urw27 isz27) rfl ?_
          exact ⟨_, rfl, K3.2⟩
        have g : ¬ (S.size : Int) < 1 + 4 := by omega
        have hlh : Hid (lhd (b :: r) = some (k, ofBE (r.take 4) 0, r.drop 4)) := by
          show _ = _
          rw [lhd, hfn.out, hnn.out, if_neg (by omega), if_neg (by omega), show nn - 24 = 2 by omega, if_neg (by omega), hk.out]
        clear ha hix0
        go_wp2
        go_loopg [12, 15] (4 + 1) (fun gk s12 s15 wr => ∃ (j a : Nat), s15 = .int .i64 (j : Int) ∧ s12 = .int .u64 (a : Int) ∧ Hid (a = ofBE (r.take j) 0) ∧ j ≤ 4 ∧ gk = 4 + 1 - j ∧ w0 = wr)
        case atStart => exact ⟨0, 0, rfl, rfl, (by show 0 = ofBE (r.take 0) 0; rw [List.take_zero, ofBE]), Nat.zero_le _, rfl, rfl⟩
        case round =>
          obtain ⟨j, a, rfl, rfl, ha, hjm, hgk, rfl⟩ := hrel
          by_cases hj : j < 4
          · obtain ⟨y, hy⟩ : ∃ y, r[j]? = some y := ⟨_, List.getElem?_eq_getElem (by omega)⟩
            have hjz : (j : Int) < 4 := by omega
            obtain ⟨j1, hj1⟩ : ∃ j1 : Nat, Hid (j1 = 1 + j) := ⟨_, rfl⟩
            have hjw : (1 : Int) + (j : Int) = (j1 : Int) := by have := hj1.out; omega
            have hix := fun X => ixTx S j1 y (by rw [hS.out, hj1.out, Nat.add_comm]; exact hy) X
            have hab : a * 256 < 18446744073709551616 := by
              have h1 := ofBE_lt (r.take j) 0
              have h2 : (r.take j).length ≤ 7 := by rw [List.length_take]; omega
              have h3 : 256 ^ (r.take j).length ≤ 256 ^ 7 := Nat.pow_le_pow_right (by decide) h2
              rw [ha.out]
              have h4 : (256 : Nat) ^ 7 = 72057594037927936 := by decide
              omega
            have hwr : IntKind.u64.wrap ((a : Int) * 256) = ((a * 256 : Nat) : Int) := by rw [IntKind.wrap_u64]; omega
            have hu8 := y.toNat_lt
            have hwu : IntKind.u64.wrap (y.toNat : Int) = (y.toNat : Int) := by rw [IntKind.wrap_u64]; omega
            have hor := or8 a y hab
            obtain ⟨a2, ha2⟩ : ∃ a2, Hid (a * 256 + y.toNat = a2) := ⟨_, rfl⟩
            rw [ha2.out] at hor
            obtain ⟨un, hun⟩ : ∃ un, Hid (y.toNat = un) := ⟨_, rfl⟩
            rw [hun.out] at hor hwu hix hu8
            obtain ⟨a1, ha1⟩ : ∃ a1, Hid (a * 256 = a1) := ⟨_, rfl⟩
            rw [ha1.out] at hor hwr
            have hN : Hid (a2 = ofBE (r.take (j + 1)) 0) := by
              show _ = _
              obtain ⟨hjx, e⟩ := List.getElem?_eq_some_iff.1 hy
              rw [List.take_succ_eq_append_getElem hjx, e, ofBE_snoc, ← ha.out, ha2.out]
            clear hab hy
            go_wp2
            go_roundg (4 + 1 - (j + 1))
            case measure => omega
            case rel => exact ⟨j + 1, a2, rfl, rfl, hN, by omega, rfl, rfl⟩
          · have hjz : ¬ (j : Int) < 4 := by omega
            obtain rfl : j = 4 := by omega
            have hN : Hid (lhd (b :: r) = some (k, a, r.drop 4)) := by show _ = _; rw [hlh.out, ha.out]
            go_wp2
            go_meet
            case rel => exact ⟨a, 1 + 4, rfl, rfl, rfl, by omega, by rw [hN.out, show 1 + 4 = 4 + 1 from Nat.add_comm _ _, List.drop_succ_cons]⟩
      · have hz : (nn : Int) = 27 := by omega
        by_cases hsh : r.length < 8
        · have hno : lrd (f + 1) left (b :: r) = none := by
            rw [lrd, if_neg (by omega)]
            have : lhd (b :: r) = none := by
              rw [lhd, hfn.out, hnn.out, if_neg (by omega), if_neg (by omega), show nn - 24 = 3 by omega, if_pos (by omega)]
            rw [this]
          have K3 := none_fin (w0 := w0) hno hB0.out hz0.out hw3.out
          have g : (S.size : Int) < 1 + 8 := by omega
          go_wp2_with (first | (refine wpList_store_mid rfl 27 _ _ rfl w.heap.size 0 #[.int .i64 0, .int .u64 0, .slice none 0 0, .slice none 0 0] ?_ ?_ ?_ ?_ ?_ ?_; rfl; rfl; exact hz0.out.2.2; exact isz27; exact zone; (show wpList _ _ _ _ _ (w0.setCells w.heap.size 0 [.int .i64 0, .int .u64 0, .slice none 0 0, .slice none 0 0])); rw [hw3.out]) | fail)
          refine bodyPost_ret (results_t3 6 27 7 8 9 _ _ _ rfl K3.1 rfl rfl rfl rfl urw27 isz27) rfl ?_
          exact ⟨_, rfl, K3.2⟩
        have g : ¬ (S.size : Int) < 1 + 8 := by omega
        have hlh : Hid (lhd (b :: r) = some (k, ofBE (r.take 8) 0, r.drop 8)) := by
          show _ = _
          rw [lhd, hfn.out, hnn.out, if_neg (by omega), if_neg (by omega), show nn - 24 = 3 by omega, if_neg (by omega), hk.out]
        clear ha hix0
        go_wp2
        go_loopg [12, 15] (8 + 1) (fun gk s12 s15 wr => ∃ (j a : Nat), s15 = .int .i64 (j : Int) ∧ s12 = .int .u64 (a : Int) ∧ Hid (a = ofBE (r.take j) 0) ∧ j ≤ 8 ∧ gk = 8 + 1 - j ∧ w0 = wr)
        case atStart => exact ⟨0, 0, rfl, rfl, (by show 0 = ofBE (r.take 0) 0; rw [List.take_zero, ofBE]), Nat.zero_le _, rfl, rfl⟩
        case round =>
          obtain ⟨j, a, rfl, rfl, ha, hjm, hgk, rfl⟩ := hrel
          by_cases hj : j < 8
          · obtain ⟨y, hy⟩ : ∃ y, r[j]? = some y := ⟨_, List.getElem?_eq_getElem (by omega)⟩
            have hjz : (j : Int) < 8 := by omega
            obtain ⟨j1, hj1⟩ : ∃ j1 : Nat, Hid (j1 = 1 + j) := ⟨_, rfl⟩
            have hjw : (1 : Int) + (j : Int) = (j1 : Int) := by have := hj1.out; omega
            have hix := fun X => ixTx S j1 y (by rw [hS.out, hj1.out, Nat.add_comm]; exact hy) X
            have hab : a * 256 < 18446744073709551616 := by
              have h1 := ofBE_lt (r.take j) 0
              have h2 : (r.take j).length ≤ 7 := by rw [List.length_take]; omega
              have h3 : 256 ^ (r.take j).length ≤ 256 ^ 7 := Nat.pow_le_pow_right (by decide) h2
              rw [ha.out]
              have h4 : (256 : Nat) ^ 7 = 72057594037927936 := by decide
              omega
            have hwr : IntKind.u64.wrap ((a : Int) * 256) = ((a * 256 : Nat) : Int) := by rw [IntKind.wrap_u64]; omega
            have hu8 := y.toNat_lt
            have hwu : IntKind.u64.wrap (y.toNat : Int) = (y.toNat : Int) := by rw [IntKind.wrap_u64]; omega
            have hor := or8 a y hab
            obtain ⟨a2, ha2⟩ : ∃ a2, Hid (a * 256 + y.toNat = a2) := ⟨_, rfl⟩
            rw [ha2.out] at hor
            obtain ⟨un, hun⟩ : ∃ un, Hid (y.toNat = un) := ⟨_, rfl⟩
            rw [hun.out] at hor hwu hix hu8
            obtain ⟨a1, ha1⟩ : ∃ a1, Hid (a * 256 = a1) := ⟨_, rfl⟩
            rw [ha1.out] at hor hwr
            have hN : Hid (a2 = ofBE (r.take (j + 1)) 0) := by
              show _ = _
              obtain ⟨hjx, e⟩ := List.getElem?_eq_some_iff.1 hy
              rw [List.take_succ_eq_append_getElem hjx, e, ofBE_snoc, ← ha.out, ha2.out]
            clear hab hy
            go_wp2
            go_roundg (8 + 1 - (j + 1))
            case measure => omega
            case rel => exact ⟨j + 1, a2, rfl, rfl, hN, by omega, rfl, rfl⟩
          · have hjz : ¬ (j : Int) < 8 := by omega
            obtain rfl : j = 8 := by omega
            have hN : Hid (lhd (b :: r) = some (k, a, r.drop 8)) := by show _ = _; rw [hlh.out, ha.out]
            go_wp2
            go_meet
            case rel => exact ⟨a, 1 + 8, rfl, rfl, rfl, by omega, by rw [hN.out, show 1 + 8 = 8 + 1 from Nat.add_comm _ _, List.drop_succ_cons]⟩
    · have hlh : Hid (lhd (b :: r) = some (k, nn, r)) := by
        show _ = _
        rw [lhd, hfn.out, hnn.out, if_neg (by omega), if_pos (by omega), hk.out]
      go_wp2
      go_meet
      case rel => exact ⟨nn, 1, rfl, rfl, rfl, by omega, hlh.out⟩
  case rest =>
    obtain ⟨N, at', rfl, rfl, rfl, hat, hlh⟩ := hcut
    obtain ⟨-, hN64, -⟩ := lhd_len hlh
    have hLH := hidW hlh
    obtain ⟨w1, hw1⟩ : ∃ w1, Hid (w0.alloc (.cells #[.int .i64 (k : Int), .int .u64 0, .slice none 0 0, .slice none 0 0] 27) = w1) := ⟨_, rfl⟩
    have hb1 : Hid (Below w0.heap.size w0 w1) := by rw [← hw1.out]; exact alloc_below _ _
    have r1 : Hid (RowS w1 w0.heap.size [.int .i64 (k : Int), .int .u64 0, .slice none 0 0, .slice none 0 0]) := by rw [← hw1.out]; exact arow w0 _ _ _ _ _
    have z1 : Hid (RowS w1 w.heap.size [.int .i64 0, .int .u64 0, .slice none 0 0, .slice none 0 0]) := hz0.out.below hb1.out
    have n1 : Hid (RowS w1 (w.heap.size + 1) [.int .i64 0, .int .u64 0, .slice none 0 0, .slice none 0 0]) := hz1.out.below hb1.out
    have B1 : Hid (Below w.heap.size w w1) := hB0.out.trans (hb1.out.mono hB0.out.size)
    have hdl : ((b :: r).drop at').length + at' = r.length + 1 := by rw [List.length_drop, List.length_cons]; omega
    have hs0' : w.heap.size + 1 < w0.heap.size := by have := hs0.out; omega
    clear a0 a1 a2 a3 hlt hlh hw3 ha hix0 hl
    go_upto_region 20 with fail
    rw [hw1.out]
    have b0 := n1.out.cell 0 _ rfl
    have b1 := n1.out.cell 1 _ rfl
    have b2 := n1.out.cell 2 _ rfl
    have b3 := n1.out.cell 3 _ rfl
    have c0 := r1.out.cell 0 _ rfl
    have c1 := r1.out.cell 1 _ rfl
    have c2 := r1.out.cell 2 _ rfl
    have c3 := r1.out.cell 3 _ rfl
    have f1 := r1.out.free 1 (by show 1 < 4; omega)
    have f2 := r1.out.free 2 (by show 2 < 4; omega)
    have hlo := r1.out.1
    have hln := n1.out.1
    obtain e | e | e | e | e | e | e | e : k = 0 ∨ k = 1 ∨ k = 2 ∨ k = 3 ∨ k = 4 ∨ k = 5 ∨ k = 6 ∨ k = 7 := by omega
    · have hlr : lrd (f + 1) left (b :: r) = some (.mk k N [] [], (b :: r).drop at', 1) := by
        rw [lrd, if_neg (by omega), hLH.out]
        simp only
        rw [if_pos (by omega)]
      have q0 : ((k : Int) == 0) = true := by rw [e]; rfl
      have q1 : ((k : Int) == 1) = false := by rw [e]; rfl
      have q7 : ((k : Int) == 7) = false := by rw [e]; rfl
      have q2 : ((k : Int) == 2) = false := by rw [e]; rfl
      have q3 : ((k : Int) == 3) = false := by rw [e]; rfl
      have q6 : ((k : Int) == 6) = false := by rw [e]; rfl
      have q5 : ((k : Int) == 5) = false := by rw [e]; rfl
      have eH := hidW e
      clear e
      obtain ⟨w2, hw2⟩ : ∃ w2, Hid (w1.setCell ⟨w0.heap.size, 1, none⟩ (.int .u64 (N : Int)) = w2) := ⟨_, rfl⟩
      have r2 : Hid (RowS w2 w0.heap.size [.int .i64 (k : Int), .int .u64 (N : Int), .slice none 0 0, .slice none 0 0]) := by rw [← hw2.out]; exact r1.out.set 1 _ (by show 1 < 4; omega)
      have z2 : Hid (RowS w2 w.heap.size [.int .i64 0, .int .u64 0, .slice none 0 0, .slice none 0 0]) := by rw [← hw2.out]; exact z1.out.at (by rw [World.size_setCell]; exact Nat.le_refl _) (blk_other _ _ _ _ (by show w.heap.size ≠ w0.heap.size; omega))
      have B2 : Hid (Below w.heap.size w w2) := by rw [← hw2.out]; exact B1.out.setCell (p := ⟨w0.heap.size, 1, none⟩) (by show w.heap.size ≤ w0.heap.size; omega) _
      obtain ⟨w4, hw4⟩ : ∃ w4, Hid (w2.setCells w.heap.size 0 [.int .i64 (k : Int), .int .u64 (N : Int), .slice none 0 0, .slice none 0 0] = w4) := ⟨_, rfl⟩
      have K4 : RowS w4 w.heap.size [.int .i64 (k : Int), .int .u64 (N : Int), .slice none 0 0, .slice none 0 0] ∧ LiR (f + 1) left (b :: r) w (.tuple #[itv k N none 0 0 none 0 0, .int .i64 (at' : Int), .int .i64 1, .bool true]) w4 := by
        rw [← hw4.out]
        refine ⟨z2.out.scs _ rfl, B2.out.trans (sc_below _ _ _), Or.inr ⟨.mk k N [] [], (b :: r).drop at', 1, at', none, 0, 0, none, 0, 0, hlr, by rw [List.length_cons]; omega, rfl, fun W hW => ?_⟩⟩
        rw [InM]
        exact ⟨hN64, by simp, by simp, ⟨none, 0, rfl, Nat.le_refl _, Or.inl rfl⟩, none, 0, rfl, Or.inl rfl⟩
      have K4H := hidW K4
      clear K4 hlr
      go_upto_region 25 with fail
      rw [hw2.out]
      have d0 := r2.out.cell 0 _ rfl
      have d1 := r2.out.cell 1 _ rfl
      have d2 := r2.out.cell 2 _ rfl
      have d3 := r2.out.cell 3 _ rfl
      have hlp := r2.out.1
      go_wp2_with (first | (refine wpList_store_mid rfl 27 _ _ rfl w.heap.size 0 #[.int .i64 (k : Int), .int .u64 (N : Int), .slice none 0 0, .slice none 0 0] ?_ ?_ ?_ ?_ ?_ ?_; rfl; rfl; exact z2.out.2.2; exact isz27; exact four_one _ _ _ _ _ _ _ _; (show wpList _ _ _ _ _ (w2.setCells w.heap.size 0 [.int .i64 (k : Int), .int .u64 (N : Int), .slice none 0 0, .slice none 0 0])); rw [hw4.out]) | fail)
      refine bodyPost_ret (results_t3 6 27 7 8 9 _ _ _ rfl K4H.out.1 rfl rfl rfl rfl urw27 isz27) rfl ?_
      exact ⟨_, rfl, K4H.out.2⟩
    · have hlr : lrd (f + 1) left (b :: r) = some (.mk k N [] [], (b :: r).drop at', 1) := by
        rw [lrd, if_neg (by omega), hLH.out]
        simp only
        rw [if_pos (by omega)]
      have q0 : ((k : Int) == 0) = false := by rw [e]; rfl
      have q1 : ((k : Int) == 1) = true := by rw [e]; rfl
      have q7 : ((k : Int) == 7) = false := by rw [e]; rfl
      have q2 : ((k : Int) == 2) = false := by rw [e]; rfl
      have q3 : ((k : Int) == 3) = false := by rw [e]; rfl
      have q6 : ((k : Int) == 6) = false := by rw [e]; rfl
      have q5 : ((k : Int) == 5) = false := by rw [e]; rfl
      have eH := hidW e
      clear e
      obtain ⟨w2, hw2⟩ : ∃ w2, Hid (w1.setCell ⟨w0.heap.size, 1, none⟩ (.int .u64 (N : Int)) = w2) := ⟨_, rfl⟩
      have r2 : Hid (RowS w2 w0.heap.size [.int .i64 (k : Int), .int .u64 (N : Int), .slice none 0 0, .slice none 0 0]) := by rw [← hw2.out]; exact r1.out.set 1 _ (by show 1 < 4; omega)
      have z2 : Hid (RowS w2 w.heap.size [.int .i64 0, .int .u64 0, .slice none 0 0, .slice none 0 0]) := by rw [← hw2.out]; exact z1.out.at (by rw [World.size_setCell]; exact Nat.le_refl _) (blk_other _ _ _ _ (by show w.heap.size ≠ w0.heap.size; omega))
      have B2 : Hid (Below w.heap.size w w2) := by rw [← hw2.out]; exact B1.out.setCell (p := ⟨w0.heap.size, 1, none⟩) (by show w.heap.size ≤ w0.heap.size; omega) _
      obtain ⟨w4, hw4⟩ : ∃ w4, Hid (w2.setCells w.heap.size 0 [.int .i64 (k : Int), .int .u64 (N : Int), .slice none 0 0, .slice none 0 0] = w4) := ⟨_, rfl⟩
      have K4 : RowS w4 w.heap.size [.int .i64 (k : Int), .int .u64 (N : Int), .slice none 0 0, .slice none 0 0] ∧ LiR (f + 1) left (b :: r) w (.tuple #[itv k N none 0 0 none 0 0, .int .i64 (at' : Int), .int .i64 1, .bool true]) w4 := by
        rw [← hw4.out]
        refine ⟨z2.out.scs _ rfl, B2.out.trans (sc_below _ _ _), Or.inr ⟨.mk k N [] [], (b :: r).drop at', 1, at', none, 0, 0, none, 0, 0, hlr, by rw [List.length_cons]; omega, rfl, fun W hW => ?_⟩⟩
        rw [InM]
        exact ⟨hN64, by simp, by simp, ⟨none, 0, rfl, Nat.le_refl _, Or.inl rfl⟩, none, 0, rfl, Or.inl rfl⟩
      have K4H := hidW K4
      clear K4 hlr
      go_upto_region 25 with fail
      rw [hw2.out]
      have d0 := r2.out.cell 0 _ rfl
      have d1 := r2.out.cell 1 _ rfl
      have d2 := r2.out.cell 2 _ rfl
      have d3 := r2.out.cell 3 _ rfl
      have hlp := r2.out.1
      go_wp2_with (first | (refine wpList_store_mid rfl 27 _ _ rfl w.heap.size 0 #[.int .i64 (k : Int), .int .u64 (N : Int), .slice none 0 0, .slice none 0 0] ?_ ?_ ?_ ?_ ?_ ?_; rfl; rfl; exact z2.out.2.2; exact isz27; exact four_one _ _ _ _ _ _ _ _; (show wpList _ _ _ _ _ (w2.setCells w.heap.size 0 [.int .i64 (k : Int), .int .u64 (N : Int), .slice none 0 0, .slice none 0 0])); rw [hw4.out]) | fail)
      refine bodyPost_ret (results_t3 6 27 7 8 9 _ _ _ rfl K4H.out.1 rfl rfl rfl rfl urw27 isz27) rfl ?_
      exact ⟨_, rfl, K4H.out.2⟩
    · obtain ⟨mm, hmm⟩ : ∃ mm : Nat, Hid (mm + at' = S.size) := ⟨S.size - at', by show _ = _; have := hlS.out; omega⟩
      have hsub : (S.size : Int) - (at' : Int) = (mm : Int) := by have := hmm.out; omega
      have hmb : (mm : Int) ≤ 65536 := by have := hmm.out; have := hlS.out; have := hlenH.out; rw [List.length_cons] at this; omega
      have hmd : Hid (((b :: r).drop at').length = mm) := by show _ = _; have := hmm.out; have := hlS.out; omega
      have q0 : ((k : Int) == 0) = false := by rw [e]; rfl
      have q1 : ((k : Int) == 1) = false := by rw [e]; rfl
      have q7 : ((k : Int) == 7) = false := by rw [e]; rfl
      have q2 : ((k : Int) == 2) = true := by rw [e]; rfl
      have q3 : ((k : Int) == 3) = false := by rw [e]; rfl
      have q6 : ((k : Int) == 6) = false := by rw [e]; rfl
      have q5 : ((k : Int) == 5) = false := by rw [e]; rfl
      have eH := hidW e
      clear e
      by_cases hnd : N ≤ mm
      rotate_left
      · have hno : lrd (f + 1) left (b :: r) = none := by
          have ee := eH.out
          rw [lrd, if_neg (by omega), hLH.out]
          simp only
          rw [if_neg (by omega), if_pos (by omega), if_neg (by rw [hmd.out]; exact hnd)]
        have hgt : (mm : Int) < (N : Int) := by omega
        obtain ⟨w9, hw9⟩ : ∃ w9, Hid (w1.setCells w.heap.size 0 [.int .i64 0, .int .u64 0, .slice none 0 0, .slice none 0 0] = w9) := ⟨_, rfl⟩
        have KN := none_fin (w0 := w0) hno B1.out z1.out hw9.out
        go_wp2_with (first | (refine wpList_store_mid rfl 27 _ _ rfl w.heap.size 0 #[.int .i64 0, .int .u64 0, .slice none 0 0, .slice none 0 0] ?_ ?_ ?_ ?_ ?_ ?_; rfl; rfl; exact z1.out.2.2; exact isz27; exact zone; (show wpList _ _ _ _ _ (w1.setCells w.heap.size 0 [.int .i64 0, .int .u64 0, .slice none 0 0, .slice none 0 0])); rw [hw9.out]) | fail)
        refine bodyPost_ret (results_t3 6 27 7 8 9 _ _ _ rfl KN.1 rfl rfl rfl rfl urw27 isz27) rfl ?_
        exact ⟨_, rfl, KN.2⟩
      have hlr : lrd (f + 1) left (b :: r) = some (.mk k 0 (((b :: r).drop at').take N) [], ((b :: r).drop at').drop N, 1) := by
        have ee := eH.out
        rw [lrd, if_neg (by omega), hLH.out]
        simp only
        rw [if_neg (by omega), if_pos (by omega), if_pos (by rw [hmd.out]; exact hnd)]
      have hgt : ¬ (mm : Int) < (N : Int) := by omega
      have hNb : (N : Int) ≤ 65536 := by omega
      obtain ⟨z, hz⟩ : ∃ z : Nat, Hid (at' + N = z) := ⟨_, rfl⟩
      have hzw : (at' : Int) + (N : Int) = (z : Int) := by have := hz.out; omega
      have hzbH : Hid (wrap64 (z : Int) = (z : Int)) := by show _ = _; have := hz.out; have := hlS.out; have := hlenH.out; rw [List.length_cons] at this; unfold wrap64; omega
      obtain ⟨D, hD⟩ : ∃ D, Hid (S.extract at' z = D) := ⟨_, rfl⟩
      have hsl := fun X => sl_midX S at' z (by have := hz.out; omega) (by have := hz.out; have := hmm.out; omega) D hD.out X
      have hDl : D.data.toList = ((b :: r).drop at').take N := by
        rw [← hD.out, ByteArray.data_extract, Array.toList_extract, hS.out, List.extract_eq_take_drop, ← hz.out, Nat.add_sub_cancel_left]
      have hDs : D.size = N := by
        have h1 : D.data.toList.length = D.size := by rw [Array.length_toList]; rfl
        have h2 := hmd.out
        rw [← h1, hDl, List.length_take]; omega
      obtain ⟨vD, w2, hcv, hDB, hb2⟩ := conv_DB D w1 w1.heap.size (Nat.le_refl _)
      obtain ⟨g, cap, csD, fz, rfl, hcap, hg, hblk, hcell⟩ := hDB
      rw [hDs] at hcv hcap
      have hs2 := hb2.size
      have r2 := r1.out.below hb2
      have z2 := z1.out.below hb2
      have x2 := r2.cell 2 _ rfl
      have y2 := r2.free 2 (by show 2 < 4; omega)
      have hl2 := r2.1
      obtain ⟨w3, hw3⟩ : ∃ w3, Hid (w2.setCell ⟨w0.heap.size, 2, none⟩ (.slice (some ⟨g, 0, none⟩) N cap) = w3) := ⟨_, rfl⟩
      have r3 : Hid (RowS w3 w0.heap.size [.int .i64 (k : Int), .int .u64 0, .slice (some ⟨g, 0, none⟩) N cap, .slice none 0 0]) := by rw [← hw3.out]; exact r2.set 2 _ (by show 2 < 4; omega)
      have z3 : Hid (RowS w3 w.heap.size [.int .i64 0, .int .u64 0, .slice none 0 0, .slice none 0 0]) := by rw [← hw3.out]; exact z2.at (by rw [World.size_setCell]; exact Nat.le_refl _) (blk_other _ _ _ _ (by show w.heap.size ≠ w0.heap.size; omega))
      have B3 : Hid (Below w.heap.size w w3) := by rw [← hw3.out]; exact (B1.out.trans (hb2.mono B1.out.size)).setCell (p := ⟨w0.heap.size, 2, none⟩) (by show w.heap.size ≤ w0.heap.size; omega) _
      obtain ⟨w4, hw4⟩ : ∃ w4, Hid (w3.setCells w.heap.size 0 [.int .i64 (k : Int), .int .u64 ((0 : Nat) : Int), .slice (some ⟨g, 0, none⟩) N cap, .slice none 0 0] = w4) := ⟨_, rfl⟩
      have K4 : RowS w4 w.heap.size [.int .i64 (k : Int), .int .u64 ((0 : Nat) : Int), .slice (some ⟨g, 0, none⟩) N cap, .slice none 0 0] ∧ LiR (f + 1) left (b :: r) w (.tuple #[itv k 0 (some ⟨g, 0, none⟩) N cap none 0 0, .int .i64 (z : Int), .int .i64 1, .bool true]) w4 := by
        have hs3 : w3.heap.size = w2.heap.size := by rw [← hw3.out, World.size_setCell]
        have hg2 := (Array.getElem?_eq_some_iff.1 hblk).1
        rw [← hw4.out]
        have hs4 := RG.setCells_size w.heap.size [.int .i64 (k : Int), .int .u64 ((0 : Nat) : Int), .slice (some ⟨g, 0, none⟩) N cap, .slice none 0 0] 0 w3
        refine ⟨z3.out.scs _ rfl, B3.out.trans (sc_below _ _ _), Or.inr ⟨.mk k 0 (((b :: r).drop at').take N) [], ((b :: r).drop at').drop N, 1, z, some ⟨g, 0, none⟩, N, cap, none, 0, 0, hlr, ?_, rfl, fun W hW => ?_⟩⟩
        · rw [List.length_drop, List.length_cons]; have := hz.out; have := hmd.out; omega
        · rw [InM]
          have hlt' : (((b :: r).drop at').take N).length = N := by rw [List.length_take]; have := hmd.out; omega
          refine ⟨by decide, by omega, by simp, ⟨some ⟨g, 0, none⟩, cap, by rw [hlt'], by omega, Or.inr ⟨g, 0, rfl, by omega, fun j y hj => ?_⟩⟩, none, 0, rfl, Or.inl rfl⟩
          rw [← hDl] at hj
          have e1 : W.heap[g]? = w2.heap[g]? := by
            rw [hW g (by omega) (by omega), sc_other _ _ (by omega) _ _ _, ← hw3.out]
            exact blk_other _ _ _ _ (by show g ≠ w0.heap.size; omega)
          unfold World.cell?
          simp only [e1, hblk, Nat.zero_add]
          exact hcell j y hj
      have K4H := hidW K4
      clear K4 hlr hDl hb2 hblk hcell r2 z2
      have hzb := hzbH.out
      go_upto_region 31 with fail
      rw [hw3.out]
      have d0 := r3.out.cell 0 _ rfl
      have d1 := r3.out.cell 1 _ rfl
      have d2 := r3.out.cell 2 _ rfl
      have d3 := r3.out.cell 3 _ rfl
      have hlp := r3.out.1
      go_wp2_with (first | (refine wpList_store_mid rfl 27 _ _ rfl w.heap.size 0 #[.int .i64 (k : Int), .int .u64 ((0 : Nat) : Int), .slice (some ⟨g, 0, none⟩) N cap, .slice none 0 0] ?_ ?_ ?_ ?_ ?_ ?_; rfl; rfl; exact z3.out.2.2; exact isz27; exact four_one _ _ _ _ _ _ _ _; (show wpList _ _ _ _ _ (w3.setCells w.heap.size 0 [.int .i64 (k : Int), .int .u64 ((0 : Nat) : Int), .slice (some ⟨g, 0, none⟩) N cap, .slice none 0 0])); rw [hw4.out]) | fail)
      refine bodyPost_ret (results_t3 6 27 7 8 9 _ _ _ rfl K4H.out.1 rfl rfl rfl rfl urw27 isz27) rfl ?_
      exact ⟨_, rfl, K4H.out.2⟩
    · obtain ⟨mm, hmm⟩ : ∃ mm : Nat, Hid (mm + at' = S.size) := ⟨S.size - at', by show _ = _; have := hlS.out; omega⟩
      have hsub : (S.size : Int) - (at' : Int) = (mm : Int) := by have := hmm.out; omega
      have hmb : (mm : Int) ≤ 65536 := by have := hmm.out; have := hlS.out; have := hlenH.out; rw [List.length_cons] at this; omega
      have hmd : Hid (((b :: r).drop at').length = mm) := by show _ = _; have := hmm.out; have := hlS.out; omega
      have q0 : ((k : Int) == 0) = false := by rw [e]; rfl
      have q1 : ((k : Int) == 1) = false := by rw [e]; rfl
      have q7 : ((k : Int) == 7) = false := by rw [e]; rfl
      have q2 : ((k : Int) == 2) = false := by rw [e]; rfl
      have q3 : ((k : Int) == 3) = true := by rw [e]; rfl
      have q6 : ((k : Int) == 6) = false := by rw [e]; rfl
      have q5 : ((k : Int) == 5) = false := by rw [e]; rfl
      have eH := hidW e
      clear e
      by_cases hnd : N ≤ mm
      rotate_left
      · have hno : lrd (f + 1) left (b :: r) = none := by
          have ee := eH.out
          rw [lrd, if_neg (by omega), hLH.out]
          simp only
          rw [if_neg (by omega), if_pos (by omega), if_neg (by rw [hmd.out]; exact hnd)]
        have hgt : (mm : Int) < (N : Int) := by omega
        obtain ⟨w9, hw9⟩ : ∃ w9, Hid (w1.setCells w.heap.size 0 [.int .i64 0, .int .u64 0, .slice none 0 0, .slice none 0 0] = w9) := ⟨_, rfl⟩
        have KN := none_fin (w0 := w0) hno B1.out z1.out hw9.out
        go_wp2_with (first | (refine wpList_store_mid rfl 27 _ _ rfl w.heap.size 0 #[.int .i64 0, .int .u64 0, .slice none 0 0, .slice none 0 0] ?_ ?_ ?_ ?_ ?_ ?_; rfl; rfl; exact z1.out.2.2; exact isz27; exact zone; (show wpList _ _ _ _ _ (w1.setCells w.heap.size 0 [.int .i64 0, .int .u64 0, .slice none 0 0, .slice none 0 0])); rw [hw9.out]) | fail)
        refine bodyPost_ret (results_t3 6 27 7 8 9 _ _ _ rfl KN.1 rfl rfl rfl rfl urw27 isz27) rfl ?_
        exact ⟨_, rfl, KN.2⟩
      have hlr : lrd (f + 1) left (b :: r) = some (.mk k 0 (((b :: r).drop at').take N) [], ((b :: r).drop at').drop N, 1) := by
        have ee := eH.out
        rw [lrd, if_neg (by omega), hLH.out]
        simp only
        rw [if_neg (by omega), if_pos (by omega), if_pos (by rw [hmd.out]; exact hnd)]
      have hgt : ¬ (mm : Int) < (N : Int) := by omega
      have hNb : (N : Int) ≤ 65536 := by omega
      obtain ⟨z, hz⟩ : ∃ z : Nat, Hid (at' + N = z) := ⟨_, rfl⟩
      have hzw : (at' : Int) + (N : Int) = (z : Int) := by have := hz.out; omega
      have hzbH : Hid (wrap64 (z : Int) = (z : Int)) := by show _ = _; have := hz.out; have := hlS.out; have := hlenH.out; rw [List.length_cons] at this; unfold wrap64; omega
      obtain ⟨D, hD⟩ : ∃ D, Hid (S.extract at' z = D) := ⟨_, rfl⟩
      have hsl := fun X => sl_midX S at' z (by have := hz.out; omega) (by have := hz.out; have := hmm.out; omega) D hD.out X
      have hDl : D.data.toList = ((b :: r).drop at').take N := by
        rw [← hD.out, ByteArray.data_extract, Array.toList_extract, hS.out, List.extract_eq_take_drop, ← hz.out, Nat.add_sub_cancel_left]
      have hDs : D.size = N := by
        have h1 : D.data.toList.length = D.size := by rw [Array.length_toList]; rfl
        have h2 := hmd.out
        rw [← h1, hDl, List.length_take]; omega
      obtain ⟨vD, w2, hcv, hDB, hb2⟩ := conv_DB D w1 w1.heap.size (Nat.le_refl _)
      obtain ⟨g, cap, csD, fz, rfl, hcap, hg, hblk, hcell⟩ := hDB
      rw [hDs] at hcv hcap
      have hs2 := hb2.size
      have r2 := r1.out.below hb2
      have z2 := z1.out.below hb2
      have x2 := r2.cell 2 _ rfl
      have y2 := r2.free 2 (by show 2 < 4; omega)
      have hl2 := r2.1
      obtain ⟨w3, hw3⟩ : ∃ w3, Hid (w2.setCell ⟨w0.heap.size, 2, none⟩ (.slice (some ⟨g, 0, none⟩) N cap) = w3) := ⟨_, rfl⟩
      have r3 : Hid (RowS w3 w0.heap.size [.int .i64 (k : Int), .int .u64 0, .slice (some ⟨g, 0, none⟩) N cap, .slice none 0 0]) := by rw [← hw3.out]; exact r2.set 2 _ (by show 2 < 4; omega)
      have z3 : Hid (RowS w3 w.heap.size [.int .i64 0, .int .u64 0, .slice none 0 0, .slice none 0 0]) := by rw [← hw3.out]; exact z2.at (by rw [World.size_setCell]; exact Nat.le_refl _) (blk_other _ _ _ _ (by show w.heap.size ≠ w0.heap.size; omega))
      have B3 : Hid (Below w.heap.size w w3) := by rw [← hw3.out]; exact (B1.out.trans (hb2.mono B1.out.size)).setCell (p := ⟨w0.heap.size, 2, none⟩) (by show w.heap.size ≤ w0.heap.size; omega) _
      obtain ⟨w4, hw4⟩ : ∃ w4, Hid (w3.setCells w.heap.size 0 [.int .i64 (k : Int), .int .u64 ((0 : Nat) : Int), .slice (some ⟨g, 0, none⟩) N cap, .slice none 0 0] = w4) := ⟨_, rfl⟩
      have K4 : RowS w4 w.heap.size [.int .i64 (k : Int), .int .u64 ((0 : Nat) : Int), .slice (some ⟨g, 0, none⟩) N cap, .slice none 0 0] ∧ LiR (f + 1) left (b :: r) w (.tuple #[itv k 0 (some ⟨g, 0, none⟩) N cap none 0 0, .int .i64 (z : Int), .int .i64 1, .bool true]) w4 := by
        have hs3 : w3.heap.size = w2.heap.size := by rw [← hw3.out, World.size_setCell]
        have hg2 := (Array.getElem?_eq_some_iff.1 hblk).1
        rw [← hw4.out]
        have hs4 := RG.setCells_size w.heap.size [.int .i64 (k : Int), .int .u64 ((0 : Nat) : Int), .slice (some ⟨g, 0, none⟩) N cap, .slice none 0 0] 0 w3
        refine ⟨z3.out.scs _ rfl, B3.out.trans (sc_below _ _ _), Or.inr ⟨.mk k 0 (((b :: r).drop at').take N) [], ((b :: r).drop at').drop N, 1, z, some ⟨g, 0, none⟩, N, cap, none, 0, 0, hlr, ?_, rfl, fun W hW => ?_⟩⟩
        · rw [List.length_drop, List.length_cons]; have := hz.out; have := hmd.out; omega
        · rw [InM]
          have hlt' : (((b :: r).drop at').take N).length = N := by rw [List.length_take]; have := hmd.out; omega
          refine ⟨by decide, by omega, by simp, ⟨some ⟨g, 0, none⟩, cap, by rw [hlt'], by omega, Or.inr ⟨g, 0, rfl, by omega, fun j y hj => ?_⟩⟩, none, 0, rfl, Or.inl rfl⟩
          rw [← hDl] at hj
          have e1 : W.heap[g]? = w2.heap[g]? := by
            rw [hW g (by omega) (by omega), sc_other _ _ (by omega) _ _ _, ← hw3.out]
            exact blk_other _ _ _ _ (by show g ≠ w0.heap.size; omega)
          unfold World.cell?
          simp only [e1, hblk, Nat.zero_add]
          exact hcell j y hj
      have K4H := hidW K4
      clear K4 hlr hDl hb2 hblk hcell r2 z2
      have hzb := hzbH.out
      go_upto_region 31 with fail
      rw [hw3.out]
      have d0 := r3.out.cell 0 _ rfl
      have d1 := r3.out.cell 1 _ rfl
      have d2 := r3.out.cell 2 _ rfl
      have d3 := r3.out.cell 3 _ rfl
      have hlp := r3.out.1
      go_wp2_with (first | (refine wpList_store_mid rfl 27 _ _ rfl w.heap.size 0 #[.int .i64 (k : Int), .int .u64 ((0 : Nat) : Int), .slice (some ⟨g, 0, none⟩) N cap, .slice none 0 0] ?_ ?_ ?_ ?_ ?_ ?_; rfl; rfl; exact z3.out.2.2; exact isz27; exact four_one _ _ _ _ _ _ _ _; (show wpList _ _ _ _ _ (w3.setCells w.heap.size 0 [.int .i64 (k : Int), .int .u64 ((0 : Nat) : Int), .slice (some ⟨g, 0, none⟩) N cap, .slice none 0 0])); rw [hw4.out]) | fail)
      refine bodyPost_ret (results_t3 6 27 7 8 9 _ _ _ rfl K4H.out.1 rfl rfl rfl rfl urw27 isz27) rfl ?_
      exact ⟨_, rfl, K4H.out.2⟩
    · have q0 : ((k : Int) == 0) = false := by rw [e]; rfl
      have q1 : ((k : Int) == 1) = false := by rw [e]; rfl
      have q7 : ((k : Int) == 7) = false := by rw [e]; rfl
      have q2 : ((k : Int) == 2) = false := by rw [e]; rfl
      have q3 : ((k : Int) == 3) = false := by rw [e]; rfl
      have q6 : ((k : Int) == 6) = false := by rw [e]; rfl
      have q5 : ((k : Int) == 5) = false := by rw [e]; rfl
      have eH := hidW e
      clear e
      by_cases hbig : N ≤ 4096
      rotate_left
      · have hno : lrd (f + 1) left (b :: r) = none := by
          have ee := eH.out
          rw [lrd, if_neg (by omega), hLH.out]
          simp only
          rw [if_neg (by omega), if_neg (by omega), if_neg (by omega), if_pos (by omega)]
        have hgt : (4096 : Int) < (N : Int) := by omega
        obtain ⟨w9, hw9⟩ : ∃ w9, Hid (w1.setCells w.heap.size 0 [.int .i64 0, .int .u64 0, .slice none 0 0, .slice none 0 0] = w9) := ⟨_, rfl⟩
        have KN := none_fin (w0 := w0) hno B1.out z1.out hw9.out
        go_wp2_with (first | (refine wpList_store_mid rfl 27 _ _ rfl w.heap.size 0 #[.int .i64 0, .int .u64 0, .slice none 0 0, .slice none 0 0] ?_ ?_ ?_ ?_ ?_ ?_; rfl; rfl; exact z1.out.2.2; exact isz27; exact zone; (show wpList _ _ _ _ _ (w1.setCells w.heap.size 0 [.int .i64 0, .int .u64 0, .slice none 0 0, .slice none 0 0])); rw [hw9.out]) | fail)
        refine bodyPost_ret (results_t3 6 27 7 8 9 _ _ _ rfl KN.1 rfl rfl rfl rfl urw27 isz27) rfl ?_
        exact ⟨_, rfl, KN.2⟩
      have hgt : ¬ (4096 : Int) < (N : Int) := by omega
      skip
      have hlr : Hid (lrd (f + 1) left (b :: r) = match lrdN (lrd f) N (left - 1) ((b :: r).drop at') with
          | none => none
          | some (l, r', c) => some (.mk k 0 [] l, r', c + 1)) := by
        show _ = _
        have ee := eH.out
        rw [lrd, if_neg (by omega), hLH.out]
        simp only
        rw [if_neg (by omega), if_neg (by omega), if_neg (by omega), if_neg (by omega), if_neg (by omega)]
        cases lrdN (lrd f) N (left - 1) ((b :: r).drop at') <;> rfl
      have L0 := hidW (LlI.start r1.out)
      clear b0 b1 b2 b3 c0 c1 c2 c3 f1 f2
      go_wp2
      go_loopg [13, 17, 18] (N + 1) (fun gk s13 s17 s18 wr => ∃ (j a ct c : Nat) (l : List Itm) (v : Value) (cs : List Value), s18 = .int .u64 (j : Int) ∧ s13 = .int .i64 (a : Int) ∧ s17 = .int .i64 (ct : Int) ∧ gk = N + 1 - j ∧ j ≤ N ∧ a ≤ r.length + 1 ∧ Hid (ct = c + 1) ∧ Hid (lrdN (lrd f) j (left - 1) ((b :: r).drop at') = some (l, (b :: r).drop a, c)) ∧ LlI w1 w0.heap.size k j l v cs wr)
      case atStart => exact ⟨0, at', 1, 0, [], _, [], rfl, rfl, rfl, rfl, Nat.zero_le _, hat, rfl, rfl, L0.out⟩
      case round =>
        obtain ⟨j, a, ct, c, l, v, cs, rfl, rfl, rfl, hgk, hjM, har, hct, hrj, L⟩ := hrel
        obtain ⟨qv, mv, cv, rfl⟩ := L.sh
        obtain ⟨⟨hc4, -⟩, hllj, hjc⟩ := lrdN_kn (lrd_kn f) _ _ _ _ _ _ hrj.out
        have zr : Hid (RowS wr w.heap.size [.int .i64 0, .int .u64 0, .slice none 0 0, .slice none 0 0]) := z1.out.at L.bl.size (L.bl.block _ (by omega))
        have nr : Hid (RowS wr (w.heap.size + 1) [.int .i64 0, .int .u64 0, .slice none 0 0, .slice none 0 0]) := n1.out.at L.bl.size (L.bl.block _ (by omega))
        have Br : Hid (Below w.heap.size w wr) := B1.out.trans (L.bl.mono (by omega))
        by_cases hj : j < N
        · have hjz : (j : Int) < (N : Int) := by omega
          have hjw : (j : Int) + 1 < 18446744073709551616 := by omega
          obtain ⟨S', hS'⟩ : ∃ S', Hid (S.extract a S.size = S') := ⟨_, rfl⟩
          have hsl := fun X => sl_loX S a (by have := hlS.out; omega) S' hS'.out X
          have hSl : S'.data.toList = (b :: r).drop a := by
            have hl : S.data.toList.length = S.size := by rw [Array.length_toList]; rfl
            rw [← hS'.out, ByteArray.data_extract, Array.toList_extract, hS.out, List.extract_eq_take_drop]
            exact List.take_of_length_le (by rw [List.length_drop, ← hl, hS.out]; exact Nat.le_refl _)
          obtain ⟨d1, hd1⟩ : ∃ d1 : Nat, Hid (deep + 1 = d1) := ⟨_, rfl⟩
          have hd1z : (deep : Int) + 1 = (d1 : Int) := by have := hd1.out; omega
          have hdb : (deep : Int) ≤ 16 := by omega
          have hd1b : (d1 : Int) ≤ 17 := by omega
          have hlb4 : (left : Int) ≤ 4096 := by omega
          have hab : (a : Int) ≤ 65536 := by have := hlenH.out; rw [List.length_cons] at this; omega
          have hctb : (ct : Int) ≤ 4096 := by have := hct.out; omega
          obtain ⟨l1, hl1⟩ : ∃ l1 : Nat, Hid (left - 1 - c = l1) := ⟨_, rfl⟩
          have hl1z : (left : Int) - (ct : Int) = (l1 : Int) := by have := hl1.out; have := hct.out; omega
          have hl1b : (l1 : Int) ≤ 4096 := by omega
          have hcc := ih wr S' ((b :: r).drop a) l1 d1 hSl (by rw [List.length_drop]; have := hlenH.out; omega) (by have := hl1.out; omega) (by have := hd1.out; omega)
          have HL := hidW L
          have HJ := hidW (And.intro hc4 (And.intro hllj hjc))
          clear L hSl hc4 hllj hjc
          go_wp2_with fail
          refine hcc.mono ?_
          rintro e w2 ⟨v2, rfl, hb2, ⟨hno2, rfl⟩ | ⟨i, r2, c2, a2, qd, dl, cd, ql, ml, cl, hy, hal, rfl, hI⟩⟩
          · have hno : lrd (f + 1) left (b :: r) = none := by rw [hlr.out, lrdN_bad hrj.out (by rw [hl1.out]; exact hno2) hj]
            unfold itv
            obtain ⟨wx, hwx⟩ : ∃ wx, Hid (w2.alloc (.cells #[.int .i64 0, .int .u64 0, .slice none 0 0, .slice none 0 0] 27) = wx) := ⟨_, rfl⟩
            have hbx : Below w2.heap.size w2 wx := by rw [← hwx.out]; exact alloc_below _ _
            have hwr := hb2.trans (hbx.mono hb2.size)
            have zx : Hid (RowS wx w.heap.size [.int .i64 0, .int .u64 0, .slice none 0 0, .slice none 0 0]) := zr.out.below hwr
            have nx := nr.out.below hwr
            have Bx : Hid (Below w.heap.size w wx) := Br.out.trans (hwr.mono Br.out.size)
            have b0 := nx.cell 0 _ rfl
            have b1 := nx.cell 1 _ rfl
            have b2 := nx.cell 2 _ rfl
            have b3 := nx.cell 3 _ rfl
            have hlx := nx.1
            clear hb2 hbx hwr nx hcc hno2
            go_upto_region 43 with fail
            rw [hwx.out]
            obtain ⟨w9, hw9⟩ : ∃ w9, Hid (wx.setCells w.heap.size 0 [.int .i64 0, .int .u64 0, .slice none 0 0, .slice none 0 0] = w9) := ⟨_, rfl⟩
            have KN := none_fin (w0 := w0) hno Bx.out zx.out hw9.out
            go_wp2_with (first | (refine wpList_store_mid rfl 27 _ _ rfl w.heap.size 0 #[.int .i64 0, .int .u64 0, .slice none 0 0, .slice none 0 0] ?_ ?_ ?_ ?_ ?_ ?_; rfl; rfl; exact zx.out.2.2; exact isz27; exact zone; (show wpList _ _ _ _ _ (wx.setCells w.heap.size 0 [.int .i64 0, .int .u64 0, .slice none 0 0, .slice none 0 0])); rw [hw9.out]) | fail)
            refine bodyPost_ret (results_t3 6 27 7 8 9 _ _ _ rfl KN.1 rfl rfl rfl rfl urw27 isz27) rfl ?_
            exact ⟨_, rfl, KN.2⟩
          · unfold itv
            obtain ⟨wx, hwx⟩ : ∃ wx, Hid (w2.alloc (.cells #[.int .i64 i.k, .int .u64 (i.n : Int), .slice qd dl cd, .slice ql ml cl] 27) = wx) := ⟨_, rfl⟩
            have hbx : Below w2.heap.size w2 wx := by rw [← hwx.out]; exact alloc_below _ _
            have rx : RowS wx w2.heap.size [.int .i64 i.k, .int .u64 (i.n : Int), .slice qd dl cd, .slice ql ml cl] := by rw [← hwx.out]; exact arow w2 _ _ _ _ _
            have ox := (HL.out.row.below hb2).below hbx
            obtain ⟨q', n', c', W', hap, k1, k2, k3, cs', L2⟩ := HL.out.add hb2 hI hbx rfl (by omega)
            have HAP := hidW hap
            have x0 := rx.cell 0 _ rfl
            have x1 := rx.cell 1 _ rfl
            have x2 := rx.cell 2 _ rfl
            have x3 := rx.cell 3 _ rfl
            have hlx := rx.1
            have o3 := ox.cell 3 _ rfl
            have hlo2 := ox.1
            obtain ⟨⟨hc2, p, hp⟩, -⟩ := lrd_kn f _ _ _ _ _ hy
            obtain ⟨a3, ha3⟩ : ∃ a3 : Nat, Hid (a + a2 = a3) := ⟨_, rfl⟩
            have ha3z : (a : Int) + (a2 : Int) = (a3 : Int) := by have := ha3.out; omega
            have hr2 : (b :: r).drop a3 = r2 := by
              rw [← ha3.out, ← List.drop_drop, hp]
              refine List.drop_left' ?_
              rw [hp, List.length_append] at hal
              omega
            have ha3c : (a3 : Int) ≤ 65536 := by
              have h1 := ha3.out
              have h2 := hlenH.out
              rw [List.length_cons] at h2
              rw [List.length_drop, List.length_cons] at hal
              omega
            have ha3b : a3 ≤ r.length + 1 := by
              have h1 := ha3.out
              rw [List.length_drop, List.length_cons] at hal
              omega
            obtain ⟨ct2, hct2⟩ : ∃ ct2 : Nat, Hid (ct + c2 = ct2) := ⟨_, rfl⟩
            have hct2z : (ct : Int) + (c2 : Int) = (ct2 : Int) := by have := hct2.out; omega
            have hct2b : (ct2 : Int) ≤ 5000 := by have := hct2.out; have := hct.out; have := HJ.out.1; have := hl1.out; omega
            have L3 : Hid (Hid (ct2 = (c + c2) + 1) ∧ Hid (lrdN (lrd f) (j + 1) (left - 1) ((b :: r).drop at') = some (l ++ [i], (b :: r).drop a3, c + c2)) ∧ LlI w1 w0.heap.size k (j + 1) (l ++ [i]) (.slice q' n' c') cs' (W'.setCell ⟨w0.heap.size, 3, none⟩ (.slice q' n' c'))) := by
              refine ⟨?_, ?_, L2⟩
              · show _ = _; have := hct2.out; have := hct.out; omega
              · show _ = _; rw [hr2]; exact lrdN_snoc_y hrj.out (by rw [hl1.out]; exact hy)
            clear hb2 hbx rx ox hap L2 hcc hy hal hI hp hr2 HL HJ zr nr Br hc2
            go_upto_region 43 with fail
            rw [hwx.out]
            go_wp2_with (at_builtin; refine Lib.wpList_append_run _ rfl _ _ _ _ rfl _ _ rfl rfl _ _ HAP.out ?_)
            go_roundg (N + 1 - (j + 1))
            case measure => omega
            case rel => exact ⟨j + 1, a3, ct2, c + c2, _, _, cs', rfl, rfl, rfl, rfl, by omega, ha3b, L3.out⟩
        · have hjz : ¬ (j : Int) < (N : Int) := by omega
          obtain rfl : j = N := by omega
          obtain ⟨-, hIM⟩ := L.fin (w := w) hllj (by omega) (by omega) [.int .i64 (k : Int), .int .u64 ((0 : Nat) : Int), .slice none 0 0, .slice qv mv cv]
          obtain ⟨w4, hw4⟩ : ∃ w4, Hid (wr.setCells w.heap.size 0 [.int .i64 (k : Int), .int .u64 ((0 : Nat) : Int), .slice none 0 0, .slice qv mv cv] = w4) := ⟨_, rfl⟩
          have K4 : Hid (RowS w4 w.heap.size [.int .i64 (k : Int), .int .u64 ((0 : Nat) : Int), .slice none 0 0, .slice qv mv cv] ∧ LiR (f + 1) left (b :: r) w (.tuple #[itv k 0 none 0 0 qv mv cv, .int .i64 (a : Int), .int .i64 (ct : Int), .bool true]) w4) := by
            rw [hw4.out] at hIM
            refine ⟨by rw [← hw4.out]; exact zr.out.scs _ rfl, by rw [← hw4.out]; exact Br.out.trans (sc_below _ _ _), Or.inr ⟨.mk k 0 [] l, (b :: r).drop a, c + 1, a, none, 0, 0, qv, mv, cv, by rw [hlr.out, hrj.out], by rw [List.length_drop, List.length_cons]; omega, by rw [← hct.out]; rfl, hIM⟩⟩
          have d0 := L.row.cell 0 _ rfl
          have d1 := L.row.cell 1 _ rfl
          have d2 := L.row.cell 2 _ rfl
          have d3 := L.row.cell 3 _ rfl
          have hlp := L.row.1
          clear hIM L hllj hc4 hjc
          go_wp2_with (first | (refine wpList_store_mid rfl 27 _ _ rfl w.heap.size 0 #[.int .i64 (k : Int), .int .u64 ((0 : Nat) : Int), .slice none 0 0, .slice qv mv cv] ?_ ?_ ?_ ?_ ?_ ?_; rfl; rfl; exact zr.out.2.2; exact isz27; exact four_one _ _ _ _ _ _ _ _; (show wpList _ _ _ _ _ (wr.setCells w.heap.size 0 [.int .i64 (k : Int), .int .u64 ((0 : Nat) : Int), .slice none 0 0, .slice qv mv cv])); rw [hw4.out]) | fail)
          refine bodyPost_ret (results_t3 6 27 7 8 9 _ _ _ rfl K4.out.1 rfl rfl rfl rfl urw27 isz27) rfl ?_
          exact ⟨_, rfl, K4.out.2⟩
    · have q0 : ((k : Int) == 0) = false := by rw [e]; rfl
      have q1 : ((k : Int) == 1) = false := by rw [e]; rfl
      have q7 : ((k : Int) == 7) = false := by rw [e]; rfl
      have q2 : ((k : Int) == 2) = false := by rw [e]; rfl
      have q3 : ((k : Int) == 3) = false := by rw [e]; rfl
      have q6 : ((k : Int) == 6) = false := by rw [e]; rfl
      have q5 : ((k : Int) == 5) = true := by rw [e]; rfl
      have eH := hidW e
      clear e
      by_cases hbig : N ≤ 4096
      rotate_left
      · have hno : lrd (f + 1) left (b :: r) = none := by
          have ee := eH.out
          rw [lrd, if_neg (by omega), hLH.out]
          simp only
          rw [if_neg (by omega), if_neg (by omega), if_neg (by omega), if_pos (by omega)]
        have hgt : (4096 : Int) < (N : Int) := by omega
        obtain ⟨w9, hw9⟩ : ∃ w9, Hid (w1.setCells w.heap.size 0 [.int .i64 0, .int .u64 0, .slice none 0 0, .slice none 0 0] = w9) := ⟨_, rfl⟩
        have KN := none_fin (w0 := w0) hno B1.out z1.out hw9.out
        go_wp2_with (first | (refine wpList_store_mid rfl 27 _ _ rfl w.heap.size 0 #[.int .i64 0, .int .u64 0, .slice none 0 0, .slice none 0 0] ?_ ?_ ?_ ?_ ?_ ?_; rfl; rfl; exact z1.out.2.2; exact isz27; exact zone; (show wpList _ _ _ _ _ (w1.setCells w.heap.size 0 [.int .i64 0, .int .u64 0, .slice none 0 0, .slice none 0 0])); rw [hw9.out]) | fail)
        refine bodyPost_ret (results_t3 6 27 7 8 9 _ _ _ rfl KN.1 rfl rfl rfl rfl urw27 isz27) rfl ?_
        exact ⟨_, rfl, KN.2⟩
      have hgt : ¬ (4096 : Int) < (N : Int) := by omega
      obtain ⟨M, hM⟩ : ∃ M : Nat, Hid (2 * N = M) := ⟨_, rfl⟩
      have hmul : (2 : Int) * (N : Int) = (M : Int) := by have := hM.out; omega
      have hMb : M ≤ 8192 := by have := hM.out; omega
      have hMw : IntKind.u64.wrap (M : Int) = (M : Int) := by rw [IntKind.wrap_u64]; omega
      have hlr : Hid (lrd (f + 1) left (b :: r) = match lrdN (lrd f) M (left - 1) ((b :: r).drop at') with
          | none => none
          | some (l, r', c) => some (.mk k 0 [] l, r', c + 1)) := by
        show _ = _
        have ee := eH.out
        rw [lrd, if_neg (by omega), hLH.out]
        simp only
        rw [if_neg (by omega), if_neg (by omega), if_neg (by omega), if_neg (by omega), if_pos (by omega), hM.out]
        cases lrdN (lrd f) M (left - 1) ((b :: r).drop at') <;> rfl
      have L0 := hidW (LlI.start r1.out)
      clear b0 b1 b2 b3 c0 c1 c2 c3 f1 f2
      go_wp2
      go_loopg [13, 17, 18] (M + 1) (fun gk s13 s17 s18 wr => ∃ (j a ct c : Nat) (l : List Itm) (v : Value) (cs : List Value), s18 = .int .u64 (j : Int) ∧ s13 = .int .i64 (a : Int) ∧ s17 = .int .i64 (ct : Int) ∧ gk = M + 1 - j ∧ j ≤ M ∧ a ≤ r.length + 1 ∧ Hid (ct = c + 1) ∧ Hid (lrdN (lrd f) j (left - 1) ((b :: r).drop at') = some (l, (b :: r).drop a, c)) ∧ LlI w1 w0.heap.size k j l v cs wr)
      case atStart => exact ⟨0, at', 1, 0, [], _, [], rfl, rfl, rfl, rfl, Nat.zero_le _, hat, rfl, rfl, L0.out⟩
      case round =>
        obtain ⟨j, a, ct, c, l, v, cs, rfl, rfl, rfl, hgk, hjM, har, hct, hrj, L⟩ := hrel
        obtain ⟨qv, mv, cv, rfl⟩ := L.sh
        obtain ⟨⟨hc4, -⟩, hllj, hjc⟩ := lrdN_kn (lrd_kn f) _ _ _ _ _ _ hrj.out
        have zr : Hid (RowS wr w.heap.size [.int .i64 0, .int .u64 0, .slice none 0 0, .slice none 0 0]) := z1.out.at L.bl.size (L.bl.block _ (by omega))
        have nr : Hid (RowS wr (w.heap.size + 1) [.int .i64 0, .int .u64 0, .slice none 0 0, .slice none 0 0]) := n1.out.at L.bl.size (L.bl.block _ (by omega))
        have Br : Hid (Below w.heap.size w wr) := B1.out.trans (L.bl.mono (by omega))
        by_cases hj : j < M
        · have hjz : (j : Int) < (M : Int) := by omega
          have hjw : (j : Int) + 1 < 18446744073709551616 := by omega
          obtain ⟨S', hS'⟩ : ∃ S', Hid (S.extract a S.size = S') := ⟨_, rfl⟩
          have hsl := fun X => sl_loX S a (by have := hlS.out; omega) S' hS'.out X
          have hSl : S'.data.toList = (b :: r).drop a := by
            have hl : S.data.toList.length = S.size := by rw [Array.length_toList]; rfl
            rw [← hS'.out, ByteArray.data_extract, Array.toList_extract, hS.out, List.extract_eq_take_drop]
            exact List.take_of_length_le (by rw [List.length_drop, ← hl, hS.out]; exact Nat.le_refl _)
          obtain ⟨d1, hd1⟩ : ∃ d1 : Nat, Hid (deep + 1 = d1) := ⟨_, rfl⟩
          have hd1z : (deep : Int) + 1 = (d1 : Int) := by have := hd1.out; omega
          have hdb : (deep : Int) ≤ 16 := by omega
          have hd1b : (d1 : Int) ≤ 17 := by omega
          have hlb4 : (left : Int) ≤ 4096 := by omega
          have hab : (a : Int) ≤ 65536 := by have := hlenH.out; rw [List.length_cons] at this; omega
          have hctb : (ct : Int) ≤ 4096 := by have := hct.out; omega
          obtain ⟨l1, hl1⟩ : ∃ l1 : Nat, Hid (left - 1 - c = l1) := ⟨_, rfl⟩
          have hl1z : (left : Int) - (ct : Int) = (l1 : Int) := by have := hl1.out; have := hct.out; omega
          have hl1b : (l1 : Int) ≤ 4096 := by omega
          have hcc := ih wr S' ((b :: r).drop a) l1 d1 hSl (by rw [List.length_drop]; have := hlenH.out; omega) (by have := hl1.out; omega) (by have := hd1.out; omega)
          have HL := hidW L
          have HJ := hidW (And.intro hc4 (And.intro hllj hjc))
          clear L hSl hc4 hllj hjc
          go_wp2_with fail
          refine hcc.mono ?_
          rintro e w2 ⟨v2, rfl, hb2, ⟨hno2, rfl⟩ | ⟨i, r2, c2, a2, qd, dl, cd, ql, ml, cl, hy, hal, rfl, hI⟩⟩
          · have hno : lrd (f + 1) left (b :: r) = none := by rw [hlr.out, lrdN_bad hrj.out (by rw [hl1.out]; exact hno2) hj]
            unfold itv
            obtain ⟨wx, hwx⟩ : ∃ wx, Hid (w2.alloc (.cells #[.int .i64 0, .int .u64 0, .slice none 0 0, .slice none 0 0] 27) = wx) := ⟨_, rfl⟩
            have hbx : Below w2.heap.size w2 wx := by rw [← hwx.out]; exact alloc_below _ _
            have hwr := hb2.trans (hbx.mono hb2.size)
            have zx : Hid (RowS wx w.heap.size [.int .i64 0, .int .u64 0, .slice none 0 0, .slice none 0 0]) := zr.out.below hwr
            have nx := nr.out.below hwr
            have Bx : Hid (Below w.heap.size w wx) := Br.out.trans (hwr.mono Br.out.size)
            have b0 := nx.cell 0 _ rfl
            have b1 := nx.cell 1 _ rfl
            have b2 := nx.cell 2 _ rfl
            have b3 := nx.cell 3 _ rfl
            have hlx := nx.1
            clear hb2 hbx hwr nx hcc hno2
            go_upto_region 43 with fail
            rw [hwx.out]
            obtain ⟨w9, hw9⟩ : ∃ w9, Hid (wx.setCells w.heap.size 0 [.int .i64 0, .int .u64 0, .slice none 0 0, .slice none 0 0] = w9) := ⟨_, rfl⟩
            have KN := none_fin (w0 := w0) hno Bx.out zx.out hw9.out
            go_wp2_with (first | (refine wpList_store_mid rfl 27 _ _ rfl w.heap.size 0 #[.int .i64 0, .int .u64 0, .slice none 0 0, .slice none 0 0] ?_ ?_ ?_ ?_ ?_ ?_; rfl; rfl; exact zx.out.2.2; exact isz27; exact zone; (show wpList _ _ _ _ _ (wx.setCells w.heap.size 0 [.int .i64 0, .int .u64 0, .slice none 0 0, .slice none 0 0])); rw [hw9.out]) | fail)
            refine bodyPost_ret (results_t3 6 27 7 8 9 _ _ _ rfl KN.1 rfl rfl rfl rfl urw27 isz27) rfl ?_
            exact ⟨_, rfl, KN.2⟩
          · unfold itv
            obtain ⟨wx, hwx⟩ : ∃ wx, Hid (w2.alloc (.cells #[.int .i64 i.k, .int .u64 (i.n : Int), .slice qd dl cd, .slice ql ml cl] 27) = wx) := ⟨_, rfl⟩
            have hbx : Below w2.heap.size w2 wx := by rw [← hwx.out]; exact alloc_below _ _
            have rx : RowS wx w2.heap.size [.int .i64 i.k, .int .u64 (i.n : Int), .slice qd dl cd, .slice ql ml cl] := by rw [← hwx.out]; exact arow w2 _ _ _ _ _
            have ox := (HL.out.row.below hb2).below hbx
            obtain ⟨q', n', c', W', hap, k1, k2, k3, cs', L2⟩ := HL.out.add hb2 hI hbx rfl (by omega)
            have HAP := hidW hap
            have x0 := rx.cell 0 _ rfl
            have x1 := rx.cell 1 _ rfl
            have x2 := rx.cell 2 _ rfl
            have x3 := rx.cell 3 _ rfl
            have hlx := rx.1
            have o3 := ox.cell 3 _ rfl
            have hlo2 := ox.1
            obtain ⟨⟨hc2, p, hp⟩, -⟩ := lrd_kn f _ _ _ _ _ hy
            obtain ⟨a3, ha3⟩ : ∃ a3 : Nat, Hid (a + a2 = a3) := ⟨_, rfl⟩
            have ha3z : (a : Int) + (a2 : Int) = (a3 : Int) := by have := ha3.out; omega
            have hr2 : (b :: r).drop a3 = r2 := by
              rw [← ha3.out, ← List.drop_drop, hp]
              refine List.drop_left' ?_
              rw [hp, List.length_append] at hal
              omega
            have ha3c : (a3 : Int) ≤ 65536 := by
              have h1 := ha3.out
              have h2 := hlenH.out
              rw [List.length_cons] at h2
              rw [List.length_drop, List.length_cons] at hal
              omega
            have ha3b : a3 ≤ r.length + 1 := by
              have h1 := ha3.out
              rw [List.length_drop, List.length_cons] at hal
              omega
            obtain ⟨ct2, hct2⟩ : ∃ ct2 : Nat, Hid (ct + c2 = ct2) := ⟨_, rfl⟩
            have hct2z : (ct : Int) + (c2 : Int) = (ct2 : Int) := by have := hct2.out; omega
            have hct2b : (ct2 : Int) ≤ 5000 := by have := hct2.out; have := hct.out; have := HJ.out.1; have := hl1.out; omega
            have L3 : Hid (Hid (ct2 = (c + c2) + 1) ∧ Hid (lrdN (lrd f) (j + 1) (left - 1) ((b :: r).drop at') = some (l ++ [i], (b :: r).drop a3, c + c2)) ∧ LlI w1 w0.heap.size k (j + 1) (l ++ [i]) (.slice q' n' c') cs' (W'.setCell ⟨w0.heap.size, 3, none⟩ (.slice q' n' c'))) := by
              refine ⟨?_, ?_, L2⟩
              · show _ = _; have := hct2.out; have := hct.out; omega
              · show _ = _; rw [hr2]; exact lrdN_snoc_y hrj.out (by rw [hl1.out]; exact hy)
            clear hb2 hbx rx ox hap L2 hcc hy hal hI hp hr2 HL HJ zr nr Br hc2
            go_upto_region 43 with fail
            rw [hwx.out]
            go_wp2_with (at_builtin; refine Lib.wpList_append_run _ rfl _ _ _ _ rfl _ _ rfl rfl _ _ HAP.out ?_)
            go_roundg (M + 1 - (j + 1))
            case measure => omega
            case rel => exact ⟨j + 1, a3, ct2, c + c2, _, _, cs', rfl, rfl, rfl, rfl, by omega, ha3b, L3.out⟩
        · have hjz : ¬ (j : Int) < (M : Int) := by omega
          obtain rfl : j = M := by omega
          obtain ⟨-, hIM⟩ := L.fin (w := w) hllj (by omega) (by omega) [.int .i64 (k : Int), .int .u64 ((0 : Nat) : Int), .slice none 0 0, .slice qv mv cv]
          obtain ⟨w4, hw4⟩ : ∃ w4, Hid (wr.setCells w.heap.size 0 [.int .i64 (k : Int), .int .u64 ((0 : Nat) : Int), .slice none 0 0, .slice qv mv cv] = w4) := ⟨_, rfl⟩
          have K4 : Hid (RowS w4 w.heap.size [.int .i64 (k : Int), .int .u64 ((0 : Nat) : Int), .slice none 0 0, .slice qv mv cv] ∧ LiR (f + 1) left (b :: r) w (.tuple #[itv k 0 none 0 0 qv mv cv, .int .i64 (a : Int), .int .i64 (ct : Int), .bool true]) w4) := by
            rw [hw4.out] at hIM
            refine ⟨by rw [← hw4.out]; exact zr.out.scs _ rfl, by rw [← hw4.out]; exact Br.out.trans (sc_below _ _ _), Or.inr ⟨.mk k 0 [] l, (b :: r).drop a, c + 1, a, none, 0, 0, qv, mv, cv, by rw [hlr.out, hrj.out], by rw [List.length_drop, List.length_cons]; omega, by rw [← hct.out]; rfl, hIM⟩⟩
          have d0 := L.row.cell 0 _ rfl
          have d1 := L.row.cell 1 _ rfl
          have d2 := L.row.cell 2 _ rfl
          have d3 := L.row.cell 3 _ rfl
          have hlp := L.row.1
          clear hIM L hllj hc4 hjc
          go_wp2_with (first | (refine wpList_store_mid rfl 27 _ _ rfl w.heap.size 0 #[.int .i64 (k : Int), .int .u64 ((0 : Nat) : Int), .slice none 0 0, .slice qv mv cv] ?_ ?_ ?_ ?_ ?_ ?_; rfl; rfl; exact zr.out.2.2; exact isz27; exact four_one _ _ _ _ _ _ _ _; (show wpList _ _ _ _ _ (wr.setCells w.heap.size 0 [.int .i64 (k : Int), .int .u64 ((0 : Nat) : Int), .slice none 0 0, .slice qv mv cv])); rw [hw4.out]) | fail)
          refine bodyPost_ret (results_t3 6 27 7 8 9 _ _ _ rfl K4.out.1 rfl rfl rfl rfl urw27 isz27) rfl ?_
          exact ⟨_, rfl, K4.out.2⟩
    · have hno : lrd (f + 1) left (b :: r) = none := by
        rw [lrd, if_neg (by omega), hLH.out]
        simp only
        rw [if_neg (by omega), if_neg (by omega), if_pos e]
      have q0 : ((k : Int) == 0) = false := by rw [e]; rfl
      have q1 : ((k : Int) == 1) = false := by rw [e]; rfl
      have q7 : ((k : Int) == 7) = false := by rw [e]; rfl
      have q2 : ((k : Int) == 2) = false := by rw [e]; rfl
      have q3 : ((k : Int) == 3) = false := by rw [e]; rfl
      have q6 : ((k : Int) == 6) = true := by rw [e]; rfl
      have q5 : ((k : Int) == 5) = false := by rw [e]; rfl
      have eH := hidW e
      clear e
      obtain ⟨w9, hw9⟩ : ∃ w9, Hid (w1.setCells w.heap.size 0 [.int .i64 0, .int .u64 0, .slice none 0 0, .slice none 0 0] = w9) := ⟨_, rfl⟩
      have KN := none_fin (w0 := w0) hno B1.out z1.out hw9.out
      go_wp2_with (first | (refine wpList_store_mid rfl 27 _ _ rfl w.heap.size 0 #[.int .i64 0, .int .u64 0, .slice none 0 0, .slice none 0 0] ?_ ?_ ?_ ?_ ?_ ?_; rfl; rfl; exact z1.out.2.2; exact isz27; exact zone; (show wpList _ _ _ _ _ (w1.setCells w.heap.size 0 [.int .i64 0, .int .u64 0, .slice none 0 0, .slice none 0 0])); rw [hw9.out]) | fail)
      refine bodyPost_ret (results_t3 6 27 7 8 9 _ _ _ rfl KN.1 rfl rfl rfl rfl urw27 isz27) rfl ?_
      exact ⟨_, rfl, KN.2⟩
    · have hlr : lrd (f + 1) left (b :: r) = some (.mk k N [] [], (b :: r).drop at', 1) := by
        rw [lrd, if_neg (by omega), hLH.out]
        simp only
        rw [if_pos (by omega)]
      have q0 : ((k : Int) == 0) = false := by rw [e]; rfl
      have q1 : ((k : Int) == 1) = false := by rw [e]; rfl
      have q7 : ((k : Int) == 7) = true := by rw [e]; rfl
      have q2 : ((k : Int) == 2) = false := by rw [e]; rfl
      have q3 : ((k : Int) == 3) = false := by rw [e]; rfl
      have q6 : ((k : Int) == 6) = false := by rw [e]; rfl
      have q5 : ((k : Int) == 5) = false := by rw [e]; rfl
      have eH := hidW e
      clear e
      obtain ⟨w2, hw2⟩ : ∃ w2, Hid (w1.setCell ⟨w0.heap.size, 1, none⟩ (.int .u64 (N : Int)) = w2) := ⟨_, rfl⟩
      have r2 : Hid (RowS w2 w0.heap.size [.int .i64 (k : Int), .int .u64 (N : Int), .slice none 0 0, .slice none 0 0]) := by rw [← hw2.out]; exact r1.out.set 1 _ (by show 1 < 4; omega)
      have z2 : Hid (RowS w2 w.heap.size [.int .i64 0, .int .u64 0, .slice none 0 0, .slice none 0 0]) := by rw [← hw2.out]; exact z1.out.at (by rw [World.size_setCell]; exact Nat.le_refl _) (blk_other _ _ _ _ (by show w.heap.size ≠ w0.heap.size; omega))
      have B2 : Hid (Below w.heap.size w w2) := by rw [← hw2.out]; exact B1.out.setCell (p := ⟨w0.heap.size, 1, none⟩) (by show w.heap.size ≤ w0.heap.size; omega) _
      obtain ⟨w4, hw4⟩ : ∃ w4, Hid (w2.setCells w.heap.size 0 [.int .i64 (k : Int), .int .u64 (N : Int), .slice none 0 0, .slice none 0 0] = w4) := ⟨_, rfl⟩
      have K4 : RowS w4 w.heap.size [.int .i64 (k : Int), .int .u64 (N : Int), .slice none 0 0, .slice none 0 0] ∧ LiR (f + 1) left (b :: r) w (.tuple #[itv k N none 0 0 none 0 0, .int .i64 (at' : Int), .int .i64 1, .bool true]) w4 := by
        rw [← hw4.out]
        refine ⟨z2.out.scs _ rfl, B2.out.trans (sc_below _ _ _), Or.inr ⟨.mk k N [] [], (b :: r).drop at', 1, at', none, 0, 0, none, 0, 0, hlr, by rw [List.length_cons]; omega, rfl, fun W hW => ?_⟩⟩
        rw [InM]
        exact ⟨hN64, by simp, by simp, ⟨none, 0, rfl, Nat.le_refl _, Or.inl rfl⟩, none, 0, rfl, Or.inl rfl⟩
      have K4H := hidW K4
      clear K4 hlr
      go_upto_region 25 with fail
      rw [hw2.out]
      have d0 := r2.out.cell 0 _ rfl
      have d1 := r2.out.cell 1 _ rfl
      have d2 := r2.out.cell 2 _ rfl
      have d3 := r2.out.cell 3 _ rfl
      have hlp := r2.out.1
      go_wp2_with (first | (refine wpList_store_mid rfl 27 _ _ rfl w.heap.size 0 #[.int .i64 (k : Int), .int .u64 (N : Int), .slice none 0 0, .slice none 0 0] ?_ ?_ ?_ ?_ ?_ ?_; rfl; rfl; exact z2.out.2.2; exact isz27; exact four_one _ _ _ _ _ _ _ _; (show wpList _ _ _ _ _ (w2.setCells w.heap.size 0 [.int .i64 (k : Int), .int .u64 (N : Int), .slice none 0 0, .slice none 0 0])); rw [hw4.out]) | fail)
      refine bodyPost_ret (results_t3 6 27 7 8 9 _ _ _ rfl K4H.out.1 rfl rfl rfl rfl urw27 isz27) rfl ?_
      exact ⟨_, rfl, K4H.out.2⟩
end WI
end Go.Proofs.YtfkgfcggcfkkiaaDoor
namespace Go.Proofs.YtfkgfcggcfkkiaaDoor
open Go.RowKit Go.Sort Go.Deep
namespace WI
variable {T : World → Prop} {u : List UInt8 → Bool}
/-- THE REFERENCE'S item. -/
theorem ritemL_c : ∀ f : Nat, LSp f
  | 0 => fun w S x left deep hS hx hl hd => ritemL_0 0 left deep x S hS w hd (Or.inr (Or.inl rfl))
  | f + 1 => fun w S x left deep hS hx hl hd => by
    cases x with
    | nil => exact ritemL_0 (f + 1) left deep [] S hS w hd (Or.inl rfl)
    | cons b r =>
      by_cases h0 : left = 0
      · exact ritemL_0 (f + 1) left deep (b :: r) S hS w hd (Or.inr (Or.inr h0))
      · exact ritemL_s f (ritemL_c f) left deep b r S hS w hd (by omega) hl hx
theorem rdAll_lrd {x : List UInt8} {j : Itm} (hx : x.length ≤ 65536) (h2 : rdAll u x = some j) : ∃ c, lrd 16 4096 x = some (j, [], c) := by
  obtain ⟨n, h1⟩ := whole_some h2
  obtain ⟨-, -, -, h5, h6, -⟩ := rd_some u 16 0 x j n [] h1
  exact ⟨n - 0, rd_lrd 16 0 x j n [] 4096 h1 (by omega)⟩
theorem rdAll_is {x : List UInt8} {i j : Itm} {r : List UInt8} {c : Nat} {F : Nat} (hF : Hid (F = 16)) (hx : x.length ≤ 65536) (h : lrd F 4096 x = some (i, r, c)) (h2 : rdAll u x = some j) : i = j ∧ r = [] ∧ wok u j 0 0 0 ∧ byt j = x := by
  obtain ⟨c', h3⟩ := rdAll_lrd hx h2
  rw [hF.out, h3] at h
  simp only [Option.some.injEq, Prod.mk.injEq] at h
  obtain ⟨rfl, rfl, -⟩ := h
  obtain ⟨h4, h5⟩ := rdAll_wok h2 hx
  exact ⟨rfl, rfl, h5, h4⟩
theorem rdAll_non {x : List UInt8} {F : Nat} (hF : Hid (F = 16)) (hx : x.length ≤ 65536) (h : lrd F 4096 x = none) : rdAll u x = none := by
  cases h2 : rdAll u x with
  | none => rfl
  | some j =>
    obtain ⟨c', h3⟩ := rdAll_lrd hx h2
    rw [hF.out, h3] at h
    cases h
theorem rdAll_nn {x : List UInt8} {i : Itm} {r : List UInt8} {c : Nat} {F : Nat} (hF : Hid (F = 16)) (hx : x.length ≤ 65536) (h : lrd F 4096 x = some (i, r, c)) (hno : r = [] → wok u i 0 0 0 → byt i = x → False) : rdAll u x = none := by
  cases h2 : rdAll u x with
  | none => rfl
  | some j =>
    obtain ⟨rfl, h3, h4, h5⟩ := rdAll_is hF hx h h2
    exact (hno h3 h4 h5).elim
/-- What the reference's Parse answers, of bytes that are not too long. -/
def PbR (u : List UInt8 → Bool) (w : World) (x : List UInt8) (e : Value) (w' : World) : Prop := Below w.heap.size w w' ∧ ((∃ i qd dl cd ql ml cl, rdAll u x = some i ∧ e = .tuple #[itv i.k i.n qd dl cd ql ml cl, .int .i64 0] ∧ IMQ w.heap.size w' i (.slice qd dl cd) (.slice ql ml cl)) ∨ (rdAll u x = none ∧ e = .tuple #[itv 0 0 none 0 0 none 0 0, .int .i64 2]))
theorem IMQ.atR {base : Nat} {w w' : World} {i : Itm} {vd vl : Value} (h : IMQ base w i vd vl) (hs : w.heap.size ≤ w'.heap.size) (hb : ∀ k, base ≤ k → k < w.heap.size → w'.heap[k]? = w.heap[k]?) : IMQ base w' i vd vl := fun W hW => InM.mono hs i _ _ (h W fun k h1 h2 => (hW k h1 (Nat.lt_of_lt_of_le h2 hs)).trans (hb k h1 h2))
theorem IMQ.dnR {base base' : Nat} {w : World} {i : Itm} {vd vl : Value} (h : IMQ base w i vd vl) (hb : base' ≤ base) : IMQ base' w i vd vl := fun W hW => h W fun k h1 h2 => hW k (Nat.le_trans hb h1) h2
set_option maxHeartbeats 2000000 in
set_option maxRecDepth 20000 in
/-- THE REFERENCE'S Parse. -/
theorem rParse_c (hU : UV T u) (w : World) (S : ByteArray) (x : List UInt8) (hS : S.data.toList = x) (hT : T w) (hx : x.length ≤ 65536) : Calls Tryd.prog 10 #[.string S] w (RetW (PbR u w x)) := by
  have hl : Hid (S.size = x.length) := by
    have : S.data.toList.length = S.size := by rw [Array.length_toList]; rfl
    show _ = _
    rw [← this, hS]
  obtain ⟨F, hF⟩ : ∃ F, Hid (F = 16) := ⟨16, rfl⟩
  obtain ⟨w0, hw0⟩ : ∃ wb, Hid (w.alloc (.cells #[.int .i64 0, .int .u64 0, .slice none 0 0, .slice none 0 0] 27) = wb) := ⟨_, rfl⟩
  have hB0 : Hid (Below w.heap.size w w0) := by rw [← hw0.out]; exact alloc_below _ _
  have hz0 : Hid (RowS w0 w.heap.size [.int .i64 0, .int .u64 0, .slice none 0 0, .slice none 0 0]) := by rw [← hw0.out]; exact zrow w
  have h2 := hU.2.1 w hT
  have HT : Hid (∀ X, Below w.heap.size w X → T X) := fun X hX => hU.1 w X hT (fun k hk => hX.block k (by omega))
  have g : ¬ (65536 : Int) < (S.size : Int) := by have := hl.out; omega
  have hc : Calls Tryd.prog 26 #[.string S, .int .i64 1, .int .i64 4096] w0 (RetW (LiR F 4096 x w0)) := ritemL_c F w0 S x 4096 1 hS hx (Nat.le_refl _) (by rw [hF.out])
  have HX := hidW (And.intro hx hS)
  clear hT h2 hx hS
  go_enter Tryd.func10, Tryd.ntmps10
  go_upto_region 1 with fail
  rw [hw0.out]
  go_wp2_with fail
  refine hc.mono ?_
  rintro e w1 ⟨v1, rfl, hb1, ⟨hno, rfl⟩ | ⟨i, r, c, at', qd, dl, cd, ql, ml, cl, hy, hal, rfl, hI⟩⟩
  · unfold itv
    obtain ⟨wx, hwx⟩ : ∃ wx, Hid (w1.alloc (.cells #[.int .i64 0, .int .u64 0, .slice none 0 0, .slice none 0 0] 27) = wx) := ⟨_, rfl⟩
    have hbx : Below w1.heap.size w1 wx := by rw [← hwx.out]; exact alloc_below _ _
    have zx : Hid (RowS wx w.heap.size [.int .i64 0, .int .u64 0, .slice none 0 0, .slice none 0 0]) := (hz0.out.below hb1).below hbx
    have Bx : Hid (Below w.heap.size w wx) := (hB0.out.trans (hb1.mono hB0.out.size)).trans (hbx.mono (Nat.le_trans hB0.out.size hb1.size))
    have hn := hidW (rdAll_non (u := u) hF HX.out.1 hno)
    clear hbx hb1 hno hc
    go_upto_region 4 with fail
    rw [hwx.out]
    obtain ⟨w9, hw9⟩ : ∃ w9, Hid (wx.setCells w.heap.size 0 [.int .i64 0, .int .u64 0, .slice none 0 0, .slice none 0 0] = w9) := ⟨_, rfl⟩
    have KB : PbR u w x (.tuple #[itv 0 0 none 0 0 none 0 0, .int .i64 2]) w9 := by rw [← hw9.out]; exact ⟨Bx.out.trans (sc_below _ _ _), Or.inr ⟨hn.out, rfl⟩⟩
    have KR : RowS w9 w.heap.size [.int .i64 0, .int .u64 0, .slice none 0 0, .slice none 0 0] := by rw [← hw9.out]; exact zx.out.scs _ rfl
    go_wp2_with (first | (refine wpList_store_mid rfl 27 _ _ rfl w.heap.size 0 #[.int .i64 0, .int .u64 0, .slice none 0 0, .slice none 0 0] ?_ ?_ ?_ ?_ ?_ ?_; rfl; rfl; exact zx.out.2.2; exact isz27; exact zone; (show wpList _ _ _ _ _ (wx.setCells w.heap.size 0 [.int .i64 0, .int .u64 0, .slice none 0 0, .slice none 0 0])); rw [hw9.out]) | fail)
    refine bodyPost_ret (results_ti 2 27 3 (.int .i64 2) rfl KR rfl rfl urw27 isz27) rfl ?_
    exact ⟨_, rfl, KB⟩
  · unfold itv
    obtain ⟨wx, hwx⟩ : ∃ wx, Hid (w1.alloc (.cells #[.int .i64 i.k, .int .u64 (i.n : Int), .slice qd dl cd, .slice ql ml cl] 27) = wx) := ⟨_, rfl⟩
    have hbx : Below w1.heap.size w1 wx := by rw [← hwx.out]; exact alloc_below _ _
    have rx : RowS wx w1.heap.size [.int .i64 i.k, .int .u64 (i.n : Int), .slice qd dl cd, .slice ql ml cl] := by rw [← hwx.out]; exact arow w1 _ _ _ _ _
    have zx : Hid (RowS wx w.heap.size [.int .i64 0, .int .u64 0, .slice none 0 0, .slice none 0 0]) := (hz0.out.below hb1).below hbx
    have Bx : Hid (Below w.heap.size w wx) := (hB0.out.trans (hb1.mono hB0.out.size)).trans (hbx.mono (Nat.le_trans hB0.out.size hb1.size))
    have x0 := rx.cell 0 _ rfl
    have x1 := rx.cell 1 _ rfl
    have x2 := rx.cell 2 _ rfl
    have x3 := rx.cell 3 _ rfl
    have hlx := rx.1
    have hw01 : Hid (w.heap.size < w1.heap.size) := Nat.lt_of_lt_of_le hz0.out.1 hb1.size
    have hMx := hidW (hI.up hbx)
    have hw0s : Hid (w.heap.size < w0.heap.size) := hz0.out.1
    have HY := hidW (And.intro hy hal)
    clear hb1 hbx hy hal hI hc
    by_cases hr : r = []
    rotate_left
    · have hat : ((at' : Int) == (S.size : Int)) = false := by
        have h1 := HY.out.2
        have h3 := List.length_pos_iff.2 hr
        have h4 := hl.out
        simp; omega
      have hn := hidW (rdAll_nn (u := u) hF HX.out.1 HY.out.1 (fun h _ _ => hr h))
      clear x0 x1 x2 x3
      go_upto_region 4 with fail
      rw [hwx.out]
      obtain ⟨w9, hw9⟩ : ∃ w9, Hid (wx.setCells w.heap.size 0 [.int .i64 0, .int .u64 0, .slice none 0 0, .slice none 0 0] = w9) := ⟨_, rfl⟩
      have KB : PbR u w x (.tuple #[itv 0 0 none 0 0 none 0 0, .int .i64 2]) w9 := by rw [← hw9.out]; exact ⟨Bx.out.trans (sc_below _ _ _), Or.inr ⟨hn.out, rfl⟩⟩
      have KR : RowS w9 w.heap.size [.int .i64 0, .int .u64 0, .slice none 0 0, .slice none 0 0] := by rw [← hw9.out]; exact zx.out.scs _ rfl
      go_wp2_with (first | (refine wpList_store_mid rfl 27 _ _ rfl w.heap.size 0 #[.int .i64 0, .int .u64 0, .slice none 0 0, .slice none 0 0] ?_ ?_ ?_ ?_ ?_ ?_; rfl; rfl; exact zx.out.2.2; exact isz27; exact zone; (show wpList _ _ _ _ _ (wx.setCells w.heap.size 0 [.int .i64 0, .int .u64 0, .slice none 0 0, .slice none 0 0])); rw [hw9.out]) | fail)
      refine bodyPost_ret (results_ti 2 27 3 (.int .i64 2) rfl KR rfl rfl urw27 isz27) rfl ?_
      exact ⟨_, rfl, KB⟩
    subst hr
    have hat : ((at' : Int) == (S.size : Int)) = true := by
      have h1 := HY.out.2
      have h4 := hl.out
      rw [List.length_nil] at h1
      simp; omega
    have hcp : Calls Tryd.prog 17 #[.agg #[.int .i64 i.k, .int .u64 (i.n : Int), .slice qd dl cd, .slice ql ml cl]] wx (RetW (RpR u wx i)) := rPrint_c hU i wx qd dl cd ql ml cl (HT.out wx Bx.out) (hMx.out wx fun _ _ _ => rfl)
    go_upto_region 4 with fail
    rw [hwx.out]
    go_wp2_with fail
    refine hcp.mono ?_
    rintro e w2 ⟨v2, rfl, hb2, ⟨hk, rfl⟩ | ⟨hk, rfl⟩⟩
    rotate_left
    · have z2 : Hid (RowS w2 w.heap.size [.int .i64 0, .int .u64 0, .slice none 0 0, .slice none 0 0]) := zx.out.below hb2
      have B2 : Hid (Below w.heap.size w w2) := Bx.out.trans (hb2.mono Bx.out.size)
      have hn := hidW (rdAll_nn (u := u) hF HX.out.1 HY.out.1 (fun _ h _ => hk h))
      clear hb2 hcp x0 x1 x2 x3 hk
      obtain ⟨w9, hw9⟩ : ∃ w9, Hid (w2.setCells w.heap.size 0 [.int .i64 0, .int .u64 0, .slice none 0 0, .slice none 0 0] = w9) := ⟨_, rfl⟩
      have KB : PbR u w x (.tuple #[itv 0 0 none 0 0 none 0 0, .int .i64 2]) w9 := by rw [← hw9.out]; exact ⟨B2.out.trans (sc_below _ _ _), Or.inr ⟨hn.out, rfl⟩⟩
      have KR : RowS w9 w.heap.size [.int .i64 0, .int .u64 0, .slice none 0 0, .slice none 0 0] := by rw [← hw9.out]; exact z2.out.scs _ rfl
      go_wp2_with (first | (refine wpList_store_mid rfl 27 _ _ rfl w.heap.size 0 #[.int .i64 0, .int .u64 0, .slice none 0 0, .slice none 0 0] ?_ ?_ ?_ ?_ ?_ ?_; rfl; rfl; exact z2.out.2.2; exact isz27; exact zone; (show wpList _ _ _ _ _ (w2.setCells w.heap.size 0 [.int .i64 0, .int .u64 0, .slice none 0 0, .slice none 0 0])); rw [hw9.out]) | fail)
      refine bodyPost_ret (results_ti 2 27 3 (.int .i64 2) rfl KR rfl rfl urw27 isz27) rfl ?_
      exact ⟨_, rfl, KB⟩
    · have z2 : Hid (RowS w2 w.heap.size [.int .i64 0, .int .u64 0, .slice none 0 0, .slice none 0 0]) := zx.out.below hb2
      have B2 : Hid (Below w.heap.size w w2) := Bx.out.trans (hb2.mono Bx.out.size)
      obtain ⟨A, hA⟩ : ∃ A, Hid ((⟨(byt i).toArray⟩ : ByteArray) = A) := ⟨_, rfl⟩
      rw [hA.out]
      by_cases he : byt i = x
      rotate_left
      · have hne : (A.toList == S.toList) = false := by
          rw [← hA.out, ByteArray.toList_eq, ByteArray.toList_eq, HX.out.2]
          simpa using he
        have hn := hidW (rdAll_nn (u := u) hF HX.out.1 HY.out.1 (fun _ _ h => he h))
        clear hb2 hcp x0 x1 x2 x3 hk
        obtain ⟨w9, hw9⟩ : ∃ w9, Hid (w2.setCells w.heap.size 0 [.int .i64 0, .int .u64 0, .slice none 0 0, .slice none 0 0] = w9) := ⟨_, rfl⟩
        have KB : PbR u w x (.tuple #[itv 0 0 none 0 0 none 0 0, .int .i64 2]) w9 := by rw [← hw9.out]; exact ⟨B2.out.trans (sc_below _ _ _), Or.inr ⟨hn.out, rfl⟩⟩
        have KR : RowS w9 w.heap.size [.int .i64 0, .int .u64 0, .slice none 0 0, .slice none 0 0] := by rw [← hw9.out]; exact z2.out.scs _ rfl
        go_wp2_with (first | (refine wpList_store_mid rfl 27 _ _ rfl w.heap.size 0 #[.int .i64 0, .int .u64 0, .slice none 0 0, .slice none 0 0] ?_ ?_ ?_ ?_ ?_ ?_; rfl; rfl; exact z2.out.2.2; exact isz27; exact zone; (show wpList _ _ _ _ _ (w2.setCells w.heap.size 0 [.int .i64 0, .int .u64 0, .slice none 0 0, .slice none 0 0])); rw [hw9.out]) | fail)
        refine bodyPost_ret (results_ti 2 27 3 (.int .i64 2) rfl KR rfl rfl urw27 isz27) rfl ?_
        exact ⟨_, rfl, KB⟩
      have hne : (A.toList == S.toList) = true := by
        rw [← hA.out, ByteArray.toList_eq, ByteArray.toList_eq, HX.out.2, he]
        simp
      have hyes := hidW (rdAll_byt (u := u) hk (InM.n64 i _ _ (hMx.out wx fun _ _ _ => rfl)))
      have y0 : w2.cell? ⟨w1.heap.size, 0, none⟩ = some (.int .i64 i.k) := by rw [hb2.cell (p := ⟨w1.heap.size, 0, none⟩) hlx]; exact x0
      have y1 : w2.cell? ⟨w1.heap.size, 1, none⟩ = some (.int .u64 (i.n : Int)) := by rw [hb2.cell (p := ⟨w1.heap.size, 1, none⟩) hlx]; exact x1
      have y2 : w2.cell? ⟨w1.heap.size, 2, none⟩ = some (.slice qd dl cd) := by rw [hb2.cell (p := ⟨w1.heap.size, 2, none⟩) hlx]; exact x2
      have y3 : w2.cell? ⟨w1.heap.size, 3, none⟩ = some (.slice ql ml cl) := by rw [hb2.cell (p := ⟨w1.heap.size, 3, none⟩) hlx]; exact x3
      have hly := World.block_lt_of_cell? _ _ y0
      obtain ⟨w9, hw9⟩ : ∃ w9, Hid (w2.setCells w.heap.size 0 [.int .i64 i.k, .int .u64 (i.n : Int), .slice qd dl cd, .slice ql ml cl] = w9) := ⟨_, rfl⟩
      have KB : Hid (PbR u w x (.tuple #[itv i.k i.n qd dl cd ql ml cl, .int .i64 0]) w9) := by
        rw [← hw9.out]
        refine ⟨B2.out.trans (sc_below _ _ _), Or.inl ⟨i, qd, dl, cd, ql, ml, cl, by rw [← he]; exact hyes.out, rfl, ?_⟩⟩
        have h01 := hw0s.out
        exact ((hMx.out.up hb2).atR (sc_below _ _ _).size (fun g h1 h2 => sc_other _ _ (by omega) _ _ _)).dnR (by omega)
      have KR : RowS w9 w.heap.size [.int .i64 i.k, .int .u64 (i.n : Int), .slice qd dl cd, .slice ql ml cl] := by rw [← hw9.out]; exact z2.out.scs _ rfl
      clear hb2 hcp x0 x1 x2 x3 hk he
      go_wp2_with (first | (refine wpList_store_mid rfl 27 _ _ rfl w.heap.size 0 #[.int .i64 i.k, .int .u64 (i.n : Int), .slice qd dl cd, .slice ql ml cl] ?_ ?_ ?_ ?_ ?_ ?_; rfl; rfl; exact z2.out.2.2; exact isz27; exact four_one _ _ _ _ _ _ _ _; (show wpList _ _ _ _ _ (w2.setCells w.heap.size 0 [.int .i64 i.k, .int .u64 (i.n : Int), .slice qd dl cd, .slice ql ml cl])); rw [hw9.out]) | fail)
      refine bodyPost_ret (results_ti 2 27 3 (.int .i64 0) rfl KR rfl rfl urw27 isz27) rfl ?_
      exact ⟨_, rfl, KB.out⟩
/-- Of a text that is too long. -/
theorem rParse_l (w : World) (S : ByteArray) (hl : 65536 < S.size) : Calls Tryd.prog 10 #[.string S] w (RetW fun e w' => Below w.heap.size w w' ∧ e = .tuple #[itv 0 0 none 0 0 none 0 0, .int .i64 1]) := by
  obtain ⟨w0, hw0⟩ : ∃ wb, Hid (w.alloc (.cells #[.int .i64 0, .int .u64 0, .slice none 0 0, .slice none 0 0] 27) = wb) := ⟨_, rfl⟩
  have hB0 : Hid (Below w.heap.size w w0) := by rw [← hw0.out]; exact alloc_below _ _
  have hz0 : Hid (RowS w0 w.heap.size [.int .i64 0, .int .u64 0, .slice none 0 0, .slice none 0 0]) := by rw [← hw0.out]; exact zrow w
  have g : (65536 : Int) < (S.size : Int) := by omega
  obtain ⟨w9, hw9⟩ : ∃ w9, Hid (w0.setCells w.heap.size 0 [.int .i64 0, .int .u64 0, .slice none 0 0, .slice none 0 0] = w9) := ⟨_, rfl⟩
  have KR : RowS w9 w.heap.size [.int .i64 0, .int .u64 0, .slice none 0 0, .slice none 0 0] := by rw [← hw9.out]; exact hz0.out.scs _ rfl
  have KB : Hid (Below w.heap.size w w9) := by rw [← hw9.out]; exact hB0.out.trans (sc_below _ _ _)
  go_enter Tryd.func10, Tryd.ntmps10
  go_upto_region 1 with fail
  rw [hw0.out]
  go_wp2_with (first | (refine wpList_store_mid rfl 27 _ _ rfl w.heap.size 0 #[.int .i64 0, .int .u64 0, .slice none 0 0, .slice none 0 0] ?_ ?_ ?_ ?_ ?_ ?_; rfl; rfl; exact hz0.out.2.2; exact isz27; exact zone; (show wpList _ _ _ _ _ (w0.setCells w.heap.size 0 [.int .i64 0, .int .u64 0, .slice none 0 0, .slice none 0 0])); rw [hw9.out]) | fail)
  refine bodyPost_ret (results_ti 2 27 3 (.int .i64 1) rfl KR rfl rfl urw27 isz27) rfl ?_
  exact ⟨_, rfl, KB.out, rfl⟩
end WI
end Go.Proofs.YtfkgfcggcfkkiaaDoor
namespace Go.Proofs.YtfkgfcggcfkkiaaDoor.SP
open Go.RowKit
theorem lt64 (x : BitVec 64) : (x.toNat : Int) < 18446744073709551616 := by
  have := x.isLt
  omega
theorem ofInt_toNat64 (x : BitVec 64) : BitVec.ofInt 64 (x.toNat : Int) = x := by
  apply BitVec.eq_of_toNat_eq
  rw [BitVec.ofInt_natCast, BitVec.toNat_ofNat]
  exact Nat.mod_eq_of_lt x.isLt
theorem wrap_u64_toNat (x : BitVec 64) : IntKind.u64.wrap (x.toNat : Int) = x.toNat := by
  rw [IntKind.wrap_u64]
  have := lt64 x
  exact Int.emod_eq_of_lt (by omega) this
/-- A word's number. -/
def u (v : BitVec 64) : Int := (v.toNat : Int)
theorem u_lt (v : BitVec 64) : u v < 18446744073709551616 := lt64 v
theorem u_nonneg (v : BitVec 64) : 0 ≤ u v := Int.natCast_nonneg _
theorem bits_xor64 (a b : BitVec 64) : bits .xor .u64 (u a) (u b) = u (a ^^^ b) := by
  show IntKind.u64.wrap ((BitVec.ofInt 64 (a.toNat : Int) ^^^ BitVec.ofInt 64 (b.toNat : Int)).toNat : Int) = _
  rw [ofInt_toNat64, ofInt_toNat64, wrap_u64_toNat]
  rfl
theorem bits_and64 (a b : BitVec 64) : bits .and .u64 (u a) (u b) = u (a &&& b) := by
  show IntKind.u64.wrap ((BitVec.ofInt 64 (a.toNat : Int) &&& BitVec.ofInt 64 (b.toNat : Int)).toNat : Int) = _
  rw [ofInt_toNat64, ofInt_toNat64, wrap_u64_toNat]
  rfl
theorem bits_or64 (a b : BitVec 64) : bits .or .u64 (u a) (u b) = u (a ||| b) := by
  show IntKind.u64.wrap ((BitVec.ofInt 64 (a.toNat : Int) ||| BitVec.ofInt 64 (b.toNat : Int)).toNat : Int) = _
  rw [ofInt_toNat64, ofInt_toNat64, wrap_u64_toNat]
  rfl
theorem bits_not64 (a : BitVec 64) : bits .xor .u64 IntKind.u64.max (u a) = u (~~~a) := by
  have e : IntKind.u64.max = u (BitVec.allOnes 64) := by decide +kernel
  rw [e, bits_xor64, BitVec.allOnes_xor]
theorem and63 (k : Nat) (hk : k < 64) : bits .and .u64 (k : Int) 63 = k := by
  have h : ∀ j : Fin 64, bits .and .u64 ((j.val : Nat) : Int) 63 = (j.val : Int) := by decide +kernel
  exact h ⟨k, hk⟩
theorem shl64 (x : BitVec 64) (k : Nat) : IntKind.u64.wrap (u x * 2 ^ k) = u (x <<< k) := by
  unfold u
  rw [IntKind.wrap_u64, BitVec.toNat_shiftLeft, Nat.shiftLeft_eq, Int.natCast_emod, Int.natCast_mul, Int.natCast_pow]
  rfl
theorem shr64 (x : BitVec 64) (k : Nat) : u x / 2 ^ k = u (x >>> k) := by
  unfold u
  rw [BitVec.toNat_ushiftRight, Nat.shiftRight_eq_div_pow, Int.natCast_ediv, Int.natCast_pow]
  rfl
def rol (w : BitVec 64) (n : Nat) : BitVec 64 := w <<< n ||| w >>> (64 - n)
abbrev St := Array (BitVec 64)
/-- A word as the model holds it. -/
def enc (v : BitVec 64) : Value := .int .u64 (u v)
def colsum (d : St) (x : Nat) : BitVec 64 := d[x]! ^^^ d[x + 5]! ^^^ d[x + 10]! ^^^ d[x + 15]! ^^^ d[x + 20]!
def sumsTo (d : St) : Nat → St
  | 0 => #[0, 0, 0, 0, 0]
  | k + 1 => (sumsTo d k).setIfInBounds k (colsum d k)
def xorAt (d : St) (i : Nat) (v : BitVec 64) : St := d.setIfInBounds i (d[i]! ^^^ v)
def innerTo (v : BitVec 64) (x : Nat) (d : St) : Nat → St
  | 0 => d
  | m + 1 => xorAt (innerTo v x d m) (x + 5 * m) v
def dcol (s : St) (x : Nat) : BitVec 64 := s[(x + 4) % 5]! ^^^ rol s[(x + 1) % 5]! 1
def thetaTo (s d : St) : Nat → St
  | 0 => d
  | k + 1 => innerTo (dcol s k) k (thetaTo s d k) 5
def theta (d : St) : St := thetaTo (sumsTo d 5) d 5
theorem xorAt_size (d : St) (i : Nat) (v : BitVec 64) : (xorAt d i v).size = d.size := by simp [xorAt]
theorem sumsTo_size (d : St) (k : Nat) : (sumsTo d k).size = 5 := by
  induction k with
  | zero => rfl
  | succ k ih => simp [sumsTo, ih]
theorem innerTo_size (v : BitVec 64) (x : Nat) (d : St) (m : Nat) : (innerTo v x d m).size = d.size := by
  induction m with
  | zero => rfl
  | succ k ih => simp [innerTo, xorAt_size, ih]
theorem thetaTo_size (s d : St) (m : Nat) : (thetaTo s d m).size = d.size := by
  induction m with
  | zero => rfl
  | succ k ih => simp [thetaTo, innerTo_size, ih]
/-- turnAndMove behind t rounds: x, y, what moves, the words. -/
structure Tm where
  x : Nat
  y : Nat
  m : BitVec 64
  d : St
def offs (t : Nat) : Nat := (t + 1) * (t + 2) / 2 % 64
def tmStep (t : Nat) (s : Tm) : Tm :=
  { x := s.y, y := (2 * s.x + 3 * s.y) % 5, m := s.d[s.y + 5 * ((2 * s.x + 3 * s.y) % 5)]!, d := s.d.setIfInBounds (s.y + 5 * ((2 * s.x + 3 * s.y) % 5)) (rol s.m (offs t)) }
def tmTo (d : St) : Nat → Tm
  | 0 => { x := 1, y := 0, m := d[1]!, d := d }
  | t + 1 => tmStep t (tmTo d t)
def rhopi (d : St) : St := (tmTo d 24).d
theorem tmTo_ok (d : St) (hd : d.size = 25) (t : Nat) : (tmTo d t).x < 5 ∧ (tmTo d t).y < 5 ∧ (tmTo d t).d.size = 25 := by
  induction t with
  | zero => exact ⟨show 1 < 5 by decide, show 0 < 5 by decide, hd⟩
  | succ t ih =>
    obtain ⟨h1, h2, h3⟩ := ih
    refine ⟨h2, ?_, ?_⟩
    · show (2 * (tmTo d t).x + 3 * (tmTo d t).y) % 5 < 5
      omega
    · show ((tmTo d t).d.setIfInBounds _ _).size = 25
      rw [Array.size_setIfInBounds, h3]
/-- mixRows: one row, then all of them. -/
def rowAt (d : St) (i : Nat) : St :=
  xorAt (xorAt (xorAt (xorAt (xorAt d i (~~~d[i + 1]! &&& d[i + 2]!)) (i + 1) (~~~d[i + 2]! &&& d[i + 3]!)) (i + 2) (~~~d[i + 3]! &&& d[i + 4]!)) (i + 3) (~~~d[i + 4]! &&& d[i]!)) (i + 4) (~~~d[i]! &&& d[i + 1]!)
def chiTo (d : St) : Nat → St
  | 0 => d
  | k + 1 => rowAt (chiTo d k) (5 * k)
def chi (d : St) : St := chiTo d 5
theorem rowAt_size (d : St) (i : Nat) : (rowAt d i).size = d.size := by simp [rowAt, xorAt_size]
theorem chiTo_size (d : St) (k : Nat) : (chiTo d k).size = d.size := by
  induction k with
  | zero => rfl
  | succ k ih => simp [chiTo, rowAt_size, ih]
end Go.Proofs.YtfkgfcggcfkkiaaDoor.SP
namespace Go.Proofs.YtfkgfcggcfkkiaaDoor.SP
open Go.RowKit Go.Sort
/-- Of all that was there, only the cells off .. off + n - 1 of block b may have turned; no block has gone. -/
structure Only (b off n : Nat) (w w' : World) : Prop where
  os : w'.os = w.os
  tape : w'.tape = w.tape
  output : w'.output = w.output
  size : w.heap.size ≤ w'.heap.size
  block : ∀ k, k < w.heap.size → k ≠ b → w'.heap[k]? = w.heap[k]?
  cell : ∀ o, (o < off ∨ off + n ≤ o) → w'.cell? ⟨b, o, none⟩ = w.cell? ⟨b, o, none⟩
  froz : ∀ o, w'.frozen? ⟨b, o, none⟩ = w.frozen? ⟨b, o, none⟩
variable {b off n : Nat} {w w1 w2 : World}
theorem Only.refl (b off n : Nat) (w : World) : Only b off n w w := ⟨rfl, rfl, rfl, Nat.le_refl _, fun _ _ _ => rfl, fun _ _ => rfl, fun _ => rfl⟩
theorem Only.trans (h : Only b off n w w1) (k : Only b off n w1 w2) : Only b off n w w2 :=
  ⟨k.os.trans h.os, k.tape.trans h.tape, k.output.trans h.output, Nat.le_trans h.size k.size,
    fun i hi hn => (k.block i (Nat.lt_of_lt_of_le hi h.size) hn).trans (h.block i hi hn),
    fun o ho => (k.cell o ho).trans (h.cell o ho), fun o => (k.froz o).trans (h.froz o)⟩
theorem Only.drewN (h : Only b off n w w1) (q : Nat) : Only b off n w (w1.drewN q) := ⟨h.os, h.tape, h.output, h.size, h.block, h.cell, h.froz⟩
theorem Only.drew (h : Only b off n w w1) : Only b off n w w1.drew := ⟨h.os, h.tape, h.output, h.size, h.block, h.cell, h.froz⟩
theorem Only.setCell (h : Only b off n w w1) {o : Nat} (h1 : off ≤ o) (h2 : o < off + n) (v : Value) : Only b off n w (w1.setCell ⟨b, o, none⟩ v) := by
  refine h.trans ⟨rfl, rfl, rfl, by simp, fun k _ hn => Below.heap_setCell _ _ _ _ hn, fun o' ho => ?_, fun o' => by simp⟩
  exact World.cell?_setCell_other _ _ _ _ (by intro e; simp only [Addr.mk.injEq, and_true, true_and] at e; omega)
theorem Only.alloc (h : Only b off n w w1) (hb : b < w1.heap.size) (o : Obj) : Only b off n w (w1.alloc o) := by
  refine h.trans ⟨rfl, rfl, rfl, by simp, fun k hk _ => Below.heap_alloc _ _ _ hk, fun o' _ => ?_, fun o' => ?_⟩
  · exact World.cell?_alloc_lt _ _ _ hb
  · exact World.frozen?_alloc_old _ _ _ (by show b ≠ _; omega)
theorem Only.below (h : Only b off n w w1) {B : Nat} (hB : B ≤ w.heap.size) (hb : B ≤ b) : Below B w w1 :=
  ⟨h.os, h.tape, h.output, h.size, fun k hk => h.block k (by omega) (by omega)⟩
/-- What only makes memory turns nothing of the row. -/
theorem Only.of_below {B : Nat} (h : Below B w w1) (hB : B = w.heap.size) (hb : b < B) : Only b off n w w1 :=
  ⟨h.os, h.tape, h.output, h.size, fun k hk _ => h.block k (by omega), fun o _ => h.cell (p := ⟨b, o, none⟩) hb, fun o => h.frozen (p := ⟨b, o, none⟩) hb⟩
theorem Only.other (h : Only b off n w w1) {c o : Nat} (hc : c ≠ b) (hs : c < w.heap.size) : w1.cell? ⟨c, o, none⟩ = w.cell? ⟨c, o, none⟩ ∧ w1.frozen? ⟨c, o, none⟩ = w.frozen? ⟨c, o, none⟩ :=
  ⟨World.cell?_of_block (w := w) (h.block c hs hc), World.frozen?_of_block (w := w) (h.block c hs hc)⟩
/-- What was done to a block of one's own, just made, turned nothing that was there. -/
theorem Only.fresh {o m : Nat} {x : Obj} (h : Only w.heap.size o m (w.alloc x) w1) : Below w.heap.size w w1 :=
  ((Below.refl _ _).alloc (Nat.le_refl _) x).trans (h.below (by simp) (Nat.le_refl _))
section
variable {α : Type} [Inhabited α] {enc : α → Value} {d : Array α}
theorem Holds.lt (h : Holds enc w b off d) (hd : 0 < d.size) : b < w.heap.size := World.block_lt_of_cell? _ _ (h 0 hd).1
theorem Holds.other {c o : Nat} (h : Holds enc w c o d) (k : Only b off n w w1) (hc : c ≠ b) (hd : 0 < d.size) : Holds enc w1 c o d := by
  intro j hj
  have := h j hj
  have := k.other (o := o + j) hc (Holds.lt h hd)
  rw [this.1, this.2]
  exact h j hj
theorem Holds.same {o : Nat} (h : Holds enc w b o d) (k : Only b off n w w1) (hd : o + d.size ≤ off ∨ off + n ≤ o) : Holds enc w1 b o d := by
  intro j hj
  rw [k.cell _ (by omega), k.froz]
  exact h j hj
theorem Holds.below {B : Nat} (h : Holds enc w b off d) (k : Below B w w1) (hb : b < B) : Holds enc w1 b off d := by
  intro j hj
  rw [k.cell (p := ⟨b, off + j, none⟩) hb, k.frozen (p := ⟨b, off + j, none⟩) hb]
  exact h j hj
theorem Holds.drewN (h : Holds enc w b off d) (q : Nat) : Holds enc (w.drewN q) b off d := h
theorem Holds.drew (h : Holds enc w b off d) : Holds enc w.drew b off d := h
theorem Holds.set (h : Holds enc w b off d) {i : Nat} (hi : i < d.size) (x : α) : Holds enc (w.setCell ⟨b, off + i, none⟩ (enc x)) b off (d.setIfInBounds i x) := by
  intro j hj
  rw [Array.size_setIfInBounds] at hj
  rw [World.frozen?_setCell]
  by_cases e : j = i
  · subst e
    rw [getElem!_set_same d j x hi]
    exact ⟨World.cell?_setCell_same _ _ _ (h j hj).1, (h j hj).2⟩
  · rw [getElem!_set_other d i j x e, World.cell?_setCell_other _ _ _ _ (by intro e'; simp only [Addr.mk.injEq, and_true, true_and] at e'; omega)]
    exact h j hj
/-- A block of one's own, just made. -/
theorem Holds.new (w : World) (t : TypeId) (d : Array α) : Holds enc (w.alloc (.cells (d.map enc) t)) w.heap.size 0 d := by
  intro j hj
  rw [World.cell?_alloc_new, World.frozen?_alloc_new]
  refine ⟨?_, rfl⟩
  simp only [Nat.zero_add, Array.getElem?_map, Array.getElem?_eq_getElem hj, Option.map_some, getElem!_pos d j hj]
/-- A block of one's own, made by 'make'. -/
theorem Holds.made (w : World) (t : TypeId) (n : Nat) (x : α) : Holds enc (w.alloc (.cells (madeCells #[enc x] n) t)) w.heap.size 0 (Array.replicate n x) := by
  intro j hj
  rw [Array.size_replicate] at hj
  rw [World.cell?_alloc_new, World.frozen?_alloc_new]
  refine ⟨?_, rfl⟩
  rw [getElem!_pos _ j (by simpa using hj), Array.getElem_replicate]
  simp [madeCells, hj, Nat.mod_one]
end
theorem Holds.xor {d : St} (h : Holds enc w b off d) {i : Nat} (hi : i < d.size) {x : BitVec 64} (hx : d[i]! = x) (v : BitVec 64) : Holds enc (w.setCell ⟨b, off + i, none⟩ (.int .u64 (u (x ^^^ v)))) b off (xorAt d i v) := by
  unfold xorAt
  rw [hx]
  exact Holds.set h hi (x ^^^ v)
theorem xorAt_other (d : St) (i j : Nat) (v : BitVec 64) (h : j ≠ i) : (xorAt d i v)[j]! = d[j]! := getElem!_set_other d i j _ h
end Go.Proofs.YtfkgfcggcfkkiaaDoor.SP
namespace Go.Proofs.YtfkgfcggcfkkiaaDoor.SP
open Go.RowKit Go.Sort
theorem mixed : Tryd.prog.follows .mixedOrders = true := by kernel_rfl
theorem at_word {w : World} {b off : Nat} {d : St} (h : Holds enc w b off d) (i : Nat) (hi : i < d.size) {x : BitVec 64} (hx : d[i]! = x) :
    w.cell? ⟨b, off + i, none⟩ = some (.int .u64 (u x)) ∧ w.frozen? ⟨b, off + i, none⟩ = false := by
  rw [← hx]; exact h i hi
theorem ret_int {k : IntKind} {a b : Int} (h : a = b) : Ending.returned (.int k a) = .returned (.int k b) := by rw [h]
end Go.Proofs.YtfkgfcggcfkkiaaDoor.SP
namespace Go.Proofs.YtfkgfcggcfkkiaaDoor.SP
open Go.RowKit
/-- The register of the rounds' constants, one step on. -/
def rcReg (r : Nat) : Nat := if 255 < 2 * r then (2 * r) ^^^ 369 else 2 * r
def rcTo (r : Nat) : Nat → BitVec 64 × Nat
  | 0 => (0, r)
  | j + 1 => ((rcTo r j).1 ||| BitVec.ofNat 64 ((rcTo r j).2 % 2) <<< (2 ^ j - 1), rcReg (rcTo r j).2)
theorem rcReg_lt (r : Nat) (h : r < 256) : rcReg r < 256 := by
  have H : ∀ j : Fin 256, rcReg j.val < 256 := by decide +kernel
  exact H ⟨r, h⟩
theorem rcTo_lt (r : Nat) (h : r < 256) (j : Nat) : (rcTo r j).2 < 256 := by
  induction j with
  | zero => exact h
  | succ j ih => exact rcReg_lt _ ih
theorem rc_xor (r : Nat) (h : r < 256) : bits .xor .i64 ((r : Int) * 2) 369 = (((2 * r) ^^^ 369 : Nat) : Int) := by
  have H : ∀ j : Fin 256, bits .xor .i64 ((j.val : Int) * 2) 369 = (((2 * j.val) ^^^ 369 : Nat) : Int) := by decide +kernel
  exact H ⟨r, h⟩
theorem rc_and (r : Nat) (h : r < 256) : bits .and .i64 (r : Int) 1 = u (BitVec.ofNat 64 (r % 2)) := by
  have H : ∀ j : Fin 256, bits .and .i64 (j.val : Int) 1 = u (BitVec.ofNat 64 (j.val % 2)) := by decide +kernel
  exact H ⟨r, h⟩
theorem wrap_u (x : BitVec 64) : IntKind.u64.wrap (u x) = u x := wrap_u64_toNat x
def kround (d : St) (c : BitVec 64) : St := xorAt (chi (rhopi (theta d))) 0 c
/-- A round's constant, and the register as the next round needs it. -/
def rcC (r : Nat) : BitVec 64 := (rcTo r 7).1
def rcN (r : Nat) : Nat := (rcTo r 7).2
theorem rcN_lt (r : Nat) (h : r < 256) : rcN r < 256 := by
  unfold rcN
  exact rcTo_lt r h 7
def rcAt : Nat → Nat
  | 0 => 1
  | k + 1 => rcN (rcAt k)
theorem rcAt_lt (k : Nat) : rcAt k < 256 := by
  induction k with
  | zero => decide
  | succ k ih => exact rcN_lt _ ih
/-- The words behind k rounds. -/
def permTo (d : St) : Nat → St
  | 0 => d
  | k + 1 => kround (permTo d k) (rcC (rcAt k))
def perm (d : St) : St := permTo d 24
theorem theta_size (d : St) : (theta d).size = d.size := thetaTo_size _ _ _
theorem rhopi_size (d : St) (hd : d.size = 25) : (rhopi d).size = 25 := (tmTo_ok d hd 24).2.2
theorem chi_size (d : St) : (chi d).size = d.size := chiTo_size _ _
theorem kround_size (d : St) (c : BitVec 64) (hd : d.size = 25) : (kround d c).size = 25 := by
  unfold kround
  rw [xorAt_size, chi_size, rhopi_size]
  rw [theta_size, hd]
theorem permTo_size (d : St) (hd : d.size = 25) (k : Nat) : (permTo d k).size = 25 := by
  induction k with
  | zero => exact hd
  | succ k ih => exact kround_size _ _ ih
theorem perm_size (d : St) (hd : d.size = 25) : (perm d).size = 25 := permTo_size d hd 24
abbrev Bs := Array UInt8
/-- A byte's number; a byte as the model holds it. -/
def ub (x : UInt8) : Int := (x.toNat : Int)
def encB (x : UInt8) : Value := .int .u8 (ub x)
/-- A byte as a word; a word's lowest byte. -/
def wide (x : UInt8) : BitVec 64 := BitVec.ofNat 64 x.toNat
def low (v : BitVec 64) : UInt8 := UInt8.ofNat v.toNat
theorem ub_lt (x : UInt8) : ub x < 256 := by
  have := x.toNat_lt
  unfold ub
  omega
theorem ub_nonneg (x : UInt8) : 0 ≤ ub x := Int.natCast_nonneg _
theorem wide_ub (x : UInt8) : ub x = u (wide x) := by
  unfold ub u wide
  rw [BitVec.toNat_ofNat, Nat.mod_eq_of_lt]
  have := x.toNat_lt
  omega
theorem wrap_ub (x : UInt8) : IntKind.u64.wrap (ub x) = u (wide x) := by rw [wide_ub, wrap_u]
theorem low_u (v : BitVec 64) : IntKind.u8.wrap (u v) = ub (low v) := by
  have e : IntKind.u8.wrap (u v) = u v % 256 := by simp [IntKind.wrap, IntKind.bits, IntKind.signed]
  rw [e]
  unfold u ub low
  rw [UInt8.toNat_ofNat']
  omega
/-- The word that begins at place o, its first k bytes. -/
def wordTo (bs : Bs) (o : Nat) : Nat → BitVec 64
  | 0 => 0
  | i + 1 => wordTo bs o i ||| wide bs[o + i]! <<< (8 * i)
def wordOf (bs : Bs) (o : Nat) : BitVec 64 := wordTo bs o 8
def mixTo (bs : Bs) (d : St) : Nat → St
  | 0 => d
  | i + 1 => xorAt (mixTo bs d i) i (wordOf bs (8 * i))
theorem mixTo_size (bs : Bs) (d : St) (k : Nat) : (mixTo bs d k).size = d.size := by
  induction k with
  | zero => rfl
  | succ k ih => simp [mixTo, xorAt_size, ih]
def byteOf (d : St) (k : Nat) : UInt8 := low (d[k / 8]! >>> (8 * (k % 8)))
def frontTo (d : St) (n : Nat) : Nat → Bs
  | 0 => Array.replicate n 0
  | k + 1 => (frontTo d n k).setIfInBounds k (byteOf d k)
def front (d : St) (n : Nat) : Bs := frontTo d n n
theorem frontTo_size (d : St) (n k : Nat) : (frontTo d n k).size = n := by
  induction k with
  | zero => simp [frontTo]
  | succ k ih => simp [frontTo, ih]
theorem front_size (d : St) (n : Nat) : (front d n).size = n := frontTo_size d n n
end Go.Proofs.YtfkgfcggcfkkiaaDoor.SP
namespace Go.Proofs.YtfkgfcggcfkkiaaDoor.SP
open Go.RowKit Go.Sort Go.Deep
attribute [local go_sem] bits_xor64 bits_and64 bits_or64 wrap_u wrap_ub
theorem at_byte {w : World} {b off : Nat} {d : Bs} (h : Holds encB w b off d) (i : Nat) (hi : i < d.size) {x : UInt8} (hx : d[i]! = x) :
    w.cell? ⟨b, off + i, none⟩ = some (.int .u8 (ub x)) ∧ w.frozen? ⟨b, off + i, none⟩ = false := by
  rw [← hx]; exact h i hi
theorem slice22 : Tryd.prog.underlying 22 = some (.slice 5) := by kernel_rfl
theorem info5 : (Tryd.prog.info? 5).map (fun i => (i.zero, i.size, i.bytes)) = some (some (.int .u8 0), 1, 1) := by kernel_rfl
theorem encB_zero : encB 0 = .int .u8 0 := rfl
attribute [local go_sem] low_u
end Go.Proofs.YtfkgfcggcfkkiaaDoor.SP
namespace Go.Proofs.YtfkgfcggcfkkiaaDoor.SP
open Go.RowKit Go.Sort
/-- What Lent lays at place i behind the text. -/
def fill (i : Nat) : UInt8 := UInt8.ofNat (i % 251) ^^^ 165
theorem fill_int (i : Nat) : bits .xor .u8 ((i : Int) % 251) 165 = ub (fill i) := by
  have H : ∀ j : Fin 251, bits .xor .u8 (j.val : Int) 165 = ub (UInt8.ofNat j.val ^^^ 165) := by decide +kernel
  have := H ⟨i % 251, Nat.mod_lt _ (by decide)⟩
  simpa [fill] using this
def lentTo (s : ByteArray) : Nat → Bs
  | 0 => s.data ++ Array.replicate 160 0
  | k + 1 => (lentTo s k).setIfInBounds (s.size + k) (fill (s.size + k))
def lent (s : ByteArray) : Bs := lentTo s 160
theorem lentTo_size (s : ByteArray) (k : Nat) : (lentTo s k).size = s.size + 160 := by
  induction k with
  | zero => simp [lentTo]
  | succ k ih => simp [lentTo, ih]
theorem lent_size (s : ByteArray) : (lent s).size = s.size + 160 := lentTo_size s 160
variable {w w1 : World} {b o n : Nat}
theorem heap_setCells (b : Nat) {k : Nat} (hk : k ≠ b) : ∀ (vs : List Value) (p : Nat) (w : World), (w.setCells b p vs).heap[k]? = w.heap[k]?
  | [], _, _ => rfl
  | v :: r, p, w => by rw [World.setCells, heap_setCells b hk r (p + 1) _, Below.heap_setCell _ _ _ _ hk]
theorem Only.setCells (h : Only b o n w w1) (vs : List Value) (p : Nat) (hp : o ≤ p) (hn : p + vs.length ≤ o + n) : Only b o n w (w1.setCells b p vs) := by
  have h0 := below_setCells (B := 0) (b := b) (Nat.zero_le _) vs p w1 (Below.refl 0 w1)
  exact h.trans ⟨h0.os, h0.tape, h0.output, h0.size, fun k _ hk => heap_setCells b hk vs p w1,
    fun q hq => World.cell?_setCells_out b vs p w1 ⟨b, q, none⟩ (fun _ _ => by simp only; omega), fun q => World.frozen?_setCells b vs p w1 _⟩
/-- A row behind 'copy': what was copied stands at its place, all else as it stood. -/
theorem Holds.setCells {bs r : Bs} (h : Holds encB w b o bs) (vs : List Value) (p : Nat) (hr : r.size = bs.size) (hp : p + vs.length ≤ bs.size)
    (h1 : ∀ j (hj : j < vs.length), vs[j] = encB r[p + j]!) (h2 : ∀ j, j < bs.size → j < p ∨ p + vs.length ≤ j → r[j]! = bs[j]!) : Holds encB (w.setCells b (o + p) vs) b o r := by
  intro j hj
  rw [hr] at hj
  rw [World.frozen?_setCells]
  refine ⟨?_, (h j hj).2⟩
  by_cases hin : j < p ∨ p + vs.length ≤ j
  · rw [World.cell?_setCells_out b vs (o + p) w ⟨b, o + j, none⟩ (fun _ _ => by simp only; omega), h2 j hj hin]
    exact (h j hj).1
  · have hj2 : j - p < vs.length := by omega
    have := World.cell?_setCells_in b vs (o + p) w (fun i hi => by
      have := (h (p + i) (by omega)).1
      rw [← Nat.add_assoc] at this
      rw [this]; rfl) (j - p) hj2
    rw [show o + p + (j - p) = o + j by omega] at this
    rw [this, h1 (j - p) hj2, show p + (j - p) = j by omega]
theorem app_front (a r : Bs) (j : Nat) (hj : j < a.size) : (a ++ r)[j]! = a[j] := by
  have h : j < (a ++ r).size := by rw [Array.size_append]; omega
  rw [getElem!_pos (a ++ r) j h, Array.getElem_append_left hj]
theorem app_back (a r : Bs) (j : Nat) (h1 : a.size ≤ j) (h2 : j < a.size + r.size) : (a ++ r)[j]! = r[j - a.size]! := by
  have h : j < (a ++ r).size := by rw [Array.size_append]; omega
  have h3 : j - a.size < r.size := by omega
  rw [getElem!_pos (a ++ r) j h, Array.getElem_append_right h1, getElem!_pos r (j - a.size) h3]
theorem rep_at (n j : Nat) (h : j < n) : (Array.replicate n (0 : UInt8))[j]! = 0 := by
  have h' : j < (Array.replicate n (0 : UInt8)).size := by rw [Array.size_replicate]; exact h
  rw [getElem!_pos (Array.replicate n (0 : UInt8)) j h', Array.getElem_replicate]
theorem lent_front (s : ByteArray) (j : Nat) (hj : j < s.data.size) : (lentTo s 0)[j]! = s.data[j] := app_front _ _ j hj
theorem lent_back (s : ByteArray) (j : Nat) (h1 : s.data.size ≤ j) (h2 : j < s.data.size + 160) : (lentTo s 0)[j]! = 0 := by
  rw [lentTo, app_back _ _ j h1 (by rw [Array.size_replicate]; exact h2), rep_at _ _ (by omega)]
theorem holds_lent0 (s : ByteArray) (n : Nat) (hn : s.size + 160 = n) (h : Holds encB w b 0 (Array.replicate n (0 : UInt8))) :
    Holds encB (w.setCells b 0 (s.data.toList.map fun x => Value.int .u8 (x.toNat : Int))) b 0 (lentTo s 0) := by
  have hl : s.data.size = s.size := rfl
  refine Holds.setCells (o := 0) (p := 0) h _ (by rw [lentTo_size, Array.size_replicate, hn]) (by rw [List.length_map, Array.length_toList, Array.size_replicate]; omega) (fun j hj => ?_) (fun j hj hout => ?_)
  · rw [List.length_map, Array.length_toList] at hj
    rw [Nat.zero_add, lent_front s j hj, List.getElem_map, Array.getElem_toList]
    rfl
  · rw [Array.size_replicate] at hj
    rw [List.length_map, Array.length_toList] at hout
    rw [lent_back s j (by omega) (by omega), rep_at n j hj]
theorem size_of5 (P : Program) (e : TypeId) (h : (P.info? e).map (·.size) = some 1) : ∀ w, (Go.sizeOf e).run P w = .ok 1 w := by
  intro w
  cases hq : P.info? e with
  | none => simp [hq] at h
  | some i =>
    simp [hq] at h
    simp [Go.sizeOf, typeInfo, hq, h]
theorem conv_str (P : Program) (src dst e : TypeId) (hs : P.underlying src = some (.slice e)) (he : P.underlying e = some (.int .u8)) (hd : P.underlying dst = some .string)
    (w : World) (b o n cap : Nat) (bs : Bs) (hB : Holds encB w b o bs) (hn : bs.size = n) : (convert src dst (.slice (some ⟨b, o, none⟩) n cap)).run P w = .ok (.string ⟨bs⟩) w := by
  have h := run_convert_bytes_back (P := P) w src dst e ⟨b, o, none⟩ cap bs.toList hs he hd (fun j hj => by
    have hj' : j < bs.size := by simpa using hj
    have hc := (hB j hj').1
    rw [getElem!_pos bs j hj'] at hc
    have e1 : (⟨b, o, none⟩ : Addr).add j = ⟨b, o + j, none⟩ := by
      unfold Addr.add
      by_cases h0 : j = 0
      · subst h0; rfl
      · rw [if_neg h0]
    rw [e1, hc]
    simp [encB, ub])
  simpa [hn] using h
end Go.Proofs.YtfkgfcggcfkkiaaDoor.SP
