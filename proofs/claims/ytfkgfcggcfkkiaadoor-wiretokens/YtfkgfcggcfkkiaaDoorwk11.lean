import Derived.Test.YtfkgfcggcfkkiaaDoorwk10
set_option linter.unusedVariables false
set_option linter.unusedSimpArgs false
namespace Go.Proofs.YtfkgfcggcfkkiaaDoor
open Go.RowKit Go.Sort Go.Deep
namespace WI
/-- What fromToken gives. -/
def FtR (B : Nat) (t : Tk) (w : World) (e : Value) (w' : World) : Prop := Below w.heap.size w w' ∧ ∃ ql cl, e = itv 5 0 none 0 0 ql 8 cl ∧ ∀ W : World, (∀ k, k < B ∨ w.heap.size ≤ k → k < w'.heap.size → W.heap[k]? = w'.heap[k]?) → InM W w'.heap.size (tkI t) (.slice none 0 0) (.slice ql 8 cl)
/-- The values of a token's item. -/
def tkV (a : Nat) (vk vs vg : Value) : List Value := [.int .i64 0, .int .u64 (a : Int), .slice none 0 0, .slice none 0 0, .int .i64 2, .int .u64 0, vk, .slice none 0 0, .int .i64 2, .int .u64 0, vs, .slice none 0 0, .int .i64 2, .int .u64 0, vg, .slice none 0 0]
theorem inm_n (W : World) (B : Nat) (k : Int) (n : Nat) (hn : n < 18446744073709551616) : InM W B (.mk k n [] []) (.slice none 0 0) (.slice none 0 0) := by
  rw [InM]
  exact ⟨hn, by simp, by simp, ⟨none, 0, rfl, Nat.le_refl _, Or.inl rfl⟩, none, 0, rfl, Or.inl rfl⟩
theorem inm_d {W : World} {B : Nat} {v : Value} {x : List UInt8} (k : Int) (h : PBb W B v x) (hx : x.length ≤ 4611686018427387904) : InM W B (.mk k 0 x []) v (.slice none 0 0) := by
  rw [InM]
  exact ⟨by decide, hx, by simp, h, none, 0, rfl, Or.inl rfl⟩
theorem tkV_at {w : World} {B : Nat} {t : Tk} {vk vs vg : Value} (h : TkM w B t vk vs vg) (j : Nat) (hj : j < 4) : ∃ (it : Itm) (qd : Option Addr) (dl cd : Nat), ((tkV t.a vk vs vg)[j * 4]? = some (.int .i64 it.k) ∧ (tkV t.a vk vs vg)[j * 4 + 1]? = some (.int .u64 (it.n : Int)) ∧ (tkV t.a vk vs vg)[j * 4 + 2]? = some (.slice qd dl cd) ∧ (tkV t.a vk vs vg)[j * 4 + 3]? = some (.slice none 0 0)) ∧ (tkC t).take (2 * (j + 1)) = (tkC t).take (2 * j) ++ [.mk 0 j [] [], it] ∧ ∀ (W : World) (B' : Nat), (∀ k, k < B → W.heap[k]? = w.heap[k]?) → B ≤ B' → InM W B' it (.slice qd dl cd) (.slice none 0 0) := by
  obtain ⟨h1, h2, h3, h4, h5, h6, h7⟩ := h
  obtain ⟨q1, c1, rfl, k1⟩ := h2.form
  obtain ⟨q2, c2, rfl, k2⟩ := h3.form
  obtain ⟨q3, c3, rfl, k3⟩ := h4.form
  obtain rfl | rfl | rfl | rfl : j = 0 ∨ j = 1 ∨ j = 2 ∨ j = 3 := by omega
  · exact ⟨.mk 0 t.a [] [], none, 0, 0, ⟨rfl, rfl, rfl, rfl⟩, rfl, fun W B' _ _ => inm_n W B' 0 t.a h1⟩
  · exact ⟨.mk 2 0 t.ks [], q1, _, c1, ⟨rfl, rfl, rfl, rfl⟩, rfl, fun W B' hW hB => inm_d 2 ((h2.at hW).mono hB) h5⟩
  · exact ⟨.mk 2 0 t.sc [], q2, _, c2, ⟨rfl, rfl, rfl, rfl⟩, rfl, fun W B' hW hB => inm_d 2 ((h3.at hW).mono hB) h6⟩
  · exact ⟨.mk 2 0 t.sg [], q3, _, c3, ⟨rfl, rfl, rfl, rfl⟩, rfl, fun W B' hW hB => inm_d 2 ((h4.at hW).mono hB) h7⟩
theorem ro16 (w : World) (T : TypeId) (vs : List Value) : RowS (w.alloc (.cells vs.toArray T)) w.heap.size vs := by
  have e : (w.alloc (.cells vs.toArray T)).heap[w.heap.size]? = some (.cells vs.toArray T (0, 0)) := Array.getElem?_push_size
  refine ⟨(Array.getElem?_eq_some_iff.1 e).1, al_r w vs _ _ rfl, fun k hk => ?_⟩
  unfold World.cell? World.frozen?
  simp only [e, Nat.zero_add]
  refine ⟨?_, by simp⟩
  simp [hk]
set_option maxHeartbeats 2000000 in
set_option maxRecDepth 20000 in
theorem fromToken_c (t : Tk) (w : World) (B : Nat) (q1 : Option Addr) (n1 c1 : Nat) (q2 : Option Addr) (n2 c2 : Nat) (q3 : Option Addr) (n3 c3 : Nat) (hB : B ≤ w.heap.size) (hM : TkM w B t (.slice q1 n1 c1) (.slice q2 n2 c2) (.slice q3 n3 c3)) : Calls Tryd.prog 49 #[.agg #[.int .u64 (t.a : Int), .slice q1 n1 c1, .slice q2 n2 c2, .slice q3 n3 c3]] w (RetW (FtR B t w)) := by
  obtain ⟨w0, hw0⟩ : ∃ w0, Hid ((w.alloc (.cells #[.int .u64 (t.a : Int), .slice q1 n1 c1, .slice q2 n2 c2, .slice q3 n3 c3] 49)).alloc (.cells #[.int .i64 0, .int .u64 0, .slice none 0 0, .slice none 0 0] 27) = w0) := ⟨_, rfl⟩
  have hs0 : Hid (w0.heap.size = w.heap.size + 2) := by rw [← hw0.out]; show _ = _; rw [World.size_alloc, World.size_alloc]
  have hB0 : Hid (Below w.heap.size w w0) := by rw [← hw0.out]; exact (alloc_below _ _).trans ((alloc_below _ _).mono (by rw [World.size_alloc]; omega))
  have r0 : RowS w0 w.heap.size [.int .u64 (t.a : Int), .slice q1 n1 c1, .slice q2 n2 c2, .slice q3 n3 c3] := by rw [← hw0.out]; exact (arow w _ _ _ _ _).below (alloc_below _ _)
  have z0 : Hid (RowS w0 (w.heap.size + 1) [.int .i64 0, .int .u64 0, .slice none 0 0, .slice none 0 0]) := by
    have := zrow (w.alloc (.cells #[.int .u64 (t.a : Int), .slice q1 n1 c1, .slice q2 n2 c2, .slice q3 n3 c3] 49))
    rw [World.size_alloc, hw0.out] at this
    exact this
  have a0 := r0.cell 0 _ rfl
  have a1 := r0.cell 1 _ rfl
  have a2 := r0.cell 2 _ rfl
  have a3 := r0.cell 3 _ rfl
  have hl0 := r0.1
  obtain ⟨w1, hw1⟩ : ∃ w1, Hid (w0.alloc (.cells #[.int .i64 0, .int .u64 (t.a : Int), .slice none 0 0, .slice none 0 0, .int .i64 2, .int .u64 0, .slice q1 n1 c1, .slice none 0 0, .int .i64 2, .int .u64 0, .slice q2 n2 c2, .slice none 0 0, .int .i64 2, .int .u64 0, .slice q3 n3 c3, .slice none 0 0] 27) = w1) := ⟨_, rfl⟩
  have hb1 : Hid (Below w0.heap.size w0 w1) := by rw [← hw1.out]; exact alloc_below _ _
  have r1 : Hid (RowS w1 w0.heap.size (tkV t.a (.slice q1 n1 c1) (.slice q2 n2 c2) (.slice q3 n3 c3))) := by rw [← hw1.out]; exact ro16 w0 _ (tkV t.a (.slice q1 n1 c1) (.slice q2 n2 c2) (.slice q3 n3 c3))
  obtain ⟨w2, hw2⟩ : ∃ w2, Hid (w1.alloc (.cells #[.int .i64 5, .int .u64 0, .slice none 0 0, .slice none 0 0] 27) = w2) := ⟨_, rfl⟩
  have hb2 : Hid (Below w1.heap.size w1 w2) := by rw [← hw2.out]; exact alloc_below _ _
  have r2 : Hid (RowS w2 w1.heap.size [.int .i64 5, .int .u64 0, .slice none 0 0, .slice none 0 0]) := by rw [← hw2.out]; exact arow w1 _ _ _ _ _
  obtain ⟨P, hP⟩ : ∃ P : Nat → Prop, Hid (P = fun k => k < B ∨ w1.heap.size + 1 ≤ k) := ⟨_, rfl⟩
  have L0 : Hid (LzI P w2 w1.heap.size 5 0 [] (.slice none 0 0) [] w2) := LzI.start r2.out
  have HM := hidW hM
  have hlw1 := r1.out.1
  clear hM r0
  go_enter Tryd.func49, Tryd.ntmps49
  go_upto_region 1 with fail
  rw [hw0.out]
  go_upto_region 2 with fail
  rw [hw1.out]
  go_upto_region 3 with fail
  rw [hw2.out]
  clear a0 a1 a2 a3
  have Bw : Hid (Below w.heap.size w w2) := (hB0.out.trans (hb1.out.mono hB0.out.size)).trans (hb2.out.mono (Nat.le_trans hB0.out.size hb1.out.size))
  have hsz : w.heap.size + 1 < w0.heap.size := by have := hs0.out; omega
  go_wp2
  go_loopg [23] 5 (fun gk s23 wr => ∃ (j : Nat) (v : Value) (cs : List Value), s23 = .int .i64 (j : Int) ∧ gk = 5 - j ∧ j ≤ 4 ∧ LzI P w2 w1.heap.size 5 (2 * j) ((tkC t).take (2 * j)) v cs wr)
  case atStart => exact ⟨0, _, _, rfl, rfl, by omega, L0.out⟩
  case round =>
    obtain ⟨j, v, cs, rfl, hgk, hj4, L⟩ := hrel
    obtain ⟨qv, mv, cv, rfl⟩ := L.sh
    have hPb : Hid (∀ k, w1.heap.size + 1 ≤ k → P k) := by rw [hP.out]; exact fun k hk => Or.inr hk
    by_cases hj : j < 4
    · have hjz : (j : Int) < 4 := by omega
      obtain ⟨it, qd, dl, cd, ⟨e0, e1, e2, e3⟩, htk, hin⟩ := tkV_at HM.out j hj
      have rr := (r1.out.below hb2.out).at L.bl.size (L.bl.block _ hlw1)
      have a0 := rr.cell _ _ e0
      have a1 := rr.cell _ _ e1
      have a2 := rr.cell _ _ e2
      have a3 := rr.cell _ _ e3
      have hlr := rr.1
      have hix := fun X => idxI w0.heap.size 0 4 4 j hj X
      simp only [Nat.zero_add] at hix
      obtain ⟨wx, hwx⟩ : ∃ wx, Hid (wr.alloc (.cells #[.int .i64 it.k, .int .u64 (it.n : Int), .slice qd dl cd, .slice none 0 0] 27) = wx) := ⟨_, rfl⟩
      have hbx : Below wr.heap.size wr wx := by rw [← hwx.out]; exact alloc_below _ _
      have rx : RowS wx wr.heap.size [.int .i64 it.k, .int .u64 (it.n : Int), .slice qd dl cd, .slice none 0 0] := by rw [← hwx.out]; exact arow wr _ _ _ _ _
      have ox := L.row.below hbx
      have hold : ∀ k, k < B → wx.heap[k]? = w.heap[k]? := fun k hk => by
        have h1 := Bw.out.size
        have h2 := hb1.out.size
        rw [hbx.block k (by have := L.bl.size; omega), L.bl.block k (by omega), Bw.out.block k (by omega)]
      have hItm : ∀ W : World, (∀ k, P k → k < wx.heap.size → (Value.slice qv mv cv).ownBlock ≠ some k → W.heap[k]? = wx.heap[k]?) → IC W wx.heap.size [.mk 0 j [] [], it] [.int .i64 0, .int .u64 (j : Int), .slice none 0 0, .slice none 0 0, .int .i64 it.k, .int .u64 (it.n : Int), .slice qd dl cd, .slice none 0 0] := fun W hW => by
        have h3 := L.bl.size
        have h4 := hbx.size
        have h5 := Bw.out.size
        rw [IC]
        refine ⟨_, _, _, rfl, inm_n W _ 0 j (by omega), ?_⟩
        rw [IC]
        refine ⟨_, _, [], rfl, hin W _ (fun k hk => ?_) (by omega), by rw [IC]⟩
        rw [hW k (by rw [hP.out]; exact Or.inl hk) (by omega) (fun he => by have := (L.own.lt k he).1; have := hb1.out.size; omega), hold k hk]
      obtain ⟨q', n', c', W', hap, k1, k2, k3, cs', L2⟩ := L.add (m := 2) hPb.out (by rw [hP.out]; have := hb1.out.size; omega) hbx hItm rfl (by decide) rfl (by omega)
      have HAP : Hid ((Builtin.append_ #[25, 25] 25 #[.slice qv mv cv, .slice (some ⟨wx.heap.size, 0, none⟩) 2 2]).run Tryd.prog (wx.alloc (.cells #[.int .i64 0, .int .u64 (j : Int), .slice none 0 0, .slice none 0 0, .int .i64 it.k, .int .u64 (it.n : Int), .slice qd dl cd, .slice none 0 0] 27)) = .ok (.slice q' n' c') W') := hap
      rw [← htk] at L2
      have L3 : Hid (LzI P w2 w1.heap.size 5 (2 * (j + 1)) ((tkC t).take (2 * (j + 1))) (.slice q' n' c') cs' (W'.setCell ⟨w1.heap.size, 3, none⟩ (.slice q' n' c'))) := L2
      have x0 := rx.cell 0 _ rfl
      have x1 := rx.cell 1 _ rfl
      have x2 := rx.cell 2 _ rfl
      have x3 := rx.cell 3 _ rfl
      have hlx := rx.1
      have o3 := ox.cell 3 _ rfl
      have hlo := ox.1
      clear L2 hap L rr hin hItm hold hbx rx ox htk e0 e1 e2 e3
      go_upto_region 6 with fail
      rw [hwx.out]
      go_wp2_with (at_builtin; refine Lib.wpList_append_run _ rfl _ _ _ _ rfl _ _ rfl rfl _ _ HAP.out ?_)
      go_roundg (5 - (j + 1))
      case measure => omega
      case rel => exact ⟨j + 1, _, _, rfl, rfl, by omega, L3.out⟩
    · have hjz : ¬ (j : Int) < 4 := by omega
      obtain rfl : j = 4 := by omega
      have zr : Hid (RowS wr (w.heap.size + 1) [.int .i64 0, .int .u64 0, .slice none 0 0, .slice none 0 0]) := ((z0.out.below hb1.out).below hb2.out).at L.bl.size (L.bl.block _ (by omega))
      obtain ⟨w9, hw9⟩ : ∃ w9, Hid (wr.setCells (w.heap.size + 1) 0 [.int .i64 5, .int .u64 ((0 : Nat) : Int), .slice none 0 0, .slice qv mv cv] = w9) := ⟨_, rfl⟩
      have h8 : mv = 8 := (L.inm hPb.out rfl (by decide) wr (fun _ _ _ => rfl)).1
      have K9 : Hid (RowS w9 (w.heap.size + 1) [.int .i64 5, .int .u64 ((0 : Nat) : Int), .slice none 0 0, .slice qv mv cv] ∧ FtR B t w (itv 5 0 none 0 0 qv mv cv) w9) := by
        have hs9 := RG.setCells_size (w.heap.size + 1) [.int .i64 5, .int .u64 ((0 : Nat) : Int), .slice none 0 0, .slice qv mv cv] 0 wr
        rw [← hw9.out]
        refine ⟨zr.out.scs _ rfl, (Bw.out.trans (L.bl.mono (by have := hb1.out.size; omega))).trans ((sc_below _ _ _).mono (by omega)), qv, cv, by rw [h8], fun W hW => ?_⟩
        have hh := (L.inm hPb.out rfl (by decide) W (fun k h1 h2 => ?_)).2 5
        · rw [← h8, hs9]; exact hh
        · rw [hP.out] at h1
          have hb1s := hb1.out.size
          rw [hW k (by rcases h1 with h1 | h1 <;> omega) (by omega)]
          exact sc_other _ _ (by rcases h1 with h1 | h1 <;> omega) _ _ _
      have d0 := L.row.cell 0 _ rfl
      have d1 := L.row.cell 1 _ rfl
      have d2 := L.row.cell 2 _ rfl
      have d3 := L.row.cell 3 _ rfl
      have hlp := L.row.1
      clear L h8
      go_wp2_with (first | (refine wpList_store_mid rfl 27 _ _ rfl (w.heap.size + 1) 0 #[.int .i64 5, .int .u64 ((0 : Nat) : Int), .slice none 0 0, .slice qv mv cv] ?_ ?_ ?_ ?_ ?_ ?_; rfl; rfl; exact zr.out.2.2; exact isz27; exact four_one _ _ _ _ _ _ _ _; (show wpList _ _ _ _ _ (wr.setCells (w.heap.size + 1) 0 [.int .i64 5, .int .u64 ((0 : Nat) : Int), .slice none 0 0, .slice qv mv cv])); rw [hw9.out]) | fail)
      refine bodyPost_ret (results_cellI 2 27 rfl K9.out.1 rfl urw27 isz27) rfl ?_
      exact ⟨_, rfl, K9.out.2⟩
end WI
end Go.Proofs.YtfkgfcggcfkkiaaDoor
namespace Go.Proofs.YtfkgfcggcfkkiaaDoor
open Go.RowKit Go.Sort Go.Deep
namespace WI
variable {T : World → Prop} {u : List UInt8 → Bool}
/-- Some items more, out of a row of items in block g. -/
theorem icz_app {P : Nat → Prop} {base j m g : Nat} {wa : World} {v : Value} {l : List Itm} {cs : List Value} {its : List Itm} {news : List Value} (hown : wa.ownsRow base 27 4 v j cs) (hic : ICZ P wa v l cs) (hI : ∀ W : World, (∀ k, P k → k < wa.heap.size → v.ownBlock ≠ some k → W.heap[k]? = wa.heap[k]?) → IC W wa.heap.size its news) (hm : its.length = m) (hm0 : 0 < m) (hca : ∀ j u, news[j]? = some u → wa.cell? ⟨g, 0 + j, none⟩ = some u) (hj : j + m ≤ 100000) (hbase : base ≤ wa.heap.size) :
    ∃ q' n' c' W', (Builtin.append_ #[25, 25] 25 #[v, .slice (some ⟨g, 0, none⟩) m m]).run Tryd.prog wa = .ok (.slice q' n' c') W' ∧ W'.ownsRow base 27 4 (.slice q' n' c') (j + m) (cs ++ news) ∧ ICZ P W' (.slice q' n' c') (l ++ its) (cs ++ news) ∧ wa.heap.size ≤ W'.heap.size ∧ Below base wa W' ∧ ∀ k, k < wa.heap.size → v.ownBlock ≠ some k → W'.heap[k]? = wa.heap[k]? := by
  obtain ⟨ii, hi, he⟩ := Option.map_eq_some_iff.1 infoI
  simp only [Prod.mk.injEq] at he
  obtain ⟨g2, g3, g4⟩ := he
  obtain ⟨z, hz, hz2⟩ := Option.map_eq_some_iff.1 g4
  have hIC := hI wa (fun _ _ _ _ => rfl)
  have hnl : news.length = m * 4 := by rw [hIC.len, hm]
  have hone := hIC.one
  have hvw : ∀ g, v.ownBlock = some g → base ≤ g ∧ g < wa.heap.size := fun g hg => ⟨(hown.lt g hg).1, (hown.lt g hg).2⟩
  obtain ⟨v', W', a1, a2, a3⟩ := it_app (base := base) (W := wa) (v := v) (n := j) (m := m) (c := m) (q := some ⟨g, 0, none⟩) hown hnl (Or.inr ⟨_, _, rfl, hca⟩) hone (by omega) (by omega)
  have hsrc : Src Tryd.prog 4 25 (.slice (some ⟨g, 0, none⟩) m m) m news wa := Src.ofSlice (e' := 27) _ undI ⟨g, 0, none⟩ m m _ hnl (fun j u hj => by rw [addS0]; exact hca j u hj) hone
  have hwh := own_block undI hi hz g2 (by rw [g3]; decide) hown hsrc (by omega) a1
  have hsW : wa.heap.size ≤ W'.heap.size := a3.size
  have hk : ∀ k, k < wa.heap.size → v.ownBlock ≠ some k → W'.heap[k]? = wa.heap[k]? ∧ v'.ownBlock ≠ some k := fun k h2 h3 => by
    refine ⟨a3.block k (by omega) (fun e => h3 e.symm), ?_⟩
    rcases hwh with e | ⟨e, -⟩
    · rw [e]; exact h3
    · rw [e]; intro h'; have := Option.some.inj h'; omega
  obtain ⟨q', n', c', rfl⟩ : ∃ q' n' c', v' = .slice q' n' c' := by
    rcases own_cells a2 with ⟨-, h, -⟩ | ⟨g, cap, h, -⟩
    · exact ⟨_, _, _, h⟩
    · exact ⟨_, _, _, h⟩
  refine ⟨q', n', c', W', a1, a2, fun W hW => ?_, hsW, below_grown (Below.refl _ _) a3 (by omega) (fun k hk => (hvw k hk).1), fun k h1 h2 => (hk k h1 h2).1⟩
  refine IC.app (l := l) (m := its) ?_ ?_
  · exact IC.mono (by omega) (hI W fun k h1 h2 h3 => by
      obtain ⟨e1, e2⟩ := hk k h2 h3
      rw [hW k h1 (by omega) e2, e1])
  · exact IC.mono (by omega) (hic W fun k h1 h2 h3 => by
      obtain ⟨e1, e2⟩ := hk k (by omega) h3
      rw [hW k h1 (by omega) e2, e1])
/-- The item of a token, as long as P's blocks are as they are. -/
def ItG (P : Nat → Prop) (v : Value) (t : Tk) (w : World) (ql : Option Addr) (cl : Nat) : Prop := ∀ W : World, (∀ k, P k → k < w.heap.size → v.ownBlock ≠ some k → W.heap[k]? = w.heap[k]?) → InM W w.heap.size (tkI t) (.slice none 0 0) (.slice ql 8 cl)
theorem ItG.below {P : Nat → Prop} {v : Value} {t : Tk} {w w' : World} {ql : Option Addr} {cl : Nat} (h : ItG P v t w ql cl) (hb : Below w.heap.size w w') : ItG P v t w' ql cl := fun W hW => InM.mono hb.size _ _ _ (h W fun k h1 h2 h3 => (hW k h1 (Nat.lt_of_lt_of_le h2 hb.size) h3).trans (hb.block k h2))
/-- How the loop stands, the item's list being v in its cell and x besides. -/
def LzS (P : Nat → Prop) (w2 : World) (ob : Nat) (kk : Int) (v : Value) (j : Nat) (l : List Itm) (x : Value) (cs : List Value) (w : World) : Prop := Below ob w2 w ∧ RowS w ob [.int .i64 kk, .int .u64 0, .slice none 0 0, v] ∧ w.ownsRow (ob + 1) 27 4 x j cs ∧ ICZ P w x l cs
theorem LzS.below {P : Nat → Prop} {w2 : World} {ob : Nat} {kk : Int} {v : Value} {j : Nat} {l : List Itm} {x : Value} {cs : List Value} {w w' : World} (h : LzS P w2 ob kk v j l x cs w) (hb : Below w.heap.size w w') : LzS P w2 ob kk v j l x cs w' := by
  obtain ⟨h1, h2, h3, h4⟩ := h
  exact ⟨h1.trans (hb.mono (by have := h2.1; omega)), h2.below hb, own_at h3 (fun k hk => hb.block k (h3.lt k hk).2), h4.at hb.size (fun k _ h => hb.block k h)⟩
theorem LzI.to {P : Nat → Prop} {w2 wr : World} {ob : Nat} {kk : Int} {j : Nat} {l : List Itm} {v : Value} {cs : List Value} (L : LzI P w2 ob kk j l v cs wr) : LzS P w2 ob kk v j l v cs wr := ⟨L.bl, L.row, L.own, L.ic⟩
theorem LzS.store {P : Nat → Prop} {w2 w : World} {ob : Nat} {kk : Int} {v : Value} {j : Nat} {l : List Itm} {x : Value} {cs : List Value} (h : LzS P w2 ob kk v j l x cs w) (hPo : ¬ P ob) : LzI P w2 ob kk j l x cs (w.setCell ⟨ob, 3, none⟩ x) := by
  obtain ⟨h1, h2, h3, h4⟩ := h
  exact ⟨h1.setCell (p := ⟨ob, 3, none⟩) (Nat.le_refl _) _, h2.set 3 x (by show 3 < 4; omega), own_at h3 (fun g hg => blk_other _ _ _ _ (by have := (h3.lt g hg).1; show g ≠ ob; omega)), h4.at (by rw [World.size_setCell]; exact Nat.le_refl _) (fun g h5 h6 => blk_other _ _ _ _ (by show g ≠ ob; intro e; subst e; exact hPo h5))⟩
/-- The flow of textOf's region 7. -/
def F7 (P : Nat → Prop) (w2 : World) (ob : Nat) (kk : Int) (j : Nat) (l : List Itm) (v : Value) (cs : List Value) (t : Tk) (tb B : Nat) (tc : List Value) (w0 : World) : RX.Flow where
  R i x w := if i = 3 then ∃ ql cl, x = itv 5 0 none 0 0 ql 8 cl ∧ ItG P v t w ql cl
    else if i = 4 then ∃ g ql cl, x = .slice (some ⟨g, 0, none⟩) 1 1 ∧ w.rangeAt g 0 [.int .i64 5, .int .u64 0, .slice none 0 0, .slice ql 8 cl] ∧ ItG P v t w ql cl
    else if i = 5 then ∃ q' n' c' cs', x = .slice q' n' c' ∧ LzS P w2 ob kk v (j + 1) (l ++ [tkI t]) (.slice q' n' c') cs' w
    else x = ([.pointer (some ⟨ob, 3, none⟩), v, .agg tc.toArray, undef, undef, undef, .pointer (some ⟨ob, 3, none⟩)] : List Value).getD i undef
  B b w := if b = 0 then LzS P w2 ob kk v j l v cs w else RowS w tb tc ∧ (∀ k, k < B → w.heap[k]? = w0.heap[k]?) ∧ w0.heap.size ≤ w.heap.size
  E i w w' := if i = 5 then w.heap.size ≤ w'.heap.size ∧ ∀ k, k < w.heap.size → v.ownBlock ≠ some k → w'.heap[k]? = w.heap[k]? else Below w.heap.size w w'
  kill i := if i = 3 ∨ i = 4 then [5] else []
  killB b := if b = 0 then [5] else []
theorem rng_below {w w' : World} {g : Nat} {cs : List Value} (h : w.rangeAt g 0 cs) (hb : Below w.heap.size w w') : w'.rangeAt g 0 cs := fun t y ht => by
  have := h t y ht
  rw [hb.cell (p := ⟨g, 0 + t, none⟩) (World.block_lt_of_cell? _ _ this)]
  exact this
theorem F7.stab {P : Nat → Prop} {w2 : World} {ob : Nat} {kk : Int} {j : Nat} {l : List Itm} {v : Value} {cs : List Value} {t : Tk} {tb B : Nat} {tc : List Value} {w0 : World} (i m : Nat) (him : i ≠ m) (hk : ((F7 P w2 ob kk j l v cs t tb B tc w0).kill m).contains i = false) (x : Value) (w w' : World) (hE : (F7 P w2 ob kk j l v cs t tb B tc w0).E i w w') (hR : (F7 P w2 ob kk j l v cs t tb B tc w0).R m x w) : (F7 P w2 ob kk j l v cs t tb B tc w0).R m x w' := by
  simp only [F7] at hE hR hk ⊢
  by_cases h3 : m = 3
  · rw [if_pos h3] at hR ⊢
    rw [if_pos (Or.inl h3)] at hk
    rw [if_neg (fun e => by subst e; simp at hk)] at hE
    obtain ⟨ql, cl, e, h⟩ := hR
    exact ⟨ql, cl, e, h.below hE⟩
  rw [if_neg h3] at hR ⊢
  by_cases h4 : m = 4
  · rw [if_pos h4] at hR ⊢
    rw [if_pos (Or.inr h4)] at hk
    rw [if_neg (fun e => by subst e; simp at hk)] at hE
    obtain ⟨g, ql, cl, e, h1, h⟩ := hR
    exact ⟨g, ql, cl, e, rng_below h1 hE, h.below hE⟩
  rw [if_neg h4] at hR ⊢
  by_cases h5 : m = 5
  · rw [if_pos h5] at hR ⊢
    rw [if_neg (by omega)] at hE
    obtain ⟨q', n', c', cs', e, h⟩ := hR
    exact ⟨q', n', c', cs', e, h.below hE⟩
  rw [if_neg h5] at hR ⊢
  exact hR
theorem F7.stabB {P : Nat → Prop} {w2 : World} {ob : Nat} {kk : Int} {j : Nat} {l : List Itm} {v : Value} {cs : List Value} {t : Tk} {tb B : Nat} {tc : List Value} {w0 : World} (hB : B ≤ w0.heap.size) (hv : ∀ g, v.ownBlock = some g → B ≤ g ∧ g ≠ tb) (i b : Nat) (hk : ((F7 P w2 ob kk j l v cs t tb B tc w0).killB b).contains i = false) (w w' : World) (hE : (F7 P w2 ob kk j l v cs t tb B tc w0).E i w w') (hR : (F7 P w2 ob kk j l v cs t tb B tc w0).B b w) : (F7 P w2 ob kk j l v cs t tb B tc w0).B b w' := by
  simp only [F7] at hE hR hk ⊢
  by_cases h0 : b = 0
  · rw [if_pos h0] at hR hk ⊢
    rw [if_neg (fun e => by subst e; simp at hk)] at hE
    exact LzS.below hR hE
  rw [if_neg h0] at hR ⊢
  obtain ⟨h1, h2, h3⟩ := hR
  have hs : w.heap.size ≤ w'.heap.size := by
    by_cases h5 : i = 5
    · rw [if_pos h5] at hE; exact hE.1
    · rw [if_neg h5] at hE; exact hE.size
  have hb : ∀ k, k < w.heap.size → v.ownBlock ≠ some k → w'.heap[k]? = w.heap[k]? := fun k hk1 hk2 => by
    by_cases h5 : i = 5
    · rw [if_pos h5] at hE; exact hE.2 k hk1 hk2
    · rw [if_neg h5] at hE; exact hE.block k hk1
  refine ⟨h1.at hs (hb tb h1.1 (fun e => (hv tb e).2 rfl)), fun k hk1 => ?_, by omega⟩
  rw [hb k (by omega) (fun e => by have := (hv k e).1; omega)]
  exact h2 k hk1
end WI
end Go.Proofs.YtfkgfcggcfkkiaaDoor
namespace Go.Proofs.YtfkgfcggcfkkiaaDoor
open Go.RowKit Go.Sort Go.Deep
namespace WI
variable {T : World → Prop} {u : List UInt8 → Bool}
/-- The text of tokens; whether there is one. -/
def tx (L : List Tk) : List UInt8 := [109, 118, 49] ++ WL.letters (byt (toI L))
def Pok (u : List UInt8 → Bool) (L : List Tk) : Prop := L ≠ [] ∧ L.all tkOk = true ∧ wok u (toI L) 0 0 0
/-- Tokens in memory. -/
def TkL (w : World) (B : Nat) (q : Option Addr) (L : List Tk) : Prop := L = [] ∨ ∃ b o, q = some ⟨b, o, none⟩ ∧ b < B ∧ ∀ j t, L[j]? = some t → ∃ q1 n1 c1 q2 n2 c2 q3 n3 c3, (w.cell? ⟨b, o + j * 4, none⟩ = some (.int .u64 (t.a : Int)) ∧ w.cell? ⟨b, o + j * 4 + 1, none⟩ = some (.slice q1 n1 c1) ∧ w.cell? ⟨b, o + j * 4 + 2, none⟩ = some (.slice q2 n2 c2) ∧ w.cell? ⟨b, o + j * 4 + 3, none⟩ = some (.slice q3 n3 c3)) ∧ TkM w B t (.slice q1 n1 c1) (.slice q2 n2 c2) (.slice q3 n3 c3)
theorem TkL.at {w w' : World} {B : Nat} {q : Option Addr} {L : List Tk} (h : TkL w B q L) (hb : ∀ k, k < B → w'.heap[k]? = w.heap[k]?) : TkL w' B q L := by
  rcases h with h | ⟨b, o, h1, h2, h3⟩
  · exact Or.inl h
  · refine Or.inr ⟨b, o, h1, h2, fun j t hj => ?_⟩
    obtain ⟨q1, n1, c1, q2, n2, c2, q3, n3, c3, ⟨k0, k1, k2, k3⟩, hm⟩ := h3 j t hj
    have hc : ∀ x, w'.cell? ⟨b, x, none⟩ = w.cell? ⟨b, x, none⟩ := fun x => World.cell?_of_block (a := ⟨b, x, none⟩) (hb b h2)
    exact ⟨q1, n1, c1, q2, n2, c2, q3, n3, c3, ⟨by rw [hc]; exact k0, by rw [hc]; exact k1, by rw [hc]; exact k2, by rw [hc]; exact k3⟩, hm.at hb⟩
def TxR (u : List UInt8 → Bool) (L : List Tk) (w : World) (e : Ending) (w' : World) : Prop := Below w.heap.size w w' ∧ ((Pok u L ∧ e = .returned (.string ⟨(tx L).toArray⟩)) ∨ (¬ Pok u L ∧ e = thrown))
theorem idxT (g o m c i : Nat) (hi : i < m) (w : World) : (Instr.indexAt 47 (.slice (some ⟨g, o, none⟩) m c) (.int .i64 (i : Int))).run Tryd.prog w = .ok (.pointer (some ⟨g, o + i * 4, none⟩)) w := by
  have h1 : ¬ (i : Int) < 0 := by omega
  have h2 : (i : Int) < (m : Int) := by omega
  go_simp
theorem TkM.len {w : World} {B : Nat} {t : Tk} {q1 : Option Addr} {n1 c1 : Nat} {q2 : Option Addr} {n2 c2 : Nat} {q3 : Option Addr} {n3 c3 : Nat} (h : TkM w B t (.slice q1 n1 c1) (.slice q2 n2 c2) (.slice q3 n3 c3)) : n1 = t.ks.length ∧ n2 = t.sc.length ∧ n3 = t.sg.length := by
  obtain ⟨-, h2, h3, h4, -⟩ := h
  obtain ⟨q, c, e, -⟩ := h2.form
  obtain ⟨q', c', e', -⟩ := h3.form
  obtain ⟨q'', c'', e'', -⟩ := h4.form
  exact ⟨(by simpa using e : q1 = q ∧ n1 = _ ∧ c1 = c).2.1, (by simpa using e' : q2 = q' ∧ n2 = _ ∧ c2 = c').2.1, (by simpa using e'' : q3 = q'' ∧ n3 = _ ∧ c3 = c'').2.1⟩
set_option maxHeartbeats 4000000 in
set_option maxRecDepth 20000 in
theorem textOf_c (hU : UV T u) (L : List Tk) (hL : L.length ≤ 1000) (w : World) (B : Nat) (q : Option Addr) (c : Nat) (hT : T w) (hB : B ≤ w.heap.size) (h : TkL w B q L) : Calls Tryd.prog 34 #[.slice q L.length c] w (TxR u L w) := by
  obtain ⟨m, hm⟩ : ∃ m, Hid (L.length = m) := ⟨_, rfl⟩
  have hmz : m ≤ 1000 := by rw [← hm.out]; exact hL
  rw [hm.out]
  by_cases h0 : m = 0
  · subst h0
    have KR : Hid (TxR u L w thrown w) := ⟨Below.refl _ _, Or.inr ⟨fun hp => hp.1 (List.length_eq_zero_iff.1 hm.out), rfl⟩⟩
    clear h hT
    go_enter Tryd.func34, Tryd.ntmps34
    go_wp2_with fail
    refine (must_n _).mono ?_
    rintro e w8 ⟨rfl, rfl⟩
    simp only [Exit.inBlock, Exit.then, bodyPost]
    exact ⟨trivial, KR.out⟩
  have g0 : (0 : Int) < (m : Int) := by omega
  obtain ⟨w1, hw1⟩ : ∃ w1, Hid (w.alloc (.cells #[.int .i64 4, .int .u64 0, .slice none 0 0, .slice none 0 0] 27) = w1) := ⟨_, rfl⟩
  have Bw : Hid (Below w.heap.size w w1) := by rw [← hw1.out]; exact alloc_below _ _
  have r1 : RowS w1 w.heap.size [.int .i64 4, .int .u64 0, .slice none 0 0, .slice none 0 0] := by rw [← hw1.out]; exact arow w _ _ _ _ _
  obtain ⟨P, hP⟩ : ∃ P : Nat → Prop, Hid (P = fun k => k < B ∨ w.heap.size + 1 ≤ k) := ⟨_, rfl⟩
  have hPb : Hid (∀ k, w.heap.size + 1 ≤ k → P k) := by rw [hP.out]; exact fun k hk => Or.inr hk
  have hPo : Hid (¬ P w.heap.size) := by show ¬ _; rw [hP.out]; omega
  have L0 : Hid (LzI P w1 w.heap.size 4 0 [] (.slice none 0 0) [] w1) := LzI.start r1
  have h2s := hU.2.1 w hT
  have HT : Hid (∀ X, Below w.heap.size w X → T X) := fun X hX => hU.1 w X hT (fun k hk => hX.block k (by omega))
  have hs1 := Bw.out.size
  have HK := hidW h
  clear h hT r1 hL
  go_enter Tryd.func34, Tryd.ntmps34
  go_wp2_with fail
  rw [show decide (0 < m) = true from decide_eq_true (by omega)]
  refine (must_y _).mono ?_
  rintro e w' ⟨rfl, rfl⟩
  go_upto_region 3 with fail
  rw [hw1.out]
  go_wp2
  go_loopg [13] (m + 1) (fun gk s13 wr => ∃ (j : Nat) (v : Value) (cs : List Value), s13 = .int .i64 (j : Int) ∧ gk = m + 1 - j ∧ j ≤ m ∧ (L.take j).all tkOk = true ∧ LzI P w1 w'.heap.size 4 j ((L.map tkI).take j) v cs wr)
  case atStart => exact ⟨0, _, _, rfl, rfl, by omega, rfl, L0.out⟩
  case round =>
    obtain ⟨j, v, cs, rfl, hgk, hjm, hok, LL⟩ := hrel
    obtain ⟨qv, mv, cv, rfl⟩ := LL.sh
    by_cases hj : j < m
    · have hjz : (j : Int) < (m : Int) := by omega
      obtain ⟨t, ht⟩ : ∃ t, L[j]? = some t := ⟨_, List.getElem?_eq_getElem (by rw [hm.out]; exact hj)⟩
      have hold : ∀ k, k < B → wr.heap[k]? = w'.heap[k]? := fun k hk => by rw [LL.bl.block k (by omega), Bw.out.block k (by omega)]
      rcases HK.out.at hold with hnil | ⟨b, o, rfl, hbB, hcell⟩
      · rw [hnil] at ht; cases ht
      obtain ⟨q1, n1, c1, q2, n2, c2, q3, n3, c3, ⟨a0, a1, a2, a3⟩, hTM⟩ := hcell j t ht
      obtain ⟨hn1, hn2, hn3⟩ := hTM.len
      have hix := fun X => idxT b o m c j hj X
      have hlb := World.block_lt_of_cell? _ _ a0
      obtain ⟨wt, hwt⟩ : ∃ wt, Hid (wr.alloc (.cells #[.int .u64 (t.a : Int), .slice q1 n1 c1, .slice q2 n2 c2, .slice q3 n3 c3] 49) = wt) := ⟨_, rfl⟩
      have hbt : Below wr.heap.size wr wt := by rw [← hwt.out]; exact alloc_below _ _
      have rt : Hid (RowS wt wr.heap.size [.int .u64 (t.a : Int), .slice q1 n1 c1, .slice q2 n2 c2, .slice q3 n3 c3]) := by rw [← hwt.out]; exact arow wr _ _ _ _ _
      have hft : Hid (∀ X, B ≤ X.heap.size → (∀ k, k < B → X.heap[k]? = wt.heap[k]?) → Calls Tryd.prog 49 #[.agg #[.int .u64 (t.a : Int), .slice q1 n1 c1, .slice q2 n2 c2, .slice q3 n3 c3]] X (RetW (FtR B t X))) := fun X hX hk => fromToken_c t X B q1 n1 c1 q2 n2 c2 q3 n3 c3 hX (hTM.at fun k hk2 => by rw [hk k hk2, hbt.block k (by have := LL.bl.size; omega)])
      have Lt : Hid (LzS P w1 w'.heap.size 4 (.slice qv mv cv) j ((L.map tkI).take j) (.slice qv mv cv) cs wt) := LL.to.below hbt
      have hvo : Hid (∀ g, (Value.slice qv mv cv).ownBlock = some g → B ≤ g ∧ g ≠ wr.heap.size ∧ g < wr.heap.size) := fun g hg => by
        have := LL.own.lt g hg
        exact ⟨by omega, by omega, by omega⟩
      have HOK : Hid (tkOk t = false → Pok u L → False) := fun hf hp => by
        have := List.all_eq_true.1 hp.2.1 t (List.mem_of_getElem? ht)
        rw [hf] at this; cases this
      have hlt0 : Hid (w'.heap.size < wr.heap.size) := LL.row.1
      have hwts : Hid (B ≤ wt.heap.size) := by have := LL.bl.size; have := hbt.size; show B ≤ _; omega
      have x0 := rt.out.cell 0 _ rfl
      have x1 := rt.out.cell 1 _ rfl
      have x2 := rt.out.cell 2 _ rfl
      have x3 := rt.out.cell 3 _ rfl
      have hlt := rt.out.1
      have HJ := hidW (And.intro ht hok)
      have HN := hidW (And.intro hn1 (And.intro hn2 hn3))
      clear LL hold hcell hTM hbt ht hok hn1 hn2 hn3
      go_upto_region 6 with fail
      rw [hwt.out]
      clear a0 a1 a2 a3 hlb
      by_cases b1 : n1 = 8
      rotate_left
      · have f1 : ((n1 : Int) == 8) = false := by simp; omega
        have hf : tkOk t = false := by
          rw [tkOk, ← HN.out.1]
          have h : (n1 == 8) = false := by simpa using b1
          rw [h]; rfl
        have KR : Hid (TxR u L w' thrown wt) := ⟨Bw.out.trans (Lt.out.1.mono (by omega)), Or.inr ⟨fun hp => HOK.out hf hp, rfl⟩⟩
        clear hf
        go_wp2_with fail
        refine (must_n _).mono ?_
        rintro e w8 ⟨rfl, rfl⟩
        simp only [Exit.inBlock, Exit.then, bodyPost]
        exact ⟨trivial, KR.out⟩
      have f1 : ((n1 : Int) == 8) = true := by simp; omega
      by_cases b2 : 0 < n2
      rotate_left
      · have f2 : ¬ (0 : Int) < (n2 : Int) := by omega
        have f2' : decide (0 < n2) = false := decide_eq_false b2
        have hf : tkOk t = false := by
          rw [tkOk, ← HN.out.2.1]
          have h : decide (0 < n2) = false := decide_eq_false b2
          rw [h]; simp
        have KR : Hid (TxR u L w' thrown wt) := ⟨Bw.out.trans (Lt.out.1.mono (by omega)), Or.inr ⟨fun hp => HOK.out hf hp, rfl⟩⟩
        clear hf
        go_wp2_with fail
        refine (must_n _).mono ?_
        rintro e w8 ⟨rfl, rfl⟩
        simp only [Exit.inBlock, Exit.then, bodyPost]
        exact ⟨trivial, KR.out⟩
      have f2 : (0 : Int) < (n2 : Int) := by omega
      have f2' : decide (0 < n2) = true := decide_eq_true b2
      have f2'' : 0 < n2 := b2
      by_cases b3 : n2 ≤ 64
      rotate_left
      · have f3 : ¬ (n2 : Int) ≤ 64 := by omega
        have hf : tkOk t = false := by
          rw [tkOk, ← HN.out.2.1]
          have h : decide (n2 ≤ 64) = false := decide_eq_false b3
          rw [h]; simp
        have KR : Hid (TxR u L w' thrown wt) := ⟨Bw.out.trans (Lt.out.1.mono (by omega)), Or.inr ⟨fun hp => HOK.out hf hp, rfl⟩⟩
        clear hf
        go_wp2_with fail
        refine (must_n _).mono ?_
        rintro e w8 ⟨rfl, rfl⟩
        simp only [Exit.inBlock, Exit.then, bodyPost]
        exact ⟨trivial, KR.out⟩
      have f3 : (n2 : Int) ≤ 64 := by omega
      by_cases b4 : n3 = 33
      rotate_left
      · have f4 : ((n3 : Int) == 33) = false := by simp; omega
        have hf : tkOk t = false := by
          rw [tkOk, ← HN.out.2.2]
          have h : (n3 == 33) = false := by simpa using b4
          rw [h]; simp
        have KR : Hid (TxR u L w' thrown wt) := ⟨Bw.out.trans (Lt.out.1.mono (by omega)), Or.inr ⟨fun hp => HOK.out hf hp, rfl⟩⟩
        clear hf
        go_wp2_with fail
        refine (must_n _).mono ?_
        rintro e w8 ⟨rfl, rfl⟩
        simp only [Exit.inBlock, Exit.then, bodyPost]
        exact ⟨trivial, KR.out⟩
      have f4 : ((n3 : Int) == 33) = true := by simp; omega
      have HY : Hid (tkOk t = true) := by
        show _ = _
        obtain ⟨e1, e2, e3⟩ := HN.out
        rw [tkOk, ← e1, ← e2, ← e3, b1, b4]
        simp [b2, b3]
      clear b1 b2 b3 b4
      go_upto_region 7 with (first | (go_at_call 43; refine (must_y _).mono ?_; rintro e wt ⟨rfl, rfl⟩) | fail)
      have hdw : Hid (Below wt.heap.size wt wt.drew) := ⟨rfl, rfl, rfl, Nat.le_refl _, fun _ _ => rfl⟩
      have hlws : Hid (w'.heap.size < wr.heap.size ∧ wr.heap.size < wt.heap.size) := ⟨hlt0.out, hlt⟩
      refine RX.flow_last (F7 P w1 w'.heap.size 4 j ((L.map tkI).take j) (.slice qv mv cv) cs t wr.heap.size B [.int .u64 (t.a : Int), .slice q1 n1 c1, .slice q2 n2 c2, .slice q3 n3 c3] wt) 7 rfl (by kernel_rfl) (by kernel_rfl) ⟨by kernel_rfl, RX.certs_but ?_, fun i m _ _ him hk _ v x y hE hR => F7.stab i m him hk v x y hE hR, fun i b _ hk x y hE hB => F7.stabB hwts.out (fun g hg => ⟨(hvo.out g hg).1, (hvo.out g hg).2.1⟩) i b hk x y hE hB⟩ (fun b => ?_) ?_
      · refine ⟨RX.cf_manyT fun a X hp => ⟨[(3, .pointer (some ⟨w'.heap.size, 0, none⟩))], .pointer (some ⟨w'.heap.size, 3, none⟩), X, ⟨hp.o 3 (by kernel_rfl), trivial⟩, by kernel_rfl, Below.refl _ _, rfl⟩,
          RX.cf_ld1T 25 40 rfl (by kernel_rfl) fun a X hp => ⟨⟨w'.heap.size, 3, none⟩, .slice qv mv cv, hp.n 0 40 (by kernel_rfl) (by kernel_rfl) (by kernel_rfl), (hp.b 0 (by kernel_rfl) : LzS P w1 w'.heap.size 4 (.slice qv mv cv) j ((L.map tkI).take j) (.slice qv mv cv) cs X).2.1.cell 3 _ rfl, Below.refl _ _, rfl⟩,
          RX.cf_load 49 5 rfl (by kernel_rfl) fun a X hp => ⟨wr.heap.size, 0, [.int .u64 (t.a : Int), .slice q1 n1 c1, .slice q2 n2 c2, .slice q3 n3 c3], hp.o 5 (by kernel_rfl), (hp.b 1 (by kernel_rfl) : RowS X wr.heap.size _ ∧ _).1.2.1, by kernel_rfl, Below.refl _ _, rfl⟩,
          RX.cf_callsT fun a X hp => ⟨[(42, .agg #[.int .u64 (t.a : Int), .slice q1 n1 c1, .slice q2 n2 c2, .slice q3 n3 c3])], 49, #[.agg #[.int .u64 (t.a : Int), .slice q1 n1 c1, .slice q2 n2 c2, .slice q3 n3 c3]], ⟨hp.n 2 42 (by kernel_rfl) (by kernel_rfl) (by kernel_rfl), trivial⟩, by kernel_rfl, ?_⟩,
          RX.cf_manyT fun a X hp => by
            obtain ⟨ql, cl, e, hI⟩ : ∃ ql cl, a.eval (.tmp 43) = itv 5 0 none 0 0 ql 8 cl ∧ ItG P (.slice qv mv cv) t X ql cl := hp.n 3 43 (by kernel_rfl) (by kernel_rfl) (by kernel_rfl)
            exact ⟨[(43, itv 5 0 none 0 0 ql 8 cl)], .slice (some ⟨X.heap.size, 0, none⟩) 1 1, X.alloc (.cells #[.int .i64 5, .int .u64 ((0 : Nat) : Int), .slice none 0 0, .slice ql 8 cl] 27), ⟨e, trivial⟩, by kernel_rfl, alloc_below _ _, ⟨X.heap.size, ql, cl, rfl, al_r X [.int .i64 5, .int .u64 ((0 : Nat) : Int), .slice none 0 0, .slice ql 8 cl] _ _ rfl, hI.below (alloc_below _ _)⟩⟩,
          RX.cf_app 41 44 25 rfl fun a X hp => by
            have e1 : a.eval (.tmp 41) = .slice qv mv cv := hp.n 1 41 (by kernel_rfl) (by kernel_rfl) (by kernel_rfl)
            obtain ⟨g, ql, cl, e4, hr, hI⟩ : ∃ g ql cl, a.eval (.tmp 44) = .slice (some ⟨g, 0, none⟩) 1 1 ∧ X.rangeAt g 0 [.int .i64 5, .int .u64 0, .slice none 0 0, .slice ql 8 cl] ∧ ItG P (.slice qv mv cv) t X ql cl := hp.n 4 44 (by kernel_rfl) (by kernel_rfl) (by kernel_rfl)
            have hB0 : LzS P w1 w'.heap.size 4 (.slice qv mv cv) j ((L.map tkI).take j) (.slice qv mv cv) cs X := hp.b 0 (by kernel_rfl)
            have hob := hB0.2.1.1
            obtain ⟨q', n', c', W', k1, k2, k3, k4, k5, k6⟩ := icz_app (P := P) (g := g) (m := 1) (its := [tkI t]) (news := [.int .i64 5, .int .u64 0, .slice none 0 0, .slice ql 8 cl]) hB0.2.2.1 hB0.2.2.2 (fun W hW => by
              rw [IC]
              exact ⟨_, _, [], rfl, hI W hW, by rw [IC]⟩) rfl (by decide) (fun j u hj => hr j u hj) (by omega) (by omega)
            rw [e1, e4]
            exact ⟨_, W', k1, ⟨k4, k6⟩, ⟨q', n', c', _, rfl, hB0.1.trans (k5.mono (by omega)), hB0.2.1.at k4 (k5.block _ (by omega)), k2, k3⟩⟩,
          RX.cf_manyT fun a X hp => ⟨[(3, .pointer (some ⟨w'.heap.size, 0, none⟩))], .pointer (some ⟨w'.heap.size, 3, none⟩), X, ⟨hp.o 3 (by kernel_rfl), trivial⟩, by kernel_rfl, Below.refl _ _, rfl⟩, trivial⟩
        have hX : RowS X wr.heap.size _ ∧ (∀ k, k < B → X.heap[k]? = wt.heap[k]?) ∧ wt.heap.size ≤ X.heap.size := hp.b 1 (by kernel_rfl)
        refine (hft.out X (by have := hwts.out; omega) hX.2.1).mono ?_
        rintro e y ⟨v, rfl, hb, ql, cl, rfl, hI⟩
        refine Or.inl ⟨_, rfl, hb, ql, cl, rfl, fun W hW => hI W fun k h1 h2 => hW k ?_ h2 (fun he => ?_)⟩
        · rcases h1 with h1 | h1
          · rw [hP.out]; exact Or.inl h1
          · exact hPb.out k (by have := hlws.out; omega)
        · have h9 := hvo.out k he
          have := hlws.out
          rcases h1 with h1 | h1 <;> omega
      · by_cases hb : b = 0
        · subst hb
          exact Lt.out.below hdw.out
        · simp only [F7, if_neg hb]
          exact ⟨rt.out.below hdw.out, fun _ _ => rfl, Nat.le_refl _⟩
      · intro V wx hV hB
        have e0 : V 0 = .pointer (some ⟨w'.heap.size, 3, none⟩) := hV 0 (by omega) rfl
        have e1 : V 1 = .slice qv mv cv := hV 1 (by omega) rfl
        have e2 : V 2 = .agg #[.int .u64 (t.a : Int), .slice q1 n1 c1, .slice q2 n2 c2, .slice q3 n3 c3] := hV 2 (by omega) rfl
        obtain ⟨v3, e3⟩ : ∃ v3, V 3 = v3 := ⟨_, rfl⟩
        obtain ⟨v4, e4⟩ : ∃ v4, V 4 = v4 := ⟨_, rfl⟩
        obtain ⟨q', n', c', cs', e5, hLz⟩ : ∃ q' n' c' cs', V 5 = .slice q' n' c' ∧ LzS P w1 w'.heap.size 4 (.slice qv mv cv) (j + 1) ((L.map tkI).take j ++ [tkI t]) (.slice q' n' c') cs' wx := hV 5 (by omega) rfl
        have e6 : V 6 = .pointer (some ⟨w'.heap.size, 3, none⟩) := hV 6 (by omega) rfl
        have o3 := hLz.2.1.cell 3 _ rfl
        have p3 := hLz.2.1.free 3 (by show 3 < 4; omega)
        have hlo := hLz.2.1.1
        have htk : (L.map tkI).take (j + 1) = (L.map tkI).take j ++ [tkI t] := take_s _ _ _ (by rw [List.getElem?_map, HJ.out.1]; rfl)
        have L3 : Hid ((L.take (j + 1)).all tkOk = true ∧ LzI P w1 w'.heap.size 4 (j + 1) ((L.map tkI).take (j + 1)) (.slice q' n' c') cs' (wx.setCell ⟨w'.heap.size, 3, none⟩ (.slice q' n' c'))) := by
          refine ⟨?_, by rw [htk]; exact hLz.store hPo.out⟩
          rw [take_s L j t HJ.out.1, List.all_append, HJ.out.2]
          simp [HY.out]
        clear hV hB hLz htk
        dsimp only [RX.putV, Nat.reduceAdd, List.drop, List.take]
        simp only [Act.put, List.setIfInBounds_toArray, List.set_cons_succ, List.set_cons_zero]
        rw [e0, e1, e2, e3, e4, e5, e6]
        clear e0 e1 e2 e3 e4 e5 e6
        go_wp2
        go_roundg (m + 1 - (j + 1))
        case measure => omega
        case rel => exact ⟨j + 1, _, _, rfl, rfl, by omega, L3.out⟩
    · have hjz : ¬ (j : Int) < (m : Int) := by omega
      obtain rfl : j = m := by omega
      have hmap : (L.map tkI).take j = L.map tkI := List.take_of_length_le (by rw [List.length_map, hm.out]; exact Nat.le_refl _)
      have hLt : L.take j = L := List.take_of_length_le (by rw [hm.out]; exact Nat.le_refl _)
      rw [hmap] at LL
      rw [hLt] at hok
      obtain ⟨hml, hin⟩ := LL.inm hPb.out (by rw [List.length_map, hm.out]) (by omega) wr (fun _ _ _ => rfl)
      have Br : Hid (Below w'.heap.size w' wr) := Bw.out.trans LL.bl
      have hc : Calls Tryd.prog 29 #[.agg #[.int .i64 4, .int .u64 ((0 : Nat) : Int), .slice none 0 0, .slice qv mv cv]] wr (WtR u wr (toI L)) := written_c hU (toI L) none 0 0 qv mv cv wr (HT.out wr Br.out) (hin 4)
      have d0 := LL.row.cell 0 _ rfl
      have d1 := LL.row.cell 1 _ rfl
      have d2 := LL.row.cell 2 _ rfl
      have d3 := LL.row.cell 3 _ rfl
      have hlp := LL.row.1
      have HO := hidW hok
      clear LL hin hml hmap hLt hok
      go_wp2_with fail
      refine hc.mono ?_
      rintro e w5 ⟨hb5, ⟨hn, rfl⟩ | ⟨hy, q5, m5, c5, rfl, how⟩⟩
      · have KR : Hid (TxR u L w' thrown w5) := ⟨Br.out.trans (hb5.mono Br.out.size), Or.inr ⟨fun hp => hn hp.2.2, rfl⟩⟩
        clear hb5 hn hc
        simp only [thrown, Exit.inBlock, Exit.then, bodyPost]
        exact ⟨trivial, KR.out⟩
      · have hbl : (byt (toI L)).length ≤ 65536 := by have := hy.2.2.2; omega
        have hle := lettersOf_c (.slice q5 m5 c5) (byt (toI L)) (by omega) w5 (own_pb how)
        have hll : (WL.letters (byt (toI L))).length ≤ 200000 := by rw [WL.letters_len]; unfold WL.nl; omega
        obtain ⟨S, hS⟩ : ∃ S, Hid ((⟨(WL.letters (byt (toI L))).toArray⟩ : ByteArray) = S) := ⟨_, rfl⟩
        obtain ⟨Z, hZ⟩ : ∃ Z, Hid ((⟨(tx L).toArray⟩ : ByteArray) = Z) := ⟨_, rfl⟩
        have hsz : 3 + S.size ≤ 9223372036854775807 := cat_sz [109, 118, 49] (WL.letters (byt (toI L))) (X := { data := #[109, 118, 49] }) rfl hS.out.symm (by simp; omega)
        have hZe : Hid (({ data := #[109, 118, 49] } : ByteArray) ++ S = Z) := (cat_eq [109, 118, 49] (WL.letters (byt (toI L))) (tx L) (X := { data := #[109, 118, 49] }) rfl hS.out.symm rfl).trans hZ.out
        rw [hS.out] at hle
        have KB : Hid (∀ X, Below w5.heap.size w5 X → TxR u L w' (.returned (.string Z)) X) := fun X hX => ⟨(Br.out.trans (hb5.mono Br.out.size)).trans (hX.mono (Nat.le_trans Br.out.size hb5.size)), Or.inl ⟨⟨fun h => by rw [h] at hm; have := hm.out; simp at this; omega, HO.out, hy⟩, by rw [hZ.out]⟩⟩
        clear how hbl hll hc hb5 hy
        go_wp2_with fail
        refine hle.mono ?_
        rintro e w6 ⟨v6, rfl, hb6, rfl⟩
        have KC := hidW (KB.out w6 hb6)
        clear hle hb6 KB
        go_wp2
        first | (rw [hZe.out]) | skip
        go_ret
        first | exact KC.out | (rw [hZe.out]; exact KC.out)
end WI
end Go.Proofs.YtfkgfcggcfkkiaaDoor
namespace Go.Proofs.YtfkgfcggcfkkiaaDoor
open Go.RowKit Go.Sort Go.Deep
namespace WI
variable {T : World → Prop} {u : List UInt8 → Bool}
theorem catch_pS (p : Addr) (x : Int) (u : TypeId) (pv : Value) (older : List PanicEntry) (w : World) (hc : w.cell? p = some (.int .i64 x)) (hz : w.frozen? p = false) :
    CallsD Tryd.prog 48 #[.pointer (some p)] (.panicking ({ v := .iface u pv, recovered := false } :: older)) w fun e u' w' =>
      e = .returned (.tuple #[]) ∧ u' = .panicking ({ v := .iface u pv, recovered := true } :: older) ∧ w' = w.setCell p (.int .i64 2) := by
  refine callsD_of_wpS Tryd.func48 rfl fun c₀ cs hu => ?_
  apply wpS_seq
  apply wpS_region
  simp [wpOpsS, go_sem, recoverD, hu, Tryd.ntmps48, Exit.thenS]
  refine wpS_cond (t := true) (by simp [Act.eval, Array.replicate]) ?_
  simp only [if_true]
  apply wpS_region
  simp [wpOpsS, go_sem, hc, hz, bodyPostS, results, Tryd.results48]
theorem catch_iS (p : Addr) (w : World) :
    CallsD Tryd.prog 48 #[.pointer (some p)] .returning w fun e u' w' => e = .returned (.tuple #[]) ∧ u' = .returning ∧ w' = w := by
  refine callsD_of_wpS Tryd.func48 rfl fun c₀ cs hu => ?_
  apply wpS_seq
  apply wpS_region
  simp [wpOpsS, go_sem, recoverD, hu, Tryd.ntmps48, Exit.thenS]
  refine wpS_cond (t := false) (by simp [Act.eval, Array.replicate]) ?_
  simp only [Bool.false_eq_true, if_false]
  refine wpS_of_wp (wp_skip ?_)
  cases c₀
  simp_all [bodyPostS, results, Tryd.results48]
theorem put1_c (hU : UV T u) (L : List Tk) (hL : L.length ≤ 1000) (w : World) (B bx : Nat) (q : Option Addr) (c : Nat) (hT : T w) (hB : B ≤ w.heap.size) (h : TkL w B q L) (hbx : w.cell? ⟨bx, 0, none⟩ = some (.slice q L.length c)) : Calls Tryd.prog 33 #[.pointer (some ⟨bx, 0, none⟩)] w (TxR u L w) := by
  have hc := textOf_c hU L hL w B q c hT hB h
  have hlt := World.block_lt_of_cell? _ _ hbx
  obtain ⟨Z, hZ⟩ : ∃ Z, Hid ((⟨(tx L).toArray⟩ : ByteArray) = Z) := ⟨_, rfl⟩
  clear h hT
  go_enter Tryd.func33, Tryd.ntmps33
  go_wp2_with fail
  refine hc.mono ?_
  rintro e w1 h1
  have KR := hidW h1
  rcases h1.2 with ⟨hp, rfl⟩ | ⟨hp, rfl⟩
  · rw [hZ.out] at KR ⊢
    clear h1 hc hp
    go_wp2
    go_ret
    exact KR.out
  · clear h1 hc hp
    simp only [thrown, Exit.inBlock, Exit.then, bodyPost]
    exact ⟨trivial, KR.out⟩
/-- What PutTokens answers. -/
def PtR (u : List UInt8 → Bool) (L : List Tk) (w : World) (e : Value) (w' : World) : Prop := Below w.heap.size w w' ∧ ((Pok u L ∧ e = .tuple #[.string ⟨(tx L).toArray⟩, .int .i64 0]) ∨ (¬ Pok u L ∧ e = .tuple #[.string ⟨#[]⟩, .int .i64 2]))
set_option maxHeartbeats 1000000 in
theorem caughtS_c (hU : UV T u) (L : List Tk) (hL : L.length ≤ 1000) (w : World) (B bx : Nat) (q : Option Addr) (c : Nat) (hT : T w) (hB : B ≤ w.heap.size) (h : TkL w B q L) (hbx : w.cell? ⟨bx, 0, none⟩ = some (.slice q L.length c)) : Calls Tryd.prog 32 #[.func (.func 33) #[] #[.pointer (some ⟨bx, 0, none⟩)]] w (RetW (PtR u L w)) := by
  have hmf : ∀ (fn : Fn) (first cap : Array Value) (w : World), (Instr.makeFunc fn first cap).run Tryd.prog w = .ok (.func fn first cap) w := fun _ _ _ _ => rfl
  have hb0 : Below w.heap.size w (w.alloc (.cells #[.int .i64 0] 28)) := alloc_below _ _
  have h2 := hU.2.1 w hT
  have hlt0 := World.block_lt_of_cell? _ _ hbx
  have hF := put1_c hU L hL (w.alloc (.cells #[.int .i64 0] 28)) B bx q c (hU.1 w _ hT (fun k hk => hb0.block k (by omega))) (Nat.le_trans hB hb0.size) (h.at fun k hk => hb0.block k (by omega)) (by rw [hb0.cell (p := ⟨bx, 0, none⟩) hlt0]; exact hbx)
  have hs1 : (w.alloc (.cells #[.int .i64 0] 28)).heap.size = w.heap.size + 1 := World.size_alloc _ _
  have c0 : (w.alloc (.cells #[.int .i64 0] 28)).cell? ⟨w.heap.size, 0, none⟩ = some (.int .i64 0) := by simp
  have z0 : (w.alloc (.cells #[.int .i64 0] 28)).frozen? ⟨w.heap.size, 0, none⟩ = false := by simp
  obtain ⟨Z, hZ⟩ : ∃ Z, Hid ((⟨(tx L).toArray⟩ : ByteArray) = Z) := ⟨_, rfl⟩
  clear hT h hbx h2
  go_enter_defers Tryd.func32, Tryd.ntmps32
  go_wp2_with fail
  refine hF.mono ?_
  rintro e w2 ⟨hb, hw⟩
  have hlt : w.heap.size < (w.alloc (.cells #[.int .i64 0] 28)).heap.size := by omega
  have c2 : w2.cell? ⟨w.heap.size, 0, none⟩ = some (.int .i64 0) := by rw [hb.cell (p := ⟨w.heap.size, 0, none⟩) hlt]; exact c0
  have z2 : w2.frozen? ⟨w.heap.size, 0, none⟩ = false := by rw [World.frozen?_of_block (a := ⟨w.heap.size, 0, none⟩) (hb.block w.heap.size hlt)]; exact z0
  rcases hw with ⟨hn, rfl⟩ | ⟨hn, rfl⟩
  · have KF : Hid (PtR u L w (.tuple #[.string Z, .int .i64 0]) (w2.setCell ⟨w.heap.size, 0, none⟩ (.int .i64 0))) := ⟨(hb0.trans (hb.mono (by omega))).setCell (p := ⟨w.heap.size, 0, none⟩) (Nat.le_refl _) _, Or.inl ⟨hn, by rw [hZ.out]⟩⟩
    have c3 : (w2.setCell ⟨w.heap.size, 0, none⟩ (.int .i64 0)).cell? ⟨w.heap.size, 0, none⟩ = some (.int .i64 0) := World.cell?_setCell_same _ _ _ c2
    rw [hZ.out]
    clear hF hb hn hb0 c0 z0
    go_wp2
    refine leaves_cons (f := 48) (args := #[.pointer (some ⟨w.heap.size, 0, none⟩)]) (by simp) (by simp [go_sem]) ?_
    refine (catch_iS ⟨w.heap.size, 0, none⟩ _).mono ?_
    rintro e u' w'' ⟨rfl, rfl, rfl⟩
    simp [Leaves, settle, results, Tryd.results32, go_sem, c3]
    exact ⟨_, rfl, KF.out⟩
  · have KF : Hid (PtR u L w (.tuple #[.string ⟨#[]⟩, .int .i64 2]) (w2.setCell ⟨w.heap.size, 0, none⟩ (.int .i64 2))) := ⟨(hb0.trans (hb.mono (by omega))).setCell (p := ⟨w.heap.size, 0, none⟩) (Nat.le_refl _) _, Or.inr ⟨hn, rfl⟩⟩
    have c3 : (w2.setCell ⟨w.heap.size, 0, none⟩ (.int .i64 2)).cell? ⟨w.heap.size, 0, none⟩ = some (.int .i64 2) := World.cell?_setCell_same _ _ _ c2
    clear hF hb hn hb0 c0 z0
    show bodyPostD _ _ _ _ _ _
    refine leaves_cons (f := 48) (args := #[.pointer (some ⟨w.heap.size, 0, none⟩)]) (by simp) (by simp [go_sem]) ?_
    refine (catch_pS ⟨w.heap.size, 0, none⟩ 0 28 _ [] _ c2 z2).mono ?_
    rintro e u' w'' ⟨rfl, rfl, rfl⟩
    simp [Leaves, settle, results, Tryd.results32, go_sem, c3]
    exact ⟨_, rfl, KF.out⟩
/-- What it answers, of any number of tokens. -/
def putT (L : List Tk) (ok : Prop) (e : Value) : Prop := (64 < L.length ∧ e = .tuple #[.string ⟨#[]⟩, .int .i64 1]) ∨ (L.length ≤ 64 ∧ ((ok ∧ e = .tuple #[.string ⟨(tx L).toArray⟩, .int .i64 0]) ∨ (¬ ok ∧ e = .tuple #[.string ⟨#[]⟩, .int .i64 2])))
/-- THE PROGRAM'S PutTokens. -/
theorem PutTokens_c (hU : UV T u) (L : List Tk) (hL : L.length ≤ 4611686018427387904) (w : World) (B : Nat) (q : Option Addr) (c : Nat) (hT : T w) (hB : B ≤ w.heap.size) (h : TkL w B q L) : Calls Tryd.prog 18 #[.slice q L.length c] w (RetW fun e w' => Below w.heap.size w w' ∧ putT L (Pok u L) e) := by
  have hmf : ∀ (fn : Fn) (first cap : Array Value) (w : World), (Instr.makeFunc fn first cap).run Tryd.prog w = .ok (.func fn first cap) w := fun _ _ _ _ => rfl
  have hb0 := alloc_below w (.cells #[.slice q L.length c] 47)
  have h2 := hU.2.1 w hT
  have hs1 := World.size_alloc w (.cells #[.slice q L.length c] 47)
  have hcx : (w.alloc (.cells #[.slice q L.length c] 47)).cell? ⟨w.heap.size, 0, none⟩ = some (.slice q L.length c) := al_c w _ _ _ 0 _ rfl rfl
  by_cases hl : L.length ≤ 64
  · have hC := caughtS_c hU L (by omega) (w.alloc (.cells #[.slice q L.length c] 47)) B w.heap.size q c (hU.1 w _ hT (fun k hk => hb0.block k (by omega))) (by omega) (h.at fun k hk => hb0.block k (by omega)) hcx
    have g : ¬ (64 : Int) < (L.length : Int) := by omega
    obtain ⟨Z, hZ⟩ : ∃ Z, Hid ((⟨(tx L).toArray⟩ : ByteArray) = Z) := ⟨_, rfl⟩
    have HL := hidW hl
    have HB := hidW hb0
    obtain ⟨m, hm⟩ : ∃ m, Hid (L.length = m) := ⟨_, rfl⟩
    have HS := hidW hs1
    rw [hm.out] at hC g HB HS ⊢
    clear hT h h2 hl hb0 hs1 hcx hL
    go_enter Tryd.func18, Tryd.ntmps18
    go_wp2_with fail
    refine hC.mono ?_
    rintro e w2 ⟨v2, rfl, hb, h⟩
    have KB := hidW (HB.out.trans (hb.mono (by have := HS.out; omega)))
    rcases h with ⟨hd, rfl⟩ | ⟨hd, rfl⟩
    · have KF : Hid (putT L (Pok u L) (.tuple #[.string Z, .int .i64 0])) := Or.inr ⟨HL.out, Or.inl ⟨hd, by rw [hZ.out]⟩⟩
      rw [hZ.out]
      clear hC hb hd
      go_wp2
      go_ret2
      exact ⟨_, rfl, KB.out, KF.out⟩
    · have KF : Hid (putT L (Pok u L) (.tuple #[.string ⟨#[]⟩, .int .i64 2])) := Or.inr ⟨HL.out, Or.inr ⟨hd, rfl⟩⟩
      clear hC hb hd
      go_wp2
      go_ret2
      exact ⟨_, rfl, KB.out, KF.out⟩
  · have g : (64 : Int) < (L.length : Int) := by omega
    have KF : Hid (putT L (Pok u L) (.tuple #[.string ⟨#[]⟩, .int .i64 1])) := Or.inl ⟨by omega, rfl⟩
    have HB := hidW hb0
    obtain ⟨m, hm⟩ : ∃ m, Hid (L.length = m) := ⟨_, rfl⟩
    rw [hm.out] at g HB ⊢
    clear hT h h2 hl hb0 hs1 hcx hL
    go_enter Tryd.func18, Tryd.ntmps18
    go_wp2
    go_ret2
    exact ⟨_, rfl, HB.out, KF.out⟩
end WI
end Go.Proofs.YtfkgfcggcfkkiaaDoor
namespace Go.Proofs.YtfkgfcggcfkkiaaDoor
open Go.RowKit Go.Sort Go.Deep
namespace WI
variable {T : World → Prop} {u : List UInt8 → Bool}
def tk32 (a : Nat) (v1 v2 v3 : Value) : List Value := [.int .i64 0, .int .u64 0, .slice none 0 0, .slice none 0 0, .int .i64 0, .int .u64 (a : Int), .slice none 0 0, .slice none 0 0, .int .i64 0, .int .u64 1, .slice none 0 0, .slice none 0 0, .int .i64 2, .int .u64 0, v1, .slice none 0 0, .int .i64 0, .int .u64 2, .slice none 0 0, .slice none 0 0, .int .i64 2, .int .u64 0, v2, .slice none 0 0, .int .i64 0, .int .u64 3, .slice none 0 0, .slice none 0 0, .int .i64 2, .int .u64 0, v3, .slice none 0 0]
theorem ic_cons {W : World} {B : Nat} {i : Itm} {r : List Itm} {vd vl : Value} {cs : List Value} {k : Int} {n : Int} (hk : i.k = k) (hn : (i.n : Int) = n) (h : InM W B i vd vl) (h2 : IC W B r cs) : IC W B (i :: r) (.int .i64 k :: .int .u64 n :: vd :: vl :: cs) := by
  rw [IC]
  subst hk hn
  exact ⟨vd, vl, cs, rfl, h, h2⟩
theorem tk32_ic {w : World} {B : Nat} {t : Tk} {v1 v2 v3 : Value} (h : TkM w B t v1 v2 v3) (W : World) (B' : Nat) (hW : ∀ k, k < B → W.heap[k]? = w.heap[k]?) (hB : B ≤ B') : IC W B' (tkC t) (tk32 t.a v1 v2 v3) := by
  obtain ⟨h1, h2, h3, h4, h5, h6, h7⟩ := h
  exact ic_cons rfl rfl (inm_n W B' 0 0 (by decide)) (ic_cons rfl rfl (inm_n W B' 0 t.a h1) (ic_cons rfl rfl (inm_n W B' 0 1 (by decide)) (ic_cons rfl rfl (inm_d 2 ((h2.at hW).mono hB) h5) (ic_cons rfl rfl (inm_n W B' 0 2 (by decide)) (ic_cons rfl rfl (inm_d 2 ((h3.at hW).mono hB) h6) (ic_cons rfl rfl (inm_n W B' 0 3 (by decide)) (ic_cons rfl rfl (inm_d 2 ((h4.at hW).mono hB) h7) (by rw [IC]))))))))
set_option maxHeartbeats 4000000 in
set_option maxRecDepth 20000 in
/-- THE REFERENCE'S PutTokens. -/
theorem rPut_c (hU : UV T u) (L : List Tk) (hL : L.length ≤ 4611686018427387904) (w : World) (B : Nat) (q : Option Addr) (c : Nat) (hT : T w) (hB : B ≤ w.heap.size) (h : TkL w B q L) : Calls Tryd.prog 19 #[.slice q L.length c] w (RetW fun e w' => Below w.heap.size w w' ∧ putT L (Pok u L) e) := by
  obtain ⟨m, hm⟩ : ∃ m, Hid (L.length = m) := ⟨_, rfl⟩
  by_cases hl : L.length ≤ 64
  rotate_left
  · have g : (64 : Int) < (m : Int) := by rw [← hm.out]; omega
    have KF : Hid (putT L (Pok u L) (.tuple #[.string ⟨#[]⟩, .int .i64 1])) := Or.inl ⟨by omega, rfl⟩
    rw [hm.out]
    clear hT h hl hL
    go_enter Tryd.func19, Tryd.ntmps19
    go_wp2
    go_ret2
    exact ⟨_, rfl, Below.refl _ _, KF.out⟩
  have hmz : m ≤ 64 := by rw [← hm.out]; exact hl
  have g : ¬ (64 : Int) < (m : Int) := by omega
  have KN : Hid (¬ Pok u L → putT L (Pok u L) (.tuple #[.string ⟨#[]⟩, .int .i64 2])) := fun hn => Or.inr ⟨hl, Or.inr ⟨hn, rfl⟩⟩
  have KY : Hid (Pok u L → putT L (Pok u L) (.tuple #[.string ⟨(tx L).toArray⟩, .int .i64 0])) := fun hy => Or.inr ⟨hl, Or.inl ⟨hy, rfl⟩⟩
  rw [hm.out]
  obtain ⟨w1, hw1⟩ : ∃ w1, Hid (w.alloc (.cells #[.int .i64 4, .int .u64 0, .slice none 0 0, .slice none 0 0] 27) = w1) := ⟨_, rfl⟩
  have Bw : Hid (Below w.heap.size w w1) := by rw [← hw1.out]; exact alloc_below _ _
  have r1 : RowS w1 w.heap.size [.int .i64 4, .int .u64 0, .slice none 0 0, .slice none 0 0] := by rw [← hw1.out]; exact arow w _ _ _ _ _
  obtain ⟨P, hP⟩ : ∃ P : Nat → Prop, Hid (P = fun k => k < B ∨ w.heap.size + 1 ≤ k) := ⟨_, rfl⟩
  have hPb : Hid (∀ k, w.heap.size + 1 ≤ k → P k) := by rw [hP.out]; exact fun k hk => Or.inr hk
  have hPo : Hid (¬ P w.heap.size) := by show ¬ _; rw [hP.out]; omega
  have L0 : Hid (LzI P w1 w.heap.size 4 0 [] (.slice none 0 0) [] w1) := LzI.start r1
  have h2s := hU.2.1 w hT
  have HT : Hid (∀ X, Below w.heap.size w X → T X) := fun X hX => hU.1 w X hT (fun k hk => hX.block k (by omega))
  have hs1 := Bw.out.size
  have HK := hidW h
  clear h hT r1 hL hl
  go_enter Tryd.func19, Tryd.ntmps19
  go_upto_region 4 with fail
  rw [hw1.out]
  go_wp2
  go_loopg [5] (m + 1) (fun gk s5 wr => ∃ (j : Nat) (v : Value) (cs : List Value), s5 = .int .i64 (j : Int) ∧ gk = m + 1 - j ∧ j ≤ m ∧ (L.take j).all tkOk = true ∧ LzI P w1 w.heap.size 4 j ((L.map tkI).take j) v cs wr)
  case atStart => exact ⟨0, _, _, rfl, rfl, by omega, rfl, L0.out⟩
  case round =>
    obtain ⟨j, v, cs, rfl, hgk, hjm, hok, LL⟩ := hrel
    obtain ⟨qv, mv, cv, rfl⟩ := LL.sh
    by_cases hj : j < m
    · have hjz : (j : Int) < (m : Int) := by omega
      obtain ⟨t, ht⟩ : ∃ t, L[j]? = some t := ⟨_, List.getElem?_eq_getElem (by rw [hm.out]; exact hj)⟩
      have hold : ∀ k, k < B → wr.heap[k]? = w.heap[k]? := fun k hk => by rw [LL.bl.block k (by omega), Bw.out.block k (by omega)]
      rcases HK.out.at hold with hnil | ⟨b, o, rfl, hbB, hcell⟩
      · rw [hnil] at ht; cases ht
      obtain ⟨q1, n1, c1, q2, n2, c2, q3, n3, c3, ⟨a0, a1, a2, a3⟩, hTM⟩ := hcell j t ht
      obtain ⟨hn1, hn2, hn3⟩ := hTM.len
      have hix := fun X => idxT b o m c j hj X
      have hlb := World.block_lt_of_cell? _ _ a0
      obtain ⟨wt, hwt⟩ : ∃ wt, Hid (wr.alloc (.cells #[.int .u64 (t.a : Int), .slice q1 n1 c1, .slice q2 n2 c2, .slice q3 n3 c3] 49) = wt) := ⟨_, rfl⟩
      have hbt : Below wr.heap.size wr wt := by rw [← hwt.out]; exact alloc_below _ _
      have rt : RowS wt wr.heap.size [.int .u64 (t.a : Int), .slice q1 n1 c1, .slice q2 n2 c2, .slice q3 n3 c3] := by rw [← hwt.out]; exact arow wr _ _ _ _ _
      obtain ⟨wl, hwl⟩ : ∃ wl, Hid (wt.alloc (.cells #[.int .i64 0, .int .u64 0, .slice none 0 0, .slice none 0 0, .int .i64 0, .int .u64 (t.a : Int), .slice none 0 0, .slice none 0 0, .int .i64 0, .int .u64 1, .slice none 0 0, .slice none 0 0, .int .i64 2, .int .u64 0, .slice q1 n1 c1, .slice none 0 0, .int .i64 0, .int .u64 2, .slice none 0 0, .slice none 0 0, .int .i64 2, .int .u64 0, .slice q2 n2 c2, .slice none 0 0, .int .i64 0, .int .u64 3, .slice none 0 0, .slice none 0 0, .int .i64 2, .int .u64 0, .slice q3 n3 c3, .slice none 0 0] 27) = wl) := ⟨_, rfl⟩
      have hbl : Below wt.heap.size wt wl := by rw [← hwl.out]; exact alloc_below _ _
      have rl : RowS wl wt.heap.size (tk32 t.a (.slice q1 n1 c1) (.slice q2 n2 c2) (.slice q3 n3 c3)) := by rw [← hwl.out]; exact ro16 wt _ (tk32 t.a (.slice q1 n1 c1) (.slice q2 n2 c2) (.slice q3 n3 c3))
      obtain ⟨wm, hwm⟩ : ∃ wm, Hid (wl.alloc (.cells #[.int .i64 5, .int .u64 0, .slice none 0 0, .slice (some ⟨wt.heap.size, 0, none⟩) 8 8] 27) = wm) := ⟨_, rfl⟩
      have hbm : Below wl.heap.size wl wm := by rw [← hwm.out]; exact alloc_below _ _
      have rm : RowS wm wl.heap.size [.int .i64 5, .int .u64 0, .slice none 0 0, .slice (some ⟨wt.heap.size, 0, none⟩) 8 8] := by rw [← hwm.out]; exact arow wl _ _ _ _ _
      have hbtl : Below wr.heap.size wr wl := hbt.trans (hbl.mono hbt.size)
      have hbx : Below wr.heap.size wr wm := hbtl.trans (hbm.mono hbtl.size)
      have ox := LL.row.below hbx
      have z1 := LL.bl.size
      have z2 := hbt.size
      have z3 := hbl.size
      have z4 := hbm.size
      have z5 := LL.row.1
      have z6 := rt.1
      have z7 := rl.1
      have hItm : ∀ W : World, (∀ k, P k → k < wm.heap.size → (Value.slice qv mv cv).ownBlock ≠ some k → W.heap[k]? = wm.heap[k]?) → IC W wm.heap.size [tkI t] [.int .i64 5, .int .u64 0, .slice none 0 0, .slice (some ⟨wt.heap.size, 0, none⟩) 8 8] := fun W hW => by
        refine ic_cons rfl rfl ?_ (by rw [IC])
        show InM W wm.heap.size (.mk 5 0 [] (tkC t)) _ _
        rw [InM]
        refine ⟨by decide, by simp, by simp [tkC], ⟨none, 0, rfl, Nat.le_refl _, Or.inl rfl⟩, _, 8, rfl, Or.inr ⟨wt.heap.size, 0, rfl, by omega, IC.inl 0 (tk32_ic hTM W _ (fun k hk => ?_) (by omega)) fun x y hx => ?_⟩⟩
        · rw [hW k (by rw [hP.out]; exact Or.inl hk) (by omega) (fun he => by have := (LL.own.lt k he).1; omega), hbx.block k (by omega)]
        · have e1 : W.heap[wt.heap.size]? = wl.heap[wt.heap.size]? := by
            rw [hW wt.heap.size (hPb.out _ (by omega)) (by omega) (fun he => by have := (LL.own.lt _ he).2; omega), hbm.block _ z7]
          rw [World.cell?_of_block (a := ⟨wt.heap.size, 0 + x, none⟩) e1]
          exact rl.2.1 x y hx
      obtain ⟨q', n', c', W', hap, k1, k2, k3, cs', L2⟩ := LL.add (m := 1) hPb.out hPo.out hbx hItm rfl (by decide) rfl (by omega)
      have HAP : Hid ((Builtin.append_ #[25, 25] 25 #[.slice qv mv cv, .slice (some ⟨wm.heap.size, 0, none⟩) 1 1]).run Tryd.prog (wm.alloc (.cells #[.int .i64 5, .int .u64 0, .slice none 0 0, .slice (some ⟨wt.heap.size, 0, none⟩) 8 8] 27)) = .ok (.slice q' n' c') W') := hap
      have HOK : Hid (tkOk t = false → Pok u L → False) := fun hf hp => by
        have := List.all_eq_true.1 hp.2.1 t (List.mem_of_getElem? ht)
        rw [hf] at this; cases this
      have Bt : Hid (Below w.heap.size w wt) := (Bw.out.trans LL.bl).trans (hbt.mono (by omega))
      have htk : (L.map tkI).take (j + 1) = (L.map tkI).take j ++ [tkI t] := take_s _ _ _ (by rw [List.getElem?_map, ht]; rfl)
      rw [← htk] at L2
      have L3 : Hid ((tkOk t = true → (L.take (j + 1)).all tkOk = true) ∧ LzI P w1 w.heap.size 4 (j + 1) ((L.map tkI).take (j + 1)) (.slice q' n' c') cs' (W'.setCell ⟨w.heap.size, 3, none⟩ (.slice q' n' c'))) := by
        refine ⟨fun hy => ?_, L2⟩
        rw [take_s L j t ht, List.all_append, hok]
        simp [hy]
      have x0 := rt.cell 0 _ rfl
      have x1 := rt.cell 1 _ rfl
      have x2 := rt.cell 2 _ rfl
      have x3 := rt.cell 3 _ rfl
      have y0 := rm.cell 0 _ rfl
      have y1 := rm.cell 1 _ rfl
      have y2 := rm.cell 2 _ rfl
      have y3 := rm.cell 3 _ rfl
      have hwls : wl.heap.size = wt.heap.size + 1 := by rw [← hwl.out]; exact World.size_alloc _ _
      rw [hwls] at y0 y1 y2 y3
      have hly := World.block_lt_of_cell? _ _ y0
      clear hwls
      have o3 := ox.cell 3 _ rfl
      have hlo := ox.1
      have HN := hidW (And.intro hn1 (And.intro hn2 hn3))
      have hgz : Hid (w.heap.size < wr.heap.size) := z5
      clear L2 hap LL hold hcell hTM ht hok hn1 hn2 hn3 hItm hbx hbtl hbt hbl hbm rt rl rm ox htk z1 z2 z3 z4 z5 z7
      go_upto_region 8 with fail
      rw [hwt.out]
      clear a0 a1 a2 a3 hlb
      by_cases b1 : n1 = 8
      rotate_left
      · have f1 : ((n1 : Int) != 8) = true := by simp; omega
        have hf : tkOk t = false := by
          rw [tkOk, ← HN.out.1]
          have h : (n1 == 8) = false := by simpa using b1
          rw [h]; rfl
        have KR := hidW (KN.out (HOK.out hf))
        clear hf
        go_wp2
        go_ret2
        exact ⟨_, rfl, Bt.out, KR.out⟩
      have f1 : ((n1 : Int) != 8) = false := by simp; omega
      by_cases b2 : 0 < n2
      rotate_left
      · have f2 : (n2 : Int) < 1 := by omega
        have hf : tkOk t = false := by
          rw [tkOk, ← HN.out.2.1]
          have h : decide (0 < n2) = false := decide_eq_false b2
          rw [h]; simp
        have KR := hidW (KN.out (HOK.out hf))
        clear hf
        go_wp2
        go_ret2
        exact ⟨_, rfl, Bt.out, KR.out⟩
      have f2 : ¬ (n2 : Int) < 1 := by omega
      by_cases b3 : n2 ≤ 64
      rotate_left
      · have f3 : (64 : Int) < (n2 : Int) := by omega
        have hf : tkOk t = false := by
          rw [tkOk, ← HN.out.2.1]
          have h : decide (n2 ≤ 64) = false := decide_eq_false b3
          rw [h]; simp
        have KR := hidW (KN.out (HOK.out hf))
        clear hf
        go_wp2
        go_ret2
        exact ⟨_, rfl, Bt.out, KR.out⟩
      have f3 : ¬ (64 : Int) < (n2 : Int) := by omega
      by_cases b4 : n3 = 33
      rotate_left
      · have f4 : ((n3 : Int) != 33) = true := by simp; omega
        have hf : tkOk t = false := by
          rw [tkOk, ← HN.out.2.2]
          have h : (n3 == 33) = false := by simpa using b4
          rw [h]; simp
        have KR := hidW (KN.out (HOK.out hf))
        clear hf
        go_wp2
        go_ret2
        exact ⟨_, rfl, Bt.out, KR.out⟩
      have f4 : ((n3 : Int) != 33) = false := by simp; omega
      have HY : Hid (tkOk t = true) := by
        show _ = _
        obtain ⟨e1, e2, e3⟩ := HN.out
        rw [tkOk, ← e1, ← e2, ← e3, b1, b4]
        simp [b2, b3]
      clear b1 b2 b3 b4
      go_upto_region 10 with fail
      go_upto_region 11 with fail
      rw [hwl.out, hwm.out]
      have L4 := hidW (And.intro (L3.out.1 HY.out) L3.out.2)
      clear x0 x1 x2 x3
      go_wp2_with (at_builtin; refine Lib.wpList_append_run _ rfl _ _ _ _ rfl _ _ rfl rfl _ _ HAP.out ?_)
      go_roundg (m + 1 - (j + 1))
      case measure => omega
      case rel => exact ⟨j + 1, _, _, rfl, rfl, by omega, L4.out⟩
    · have hjz : ¬ (j : Int) < (m : Int) := by omega
      obtain rfl : j = m := by omega
      have hmap : (L.map tkI).take j = L.map tkI := List.take_of_length_le (by rw [List.length_map, hm.out]; exact Nat.le_refl _)
      have hLt : L.take j = L := List.take_of_length_le (by rw [hm.out]; exact Nat.le_refl _)
      rw [hmap] at LL
      rw [hLt] at hok
      obtain ⟨hml, hin⟩ := LL.inm hPb.out (by rw [List.length_map, hm.out]) (by omega) wr (fun _ _ _ => rfl)
      have Br : Hid (Below w.heap.size w wr) := Bw.out.trans LL.bl
      have hc : Calls Tryd.prog 17 #[.agg #[.int .i64 4, .int .u64 ((0 : Nat) : Int), .slice none 0 0, .slice qv mv cv]] wr (RetW (RpR u wr (toI L))) := rPrint_c hU (toI L) wr none 0 0 qv mv cv (HT.out wr Br.out) (hin 4)
      have d0 := LL.row.cell 0 _ rfl
      have d1 := LL.row.cell 1 _ rfl
      have d2 := LL.row.cell 2 _ rfl
      have d3 := LL.row.cell 3 _ rfl
      have hlp := LL.row.1
      have HO := hidW hok
      obtain ⟨Q, hQ⟩ : ∃ Q, Hid ((⟨(byt (toI L)).toArray⟩ : ByteArray) = Q) := ⟨_, rfl⟩
      obtain ⟨Z, hZ⟩ : ∃ Z, Hid ((⟨(tx L).toArray⟩ : ByteArray) = Z) := ⟨_, rfl⟩
      clear LL hin hml hmap hLt hok
      go_wp2_with fail
      refine hc.mono ?_
      rintro e w5 ⟨v5, rfl, hb5, ⟨hy, rfl⟩ | ⟨hn, rfl⟩⟩
      rotate_left
      · have KR := hidW (KN.out (fun hp => hn hp.2.2))
        have B5 := hidW (Br.out.trans (hb5.mono Br.out.size))
        clear hb5 hn hc
        by_cases h0 : ((j : Int) == 0) = true
        · go_wp2
          go_ret2
          exact ⟨_, rfl, B5.out, KR.out⟩
        · have h0' : ((j : Int) == 0) = false := by simpa using h0
          go_wp2
          go_ret2
          exact ⟨_, rfl, B5.out, KR.out⟩
      · have B5 := hidW (Br.out.trans (hb5.mono Br.out.size))
        by_cases h0 : j = 0
        · have KR := hidW (KN.out (fun hp => hp.1 (List.length_eq_zero_iff.1 (by rw [hm.out, h0]))))
          have h0' : ((j : Int) == 0) = true := by rw [h0]; rfl
          rw [hQ.out]
          clear hb5 hy hc h0
          go_wp2
          go_ret2
          exact ⟨_, rfl, B5.out, KR.out⟩
        · have h0' : ((j : Int) == 0) = false := (eq0 j h0).1
          have hbl : (byt (toI L)).length ≤ 65536 := by have := hy.2.2.2; omega
          have hle := rletters_c (byt (toI L)) (by omega) w5
          have hll : (WL.letters (byt (toI L))).length ≤ 200000 := by rw [WL.letters_len]; unfold WL.nl; omega
          obtain ⟨S, hS⟩ : ∃ S, Hid ((⟨(WL.letters (byt (toI L))).toArray⟩ : ByteArray) = S) := ⟨_, rfl⟩
          have hsz : 3 + S.size ≤ 9223372036854775807 := cat_sz [109, 118, 49] (WL.letters (byt (toI L))) (X := { data := #[109, 118, 49] }) rfl hS.out.symm (by simp; omega)
          have hZe : Hid (({ data := #[109, 118, 49] } : ByteArray) ++ S = Z) := (cat_eq [109, 118, 49] (WL.letters (byt (toI L))) (tx L) (X := { data := #[109, 118, 49] }) rfl hS.out.symm rfl).trans hZ.out
          have KR := hidW (KY.out ⟨fun h => by rw [h] at hm; have := hm.out; simp at this; omega, HO.out, hy⟩)
          rw [hZ.out] at KR
          rw [hS.out, hQ.out] at hle
          rw [hQ.out]
          clear hbl hll hc hb5 hy h0
          go_wp2_with fail
          refine hle.mono ?_
          rintro e w6 ⟨v6, rfl, hb6, rfl⟩
          have B6 := hidW (B5.out.trans (hb6.mono B5.out.size))
          clear hle hb6
          go_wp2
          first | (rw [hZe.out]) | skip
          go_ret2
          exact ⟨_, rfl, B6.out, by first | exact KR.out | (rw [hZe.out]; exact KR.out)⟩
end WI
end Go.Proofs.YtfkgfcggcfkkiaaDoor
namespace Go.Proofs.YtfkgfcggcfkkiaaDoor
open Go.RowKit Go.Sort Go.Deep
namespace WI
variable {T : World → Prop} {u : List UInt8 → Bool}
/-- Whether a text begins with the mark. -/
def mvP (x : List UInt8) : Bool := x.take 3 == [109, 118, 49]
theorem sl_hiX (s : ByteArray) (z : Nat) (h2 : z ≤ s.size) (r : ByteArray) (e : s.extract 0 z = r) (w : World) : (Instr.sliceAt 9 (.string s) none (some (.int .i64 (z : Int))) none).run Tryd.prog w = .ok (.string r) w := by
  subst e
  have g1 : ¬ (z : Int) < 0 := by omega
  have g3 : (z : Int) ≤ (s.size : Int) := by omega
  go_simp
theorem hasMv_c (S : ByteArray) (w : World) : Calls Tryd.prog 99 #[.string S, .string { data := #[109, 118, 49] }] w fun e w' => e = .returned (.bool (mvP S.data.toList)) ∧ w' = w := by
  have hl : S.data.toList.length = S.size := by rw [Array.length_toList]; rfl
  by_cases h : 3 ≤ S.size
  · have g : (3 : Int) ≤ (S.size : Int) := by omega
    obtain ⟨A, hA⟩ : ∃ A, Hid (S.extract 0 3 = A) := ⟨_, rfl⟩
    have hsl : ∀ X, (Instr.sliceAt 9 (.string S) none (some (.int .i64 3)) none).run Tryd.prog X = .ok (.string A) X := fun X => sl_hiX S 3 h A hA.out X
    have hAl : A.toList = S.data.toList.take 3 := by
      rw [ByteArray.toList_eq, ← hA.out, ByteArray.data_extract, Array.toList_extract, List.extract_eq_take_drop]
      simp
    have he : (A.toList == ({ data := #[109, 118, 49] } : ByteArray).toList) = mvP S.data.toList := by
      rw [hAl, ByteArray.toList_eq]; rfl
    have he2 : (A.toList == [109, 118, 49]) = mvP S.data.toList := by rw [hAl]; rfl
    obtain ⟨b, hb⟩ : ∃ b, Hid (mvP S.data.toList = b) := ⟨_, rfl⟩
    rw [hb.out] at he he2 ⊢
    clear hAl hl
    go_enter Tryd.func99, Tryd.ntmps99
    go_wp2
    go_ret
    exact ⟨rfl, rfl⟩
  · have g : ¬ (3 : Int) ≤ (S.size : Int) := by omega
    have hb : mvP S.data.toList = false := by
      unfold mvP
      rw [beq_eq_false_iff_ne]
      intro e
      have := congrArg List.length e
      rw [List.length_take, hl] at this
      simp at this
      omega
    rw [hb]
    clear hl hb
    go_enter Tryd.func99, Tryd.ntmps99
    go_wp2
    go_ret
    exact ⟨rfl, rfl⟩
def CuR (S : ByteArray) (w : World) (e : Ending) (w' : World) : Prop := w' = w ∧ ∃ R b, e = .returned (.tuple #[.string R, .bool b]) ∧ b = mvP S.data.toList ∧ (b = true → R.data.toList = S.data.toList.drop 3 ∧ 3 ≤ S.size)
theorem cutMv1_c (S : ByteArray) (w : World) : Calls Tryd.prog 77 #[.string S, .string { data := #[109, 118, 49] }] w (CuR S w) := by
  have hl : S.data.toList.length = S.size := by rw [Array.length_toList]; rfl
  have hc := hasMv_c S w
  cases hb : mvP S.data.toList with
  | false =>
    rw [hb] at hc
    have K : Hid (CuR S w (.returned (.tuple #[.string S, .bool false])) w) := ⟨rfl, S, false, rfl, hb.symm, fun h => by cases h⟩
    clear hb hl
    go_enter Tryd.func77, Tryd.ntmps77
    go_wp2_with fail
    refine hc.mono ?_
    rintro e w1 ⟨rfl, rfl⟩
    go_wp2
    go_ret2
    exact K.out
  | true =>
    rw [hb] at hc
    have h3 : 3 ≤ S.size := by
      have h := hb
      unfold mvP at h
      have := congrArg List.length (eq_of_beq h)
      rw [List.length_take, hl] at this
      simp at this
      omega
    obtain ⟨A, hA⟩ : ∃ A, Hid (S.extract 3 S.size = A) := ⟨_, rfl⟩
    have hsl : ∀ X, (Instr.sliceAt 9 (.string S) (some (.int .i64 3)) none none).run Tryd.prog X = .ok (.string A) X := fun X => sl_loX S 3 h3 A hA.out X
    have hAl : A.data.toList = S.data.toList.drop 3 := by
      rw [← hA.out, ByteArray.data_extract, Array.toList_extract, List.extract_eq_take_drop]
      exact List.take_of_length_le (by rw [List.length_drop, hl]; exact Nat.le_refl _)
    have K : Hid (CuR S w (.returned (.tuple #[.string A, .bool true])) w) := ⟨rfl, A, true, rfl, hb.symm, fun _ => ⟨hAl, h3⟩⟩
    clear hb hl hAl h3
    go_enter Tryd.func77, Tryd.ntmps77
    go_wp2_with fail
    refine hc.mono ?_
    rintro e w1 ⟨rfl, rfl⟩
    go_wp2
    go_ret2
    exact K.out
theorem cutMv_c (S : ByteArray) (w : World) : Calls Tryd.prog 52 #[.string S, .string { data := #[109, 118, 49] }] w (CuR S w) := by
  have hc := cutMv1_c S w
  go_enter Tryd.func52, Tryd.ntmps52
  go_wp2_with fail
  refine hc.mono ?_
  rintro e w1 h
  have K := hidW h
  obtain ⟨rfl, R, b, rfl, -, -⟩ := h
  clear hc
  go_wp2
  go_ret2
  exact K.out
/-- What a face has caught is thrown once more. -/
def RgR7 (v : Value) (er : Int) (w : World) (e : Ending) (w' : World) : Prop := Below w.heap.size w w' ∧ ((er = 0 ∧ e = .returned v) ∨ (er ≠ 0 ∧ e = thrown))
theorem rightB_c (q : Option Addr) (n c : Nat) (er : Int) (w : World) : Calls Tryd.prog 54 #[.slice q n c, .int .i64 er] w (RgR7 (.slice q n c) er w) := by
  by_cases h : er = 0
  · subst h
    go_enter Tryd.func54, Tryd.ntmps54
    go_wp2_with fail
    refine (must_y _).mono ?_
    rintro e w1 ⟨rfl, rfl⟩
    go_wp2
    go_ret
    exact ⟨Below.refl _ _, Or.inl ⟨rfl, rfl⟩⟩
  · have g : (er == 0) = false := by simpa using h
    go_enter Tryd.func54, Tryd.ntmps54
    go_wp2_with fail
    refine (must_n _).mono ?_
    rintro e w1 ⟨rfl, rfl⟩
    simp only [Exit.inBlock, Exit.then, bodyPost]
    exact ⟨trivial, Below.refl _ _, Or.inr ⟨h, rfl⟩⟩
theorem rightS_c (S : ByteArray) (er : Int) (w : World) : Calls Tryd.prog 57 #[.string S, .int .i64 er] w (RgR7 (.string S) er w) := by
  by_cases h : er = 0
  · subst h
    go_enter Tryd.func57, Tryd.ntmps57
    go_wp2_with fail
    refine (must_y _).mono ?_
    rintro e w1 ⟨rfl, rfl⟩
    go_wp2
    go_ret
    exact ⟨Below.refl _ _, Or.inl ⟨rfl, rfl⟩⟩
  · have g : (er == 0) = false := by simpa using h
    go_enter Tryd.func57, Tryd.ntmps57
    go_wp2_with fail
    refine (must_n _).mono ?_
    rintro e w1 ⟨rfl, rfl⟩
    simp only [Exit.inBlock, Exit.then, bodyPost]
    exact ⟨trivial, Below.refl _ _, Or.inr ⟨h, rfl⟩⟩
set_option maxRecDepth 20000 in
theorem rightI_c (k : Int) (n : Nat) (qd : Option Addr) (dl cd : Nat) (ql : Option Addr) (ml cl : Nat) (er : Int) (w : World) : Calls Tryd.prog 53 #[.agg #[.int .i64 k, .int .u64 (n : Int), .slice qd dl cd, .slice ql ml cl], .int .i64 er] w (RgR7 (itv k n qd dl cd ql ml cl) er w) := by
  obtain ⟨w0, hw0⟩ : ∃ w0, Hid ((w.alloc (.cells #[.int .i64 k, .int .u64 (n : Int), .slice qd dl cd, .slice ql ml cl] 27)).alloc (.cells #[.int .i64 0, .int .u64 0, .slice none 0 0, .slice none 0 0] 27) = w0) := ⟨_, rfl⟩
  have hB0 : Hid (Below w.heap.size w w0) := by rw [← hw0.out]; exact (alloc_below _ _).trans ((alloc_below _ _).mono (by rw [World.size_alloc]; omega))
  have r0 : RowS w0 w.heap.size [.int .i64 k, .int .u64 (n : Int), .slice qd dl cd, .slice ql ml cl] := by rw [← hw0.out]; exact (arow w _ _ _ _ _).below (alloc_below _ _)
  have z0 : Hid (RowS w0 (w.heap.size + 1) [.int .i64 0, .int .u64 0, .slice none 0 0, .slice none 0 0]) := by
    have := zrow (w.alloc (.cells #[.int .i64 k, .int .u64 (n : Int), .slice qd dl cd, .slice ql ml cl] 27))
    rw [World.size_alloc, hw0.out] at this
    exact this
  have a0 := r0.cell 0 _ rfl
  have a1 := r0.cell 1 _ rfl
  have a2 := r0.cell 2 _ rfl
  have a3 := r0.cell 3 _ rfl
  have hl0 := r0.1
  by_cases h : er = 0
  · subst h
    obtain ⟨w9, hw9⟩ : ∃ w9, Hid (w0.setCells (w.heap.size + 1) 0 [.int .i64 k, .int .u64 (n : Int), .slice qd dl cd, .slice ql ml cl] = w9) := ⟨_, rfl⟩
    have K9 : Hid (RowS w9 (w.heap.size + 1) [.int .i64 k, .int .u64 (n : Int), .slice qd dl cd, .slice ql ml cl] ∧ Below w.heap.size w w9) := by
      rw [← hw9.out]
      exact ⟨z0.out.scs _ rfl, hB0.out.trans ((sc_below _ _ _).mono (by omega))⟩
    clear r0
    go_enter Tryd.func53, Tryd.ntmps53
    go_upto_region 1 with fail
    rw [hw0.out]
    go_wp2_with fail
    refine (must_y _).mono ?_
    rintro e w1 ⟨rfl, rfl⟩
    go_wp2_with (first | (refine wpList_store_mid rfl 27 _ _ rfl (w.heap.size + 1) 0 #[.int .i64 k, .int .u64 (n : Int), .slice qd dl cd, .slice ql ml cl] ?_ ?_ ?_ ?_ ?_ ?_; rfl; rfl; exact z0.out.2.2; exact isz27; exact four_one _ _ _ _ _ _ _ _; (show wpList _ _ _ _ _ (w1.setCells (w.heap.size + 1) 0 [.int .i64 k, .int .u64 (n : Int), .slice qd dl cd, .slice ql ml cl])); rw [hw9.out]) | fail)
    refine bodyPost_ret (results_cellI 4 27 rfl K9.out.1 rfl urw27 isz27) rfl ?_
    exact ⟨K9.out.2, Or.inl ⟨rfl, rfl⟩⟩
  · have g : (er == 0) = false := by simpa using h
    clear r0
    go_enter Tryd.func53, Tryd.ntmps53
    go_upto_region 1 with fail
    rw [hw0.out]
    go_wp2_with fail
    refine (must_n _).mono ?_
    rintro e w1 ⟨rfl, rfl⟩
    simp only [Exit.inBlock, Exit.then, bodyPost]
    exact ⟨trivial, hB0.out, Or.inr ⟨h, rfl⟩⟩
end WI
end Go.Proofs.YtfkgfcggcfkkiaaDoor
namespace Go.Proofs.YtfkgfcggcfkkiaaDoor
open Go.RowKit Go.Sort Go.Deep
namespace WI
theorem tokrow (w : World) (v1 v2 v3 v4 : Value) : RowS (w.alloc (.cells #[v1, v2, v3, v4] 49)) w.heap.size [v1, v2, v3, v4] := arow w _ v1 v2 v3 v4
theorem idxI1 (b o c j : Nat) (hj : j < 8) (z : Int) (hz : z = (j : Int)) (w : World) : (Instr.indexAt 25 (.slice (some ⟨b, o, none⟩) 8 c) (.int .i64 z)).run Tryd.prog w = .ok (.pointer (some ⟨b, o + j * 4, none⟩)) w := by
  subst hz
  exact idxI b o 8 c j hj w
def ToR (a : Nat) (v3 v5 v7 : Value) (w : World) (e : Ending) (w' : World) : Prop := Below w.heap.size w w' ∧ e = .returned (.agg #[.int .u64 (a : Int), v3, v5, v7])
theorem isz49 : (Tryd.prog.info? 49).map (·.size) = some 4 := by kernel_rfl
theorem urw49 : (Tryd.prog.underlying 49).map (·.isRow) = some true := by kernel_rfl
theorem tk_one (n : Nat) (q : Option Addr) (a b : Nat) (q' : Option Addr) (a' b' : Nat) (q'' : Option Addr) (a'' b'' : Nat) : (#[.int .u64 (n : Int), .slice q a b, .slice q' a' b', .slice q'' a'' b''] : Array Value).all (·.oneCell') = true := by kernel_rfl
set_option maxHeartbeats 2000000 in
set_option maxRecDepth 20000 in
theorem toToken_y (k : Int) (n : Nat) (qd : Option Addr) (dl cd b o cl a : Nat) (q3 : Option Addr) (n3 c3 : Nat) (q5 : Option Addr) (n5 c5 : Nat) (q7 : Option Addr) (n7 c7 : Nat) (w : World) (h1 : w.cell? ⟨b, o + 4 + 1, none⟩ = some (.int .u64 (a : Int))) (h3 : w.cell? ⟨b, o + 12 + 2, none⟩ = some (.slice q3 n3 c3)) (h5 : w.cell? ⟨b, o + 20 + 2, none⟩ = some (.slice q5 n5 c5)) (h7 : w.cell? ⟨b, o + 28 + 2, none⟩ = some (.slice q7 n7 c7)) : Calls Tryd.prog 56 #[.agg #[.int .i64 k, .int .u64 (n : Int), .slice qd dl cd, .slice (some ⟨b, o, none⟩) 8 cl]] w (ToR a (.slice q3 n3 c3) (.slice q5 n5 c5) (.slice q7 n7 c7) w) := by
  have hlt := World.block_lt_of_cell? _ _ h1
  obtain ⟨w0, hw0⟩ : ∃ w0, Hid ((w.alloc (.cells #[.int .i64 k, .int .u64 (n : Int), .slice qd dl cd, .slice (some ⟨b, o, none⟩) 8 cl] 27)).alloc (.cells #[.int .u64 0, .slice none 0 0, .slice none 0 0, .slice none 0 0] 49) = w0) := ⟨_, rfl⟩
  have hB0 : Hid (Below w.heap.size w w0) := by rw [← hw0.out]; exact (alloc_below _ _).trans ((alloc_below _ _).mono (by rw [World.size_alloc]; omega))
  have r0 : RowS w0 w.heap.size [.int .i64 k, .int .u64 (n : Int), .slice qd dl cd, .slice (some ⟨b, o, none⟩) 8 cl] := by rw [← hw0.out]; exact (arow w _ _ _ _ _).below (alloc_below _ _)
  have z0 : Hid (RowS w0 (w.heap.size + 1) [.int .u64 0, .slice none 0 0, .slice none 0 0, .slice none 0 0]) := by
    have := tokrow (w.alloc (.cells #[.int .i64 k, .int .u64 (n : Int), .slice qd dl cd, .slice (some ⟨b, o, none⟩) 8 cl] 27)) (.int .u64 0) (.slice none 0 0) (.slice none 0 0) (.slice none 0 0)
    rw [World.size_alloc, hw0.out] at this
    exact this
  have a3 := r0.cell 3 _ rfl
  have hl0 := r0.1
  have x1 : w0.cell? ⟨b, o + 4 + 1, none⟩ = some (.int .u64 (a : Int)) := (hB0.out.cell (p := ⟨b, o + 4 + 1, none⟩) hlt).trans h1
  have x3 : w0.cell? ⟨b, o + 12 + 2, none⟩ = some (.slice q3 n3 c3) := (hB0.out.cell (p := ⟨b, o + 12 + 2, none⟩) hlt).trans h3
  have x5 : w0.cell? ⟨b, o + 20 + 2, none⟩ = some (.slice q5 n5 c5) := (hB0.out.cell (p := ⟨b, o + 20 + 2, none⟩) hlt).trans h5
  have x7 : w0.cell? ⟨b, o + 28 + 2, none⟩ = some (.slice q7 n7 c7) := (hB0.out.cell (p := ⟨b, o + 28 + 2, none⟩) hlt).trans h7
  have hlb := World.block_lt_of_cell? _ _ x1
  have i1 : ∀ X : World, (Instr.indexAt 25 (.slice (some ⟨b, o, none⟩) 8 cl) (.int .i64 1)).run Tryd.prog X = .ok (.pointer (some ⟨b, o + 4, none⟩)) X := fun X => idxI1 b o cl 1 (by decide) 1 rfl X
  have i3 : ∀ X : World, (Instr.indexAt 25 (.slice (some ⟨b, o, none⟩) 8 cl) (.int .i64 3)).run Tryd.prog X = .ok (.pointer (some ⟨b, o + 12, none⟩)) X := fun X => idxI1 b o cl 3 (by decide) 3 rfl X
  have i5 : ∀ X : World, (Instr.indexAt 25 (.slice (some ⟨b, o, none⟩) 8 cl) (.int .i64 5)).run Tryd.prog X = .ok (.pointer (some ⟨b, o + 20, none⟩)) X := fun X => idxI1 b o cl 5 (by decide) 5 rfl X
  have i7 : ∀ X : World, (Instr.indexAt 25 (.slice (some ⟨b, o, none⟩) 8 cl) (.int .i64 7)).run Tryd.prog X = .ok (.pointer (some ⟨b, o + 28, none⟩)) X := fun X => idxI1 b o cl 7 (by decide) 7 rfl X
  clear r0 h1 h3 h5 h7
  go_enter Tryd.func56, Tryd.ntmps56
  go_upto_region 1 with fail
  rw [hw0.out]
  go_upto_region 2 with (first | (go_at_call 43; refine (must_y _).mono ?_; rintro e w0 ⟨rfl, rfl⟩) | fail)
  have hdw : Hid (Below w0.heap.size w0 w0.drew) := ⟨rfl, rfl, rfl, Nat.le_refl _, fun _ _ => rfl⟩
  have zd : Hid (RowS w0.drew (w.heap.size + 1) [.int .u64 0, .slice none 0 0, .slice none 0 0, .slice none 0 0]) := z0.out.below hdw.out
  obtain ⟨w9, hw9⟩ : ∃ w9, Hid (w0.drew.setCells (w.heap.size + 1) 0 [.int .u64 (a : Int), .slice q3 n3 c3, .slice q5 n5 c5, .slice q7 n7 c7] = w9) := ⟨_, rfl⟩
  have K9 : Hid (RowS w9 (w.heap.size + 1) [.int .u64 (a : Int), .slice q3 n3 c3, .slice q5 n5 c5, .slice q7 n7 c7] ∧ Below w.heap.size w w9) := by
    rw [← hw9.out]
    exact ⟨zd.out.scs _ rfl, (hB0.out.trans (hdw.out.mono hB0.out.size)).trans ((sc_below _ _ _).mono (by omega))⟩
  go_still_tail 21, mixedQ
  go_wp2_with (first | (refine wpList_store_mid rfl 49 _ _ rfl (w.heap.size + 1) 0 #[.int .u64 (a : Int), .slice q3 n3 c3, .slice q5 n5 c5, .slice q7 n7 c7] ?_ ?_ ?_ ?_ ?_ ?_; rfl; rfl; exact zd.out.2.2; exact isz49; exact tk_one _ _ _ _ _ _ _ _ _ _; (show wpList _ _ _ _ _ (w0.drew.setCells (w.heap.size + 1) 0 [.int .u64 (a : Int), .slice q3 n3 c3, .slice q5 n5 c5, .slice q7 n7 c7])); rw [hw9.out]) | fail)
  refine bodyPost_ret (results_cellI 2 49 rfl K9.out.1 rfl urw49 isz49) rfl ?_
  exact ⟨K9.out.2, rfl⟩
theorem toToken_n (k : Int) (n : Nat) (qd : Option Addr) (dl cd : Nat) (ql : Option Addr) (ml cl : Nat) (hm : ml ≠ 8) (w : World) : Calls Tryd.prog 56 #[.agg #[.int .i64 k, .int .u64 (n : Int), .slice qd dl cd, .slice ql ml cl]] w (fun e w' => Below w.heap.size w w' ∧ e = thrown) := by
  obtain ⟨w0, hw0⟩ : ∃ w0, Hid ((w.alloc (.cells #[.int .i64 k, .int .u64 (n : Int), .slice qd dl cd, .slice ql ml cl] 27)).alloc (.cells #[.int .u64 0, .slice none 0 0, .slice none 0 0, .slice none 0 0] 49) = w0) := ⟨_, rfl⟩
  have hB0 : Hid (Below w.heap.size w w0) := by rw [← hw0.out]; exact (alloc_below _ _).trans ((alloc_below _ _).mono (by rw [World.size_alloc]; omega))
  have r0 : RowS w0 w.heap.size [.int .i64 k, .int .u64 (n : Int), .slice qd dl cd, .slice ql ml cl] := by rw [← hw0.out]; exact (arow w _ _ _ _ _).below (alloc_below _ _)
  have a3 := r0.cell 3 _ rfl
  have hl0 := r0.1
  have g : ((ml : Int) == 8) = false := by simp; omega
  clear r0
  refine Calls.mono (R := RgR7 (.tuple #[]) 1 w) ?_ ?_
  · go_enter Tryd.func56, Tryd.ntmps56
    go_upto_region 1 with fail
    rw [hw0.out]
    go_wp2_with fail
    refine (must_n _).mono ?_
    rintro e w1 ⟨rfl, rfl⟩
    simp only [Exit.inBlock, Exit.then, bodyPost]
    exact ⟨trivial, hB0.out, Or.inr ⟨by decide, rfl⟩⟩
  · rintro e w1 ⟨h1, ⟨h2, -⟩ | ⟨-, h2⟩⟩
    · cases h2
    · exact ⟨h1, h2⟩
end WI
end Go.Proofs.YtfkgfcggcfkkiaaDoor
namespace Go.Proofs.YtfkgfcggcfkkiaaDoor
open Go.RowKit Go.Sort
open WL
theorem plc_of {c : UInt8} {i : Nat} (hi : i < 64) (h : ltr i = c) : plc c = i := by rw [← h]; exact plc_ltr ⟨i, hi⟩
theorem ltr_of {c : UInt8} (h : plc c < 64) : ltr (plc c) = c := by
  have := ltr_plc ⟨c.toNat, c.toNat_lt⟩
  simp only [of_toNat] at this
  exact this h
set_option maxHeartbeats 1000000 in
theorem rplace_c (c : UInt8) (w : World) : Calls Tryd.prog 58 #[.int .u8 (c.toNat : Int)] w fun e w' => e = .returned (.int .i64 (pl c)) ∧ w' = w := by
  go_enter Tryd.func58, Tryd.ntmps58
  go_wp2_with fail
  go_loopg [3] 64 (fun gk s3 wr => ∃ i : Nat, i + gk = 64 ∧ s3 = .int .i64 (i : Int) ∧ wr = w ∧ Hid (∀ j, j < i → ltr j ≠ c))
  case atStart => exact ⟨0, by omega, rfl, rfl, fun j hj => absurd hj (Nat.not_lt_zero _)⟩
  case round =>
    obtain ⟨i, hi, rfl, rfl, KM⟩ := hrel
    by_cases hl : i < 64
    · have hl' : (i : Int) < 64 := by omega
      by_cases hq : ltr i = c
      · have hpl : pl c = (i : Int) := by unfold pl; rw [plc_of hl hq, if_pos hl]
        have hqq : ((ltr i).toNat : Int) = (c.toNat : Int) := by rw [hq]
        have HPL := hidW hpl
        clear KM hq hpl
        go_wp2_with (refine wpList_ixc (.int .u8 ((ltr i).toNat : Int)) rfl _ 8 9 rfl ?_ ?_; (exact ixL .i64 i hl _))
        go_ret
        exact ⟨by rw [HPL.out]; rfl, rfl⟩
      · have hqq : ¬ ((ltr i).toNat : Int) = (c.toNat : Int) := fun h => hq (by
          have h2 : (ltr i).toNat = c.toNat := by omega
          rw [← of_toNat (ltr i), h2, of_toNat])
        have hqn : ¬ (ltr i).toNat = c.toNat := by omega
        have KN : Hid (∀ j, j < i + 1 → ltr j ≠ c) := fun j hj => by
          by_cases h : j < i
          · exact KM.out j h
          · obtain rfl : j = i := by omega
            exact hq
        clear KM hq
        go_wp2_with (refine wpList_ixc (.int .u8 ((ltr i).toNat : Int)) rfl _ 8 9 rfl ?_ ?_; (exact ixL .i64 i hl _))
        go_roundg (gk - 1)
        case measure => omega
        case rel => exact ⟨i + 1, by omega, rfl, rfl, KN⟩
    · have hl' : ¬ (i : Int) < 64 := by omega
      have hpl : pl c = -1 := by
        unfold pl
        rw [if_neg]
        intro h
        exact KM.out (plc c) (by omega) (ltr_of h)
      have HPL := hidW hpl
      clear KM hpl
      go_wp2
      go_ret
      exact ⟨by rw [HPL.out]; rfl, rfl⟩
theorem and_u8_1 (y : Nat) (hy : y < 256) : bits .and .u8 (y : Int) 1 = ((y % 2 : Nat) : Int) := by
  have h1 : (BitVec.ofInt 8 (y : Int)).toNat = y := by
    rw [BitVec.ofInt_natCast, BitVec.toNat_ofNat]; exact Nat.mod_eq_of_lt (by omega)
  have h2 : (BitVec.ofInt 8 1).toNat = 1 := rfl
  show IntKind.u8.wrap ((BitVec.ofInt 8 (y : Int) &&& BitVec.ofInt 8 1).toNat : Int) = _
  rw [BitVec.toNat_and, h1, h2, Nat.and_one_is_mod, IntKind.wrap_u8]
  omega
theorem bit_next (p k b : Nat) (hp : p < 64) (hb : b < 128) : (2 * (b : Int) + bits .and .u8 ((p : Int) / (2 : Int) ^ k % 256) 1) % 256 = ((2 * b + p / 2 ^ k % 2 : Nat) : Int) := by
  have h2 : p / 2 ^ k ≤ p := Nat.div_le_self _ _
  rw [divp]
  generalize p / 2 ^ k = y at *
  rw [show (y : Int) % 256 = (y : Int) by omega, and_u8_1 y (by omega)]
  omega
/-- What the loops keep, behind m bits. -/
structure Rf (w : World) (s : List UInt8) (m b : Nat) (v : Value) (W : World) : Prop where
  hb : b = pr (fun t => lb (plcs s) (8 * (m / 8) + t)) (m % 8)
  bl : Below w.heap.size w W
  ow : W.ownsRow w.heap.size 5 1 v (preo (plcs s) (m / 8)).length (Lib.byteCells (preo (plcs s) (m / 8)))
theorem Rf.lt {w W : World} {s : List UInt8} {m b : Nat} {v : Value} (h : Rf w s m b v W) : b < 128 := by
  have h1 := pr_lt (fun t => lb (plcs s) (8 * (m / 8) + t)) (fun t => lb_lt _ _) (m % 8)
  have h2 : (2 : Nat) ^ (m % 8) ≤ 2 ^ 7 := Nat.pow_le_pow_right (by decide) (by omega)
  rw [← h.hb] at h1
  omega
/-- What the reference's FromLetters answers. -/
def RfR (w : World) (s : List UInt8) (e : Value) (w' : World) : Prop := Below w.heap.size w w' ∧ ((dec s = none ∧ e = .tuple #[.string ⟨#[]⟩, .int .i64 2]) ∨ ∃ y, dec s = some y ∧ e = .tuple #[.string ⟨y.toArray⟩, .int .i64 0])
set_option maxHeartbeats 2000000 in
set_option maxRecDepth 20000 in
theorem rfrom_c (s : List UInt8) (hs : s.length ≤ 131072) (w : World) : Calls Tryd.prog 39 #[.string ⟨s.toArray⟩] w (RetW (RfR w s)) := by
  obtain ⟨S, hS⟩ : ∃ S, Hid (S = (⟨s.toArray⟩ : ByteArray)) := ⟨_, rfl⟩
  have hsz : S.size = s.length := by rw [hS.out]; exact sizeS s
  have g131 : ¬ (131072 : Int) < (s.length : Int) := by omega
  rw [← hS.out]
  have K0 : Hid (Rf w s 0 0 (.slice none 0 0) w ∧ ∀ i c, i < 0 → s[i]? = some c → plc c < 64) := ⟨⟨rfl, Below.refl _ _, World.ownsRow_nil _ _ _ _⟩, fun i c h => absurd h (Nat.not_lt_zero _)⟩
  go_enter Tryd.func39, Tryd.ntmps39
  go_wp2_with fail
  go_loopg [4, 5, 6, 7] s.length (fun gk s4 s5 s6 s7 wr => ∃ i m b : Nat, i + gk = s.length ∧ m = 6 * i ∧ s5 = .int .i64 (m : Int) ∧ s6 = .int .u8 (b : Int) ∧ s7 = .int .i64 (i : Int) ∧ Hid (Rf w s m b s4 wr ∧ ∀ j c, j < i → s[j]? = some c → plc c < 64))
  case atStart => exact ⟨0, 0, 0, by omega, rfl, rfl, rfl, rfl, K0⟩
  case round =>
    clear K0
    obtain ⟨i, m, b, hi, hm, rfl, rfl, rfl, KM⟩ := hrel
    by_cases hil : i < s.length
    · have hil' : (i : Int) < (s.length : Int) := by omega
      obtain ⟨c, hc⟩ : ∃ c, s[i]? = some c := ⟨_, List.getElem?_eq_getElem hil⟩
      have hix : ∀ w : World, (Instr.index 9 (.string S) (.int .i64 (i : Int))).run Tryd.prog w = .ok (.int .u8 (c.toNat : Int)) w := fun w => by rw [hS.out]; exact ixS s i c hc w
      have hP := rplace_c c wr
      by_cases hp : plc c < 64
      · have hpl : pl c = (plc c : Int) := if_pos hp
        rw [hpl] at hP
        obtain ⟨p, hpe⟩ : ∃ p, p = plc c := ⟨_, rfl⟩
        rw [← hpe] at hP hp
        have g0 : ¬ (p : Int) < 0 := by omega
        have hget : (plcs s).getD i 0 = p := by unfold plcs; rw [List.getD_eq_getElem?_getD, List.getElem?_map, hc, hpe]; rfl
        have HG := hidW hget
        have HOK : Hid (∀ j c, j < i + 1 → s[j]? = some c → plc c < 64) := fun j c' hj hc' => by
          by_cases h : j < i
          · exact KM.out.2 j c' h hc'
          · obtain rfl : j = i := by omega
            rw [hc] at hc'
            obtain rfl := Option.some.inj hc'
            rw [← hpe]; exact hp
        have K1 := hidW KM.out.1
        have Hm := hidW hm
        clear KM hget hpe hc hpl hm
        go_wp2_with fail
        refine hP.mono ?_
        rintro e' w' ⟨rfl, rfl⟩
        clear hP hix
        go_wp2_with fail
        go_loopg [4, 5, 6, 9] 6 (fun gk2 s4 s5 s6 s9 wr2 => ∃ t m2 b2 : Nat, t + gk2 = 6 ∧ m2 = 6 * i + t ∧ s5 = .int .i64 (m2 : Int) ∧ s6 = .int .u8 (b2 : Int) ∧ s9 = .int .i64 ((gk2 : Int) - 1) ∧ Hid (Rf w s m2 b2 s4 wr2))
        case atStart => exact ⟨0, m, b, by omega, by rw [Hm.out]; rfl, rfl, rfl, rfl, K1⟩
        case round =>
          clear K1
          obtain ⟨t, m2, b2, ht, hm2, rfl, rfl, rfl, KM2⟩ := hrel
          have hb2 := KM2.out.lt
          obtain ⟨qs, cs, hv⟩ := slice_own KM2.out.ow
          by_cases hg0 : 0 < gk
          · obtain ⟨k, rfl⟩ : ∃ k, gk = k + 1 := ⟨gk - 1, by omega⟩
            have Hm2 := hidW hm2
            clear hm2
            have hml : m2 ≤ 1000000 := by rw [Hm2.out]; omega
            have HL : Hid (lb (plcs s) m2 = p / 2 ^ k % 2) := by
              show _ = _
              rw [Hm2.out, lb_at (plcs s) i t (by omega), HG.out, show 5 - t = k by omega]
            obtain ⟨b3, hb3⟩ : ∃ b3, b3 = 2 * b2 + p / 2 ^ k % 2 := ⟨_, rfl⟩
            have hbn := bit_next p k b2 hp hb2
            rw [← hb3] at hbn
            by_cases h8 : (m2 + 1) % 8 = 0
            · have h8' : ((m2 : Int) + 1) % 8 = 0 := by omega
              obtain ⟨c2, hc2⟩ : ∃ c2, c2 = UInt8.ofNat (oct (plcs s) (m2 / 8)) := ⟨_, rfl⟩
              have hbo : b3 = oct (plcs s) (m2 / 8) := by
                rw [← pr_oct, pr, hb3, ← HL.out, KM2.out.hb, show m2 % 8 = 7 by omega, show 8 * (m2 / 8) + 7 = m2 by omega]
              have hcn : c2.toNat = b3 := by rw [hc2, hbo, UInt8.toNat_ofNat', Nat.mod_eq_of_lt (oct_lt _ _)]
              rw [← hcn] at hbn
              obtain ⟨q', n', c', W', hap, hbl', how'⟩ := push_b (W0 := w) rfl KM2.out.bl KM2.out.ow (by rw [preo_len]; omega) c2
              have HAP := hidW (hap 22)
              have KN : Hid (Rf w s (m2 + 1) 0 (.slice q' n' c') W') := by
                refine ⟨by rw [h8]; rfl, hbl', ?_⟩
                rw [show (m2 + 1) / 8 = m2 / 8 + 1 by omega, preo_succ, ← hc2]
                exact how'
              subst hv
              have HM3 : Hid (m2 + 1 = 6 * i + (t + 1)) := by show _ = _; rw [Hm2.out]; omega
              clear KM2 hap hbl' how' hc2 hbo hb3 hcn
              go_wp2_with (at_builtin; refine Lib.wpList_append_run _ rfl _ _ _ _ rfl _ _ rfl rfl _ _ HAP.out ?_)
              go_roundg k
              case measure => omega
              case rel => exact ⟨t + 1, m2 + 1, 0, by omega, HM3.out, rfl, rfl, rfl, KN⟩
            · have h8' : ¬ ((m2 : Int) + 1) % 8 = 0 := by omega
              have KN : Hid (Rf w s (m2 + 1) b3 (.slice qs (preo (plcs s) (m2 / 8)).length cs) wr) := by
                have k2 := KM2.out
                refine ⟨?_, k2.bl, ?_⟩
                · rw [show (m2 + 1) % 8 = m2 % 8 + 1 by omega, show (m2 + 1) / 8 = m2 / 8 by omega, pr, hb3, k2.hb, ← HL.out, show 8 * (m2 / 8) + m2 % 8 = m2 by omega]
                · rw [show (m2 + 1) / 8 = m2 / 8 by omega, ← hv]; exact k2.ow
              subst hv
              have HM3 : Hid (m2 + 1 = 6 * i + (t + 1)) := by show _ = _; rw [Hm2.out]; omega
              clear KM2 hb3
              go_wp2
              go_roundg k
              case measure => omega
              case rel => exact ⟨t + 1, m2 + 1, b3, by omega, HM3.out, rfl, congrArg (Value.int .u8) hbn, rfl, KN⟩
          · obtain rfl : gk = 0 := by omega
            subst hv
            have KN : Hid (Rf w s m2 b2 (.slice qs (preo (plcs s) (m2 / 8)).length cs) wr) := KM2
            have Hm2 : Hid (m2 = 6 * (i + 1)) := by show _ = _; omega
            clear KM2 hm2
            go_wp2
            go_roundg (s.length - (i + 1))
            case measure => omega
            case rel => exact ⟨i + 1, m2, b2, by omega, Hm2.out, rfl, rfl, rfl, KN.out, HOK.out⟩
      · have hpl : pl c = -1 := if_neg hp
        rw [hpl] at hP
        have KF : Hid (RfR w s (.tuple #[.string ⟨#[]⟩, .int .i64 2]) wr) := ⟨KM.out.1.bl, Or.inl ⟨dec_bad hc hp, rfl⟩⟩
        clear KM hc
        go_wp2_with fail
        refine hP.mono ?_
        rintro e' w' ⟨rfl, rfl⟩
        clear hP hix
        go_wp2
        go_ret2
        exact ⟨_, rfl, KF.out⟩
    · have hil' : ¬ (i : Int) < (s.length : Int) := by omega
      obtain rfl : i = s.length := by omega
      have hpl : (plcs s).length = s.length := by unfold plcs; exact List.length_map _
      have hoc : preo (plcs s) (m / 8) = octs (plcs s) := by
        have : m / 8 = 6 * (plcs s).length / 8 := by rw [hpl, hm]
        rw [this]; exact preo_all _
      have how := KM.out.1.ow
      rw [hoc] at how
      obtain ⟨qs, cs, rfl⟩ := slice_own how
      have hll : (octs (plcs s)).length ≤ 200000 := by rw [← hoc, preo_len]; omega
      have hcv := fun W (hb : Below wr.heap.size wr W) => pb_conv ((own_pb how).below hb)
      have hcv0 := hcv wr (Below.refl _ _)
      have hL := rletters_c (octs (plcs s)) hll wr
      have hok : ∀ c ∈ s, plc c < 64 := fun c hc => by
        obtain ⟨i, hi⟩ := List.getElem?_of_mem hc
        exact KM.out.2 i c (List.getElem?_eq_some_iff.1 hi).1 hi
      have K1 : Hid (Below w.heap.size w wr ∧ (∀ c ∈ s, plc c < 64)) := ⟨KM.out.1.bl, hok⟩
      obtain ⟨O, hO⟩ : ∃ O, Hid (O = (⟨(octs (plcs s)).toArray⟩ : ByteArray)) := ⟨_, rfl⟩
      rw [← hO.out] at hcv0 hL
      have HCV : Hid (∀ W, Below wr.heap.size wr W → (convert 22 9 (.slice qs (octs (plcs s)).length cs)).run Tryd.prog W = .ok (.string O) W) := fun W hb => by rw [hO.out]; exact hcv W hb
      clear KM how hok hoc hcv hm
      go_wp2_with fail
      refine hL.mono ?_
      rintro e' w3 ⟨v3, rfl, hb3, rfl⟩
      have K3 : Hid (Below w.heap.size w w3) := K1.out.1.trans (hb3.mono K1.out.1.size)
      have hcv3 := HCV.out w3 hb3
      obtain ⟨T, hT⟩ : ∃ T, Hid (T = (⟨(letters (octs (plcs s))).toArray⟩ : ByteArray)) := ⟨_, rfl⟩
      rw [← hT.out]
      clear hL hb3 hcv0
      by_cases hq : letters (octs (plcs s)) = s
      · have hqq : (T.toList == S.toList) = true := by rw [hT.out, hS.out, hq]; simp
        have KF : Hid (RfR w s (.tuple #[.string O, .int .i64 0]) w3) := ⟨K3.out, Or.inr ⟨octs (plcs s), by unfold dec; rw [if_pos ⟨K1.out.2, hq⟩]; rfl, by rw [hO.out]⟩⟩
        clear K1 K3 hq HCV
        go_wp2
        go_ret2
        exact ⟨_, rfl, KF.out⟩
      · have hqq : (T.toList == S.toList) = false := by
          rw [hT.out, hS.out, ByteArray.toList_eq, ByteArray.toList_eq, beq_eq_false_iff_ne]
          intro h
          exact hq (by simpa using h)
        have KF : Hid (RfR w s (.tuple #[.string ⟨#[]⟩, .int .i64 2]) w3) := ⟨K3.out, Or.inl ⟨by unfold dec; rw [if_neg (fun h => hq h.2)], rfl⟩⟩
        clear K1 K3 hq HCV hcv3
        go_wp2
        go_ret2
        exact ⟨_, rfl, KF.out⟩
theorem rfrom_n (S : ByteArray) (hs : 131072 < S.size) (w : World) : Calls Tryd.prog 39 #[.string S] w (RetW fun e w' => w = w' ∧ e = .tuple #[.string ⟨#[]⟩, .int .i64 1]) := by
  have g : (131072 : Int) < (S.size : Int) := by omega
  go_enter Tryd.func39, Tryd.ntmps39
  go_wp2
  go_ret2
  exact ⟨_, rfl, rfl, rfl⟩
end Go.Proofs.YtfkgfcggcfkkiaaDoor
namespace Go.Proofs.YtfkgfcggcfkkiaaDoor
open Go.RowKit Go.Sort
open WL
/-- What FromLetters answers. -/
def fT (t : ByteArray) : List UInt8 × Int := if 131072 < t.size then ([], 1) else match dec t.data.toList with | none => ([], 2) | some y => (y, 0)
theorem ba_of (t : ByteArray) : (⟨t.data.toList.toArray⟩ : ByteArray) = t := by simp
theorem from_any (t : ByteArray) (w : World) : Calls Tryd.prog 55 #[.string t] w (RetW fun e w' => Below w.heap.size w w' ∧ ∃ q n c, e = .tuple #[.slice q n c, .int .i64 (fT t).2] ∧ PB w' (.slice q n c) (fT t).1) := by
  by_cases h : 131072 < t.size
  · have e : fT t = ([], 1) := if_pos h
    rw [e]
    refine (from_n t h w).mono ?_
    rintro e w' ⟨v, rfl, hb, rfl⟩
    exact ⟨_, rfl, hb, none, 0, 0, rfl, none, 0, rfl, Or.inl rfl⟩
  · have hl : t.data.toList.length ≤ 131072 := by rw [Array.length_toList]; show t.size ≤ _; omega
    have hF := from_c t.data.toList hl w
    rw [ba_of] at hF
    refine hF.mono ?_
    rintro e w' ⟨v, rfl, hb, ⟨hd, rfl⟩ | ⟨y, v, hd, rfl, how⟩⟩
    · have e : fT t = ([], 2) := by unfold fT; rw [if_neg h, hd]
      rw [e]
      exact ⟨_, rfl, hb, none, 0, 0, rfl, none, 0, rfl, Or.inl rfl⟩
    · have e : fT t = (y, 0) := by unfold fT; rw [if_neg h, hd]
      rw [e]
      obtain ⟨q, c, rfl⟩ := slice_own how
      exact ⟨_, rfl, hb, q, _, c, rfl, own_pb how⟩
theorem rfrom_any (t : ByteArray) (w : World) : Calls Tryd.prog 39 #[.string t] w (RetW fun e w' => Below w.heap.size w w' ∧ e = .tuple #[.string ⟨(fT t).1.toArray⟩, .int .i64 (fT t).2]) := by
  by_cases h : 131072 < t.size
  · have e : fT t = ([], 1) := if_pos h
    rw [e]
    refine (rfrom_n t h w).mono ?_
    rintro e w' ⟨v, rfl, rfl, rfl⟩
    exact ⟨_, rfl, Below.refl _ _, rfl⟩
  · have hl : t.data.toList.length ≤ 131072 := by rw [Array.length_toList]; show t.size ≤ _; omega
    have hF := rfrom_c t.data.toList hl w
    rw [ba_of] at hF
    refine hF.mono ?_
    rintro e w' ⟨v, rfl, hb, ⟨hd, rfl⟩ | ⟨y, hd, rfl⟩⟩
    · have e : fT t = ([], 2) := by unfold fT; rw [if_neg h, hd]
      rw [e]
      exact ⟨_, rfl, hb, rfl⟩
    · have e : fT t = (y, 0) := by unfold fT; rw [if_neg h, hd]
      rw [e]
      exact ⟨_, rfl, hb, rfl⟩
theorem lentTo_at (s : ByteArray) : ∀ (k j : Nat) (_ : j < s.data.size), (SP.lentTo s k)[j]! = s.data[j]!
  | 0, j, hj => by rw [SP.lent_front s j hj, getElem!_pos s.data j hj]
  | k + 1, j, hj => by
    have hs : s.data.size = s.size := rfl
    rw [SP.lent_step, getElem!_set_other _ _ _ _ (by omega)]
    exact lentTo_at s k j hj
theorem lent_pb {W : World} {k : Nat} {s : ByteArray} (h : Holds SP.encB W k 0 (SP.lent s)) : PB W (.slice (some ⟨k, 0, none⟩) s.size (s.size + 160)) s.data.toList := by
  refine ⟨some ⟨k, 0, none⟩, s.size + 160, by rw [Array.length_toList]; rfl, Or.inr ⟨k, 0, rfl, fun j u hj => ?_⟩⟩
  have hj2 : j < s.data.size := by have := (List.getElem?_eq_some_iff.1 hj).1; simpa using this
  have hc := (h j (by rw [SP.lent_size]; show j < s.data.size + 160; omega)).1
  have e : (SP.lent s)[j]! = u := by
    unfold SP.lent
    rw [lentTo_at s 160 j hj2, getElem!_pos s.data j hj2]
    rw [Array.getElem?_toList, Array.getElem?_eq_getElem hj2] at hj
    exact Option.some.inj hj
  rw [e] at hc
  exact hc
theorem slLentW (k n : Nat) (hn : n ≤ 1048576) (w : World) : (Instr.sliceAt 22 (.slice (some ⟨k, 0, none⟩) (n + 160) (n + 160)) none (some (.int .i64 (n : Int))) none).run Tryd.prog w = .ok (.slice (some ⟨k, 0, none⟩) n (n + 160)) w := by
  have h1 : ¬ (n : Int) < 0 := by omega
  have h2 : (n : Int) ≤ (n : Int) + 160 := by omega
  go_simp
end Go.Proofs.YtfkgfcggcfkkiaaDoor
namespace Go.Proofs.YtfkgfcggcfkkiaaDoor
open Go.RowKit Go.Sort Go.Deep
namespace WI
variable {T : World → Prop} {u : List UInt8 → Bool}
def Itm.l : Itm → List Itm
  | .mk _ _ _ l => l
def Itm.d : Itm → List UInt8
  | .mk _ _ d _ => d
def zI : Itm := .mk 0 0 [] []
/-- What lies where a token has it. -/
def toTk (i : Itm) : Tk := ⟨(i.l.getD 1 zI).n, (i.l.getD 3 zI).d, (i.l.getD 5 zI).d, (i.l.getD 7 zI).d⟩
theorem toTk_tkI (t : Tk) : toTk (tkI t) = t := rfl
theorem DsM.own {w : World} {B : Nat} {i : Itm} {vd vl : Value} {vs : List Value} (h : DsM w B i vd vl vs) : w.ownsRow B 5 1 vd i.d.length (Lib.byteCells i.d) ∧ ∃ ws, vs = vd :: ws := by
  obtain ⟨k, n, d, l⟩ := i
  rw [DsM] at h
  obtain ⟨h1, ws, h2, -⟩ := h
  exact ⟨h1, ws, h2⟩
theorem InM.nlt {w : World} {B : Nat} {i : Itm} {vd vl : Value} (h : InM w B i vd vl) : i.n < 18446744073709551616 := by
  obtain ⟨k, n, d, l⟩ := i
  rw [InM] at h
  exact h.1
/-- An item's children, as toToken looks at them. -/
theorem tok_of {w : World} {B B0 : Nat} {i : Itm} {vd : Value} {ql : Option Addr} {ml cl : Nat} {ws : List Value} (hM : InM w B0 i vd (.slice ql ml cl)) (hD : DsM w B i vd (.slice ql ml cl) ws) (h8 : i.l.length = 8) : ml = 8 ∧ (toTk i).a < 18446744073709551616 ∧ ∃ b o q3 n3 c3 q5 n5 c5 q7 n7 c7, ql = some ⟨b, o, none⟩ ∧ (w.cell? ⟨b, o + 4 + 1, none⟩ = some (.int .u64 ((toTk i).a : Int)) ∧ w.cell? ⟨b, o + 12 + 2, none⟩ = some (.slice q3 n3 c3) ∧ w.cell? ⟨b, o + 20 + 2, none⟩ = some (.slice q5 n5 c5) ∧ w.cell? ⟨b, o + 28 + 2, none⟩ = some (.slice q7 n7 c7)) ∧
    w.ownsRow B 5 1 (.slice q3 n3 c3) (toTk i).ks.length (Lib.byteCells (toTk i).ks) ∧ w.ownsRow B 5 1 (.slice q5 n5 c5) (toTk i).sc.length (Lib.byteCells (toTk i).sc) ∧ w.ownsRow B 5 1 (.slice q7 n7 c7) (toTk i).sg.length (Lib.byteCells (toTk i).sg) ∧ List.Sublist [.slice q3 n3 c3, .slice q5 n5 c5, .slice q7 n7 c7] ws := by
  obtain ⟨k, n, d, l⟩ := i
  have hml := len_m hM
  match l, h8 with
  | [i0, i1, i2, i3, i4, i5, i6, i7], _ =>
    rw [InM] at hM
    obtain ⟨-, -, -, -, q, c, he, hin⟩ := hM
    rw [DsM] at hD
    obtain ⟨-, ws1, rfl, hd⟩ := hD
    rcases hd with ⟨h, -⟩ | ⟨b, o, m', c', he2, hd⟩
    · cases h
    rcases hin with h | ⟨b2, o2, rfl, -, hL⟩
    · cases h
    obtain ⟨rfl, -, rfl⟩ : ql = some ⟨b2, o2, none⟩ ∧ ml = _ ∧ cl = c := by simpa using he
    obtain ⟨⟨rfl, rfl⟩, -, -⟩ : (b2 = b ∧ o2 = o) ∧ ml = m' ∧ cl = c' := by simpa using he2
    obtain ⟨vd1, vl1, -, hI1⟩ := InL.get _ o2 1 i1 hL rfl
    simp only [DsL] at hd
    obtain ⟨e0, f0, g0, h0, k0, s0, ⟨e1, f1, g1, h1, k1, s1, ⟨e2, f2, g2, h2, k2, s2, ⟨e3, f3, g3, h3, k3, s3, ⟨e4, f4, g4, h4, k4, s4, ⟨e5, f5, g5, h5, k5, s5, ⟨e6, f6, g6, h6, k6, s6, ⟨e7, f7, g7, h7, k7, s7, rfl, rfl⟩, rfl⟩, rfl⟩, rfl⟩, rfl⟩, rfl⟩, rfl⟩, rfl⟩ := hd
    obtain ⟨o3, w3, hw3⟩ := s3.own
    obtain ⟨o5, w5, hw5⟩ := s5.own
    obtain ⟨o7, w7, hw7⟩ := s7.own
    obtain ⟨q3, c3, rfl⟩ := slice_own o3
    obtain ⟨q5, c5, rfl⟩ := slice_own o5
    obtain ⟨q7, c7, rfl⟩ := slice_own o7
    refine ⟨hml, hI1.nlt, b2, o2, q3, _, c3, q5, _, c5, q7, _, c7, rfl, ⟨k1.2.1, ?_, ?_, ?_⟩, o3, o5, o7, ?_⟩
    · have := k3.2.2.1
      rw [show o2 + 4 + 4 + 4 + 2 = o2 + 12 + 2 by omega] at this
      exact this
    · have := k5.2.2.1
      rw [show o2 + 4 + 4 + 4 + 4 + 4 + 2 = o2 + 20 + 2 by omega] at this
      exact this
    · have := k7.2.2.1
      rw [show o2 + 4 + 4 + 4 + 4 + 4 + 4 + 4 + 2 = o2 + 28 + 2 by omega] at this
      exact this
    · rw [hw3, hw5, hw7]
      refine List.Sublist.cons _ ?_
      refine (List.Sublist.trans ?_ (List.sublist_append_right g0 _))
      refine (List.Sublist.trans ?_ (List.sublist_append_right g1 _))
      refine (List.Sublist.trans ?_ (List.sublist_append_right g2 _))
      rw [List.cons_append]
      refine List.Sublist.cons_cons _ ?_
      refine (List.Sublist.trans ?_ (List.sublist_append_right w3 _))
      refine (List.Sublist.trans ?_ (List.sublist_append_right g4 _))
      rw [List.cons_append]
      refine List.Sublist.cons_cons _ ?_
      refine (List.Sublist.trans ?_ (List.sublist_append_right w5 _))
      refine (List.Sublist.trans ?_ (List.sublist_append_right g6 _))
      rw [List.cons_append]
      exact List.Sublist.cons_cons _ (List.nil_sublist _)
theorem Asc.sub {hi : Nat} : ∀ {a b : List Value}, List.Sublist a b → ∀ {lo : Nat}, Asc lo hi b → Asc lo hi a
  | _, _, .slnil, lo, h => h
  | _, _, .cons v hs, lo, h => by
    rw [Asc] at h
    rcases h with ⟨-, h⟩ | ⟨g, -, h1, h2, h3⟩
    · exact Asc.sub hs h
    · exact (Asc.sub hs h3).lo (by omega)
  | _, _, .cons_cons v hs, lo, h => by
    rw [Asc] at h ⊢
    rcases h with ⟨h0, h⟩ | ⟨g, h0, h1, h2, h3⟩
    · exact Or.inl ⟨h0, Asc.sub hs h⟩
    · exact Or.inr ⟨g, h0, h1, h2, Asc.sub hs h3⟩
theorem fromL_c (t : ByteArray) (w : World) : Calls Tryd.prog 55 #[.string t] w (RetW fun e w' => Below w.heap.size w w' ∧ ∃ q n c, e = .tuple #[.slice q n c, .int .i64 (fT t).2] ∧ PBq w' w'.heap.size q n c (fT t).1) := by
  by_cases h : 131072 < t.size
  · have e : fT t = ([], 1) := if_pos h
    rw [e]
    refine (from_n t h w).mono ?_
    rintro e w' ⟨v, rfl, hb, rfl⟩
    exact ⟨_, rfl, hb, none, 0, 0, rfl, rfl, Nat.le_refl _, Or.inl ⟨rfl, rfl⟩⟩
  · have hl : t.data.toList.length ≤ 131072 := by rw [Array.length_toList]; show t.size ≤ _; omega
    have hF := from_c t.data.toList hl w
    rw [ba_of] at hF
    refine hF.mono ?_
    rintro e w' ⟨v, rfl, hb, ⟨hd, rfl⟩ | ⟨y, v, hd, rfl, how⟩⟩
    · have e : fT t = ([], 2) := by unfold fT; rw [if_neg h, hd]
      rw [e]
      exact ⟨_, rfl, hb, none, 0, 0, rfl, rfl, Nat.le_refl _, Or.inl ⟨rfl, rfl⟩⟩
    · have e : fT t = (y, 0) := by unfold fT; rw [if_neg h, hd]
      rw [e]
      obtain ⟨q, c, rfl⟩ := slice_own how
      exact ⟨_, rfl, hb, q, _, c, rfl, own_pbq how⟩
end WI
end Go.Proofs.YtfkgfcggcfkkiaaDoor
namespace Go.Proofs.YtfkgfcggcfkkiaaDoor
open Go.RowKit Go.Sort Go.Deep
namespace WI
variable {T : World → Prop} {u : List UInt8 → Bool}
/-- S is the text of these tokens. -/
def tkS (u : List UInt8 → Bool) (x : List UInt8) (L : List Tk) : Prop := L.length ≤ 64 ∧ Pok u L ∧ tx L = x ∧ ∀ t ∈ L, t.a < 18446744073709551616
theorem n64_toI (L : List Tk) (h : ∀ t ∈ L, t.a < 18446744073709551616) : n64 (toI L) := by
  rw [toI, n64]
  refine ⟨by decide, ?_⟩
  induction L with
  | nil => rw [List.map_nil, n64s]; trivial
  | cons t r ih =>
    rw [List.map_cons, n64s]
    refine ⟨?_, ih fun x hx => h x (by simp [hx])⟩
    have ht := h t (by simp)
    simp only [tkI, tkC, n64, n64s, and_true, true_and]
    omega
theorem tkS_kn {x : List UInt8} {L : List Tk} (h : tkS u x L) : mvP x = true ∧ fT ⟨(x.drop 3).toArray⟩ = (byt (toI L), 0) ∧ prs u (byt (toI L)) = (toI L, 0) := by
  obtain ⟨h1, ⟨h2, h3, h4⟩, h5, h6⟩ := h
  have hb : (byt (toI L)).length ≤ 65536 := by have := h4.2.2.2; omega
  subst h5
  refine ⟨rfl, ?_, ?_⟩
  · have e : (tx L).drop 3 = WL.letters (byt (toI L)) := rfl
    rw [e]
    unfold fT
    have hs : (⟨(WL.letters (byt (toI L))).toArray⟩ : ByteArray).size = (WL.letters (byt (toI L))).length := by show (WL.letters (byt (toI L))).toArray.size = _; simp
    rw [if_neg (by rw [hs, WL.letters_len]; unfold WL.nl; omega)]
    show (match WL.dec (WL.letters (byt (toI L))).toArray.toList with | none => ([], 2) | some y => (y, (0 : Int))) = _
    rw [List.toList_toArray, WL.dec_letters]
  · unfold prs
    rw [if_neg (by omega), rdAll_byt h4 (n64_toI L h6)]
theorem map_tkI (L : List Tk) : (L.map tkI).map toTk = L := by
  rw [List.map_map]
  have : (toTk ∘ tkI) = id := rfl
  rw [this, List.map_id]
/-- Tokens' cells and their rows. -/
def TCx (w : World) (B : Nat) (l : List Itm) (cs vs : List Value) : Prop := cs.length = l.length * 4 ∧ vs.length = l.length * 3 ∧ ∀ j i, l[j]? = some i → (toTk i).a < 18446744073709551616 ∧ ∃ q3 n3 c3 q5 n5 c5 q7 n7 c7, (cs[j * 4]? = some (.int .u64 ((toTk i).a : Int)) ∧ cs[j * 4 + 1]? = some (.slice q3 n3 c3) ∧ cs[j * 4 + 2]? = some (.slice q5 n5 c5) ∧ cs[j * 4 + 3]? = some (.slice q7 n7 c7)) ∧ (vs[j * 3]? = some (.slice q3 n3 c3) ∧ vs[j * 3 + 1]? = some (.slice q5 n5 c5) ∧ vs[j * 3 + 2]? = some (.slice q7 n7 c7)) ∧ w.ownsRow B 5 1 (.slice q3 n3 c3) (toTk i).ks.length (Lib.byteCells (toTk i).ks) ∧ w.ownsRow B 5 1 (.slice q5 n5 c5) (toTk i).sc.length (Lib.byteCells (toTk i).sc) ∧ w.ownsRow B 5 1 (.slice q7 n7 c7) (toTk i).sg.length (Lib.byteCells (toTk i).sg)
theorem TCx.nil (w : World) (B : Nat) : TCx w B [] [] [] := ⟨rfl, rfl, fun j i h => by cases h⟩
theorem app_l {α : Type} {a b : List α} {j : Nat} {x : α} (h : a[j]? = some x) : (a ++ b)[j]? = some x := by
  rw [List.getElem?_append_left (List.getElem?_eq_some_iff.1 h).1]; exact h
theorem app_r {α : Type} {a b : List α} {n j : Nat} {x : α} (hn : a.length = n) (h : b[j]? = some x) : (a ++ b)[n + j]? = some x := by
  rw [List.getElem?_append_right (by omega), hn, Nat.add_sub_cancel_left]; exact h
theorem TCx.snoc {w : World} {B : Nat} {l : List Itm} {cs vs : List Value} (h : TCx w B l cs vs) {i : Itm} {q3 : Option Addr} {n3 c3 : Nat} {q5 : Option Addr} {n5 c5 : Nat} {q7 : Option Addr} {n7 c7 : Nat} (ha : (toTk i).a < 18446744073709551616) (h3 : w.ownsRow B 5 1 (.slice q3 n3 c3) (toTk i).ks.length (Lib.byteCells (toTk i).ks)) (h5 : w.ownsRow B 5 1 (.slice q5 n5 c5) (toTk i).sc.length (Lib.byteCells (toTk i).sc)) (h7 : w.ownsRow B 5 1 (.slice q7 n7 c7) (toTk i).sg.length (Lib.byteCells (toTk i).sg)) :
    TCx w B (l ++ [i]) (cs ++ [.int .u64 ((toTk i).a : Int), .slice q3 n3 c3, .slice q5 n5 c5, .slice q7 n7 c7]) (vs ++ [.slice q3 n3 c3, .slice q5 n5 c5, .slice q7 n7 c7]) := by
  obtain ⟨h1, h2, hj⟩ := h
  refine ⟨by simp [h1]; omega, by simp [h2]; omega, fun j x hx => ?_⟩
  by_cases hlt : j < l.length
  · rw [List.getElem?_append_left hlt] at hx
    obtain ⟨k0, p3, m3, d3, p5, m5, d5, p7, m7, d7, ⟨a0, a1, a2, a3⟩, ⟨b0, b1, b2⟩, k1⟩ := hj j x hx
    exact ⟨k0, p3, m3, d3, p5, m5, d5, p7, m7, d7, ⟨app_l a0, app_l a1, app_l a2, app_l a3⟩, ⟨app_l b0, app_l b1, app_l b2⟩, k1⟩
  · have hje : j = l.length := by
      have := (List.getElem?_eq_some_iff.1 hx).1
      rw [List.length_append] at this
      simp at this
      omega
    subst hje
    rw [List.getElem?_append_right (Nat.le_refl _), Nat.sub_self] at hx
    obtain rfl := Option.some.inj hx
    exact ⟨ha, q3, n3, c3, q5, n5, c5, q7, n7, c7, ⟨app_r (j := 0) h1 rfl, app_r (j := 1) h1 rfl, app_r (j := 2) h1 rfl, app_r (j := 3) h1 rfl⟩, ⟨app_r (j := 0) h2 rfl, app_r (j := 1) h2 rfl, app_r (j := 2) h2 rfl⟩, h3, h5, h7⟩
theorem TCx.below {w w' : World} {B : Nat} {l : List Itm} {cs vs : List Value} (h : TCx w B l cs vs) (hb : Below w.heap.size w w') : TCx w' B l cs vs := by
  obtain ⟨h1, h2, hj⟩ := h
  refine ⟨h1, h2, fun j x hx => ?_⟩
  obtain ⟨k0, p3, m3, d3, p5, m5, d5, p7, m7, d7, ka, kb, k1, k2, k3⟩ := hj j x hx
  exact ⟨k0, p3, m3, d3, p5, m5, d5, p7, m7, d7, ka, kb, own_at k1 (fun g hg => hb.block g (own_lt k1 g hg).2), own_at k2 (fun g hg => hb.block g (own_lt k2 g hg).2), own_at k3 (fun g hg => hb.block g (own_lt k3 g hg).2)⟩
/-- Such tokens in memory. -/
theorem TCx.tkl {w : World} {B : Nat} {l : List Itm} {cs vs : List Value} {g : Nat} (h : TCx w B l cs vs) (hg : g < w.heap.size) (hc : ∀ (j : Nat) y, cs[j]? = some y → w.cell? ⟨g, j, none⟩ = some y) (hlen : ∀ (j : Nat) (i : Itm), l[j]? = some i → (toTk i).ks.length ≤ 4611686018427387904 ∧ (toTk i).sc.length ≤ 4611686018427387904 ∧ (toTk i).sg.length ≤ 4611686018427387904) : TkL w w.heap.size (some ⟨g, 0, none⟩) (l.map toTk) := by
  refine Or.inr ⟨g, 0, rfl, hg, fun j t ht => ?_⟩
  rw [List.getElem?_map] at ht
  obtain ⟨i, hi, rfl⟩ := Option.map_eq_some_iff.1 ht
  obtain ⟨k0, p3, m3, d3, p5, m5, d5, p7, m7, d7, ⟨a0, a1, a2, a3⟩, -, k1, k2, k3⟩ := h.2.2 j i hi
  obtain ⟨e3, e5, e7⟩ := hlen j i hi
  refine ⟨p3, m3, d3, p5, m5, d5, p7, m7, d7, ⟨?_, ?_, ?_, ?_⟩, k0, own_pbb k1 w (fun _ _ _ => rfl), own_pbb k2 w (fun _ _ _ => rfl), own_pbb k3 w (fun _ _ _ => rfl), e3, e5, e7⟩
  · rw [Nat.zero_add]; exact hc _ _ a0
  · rw [Nat.zero_add]; exact hc _ _ a1
  · rw [Nat.zero_add]; exact hc _ _ a2
  · rw [Nat.zero_add]; exact hc _ _ a3
theorem undTk : Tryd.prog.underlying 47 = some (.slice 49) := by kernel_rfl
theorem infoTk : (Tryd.prog.info? 49).map (fun i => (i.size, i.bytes, i.zero.map (fun z => z.cells.size))) = some (4, 80, some 4) := by kernel_rfl
/-- 'append(l, t)' of a token. -/
theorem tk_app {base : Nat} {W : World} {v : Value} {n g : Nat} {xs news : List Value} (hown : W.ownsRow base 49 4 v n xs) (hl : news.length = 4) (hc : ∀ j u, news[j]? = some u → W.cell? ⟨g, j, none⟩ = some u) (h1 : ∀ u ∈ news, u.oneCell' = true) (hn : n + 1 ≤ 1000000) (hb : base ≤ W.heap.size) :
    ∃ q' n' c' W', (Builtin.append_ #[47, 47] 47 #[v, .slice (some ⟨g, 0, none⟩) 1 1]).run Tryd.prog W = .ok (.slice q' n' c') W' ∧ W'.ownsRow base 49 4 (.slice q' n' c') (n + 1) (xs ++ news) ∧ W.grownBy W' v.ownBlock := by
  obtain ⟨i, hi, he⟩ := Option.map_eq_some_iff.1 infoTk
  simp only [Prod.mk.injEq] at he
  obtain ⟨h2, h3, h4⟩ := he
  obtain ⟨z, hz, hz2⟩ := Option.map_eq_some_iff.1 h4
  obtain ⟨v', W', r1, r2, r3, r4⟩ := run_append_own (P := Tryd.prog) W base 47 47 49 i z 4 80 undTk hi hz h2 h3 hz2 (by decide) v n xs hown ⟨g, 0, none⟩ 1 1 news (by rw [hl]) (fun j u hj => by rw [addS0, Nat.zero_add]; exact hc j u hj) h1 (by unfold maxLen; omega) (by omega) hb
  obtain ⟨q', n', c', rfl⟩ : ∃ q' n' c', v' = .slice q' n' c' := by
    rcases r2.2 with ⟨h, -⟩ | ⟨g, cap, cur, h, -⟩
    · exact ⟨_, _, _, h⟩
    · exact ⟨_, _, _, h⟩
  exact ⟨q', n', c', W', r1, r2, r3⟩
end WI
end Go.Proofs.YtfkgfcggcfkkiaaDoor
