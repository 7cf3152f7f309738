import Derived.BigRegion
import Derived.Deep.RegionHeld3
import Derived.BigQuiet
import Derived.Lib.Endian
import Derived.Lib.EndianBits
import Derived.Deep.Draws
import Derived.Deep.QuietTactic
import Derived.Lib.ValidAsc
import Derived.Laws.BitsAllLaws
import Derived.Test.YtfkgfcggcfkkiaaDoorwk11
set_option linter.unusedVariables false
set_option linter.unusedSimpArgs false
namespace Go.Proofs.YtfkgfcggcfkkiaaDoor
open Go.RowKit Go.Sort Go.Deep
namespace WI
variable {T : World → Prop} {u : List UInt8 → Bool}
/-- What fromText gives. -/
def FxR (u : List UInt8 → Bool) (x : List UInt8) (w : World) (e : Ending) (w' : World) : Prop := Below w.heap.size w w' ∧ ((∃ L q c cs vs, tkS u x L ∧ e = .returned (.slice q L.length c) ∧ w'.ownsRow w.heap.size 49 4 (.slice q L.length c) L.length cs ∧ TCx w' w.heap.size (L.map tkI) cs vs ∧ Asc w.heap.size w'.heap.size vs) ∨ ((∀ L, ¬ tkS u x L) ∧ e = thrown))
theorem own_cellsT {base n : Nat} {W : World} {v : Value} {xs : List Value} (h : W.ownsRow base 49 4 v n xs) : (n = 0 ∧ v = .slice none 0 0 ∧ xs = []) ∨ ∃ g cap, v = .slice (some ⟨g, 0, none⟩) n cap ∧ base ≤ g ∧ g < W.heap.size ∧ ∀ j u, xs[j]? = some u → W.cell? ⟨g, j, none⟩ = some u := by
  rcases h with ⟨h0, ⟨rfl, rfl⟩ | ⟨g, cap, cur, rfl, h1, h2, h3, h4, h5, h6⟩⟩
  · exact Or.inl ⟨rfl, rfl, List.length_eq_zero_iff.1 (by simpa using h0)⟩
  · refine Or.inr ⟨g, cap, rfl, h1, (Array.getElem?_eq_some_iff.1 h2).1, fun j u hj => ?_⟩
    rw [← h6, List.getElem?_take] at hj
    split at hj
    · rw [Array.getElem?_toList] at hj
      unfold World.cell?
      simp only [h2]
      exact hj
    · cases hj
theorem own_lowT {B B' n : Nat} {w : World} {v : Value} {xs : List Value} (h : w.ownsRow B 49 4 v n xs) (hB : B' ≤ B) : w.ownsRow B' 49 4 v n xs := by
  rcases h with ⟨h0, h1 | ⟨g, cap, cur, h1, h2, h3⟩⟩
  · exact ⟨h0, Or.inl h1⟩
  · exact ⟨h0, Or.inr ⟨g, cap, cur, h1, Nat.le_trans hB h2, h3⟩⟩
theorem TCx.dn {w : World} {B B' : Nat} {l : List Itm} {cs vs : List Value} (h : TCx w B l cs vs) (hB : B' ≤ B) : TCx w B' l cs vs := by
  obtain ⟨h1, h2, hj⟩ := h
  refine ⟨h1, h2, fun j x hx => ?_⟩
  obtain ⟨k0, p3, m3, d3, p5, m5, d5, p7, m7, d7, ka, kb, k1, k2, k3⟩ := hj j x hx
  exact ⟨k0, p3, m3, d3, p5, m5, d5, p7, m7, d7, ka, kb, own_low k1 hB, own_low k2 hB, own_low k3 hB⟩
/-- What the loop over the item's children keeps. -/
structure LtI (w5 : World) (B : Nat) (li : List Itm) (ws : List Value) (j : Nat) (v : Value) (cs vs : List Value) (wr : World) : Prop where
  bl : Below w5.heap.size w5 wr
  own : wr.ownsRow w5.heap.size 49 4 v j cs
  tc : TCx w5 B (li.take j) cs vs
  sub : List.Sublist vs (ws.take (cnts (li.take j)))
theorem LtI.add {w5 wr w6 wa : World} {B : Nat} {li : List Itm} {ws : List Value} {j : Nat} {v : Value} {cs vs : List Value} (L : LtI w5 B li ws j v cs vs wr) (hb6 : Below wr.heap.size wr w6) {i : Itm} (hi : li[j]? = some i) {vs1 : List Value} (htk : ws.take (cnts (li.take (j + 1))) = ws.take (cnts (li.take j)) ++ vs1) {q3 : Option Addr} {n3 c3 : Nat} {q5 : Option Addr} {n5 c5 : Nat} {q7 : Option Addr} {n7 c7 : Nat} (ha : (toTk i).a < 18446744073709551616) (h3 : w5.ownsRow B 5 1 (.slice q3 n3 c3) (toTk i).ks.length (Lib.byteCells (toTk i).ks)) (h5 : w5.ownsRow B 5 1 (.slice q5 n5 c5) (toTk i).sc.length (Lib.byteCells (toTk i).sc)) (h7 : w5.ownsRow B 5 1 (.slice q7 n7 c7) (toTk i).sg.length (Lib.byteCells (toTk i).sg)) (hs : List.Sublist [.slice q3 n3 c3, .slice q5 n5 c5, .slice q7 n7 c7] vs1) (hwa : w6.alloc (.cells #[.int .u64 ((toTk i).a : Int), .slice q3 n3 c3, .slice q5 n5 c5, .slice q7 n7 c7] 49) = wa) (hj : j ≤ 10000) :
    ∃ q' n' c' W', (Builtin.append_ #[47, 47] 47 #[v, .slice (some ⟨w6.heap.size, 0, none⟩) 1 1]).run Tryd.prog wa = .ok (.slice q' n' c') W' ∧ ∃ cs' vs', LtI w5 B li ws (j + 1) (.slice q' n' c') cs' vs' W' := by
  have hba : Below w6.heap.size w6 wa := by rw [← hwa]; exact alloc_below _ _
  have hbr : Below wr.heap.size wr wa := hb6.trans (hba.mono hb6.size)
  have hown : wa.ownsRow w5.heap.size 49 4 v j cs := own_at L.own (fun k hk => hbr.block k (L.own.lt k hk).2)
  have h51 := L.bl.size
  have h52 := hbr.size
  obtain ⟨q', n', c', W', r1, r2, r3⟩ := tk_app (g := w6.heap.size) hown (news := [.int .u64 ((toTk i).a : Int), .slice q3 n3 c3, .slice q5 n5 c5, .slice q7 n7 c7]) rfl (fun x y hx => by
    rw [← hwa]
    have := al_r w6 [.int .u64 ((toTk i).a : Int), .slice q3 n3 c3, .slice q5 n5 c5, .slice q7 n7 c7] 49 _ rfl x y hx
    rw [Nat.zero_add] at this
    exact this) (fun y hy => by
      simp only [List.mem_cons, List.not_mem_nil, or_false] at hy
      rcases hy with rfl | rfl | rfl | rfl <;> rfl) (by omega) (by omega)
  refine ⟨q', n', c', W', r1, _, vs ++ [.slice q3 n3 c3, .slice q5 n5 c5, .slice q7 n7 c7], ?_, r2, ?_, ?_⟩
  · exact below_grown (L.bl.trans (hbr.mono h51)) r3 (by omega) (fun k hk => (L.own.lt k hk).1)
  · rw [take_s li j i hi]
    exact L.tc.snoc ha h3 h5 h7
  · rw [htk]
    exact L.sub.append hs
theorem tkS_eq {x : List UInt8} {L : List Tk} {y : List UInt8} {i : Itm} (hy : fT ⟨(x.drop 3).toArray⟩ = (y, 0)) (hi : prs u y = (i, 0)) (h : tkS u x L) : i.l = L.map tkI := by
  obtain ⟨-, h2, h3⟩ := tkS_kn h
  rw [hy] at h2
  simp only [Prod.mk.injEq, and_true] at h2
  rw [h2, h3] at hi
  simp only [Prod.mk.injEq, and_true] at hi
  rw [← hi]
  rfl
theorem txt_dec (S : ByteArray) (L : List Tk) : ((⟨(tx L).toArray⟩ : ByteArray).toList == S.toList) = decide (tx L = S.data.toList) := by
  rw [ByteArray.toList_eq, ByteArray.toList_eq]
  by_cases h : tx L = S.data.toList
  · rw [decide_eq_true h, h]; simp
  · rw [decide_eq_false h]
    simpa using h
theorem own_same {B B' n n' : Nat} {w w' : World} {v : Value} {xs xs' : List Value} (h : w.ownsRow B 5 1 v n xs) (h' : w'.ownsRow B' 5 1 v n' xs') : n = n' := by
  obtain ⟨q, c, rfl⟩ := slice_own h
  obtain ⟨q', c', e⟩ := slice_own h'
  exact (by simpa using e : q = q' ∧ n = n' ∧ c = c').2.1
theorem fld3 (k : Int) (n : Int) (a : Value) (w : World) (q : Option Addr) (m c : Nat) : (Instr.field 27 (.agg #[.int .i64 k, .int .u64 n, a, .slice q m c]) 3).run Tryd.prog w = .ok (.slice q m c) w := by kernel_rfl
set_option maxHeartbeats 4000000 in
set_option maxRecDepth 20000 in
theorem fromText_c (hU : UV T u) (S : ByteArray) (w : World) (hT : T w) : Calls Tryd.prog 38 #[.string S] w (FxR u S.data.toList w) := by
  have h2s := hU.2.1 w hT
  have HT : Hid (∀ X, Below w.heap.size w X → T X) := fun X hX => hU.1 w X hT (fun k hk => hX.block k (by omega))
  have KT : Hid (∀ X, Below w.heap.size w X → (∀ L, ¬ tkS u S.data.toList L) → FxR u S.data.toList w thrown X) := fun X hX hn => ⟨hX, Or.inr ⟨hn, rfl⟩⟩
  have hc := cutMv_c S w
  clear hT
  go_enter Tryd.func38, Tryd.ntmps38
  go_wp2_with fail
  refine hc.mono ?_
  rintro e w ⟨rfl, R, b, rfl, hb, hR⟩
  cases b with
  | false =>
    have KR := hidW (KT.out w (Below.refl _ _) (fun L h => by have := (tkS_kn h).1; rw [← hb] at this; cases this))
    clear hc hb hR
    go_wp2_with fail
    refine (must_n _).mono ?_
    rintro e w1 ⟨rfl, rfl⟩
    simp only [Exit.inBlock, Exit.then, bodyPost]
    exact ⟨trivial, KR.out⟩
  | true =>
  have hRe : R = ⟨(S.data.toList.drop 3).toArray⟩ := by rw [← (hR rfl).1, ba_of]
  obtain ⟨y, er2, hy⟩ : ∃ y er2, Hid (fT R = (y, er2)) := ⟨_, _, rfl⟩
  have hfl := fromL_c R w
  rw [hy.out] at hfl
  have HR := hidW hRe
  clear hc hb hR hRe
  go_wp2_with fail
  refine (must_y _).mono ?_
  rintro e w ⟨rfl, rfl⟩
  go_wp2_with fail
  refine hfl.mono ?_
  rintro e w2 ⟨v2, rfl, hb2, q2, n2, c2, rfl, hP2⟩
  have hrb := rightB_c q2 n2 c2 er2 w2
  have B2 := hidW hb2
  have HP := hidW hP2
  clear hfl hb2 hP2
  go_wp2_with fail
  refine hrb.mono ?_
  rintro e w3 ⟨hb3, ⟨h0, rfl⟩ | ⟨h0, rfl⟩⟩
  rotate_left
  · have KR := hidW (KT.out w3 (B2.out.trans (hb3.mono B2.out.size)) (fun L h => by
      have := (tkS_kn h).2.1
      rw [← HR.out, hy.out] at this
      exact h0 (by rw [(Prod.mk.inj this).2])))
    clear hrb hb3 h0
    simp only [thrown, Exit.inBlock, Exit.then, bodyPost]
    exact ⟨trivial, KR.out⟩
  subst h0
  have B3 := hidW (B2.out.trans (hb3.mono B2.out.size))
  obtain ⟨i, er4, hi⟩ : ∃ i er4, Hid (prs u y = (i, er4)) := ⟨_, _, rfl⟩
  have hpc := Parse_any hU w3 q2 n2 c2 y (HT.out w3 B3.out) ((HP.out.bel hb3).up hb3.size)
  rw [hi.out] at hpc
  have hkn := hidW (prs_kn u y)
  rw [hi.out] at hkn
  clear hrb hb3 HP B2
  go_wp2_with fail
  refine hpc.mono ?_
  rintro e w4 ⟨v4, rfl, hb4, qd, dl, cd, ql, ml, cl, rfl, hI4⟩
  unfold itv
  have hri := rightI_c i.k i.n qd dl cd ql ml cl er4 w4
  have H4 := hidW (And.intro hb4 hI4)
  clear hpc hb4 hI4
  go_wp2_with fail
  refine hri.mono ?_
  rintro e w5 ⟨hb5, ⟨h0, rfl⟩ | ⟨h0, rfl⟩⟩
  rotate_left
  · have KR := hidW (KT.out w5 ((B3.out.trans (H4.out.1.mono B3.out.size)).trans (hb5.mono (Nat.le_trans B3.out.size H4.out.1.size))) (fun L h => by
      have h1 := (tkS_kn h).2.1
      rw [← HR.out, hy.out] at h1
      have h2 := (tkS_kn h).2.2
      rw [← (Prod.mk.inj h1).1, hi.out] at h2
      exact h0 (Prod.mk.inj h2).2))
    clear hri hb5 h0
    simp only [thrown, Exit.inBlock, Exit.then, bodyPost]
    exact ⟨trivial, KR.out⟩
  subst h0
  have HE : Hid (∀ L, tkS u S.data.toList L → i.l = L.map tkI) := fun L h => tkS_eq (by rw [← HR.out]; exact hy.out) hi.out h
  have B5 := hidW ((B3.out.trans (H4.out.1.mono B3.out.size)).trans (hb5.mono (Nat.le_trans B3.out.size H4.out.1.size)))
  have h35 : Hid (w.heap.size ≤ w3.heap.size ∧ w3.heap.size ≤ w5.heap.size) := ⟨B3.out.size, Nat.le_trans H4.out.1.size hb5.size⟩
  obtain ⟨vs0, hA0, hD0⟩ := H4.out.2.up hb5
  obtain ⟨hM5, hD5⟩ := hD0 w5 (fun _ _ _ => rfl)
  have hall : ∀ v ∈ vs0, ∃ d : List UInt8, w5.ownsRow w3.heap.size 5 1 v d.length (Lib.byteCells d) ∧ d.length ≤ 65536 := by
    obtain ⟨hshp, hbyt⟩ : shp u i = true ∧ (byt i).length ≤ 65536 := by
      rcases hkn.out.2.2 with h | h
      · rw [h]
        refine ⟨by simp [shp, own, shps], ?_⟩
        rw [byt]
        simp [hd]
      · exact h
    intro v hv
    obtain ⟨d, h1, h2⟩ := DsM.all i _ _ _ hshp hD5 v hv
    exact ⟨d, h1, by omega⟩
  obtain ⟨ki, ni, di, li⟩ := i
  obtain rfl := len_m hM5
  have hcn : cnts li ≤ 4095 := by have := hkn.out.1; rw [cnt] at this; omega
  rw [DsM] at hD5
  obtain ⟨-, ws, rfl, hws⟩ := hD5
  have hA1 : Hid (Asc w3.heap.size w5.heap.size ws) := Asc.sub (List.sublist_cons_self _ _) hA0
  have hwl : Hid (ws.length = cnts li) := by
    rcases hws with ⟨rfl, rfl⟩ | ⟨b, o, m', c', -, h⟩
    · rw [cnts]; rfl
    · exact DsL.len li b o ws h
  have HAL : Hid (∀ v ∈ ws, ∃ d : List UInt8, w5.ownsRow w3.heap.size 5 1 v d.length (Lib.byteCells d) ∧ d.length ≤ 65536) := fun v hv => hall v (List.mem_cons_of_mem _ hv)
  have HM := hidW (And.intro hM5 hws)
  have L0 : Hid (LtI w5 w3.heap.size li ws 0 (.slice none 0 0) [] [] w5) := ⟨Below.refl _ _, World.ownsRow_nil _ _ _ _, TCx.nil _ _, List.nil_sublist _⟩
  obtain ⟨m, hm⟩ : ∃ m, Hid (li.length = m) := ⟨_, rfl⟩
  have hmb : m ≤ 4095 := by rw [← hm.out]; have := len_cnts li; omega
  unfold itv
  rw [hm.out]
  clear hri hb5 H4 hA0 hD0 hM5 hws hall
  have hfd := fun X => fld3 (Itm.mk ki ni di li).k ((Itm.mk ki ni di li).n : Int) (.slice qd dl cd) X ql m cl
  go_wp2
  go_loopg [5, 26] (m + 1) (fun gk s5 s26 wr => ∃ (j : Nat) (v : Value) (cs vs : List Value), v = s5 ∧ s26 = .int .i64 (j : Int) ∧ gk = m + 1 - j ∧ j ≤ m ∧ LtI w5 w3.heap.size li ws j v cs vs wr)
  case atStart => exact ⟨0, _, _, _, rfl, rfl, rfl, Nat.zero_le _, L0.out⟩
  case round =>
    obtain ⟨j, v, cs, vs, rfl, rfl, hgk, hjm, LL⟩ := hrel
    by_cases hj : j < m
    · have hjz : (j : Int) < (m : Int) := by omega
      have hjl : j < li.length := by rw [hm.out]; exact hj
      obtain ⟨i', hi'⟩ : ∃ i', li[j]? = some i' := ⟨_, List.getElem?_eq_getElem hjl⟩
      obtain ⟨hM, hws⟩ := HM.out
      rw [InM] at hM
      obtain ⟨-, -, -, -, q1, c1, he1, hin⟩ := hM
      rcases hin with h | ⟨b, off, hq1, hb, hL⟩
      · rw [h] at hjl; cases hjl
      rcases hws with ⟨h, -⟩ | ⟨b', off', m', c', he2, hDL⟩
      · rw [h] at hjl; cases hjl
      obtain ⟨rfl, -, rfl⟩ : ql = q1 ∧ li.length = li.length ∧ cl = c1 := by simpa using he1
      subst hq1
      obtain ⟨⟨rfl, rfl⟩, -, -⟩ : (b = b' ∧ off = off') ∧ li.length = m' ∧ cl = c' := by simpa using he2
      obtain ⟨vd, vl, hC, hMi⟩ := InL.get li off j i' hL hi'
      obtain ⟨vd', vl', vs1, hC', hDi, htk⟩ := DsL.get li off j ws i' hDL hi'
      obtain ⟨rfl, rfl⟩ : vd = vd' ∧ vl = vl' := ⟨Option.some.inj (hC.2.2.1.symm.trans hC'.2.2.1), Option.some.inj (hC.2.2.2.symm.trans hC'.2.2.2)⟩
      obtain ⟨qd1, dl1, cd1, ql1, ml1, cl1, rfl, rfl⟩ := hMi.form
      have hix := fun X => idxI b off m cl j hj X
      have hbl := World.block_lt_of_cell? _ _ hC.1
      have a0 : wr.cell? ⟨b, off + j * 4, none⟩ = some (.int .i64 i'.k) := (LL.bl.cell (p := ⟨b, off + j * 4, none⟩) hbl).trans hC.1
      have a1 : wr.cell? ⟨b, off + j * 4 + 1, none⟩ = some (.int .u64 (i'.n : Int)) := (LL.bl.cell (p := ⟨b, off + j * 4 + 1, none⟩) hbl).trans hC.2.1
      have a2 : wr.cell? ⟨b, off + j * 4 + 2, none⟩ = some (.slice qd1 dl1 cd1) := (LL.bl.cell (p := ⟨b, off + j * 4 + 2, none⟩) hbl).trans hC.2.2.1
      have a3 : wr.cell? ⟨b, off + j * 4 + 3, none⟩ = some (.slice ql1 ml1 cl1) := (LL.bl.cell (p := ⟨b, off + j * 4 + 3, none⟩) hbl).trans hC.2.2.2
      have hlb := World.block_lt_of_cell? _ _ a0
      obtain ⟨wx, hwx⟩ : ∃ wx, Hid (wr.alloc (.cells #[.int .i64 i'.k, .int .u64 (i'.n : Int), .slice qd1 dl1 cd1, .slice ql1 ml1 cl1] 27) = wx) := ⟨_, rfl⟩
      have hbx : Below wr.heap.size wr wx := by rw [← hwx.out]; exact alloc_below _ _
      have rx : RowS wx wr.heap.size [.int .i64 i'.k, .int .u64 (i'.n : Int), .slice qd1 dl1 cd1, .slice ql1 ml1 cl1] := by rw [← hwx.out]; exact arow wr _ _ _ _ _
      have hb5x : Below w5.heap.size w5 wx := LL.bl.trans (hbx.mono LL.bl.size)
      have x0 := rx.cell 0 _ rfl
      have x1 := rx.cell 1 _ rfl
      have x2 := rx.cell 2 _ rfl
      have x3 := rx.cell 3 _ rfl
      have hlx := rx.1
      have HC := hidW (And.intro LL (And.intro hbx hb5x))
      by_cases h8 : i'.l.length = 8
      rotate_left
      · have hml1 : ml1 ≠ 8 := by
          obtain ⟨k', n', d', l'⟩ := i'
          rw [len_m hMi]; exact h8
        have hto := toToken_n i'.k i'.n qd1 dl1 cd1 ql1 ml1 cl1 hml1 wx
        have hno : Hid (∀ L, ¬ tkS u S.data.toList L) := fun L h => by
          have e := HE.out L h
          have e2 : (L.map tkI)[j]? = some i' := by rw [← e]; exact hi'
          rw [List.getElem?_map] at e2
          obtain ⟨t, -, rfl⟩ := Option.map_eq_some_iff.1 e2
          exact h8 rfl
        clear LL hL hDL hC hC' hMi hDi htk he1 he2 rx hbx hb5x
        go_upto_region 7 with fail
        rw [hwx.out]
        go_wp2_with fail
        refine hto.mono ?_
        rintro e w6 ⟨hb6, rfl⟩
        have KR := hidW (KT.out w6 ((B5.out.trans (HC.out.2.2.mono B5.out.size)).trans (hb6.mono (Nat.le_trans B5.out.size HC.out.2.2.size))) hno.out)
        clear hto hb6
        simp only [thrown, Exit.inBlock, Exit.then, bodyPost]
        exact ⟨trivial, KR.out⟩
      obtain ⟨rfl, ha, b3, o3, q3, n3, c3, q5, n5, c5, q7, n7, c7, rfl, ⟨t1, t3, t5, t7⟩, p3, p5, p7, psub⟩ := tok_of hMi hDi h8
      have hlt3 := World.block_lt_of_cell? _ _ t1
      have hto := toToken_y i'.k i'.n qd1 dl1 cd1 b3 o3 cl1 (toTk i').a q3 n3 c3 q5 n5 c5 q7 n7 c7 wx ((hb5x.cell (p := ⟨b3, o3 + 4 + 1, none⟩) hlt3).trans t1) ((hb5x.cell (p := ⟨b3, o3 + 12 + 2, none⟩) hlt3).trans t3) ((hb5x.cell (p := ⟨b3, o3 + 20 + 2, none⟩) hlt3).trans t5) ((hb5x.cell (p := ⟨b3, o3 + 28 + 2, none⟩) hlt3).trans t7)
      have HT3 := hidW (And.intro ha (And.intro p3 (And.intro p5 (And.intro p7 (And.intro psub (And.intro htk hi'))))))
      clear LL hL hDL hC hC' hMi hDi htk he1 he2 rx hbx hb5x ha p3 p5 p7 psub t1 t3 t5 t7
      go_upto_region 7 with fail
      rw [hwx.out]
      go_wp2_with fail
      refine hto.mono ?_
      rintro e w6 ⟨hb6, rfl⟩
      obtain ⟨ha, p3, p5, p7, psub, htk, hi'⟩ := HT3.out
      obtain ⟨q', n', c', W', hap, cs', vs', L2⟩ := HC.out.1.add (HC.out.2.1.trans (hb6.mono HC.out.2.1.size)) hi' htk ha p3 p5 p7 psub rfl (by omega)
      have HAP := hidW hap
      have L3 := hidW L2
      clear hto hb6 ha p3 p5 p7 psub htk hi' hap L2 HT3 HC
      go_wp2_with (at_builtin; refine Lib.wpList_append_run _ rfl _ _ _ _ rfl _ _ rfl rfl _ _ HAP.out ?_)
      go_roundg (m + 1 - (j + 1))
      case measure => omega
      case rel => exact ⟨j + 1, _, _, _, rfl, rfl, rfl, by omega, L3.out⟩
    · have hjz : ¬ (j : Int) < (m : Int) := by omega
      obtain rfl : j = m := by omega
      have htl : li.take j = li := List.take_of_length_le (by rw [hm.out]; exact Nat.le_refl _)
      have hLm : (li.map toTk).length = j := by rw [List.length_map, hm.out]
      have hBL := LL.bl
      have hOL := LL.own
      have hTL := LL.tc
      have hSL := LL.sub
      rw [htl] at hTL hSL
      obtain ⟨qv, cv, rfl, hTk⟩ : ∃ qv cv, v = .slice qv j cv ∧ TkL wr wr.heap.size qv (li.map toTk) := by
        rcases own_cellsT hOL with ⟨h0, hv, -⟩ | ⟨g, cap, hv, -, hg, hcs⟩
        · exact ⟨none, 0, by rw [hv, h0], Or.inl (List.length_eq_zero_iff.1 (by rw [hLm, h0]))⟩
        · refine ⟨_, cap, hv, (hTL.below hBL).tkl hg (fun x y hx => hcs x y hx) (fun x y hx => ?_)⟩
          obtain ⟨-, r3, s3, t3, r5, s5, t5, r7, s7, t7, -, ⟨g3, g5, g7⟩, k1, k2, k3⟩ := hTL.2.2 x y hx
          have hmem : ∀ v, v ∈ vs → v ∈ ws := fun v hv => List.mem_of_mem_take (hSL.subset hv)
          obtain ⟨d3, y3, z3⟩ := HAL.out _ (hmem _ (List.mem_of_getElem? g3))
          obtain ⟨d5, y5, z5⟩ := HAL.out _ (hmem _ (List.mem_of_getElem? g5))
          obtain ⟨d7, y7, z7⟩ := HAL.out _ (hmem _ (List.mem_of_getElem? g7))
          have u3 := own_same k1 y3
          have u5 := own_same k2 y5
          have u7 := own_same k3 y7
          exact ⟨by omega, by omega, by omega⟩
      have Br : Hid (Below w.heap.size w wr) := B5.out.trans (hBL.mono B5.out.size)
      have hput := PutTokens_c hU (li.map toTk) (by rw [hLm]; omega) wr wr.heap.size qv cv (HT.out wr Br.out) (Nat.le_refl _) hTk
      rw [hLm] at hput
      have HF := hidW (And.intro hBL (And.intro hOL (And.intro hTL (And.intro hSL hLm))))
      clear LL hBL hOL hTL hSL hLm htl hTk
      go_wp2_with fail
      refine hput.mono ?_
      rintro e w7 ⟨v7, rfl, hb7, hpt⟩
      rcases hpt with ⟨hl, rfl⟩ | ⟨hl, ⟨hp, rfl⟩ | ⟨hp, rfl⟩⟩
      · have hrs := rightS_c ⟨#[]⟩ 1 w7
        have hno : Hid (∀ L', ¬ tkS u S.data.toList L') := fun L' h => by
          have e : li = L'.map tkI := HE.out L' h
          have e2 : li.map toTk = L' := by rw [e, map_tkI]
          rw [e2] at hl; have := h.1; omega
        have B7 := hidW (Br.out.trans (hb7.mono Br.out.size))
        clear hput hb7
        go_wp2_with fail
        refine hrs.mono ?_
        rintro e w8 ⟨hb8, ⟨h0, -⟩ | ⟨-, rfl⟩⟩
        · exact absurd h0 (by decide)
        · have KR := hidW (KT.out w8 (B7.out.trans (hb8.mono B7.out.size)) hno.out)
          clear hrs hb8
          simp only [thrown, Exit.inBlock, Exit.then, bodyPost]
          exact ⟨trivial, KR.out⟩
      · have B7 := hidW (Br.out.trans (hb7.mono Br.out.size))
        obtain ⟨Z, hZ⟩ : ∃ Z, Hid ((⟨(tx (li.map toTk)).toArray⟩ : ByteArray) = Z) := ⟨_, rfl⟩
        have hrs := rightS_c Z 0 w7
        have hdec := txt_dec S (li.map toTk)
        rw [hZ.out] at hdec
        have Hb7 := hidW hb7
        have HPk := hidW (And.intro hl hp)
        rw [hZ.out]
        clear hput hb7 hl hp
        go_wp2_with fail
        refine hrs.mono ?_
        rintro e w8 ⟨hb8, ⟨-, rfl⟩ | ⟨h0, -⟩⟩
        rotate_left
        · exact absurd rfl h0
        have B8 := hidW (B7.out.trans (hb8.mono B7.out.size))
        have hw8 := hidW (Hb7.out.trans (hb8.mono Hb7.out.size))
        clear hrs hb8
        by_cases hx : tx (li.map toTk) = S.data.toList
        · rw [decide_eq_true hx] at hdec
          have KR : Hid (FxR u S.data.toList w (.returned (.slice qv j cv)) w8) := by
            obtain ⟨hBL, hOL, hTL, hSL, hLm⟩ := HF.out
            have hS : tkS u S.data.toList (li.map toTk) := ⟨HPk.out.1, HPk.out.2, hx, fun t ht => by
              obtain ⟨i', hi', rfl⟩ := List.mem_map.1 ht
              obtain ⟨k, hk⟩ := List.getElem?_of_mem hi'
              exact (hTL.2.2 k i' hk).1⟩
            have e : li = (li.map toTk).map tkI := HE.out _ hS
            have h58 : Below w5.heap.size w5 w8 := hBL.trans (hw8.out.mono hBL.size)
            refine ⟨B8.out, Or.inl ⟨li.map toTk, qv, cv, cs, vs, hS, by rw [hLm], ?_, ?_, ?_⟩⟩
            · rw [hLm]
              exact own_lowT (own_at hOL (fun k hk => hw8.out.block k (hOL.lt k hk).2)) (by have := h35.out; omega)
            · rw [← e]
              exact (hTL.below h58).dn h35.out.1
            · exact ((Asc.sub (hSL.trans (List.take_sublist _ _)) hA1.out).lo h35.out.1).hi h58.size
          clear hx
          go_wp2_with fail
          refine (must_y _).mono ?_
          rintro e w9 ⟨rfl, rfl⟩
          go_wp2
          go_ret
          exact KR.out
        · rw [decide_eq_false hx] at hdec
          have KR := hidW (KT.out w8 B8.out (fun L' h => by
            have e : li = L'.map tkI := HE.out L' h
            have e2 : li.map toTk = L' := by rw [e, map_tkI]
            exact hx (by rw [e2]; exact h.2.2.1)))
          clear hx
          go_wp2_with fail
          refine (must_n _).mono ?_
          rintro e w9 ⟨rfl, rfl⟩
          simp only [Exit.inBlock, Exit.then, bodyPost]
          exact ⟨trivial, KR.out⟩
      · have hrs := rightS_c ⟨#[]⟩ 2 w7
        have hno : Hid (∀ L', ¬ tkS u S.data.toList L') := fun L' h => by
          have e : li = L'.map tkI := HE.out L' h
          have e2 : li.map toTk = L' := by rw [e, map_tkI]
          rw [e2] at hp; exact hp h.2.1
        have B7 := hidW (Br.out.trans (hb7.mono Br.out.size))
        clear hput hb7
        go_wp2_with fail
        refine hrs.mono ?_
        rintro e w8 ⟨hb8, ⟨h0, -⟩ | ⟨-, rfl⟩⟩
        · exact absurd h0 (by decide)
        · have KR := hidW (KT.out w8 (B7.out.trans (hb8.mono B7.out.size)) hno.out)
          clear hrs hb8
          simp only [thrown, Exit.inBlock, Exit.then, bodyPost]
          exact ⟨trivial, KR.out⟩
end WI
end Go.Proofs.YtfkgfcggcfkkiaaDoor
namespace Go.Proofs.YtfkgfcggcfkkiaaDoor
open Go.RowKit Go.Sort Go.Deep
namespace WI
variable {T : World → Prop} {u : List UInt8 → Bool}
theorem catch_pT (p : Addr) (x : Int) (u : TypeId) (pv : Value) (older : List PanicEntry) (w : World) (hc : w.cell? p = some (.int .i64 x)) (hz : w.frozen? p = false) :
    CallsD Tryd.prog 51 #[.pointer (some p)] (.panicking ({ v := .iface u pv, recovered := false } :: older)) w fun e u' w' =>
      e = .returned (.tuple #[]) ∧ u' = .panicking ({ v := .iface u pv, recovered := true } :: older) ∧ w' = w.setCell p (.int .i64 2) := by
  refine callsD_of_wpS Tryd.func51 rfl fun c₀ cs hu => ?_
  apply wpS_seq
  apply wpS_region
  simp [wpOpsS, go_sem, recoverD, hu, Tryd.ntmps51, Exit.thenS]
  refine wpS_cond (t := true) (by simp [Act.eval, Array.replicate]) ?_
  simp only [if_true]
  apply wpS_region
  simp [wpOpsS, go_sem, hc, hz, bodyPostS, results, Tryd.results51]
theorem catch_iT (p : Addr) (w : World) :
    CallsD Tryd.prog 51 #[.pointer (some p)] .returning w fun e u' w' => e = .returned (.tuple #[]) ∧ u' = .returning ∧ w' = w := by
  refine callsD_of_wpS Tryd.func51 rfl fun c₀ cs hu => ?_
  apply wpS_seq
  apply wpS_region
  simp [wpOpsS, go_sem, recoverD, hu, Tryd.ntmps51, Exit.thenS]
  refine wpS_cond (t := false) (by simp [Act.eval, Array.replicate]) ?_
  simp only [Bool.false_eq_true, if_false]
  refine wpS_of_wp (wp_skip ?_)
  cases c₀
  simp_all [bodyPostS, results, Tryd.results51]
theorem tok1_c (hU : UV T u) (S : ByteArray) (w : World) (bx : Nat) (hT : T w) (hbx : w.cell? ⟨bx, 0, none⟩ = some (.string S)) : Calls Tryd.prog 37 #[.pointer (some ⟨bx, 0, none⟩)] w (FxR u S.data.toList w) := by
  have hc := fromText_c hU S w hT
  have hlt := World.block_lt_of_cell? _ _ hbx
  clear hT
  go_enter Tryd.func37, Tryd.ntmps37
  go_wp2_with fail
  refine hc.mono ?_
  rintro e w1 h1
  have KR := hidW h1
  rcases h1.2 with ⟨L, q, c, cs, vs, -, rfl, -⟩ | ⟨-, rfl⟩
  · clear h1 hc
    go_wp2
    go_ret
    exact KR.out
  · clear h1 hc
    simp only [thrown, Exit.inBlock, Exit.then, bodyPost]
    exact ⟨trivial, KR.out⟩
/-- What Tokens answers. -/
def TgR (u : List UInt8 → Bool) (x : List UInt8) (w : World) (e : Value) (w' : World) : Prop := Below w.heap.size w w' ∧ ((∃ L q c cs vs, tkS u x L ∧ e = .tuple #[.slice q L.length c, .int .i64 0] ∧ w'.ownsRow w.heap.size 49 4 (.slice q L.length c) L.length cs ∧ TCx w' w.heap.size (L.map tkI) cs vs ∧ Asc w.heap.size w'.heap.size vs) ∨ ((∀ L, ¬ tkS u x L) ∧ e = .tuple #[.slice none 0 0, .int .i64 2]))
theorem TCx.over {w w' : World} {B : Nat} {l : List Itm} {cs vs : List Value} (h : TCx w B l cs vs) (hb : ∀ k, B ≤ k → k < w.heap.size → w'.heap[k]? = w.heap[k]?) : TCx w' B l cs vs := by
  obtain ⟨h1, h2, hj⟩ := h
  refine ⟨h1, h2, fun j x hx => ?_⟩
  obtain ⟨k0, p3, m3, d3, p5, m5, d5, p7, m7, d7, ka, kb, k1, k2, k3⟩ := hj j x hx
  exact ⟨k0, p3, m3, d3, p5, m5, d5, p7, m7, d7, ka, kb, own_at k1 (fun k hk => hb k (k1.lt k hk).1 (k1.lt k hk).2), own_at k2 (fun k hk => hb k (k2.lt k hk).1 (k2.lt k hk).2), own_at k3 (fun k hk => hb k (k3.lt k hk).1 (k3.lt k hk).2)⟩
theorem TgR.up {w w1 w2 w3 : World} {x : List UInt8} {L : List Tk} {q : Option Addr} {c : Nat} {cs vs : List Value} (hb : Below w.heap.size w w3) (hS : tkS u x L) (h1 : w.heap.size ≤ w1.heap.size) (h0 : w2.ownsRow w1.heap.size 49 4 (.slice q L.length c) L.length cs) (hT : TCx w2 w1.heap.size (L.map tkI) cs vs) (hA : Asc w1.heap.size w2.heap.size vs) (hs : w2.heap.size ≤ w3.heap.size) (hk : ∀ k, w1.heap.size ≤ k → k < w2.heap.size → w3.heap[k]? = w2.heap[k]?) : TgR u x w (.tuple #[.slice q L.length c, .int .i64 0]) w3 :=
  ⟨hb, Or.inl ⟨L, q, c, cs, vs, hS, rfl, own_lowT (own_at h0 (fun k hk' => hk k (h0.lt k hk').1 (h0.lt k hk').2)) h1, (hT.over hk).dn h1, (hA.lo h1).hi hs⟩⟩
set_option maxHeartbeats 1000000 in
theorem caughtT_c (hU : UV T u) (S : ByteArray) (w : World) (bx : Nat) (hT : T w) (hbx : w.cell? ⟨bx, 0, none⟩ = some (.string S)) : Calls Tryd.prog 36 #[.func (.func 37) #[] #[.pointer (some ⟨bx, 0, none⟩)]] w (RetW (TgR u S.data.toList w)) := by
  have hmf : ∀ (fn : Fn) (first cap : Array Value) (w : World), (Instr.makeFunc fn first cap).run Tryd.prog w = .ok (.func fn first cap) w := fun _ _ _ _ => rfl
  have hb0 : Below w.heap.size w (w.alloc (.cells #[.int .i64 0] 28)) := alloc_below _ _
  have h2 := hU.2.1 w hT
  have hlt0 := World.block_lt_of_cell? _ _ hbx
  have hF := tok1_c hU S (w.alloc (.cells #[.int .i64 0] 28)) bx (hU.1 w _ hT (fun k hk => hb0.block k (by omega))) (by rw [hb0.cell (p := ⟨bx, 0, none⟩) hlt0]; exact hbx)
  have hs1 : (w.alloc (.cells #[.int .i64 0] 28)).heap.size = w.heap.size + 1 := World.size_alloc _ _
  have c0 : (w.alloc (.cells #[.int .i64 0] 28)).cell? ⟨w.heap.size, 0, none⟩ = some (.int .i64 0) := by simp
  have z0 : (w.alloc (.cells #[.int .i64 0] 28)).frozen? ⟨w.heap.size, 0, none⟩ = false := by simp
  clear hT hbx h2
  go_enter_defers Tryd.func36, Tryd.ntmps36
  go_wp2_with fail
  refine hF.mono ?_
  rintro e w2 ⟨hb, hw⟩
  have hlt : w.heap.size < (w.alloc (.cells #[.int .i64 0] 28)).heap.size := by omega
  have c2 : w2.cell? ⟨w.heap.size, 0, none⟩ = some (.int .i64 0) := by rw [hb.cell (p := ⟨w.heap.size, 0, none⟩) hlt]; exact c0
  have z2 : w2.frozen? ⟨w.heap.size, 0, none⟩ = false := by rw [World.frozen?_of_block (a := ⟨w.heap.size, 0, none⟩) (hb.block w.heap.size hlt)]; exact z0
  rcases hw with ⟨L, q, c, cs, vs, hS, rfl, hO, hTC, hA⟩ | ⟨hn, rfl⟩
  · have KF : Hid (TgR u S.data.toList w (.tuple #[.slice q L.length c, .int .i64 0]) (w2.setCell ⟨w.heap.size, 0, none⟩ (.int .i64 0))) := TgR.up ((hb0.trans (hb.mono (by omega))).setCell (p := ⟨w.heap.size, 0, none⟩) (Nat.le_refl _) _) hS (by omega) hO hTC hA (by rw [World.size_setCell]; exact Nat.le_refl _) (fun k hk _ => blk_other _ _ _ _ (by show k ≠ w.heap.size; omega))
    have c3 : (w2.setCell ⟨w.heap.size, 0, none⟩ (.int .i64 0)).cell? ⟨w.heap.size, 0, none⟩ = some (.int .i64 0) := World.cell?_setCell_same _ _ _ c2
    clear hF hb hS hO hTC hA hb0 c0 z0
    go_wp2
    refine leaves_cons (f := 51) (args := #[.pointer (some ⟨w.heap.size, 0, none⟩)]) (by simp) (by simp [go_sem]) ?_
    refine (catch_iT ⟨w.heap.size, 0, none⟩ _).mono ?_
    rintro e u' w'' ⟨rfl, rfl, rfl⟩
    simp [Leaves, settle, results, Tryd.results36, go_sem, c3]
    exact ⟨_, rfl, KF.out⟩
  · have KF : Hid (TgR u S.data.toList w (.tuple #[.slice none 0 0, .int .i64 2]) (w2.setCell ⟨w.heap.size, 0, none⟩ (.int .i64 2))) := ⟨(hb0.trans (hb.mono (by omega))).setCell (p := ⟨w.heap.size, 0, none⟩) (Nat.le_refl _) _, Or.inr ⟨hn, rfl⟩⟩
    have c3 : (w2.setCell ⟨w.heap.size, 0, none⟩ (.int .i64 2)).cell? ⟨w.heap.size, 0, none⟩ = some (.int .i64 2) := World.cell?_setCell_same _ _ _ c2
    clear hF hb hn hb0 c0 z0
    show bodyPostD _ _ _ _ _ _
    refine leaves_cons (f := 51) (args := #[.pointer (some ⟨w.heap.size, 0, none⟩)]) (by simp) (by simp [go_sem]) ?_
    refine (catch_pT ⟨w.heap.size, 0, none⟩ 0 28 _ [] _ c2 z2).mono ?_
    rintro e u' w'' ⟨rfl, rfl, rfl⟩
    simp [Leaves, settle, results, Tryd.results36, go_sem, c3]
    exact ⟨_, rfl, KF.out⟩
/-- THE PROGRAM'S Tokens. -/
theorem Tokens_c (hU : UV T u) (S : ByteArray) (w : World) (hT : T w) : Calls Tryd.prog 20 #[.string S] w (RetW (TgR u S.data.toList w)) := by
  have hmf : ∀ (fn : Fn) (first cap : Array Value) (w : World), (Instr.makeFunc fn first cap).run Tryd.prog w = .ok (.func fn first cap) w := fun _ _ _ _ => rfl
  have hb0 := alloc_below w (.cells #[.string S] 9)
  have h2 := hU.2.1 w hT
  have hs1 := World.size_alloc w (.cells #[.string S] 9)
  have hcx : (w.alloc (.cells #[.string S] 9)).cell? ⟨w.heap.size, 0, none⟩ = some (.string S) := al_c w _ _ _ 0 _ rfl rfl
  have hC := caughtT_c hU S (w.alloc (.cells #[.string S] 9)) w.heap.size (hU.1 w _ hT (fun k hk => hb0.block k (by omega))) hcx
  have HB := hidW hb0
  have HS := hidW hs1
  clear hT h2 hb0 hs1 hcx
  go_enter Tryd.func20, Tryd.ntmps20
  go_wp2_with fail
  refine hC.mono ?_
  rintro e w2 ⟨v2, rfl, hb, h⟩
  have KB := hidW (HB.out.trans (hb.mono (by have := HS.out; omega)))
  rcases h with ⟨L, q, c, cs, vs, hS, rfl, hO, hTC, hA⟩ | ⟨hn, rfl⟩
  · have KF : Hid (TgR u S.data.toList w (.tuple #[.slice q L.length c, .int .i64 0]) w2) := TgR.up KB.out hS (by have := HS.out; omega) hO hTC hA (Nat.le_refl _) (fun k _ _ => rfl)
    clear hC hb hS hO hTC hA
    go_wp2
    go_ret2
    exact ⟨_, rfl, KF.out⟩
  · have KF : Hid (TgR u S.data.toList w (.tuple #[.slice none 0 0, .int .i64 2]) w2) := ⟨KB.out, Or.inr ⟨hn, rfl⟩⟩
    clear hC hb hn
    go_wp2
    go_ret2
    exact ⟨_, rfl, KF.out⟩
end WI
end Go.Proofs.YtfkgfcggcfkkiaaDoor
namespace Go.Proofs.YtfkgfcggcfkkiaaDoor
open Go.RowKit Go.Sort Go.Deep
namespace WI
variable {T : World → Prop} {u : List UInt8 → Bool}
theorem len_n (n : Nat) : (byt (.mk 0 n [] [])).length ≤ 9 := by
  rw [byt, if_neg (by decide), if_neg (by decide), if_neg (by decide)]
  exact hd_le _ _
theorem len_d (d : List UInt8) : (byt (.mk 2 0 d [])).length ≤ 9 + d.length := by
  rw [byt, if_pos (Or.inl rfl), List.length_append]
  have := hd_le (2 : Int).toNat d.length
  omega
theorem tkI_len {t : Tk} (h : tkOk t = true) : (byt (tkI t)).length ≤ 200 := by
  unfold tkOk at h
  simp only [Bool.and_eq_true, beq_iff_eq, decide_eq_true_eq] at h
  obtain ⟨h1, h2, h3, h4⟩ := h
  have a1 := len_n 0
  have a2 := len_n t.a
  have a3 := len_n 1
  have a4 := len_d t.ks
  have a5 := len_n 2
  have a6 := len_d t.sc
  have a7 := len_n 3
  have a8 := len_d t.sg
  have a0 := hd_le 5 ((tkC t).length / 2)
  rw [tkI, byt, if_neg (by decide), if_neg (by decide), if_pos rfl, List.length_append, tkC]
  rw [tkC] at a0
  simp only [byts, List.flatten_cons, List.flatten_nil, List.length_append, List.length_nil]
  omega
theorem tks_len : ∀ L : List Tk, L.all tkOk = true → ((byts (L.map tkI)).flatten).length ≤ L.length * 200
  | [], _ => by simp [byts]
  | t :: r, h => by
    simp only [List.all_cons, Bool.and_eq_true] at h
    have h1 := tkI_len h.1
    have h2 := tks_len r h.2
    rw [List.map_cons, byts, List.flatten_cons, List.length_append, List.length_cons]
    omega
/-- A text of tokens is not long. -/
theorem tkS_len {x : List UInt8} {L : List Tk} (h : tkS u x L) : 3 ≤ x.length ∧ x.length ≤ 65536 := by
  obtain ⟨h1, ⟨-, h3, -⟩, rfl, -⟩ := h
  have h5 := tks_len L h3
  have h6 : (byt (toI L)).length ≤ 9 + L.length * 200 := by
    have := hd_le 4 (L.map tkI).length
    rw [toI, byt, if_neg (by decide), if_pos rfl, List.length_append]
    omega
  unfold tx
  rw [List.length_append, WL.letters_len]
  unfold WL.nl
  simp only [List.length_cons, List.length_nil]
  omega
theorem tkS_item {x : List UInt8} {L : List Tk} {y : List UInt8} {i : Itm} {e1 e2 : Int} (hy : fT ⟨(x.drop 3).toArray⟩ = (y, e1)) (hi : prs u y = (i, e2)) (h : tkS u x L) : e1 = 0 ∧ e2 = 0 ∧ i = toI L := by
  obtain ⟨-, h2, h3⟩ := tkS_kn h
  rw [hy] at h2
  obtain ⟨rfl, rfl⟩ := Prod.mk.inj h2
  rw [hi] at h3
  obtain ⟨rfl, rfl⟩ := Prod.mk.inj h3
  exact ⟨rfl, rfl, rfl⟩
/-- An item's children, as a token. -/
theorem tok_in {w : World} {B : Nat} {i : Itm} {vd : Value} {ql : Option Addr} {ml cl : Nat} (hM : InM w B i vd (.slice ql ml cl)) (h8 : i.l.length = 8) : ml = 8 ∧ ∃ b o q3 n3 c3 q5 n5 c5 q7 n7 c7, ql = some ⟨b, o, none⟩ ∧ (w.cell? ⟨b, o + 4 + 1, none⟩ = some (.int .u64 ((toTk i).a : Int)) ∧ w.cell? ⟨b, o + 12 + 2, none⟩ = some (.slice q3 n3 c3) ∧ w.cell? ⟨b, o + 20 + 2, none⟩ = some (.slice q5 n5 c5) ∧ w.cell? ⟨b, o + 28 + 2, none⟩ = some (.slice q7 n7 c7)) ∧ TkM w B (toTk i) (.slice q3 n3 c3) (.slice q5 n5 c5) (.slice q7 n7 c7) := by
  obtain ⟨k, n, d, l⟩ := i
  have hml := len_m hM
  match l, h8 with
  | [i0, i1, i2, i3, i4, i5, i6, i7], _ =>
    rw [InM] at hM
    obtain ⟨-, -, -, -, q, c, he, hin⟩ := hM
    rcases hin with h | ⟨b, o, rfl, -, hL⟩
    · cases h
    obtain ⟨rfl, -, rfl⟩ : ql = some ⟨b, o, none⟩ ∧ ml = _ ∧ cl = c := by simpa using he
    obtain ⟨vd1, vl1, k1, hI1⟩ := InL.get _ o 1 i1 hL rfl
    obtain ⟨vd3, vl3, k3, hI3⟩ := InL.get _ o 3 i3 hL rfl
    obtain ⟨vd5, vl5, k5, hI5⟩ := InL.get _ o 5 i5 hL rfl
    obtain ⟨vd7, vl7, k7, hI7⟩ := InL.get _ o 7 i7 hL rfl
    obtain ⟨q3, n3, c3, -, -, -, rfl, -⟩ := hI3.form
    obtain ⟨q5, n5, c5, -, -, -, rfl, -⟩ := hI5.form
    obtain ⟨q7, n7, c7, -, -, -, rfl, -⟩ := hI7.form
    have f : ∀ {j : Itm} {vd vl : Value}, InM w B j vd vl → PBb w B vd j.d ∧ j.d.length ≤ 4611686018427387904 := fun {j} {vd vl} h => by
      obtain ⟨k, n, d, l⟩ := j
      rw [InM] at h
      exact ⟨h.2.2.2.1, h.2.1⟩
    exact ⟨hml, b, o, q3, n3, c3, q5, n5, c5, q7, n7, c7, rfl, ⟨k1.2.1, k3.2.2.1, k5.2.2.1, k7.2.2.1⟩, hI1.nlt, (f hI3).1, (f hI5).1, (f hI7).1, (f hI3).2, (f hI5).2, (f hI7).2⟩
/-- Tokens' cells. -/
def TLr (w : World) (B : Nat) (l : List Itm) (cs : List Value) : Prop := cs.length = l.length * 4 ∧ ∀ j i, l[j]? = some i → ∃ q3 n3 c3 q5 n5 c5 q7 n7 c7, (cs[j * 4]? = some (.int .u64 ((toTk i).a : Int)) ∧ cs[j * 4 + 1]? = some (.slice q3 n3 c3) ∧ cs[j * 4 + 2]? = some (.slice q5 n5 c5) ∧ cs[j * 4 + 3]? = some (.slice q7 n7 c7)) ∧ TkM w B (toTk i) (.slice q3 n3 c3) (.slice q5 n5 c5) (.slice q7 n7 c7)
theorem TLr.nil (w : World) (B : Nat) : TLr w B [] [] := ⟨rfl, fun j i h => by cases h⟩
theorem TLr.snoc {w : World} {B : Nat} {l : List Itm} {cs : List Value} (h : TLr w B l cs) {i : Itm} {q3 : Option Addr} {n3 c3 : Nat} {q5 : Option Addr} {n5 c5 : Nat} {q7 : Option Addr} {n7 c7 : Nat} (h3 : TkM w B (toTk i) (.slice q3 n3 c3) (.slice q5 n5 c5) (.slice q7 n7 c7)) :
    TLr w B (l ++ [i]) (cs ++ [.int .u64 ((toTk i).a : Int), .slice q3 n3 c3, .slice q5 n5 c5, .slice q7 n7 c7]) := by
  obtain ⟨h1, hj⟩ := h
  refine ⟨by simp [h1]; omega, fun j x hx => ?_⟩
  by_cases hlt : j < l.length
  · rw [List.getElem?_append_left hlt] at hx
    obtain ⟨p3, m3, d3, p5, m5, d5, p7, m7, d7, ⟨a0, a1, a2, a3⟩, k1⟩ := hj j x hx
    exact ⟨p3, m3, d3, p5, m5, d5, p7, m7, d7, ⟨app_l a0, app_l a1, app_l a2, app_l a3⟩, k1⟩
  · have hje : j = l.length := by
      have := (List.getElem?_eq_some_iff.1 hx).1
      rw [List.length_append] at this
      simp at this
      omega
    subst hje
    rw [List.getElem?_append_right (Nat.le_refl _), Nat.sub_self] at hx
    obtain rfl := Option.some.inj hx
    exact ⟨q3, n3, c3, q5, n5, c5, q7, n7, c7, ⟨app_r (j := 0) h1 rfl, app_r (j := 1) h1 rfl, app_r (j := 2) h1 rfl, app_r (j := 3) h1 rfl⟩, h3⟩
theorem TkM.mono {w : World} {B B' : Nat} {t : Tk} {vk vs vg : Value} (h : TkM w B t vk vs vg) (hB : B ≤ B') : TkM w B' t vk vs vg := ⟨h.1, h.2.1.mono hB, h.2.2.1.mono hB, h.2.2.2.1.mono hB, h.2.2.2.2⟩
/-- What the loop keeps. -/
structure LtR (w5 : World) (li : List Itm) (j : Nat) (v : Value) (cs : List Value) (wr : World) : Prop where
  bl : Below w5.heap.size w5 wr
  own : wr.ownsRow w5.heap.size 49 4 v j cs
  tl : TLr w5 w5.heap.size (li.take j) cs
theorem LtR.add {w5 wr w6 wa : World} {li : List Itm} {j : Nat} {v : Value} {cs : List Value} (L : LtR w5 li j v cs wr) (hb6 : Below wr.heap.size wr w6) {i : Itm} (hi : li[j]? = some i) {q3 : Option Addr} {n3 c3 : Nat} {q5 : Option Addr} {n5 c5 : Nat} {q7 : Option Addr} {n7 c7 : Nat} (h3 : TkM w5 w5.heap.size (toTk i) (.slice q3 n3 c3) (.slice q5 n5 c5) (.slice q7 n7 c7)) (hwa : w6.alloc (.cells #[.int .u64 ((toTk i).a : Int), .slice q3 n3 c3, .slice q5 n5 c5, .slice q7 n7 c7] 49) = wa) (hj : j ≤ 10000) :
    ∃ q' n' c' W', (Builtin.append_ #[47, 47] 47 #[v, .slice (some ⟨w6.heap.size, 0, none⟩) 1 1]).run Tryd.prog wa = .ok (.slice q' n' c') W' ∧ (∀ k, k < w6.heap.size → v.ownBlock ≠ some k → W'.heap[k]? = w6.heap[k]?) ∧ ∃ cs', LtR w5 li (j + 1) (.slice q' n' c') cs' W' := by
  have hba : Below w6.heap.size w6 wa := by rw [← hwa]; exact alloc_below _ _
  have hbr : Below wr.heap.size wr wa := hb6.trans (hba.mono hb6.size)
  have hown : wa.ownsRow w5.heap.size 49 4 v j cs := own_at L.own (fun k hk => hbr.block k (L.own.lt k hk).2)
  have h51 := L.bl.size
  have h52 := hbr.size
  obtain ⟨q', n', c', W', r1, r2, r3⟩ := tk_app (g := w6.heap.size) hown (news := [.int .u64 ((toTk i).a : Int), .slice q3 n3 c3, .slice q5 n5 c5, .slice q7 n7 c7]) rfl (fun x y hx => by
    rw [← hwa]
    have := al_r w6 [.int .u64 ((toTk i).a : Int), .slice q3 n3 c3, .slice q5 n5 c5, .slice q7 n7 c7] 49 _ rfl x y hx
    rw [Nat.zero_add] at this
    exact this) (fun y hy => by
      simp only [List.mem_cons, List.not_mem_nil, or_false] at hy
      rcases hy with rfl | rfl | rfl | rfl <;> rfl) (by omega) (by omega)
  refine ⟨q', n', c', W', r1, fun k h1 h2 => ?_, _, ?_, r2, ?_⟩
  · rw [r3.block k (Nat.lt_of_lt_of_le h1 hba.size) (fun e => h2 e.symm), hba.block k h1]
  · exact below_grown (L.bl.trans (hbr.mono h51)) r3 (by omega) (fun k hk => (L.own.lt k hk).1)
  · rw [take_s li j i hi]
    exact L.tl.snoc h3
theorem LtR.end {w5 wr : World} {li : List Itm} {j : Nat} {v : Value} {cs : List Value} (L : LtR w5 li j v cs wr) (hj : li.length = j) : ∃ qv cv, v = .slice qv j cv ∧ TkL wr wr.heap.size qv (li.map toTk) := by
  have hTL := L.tl
  have hBL := L.bl
  rw [List.take_of_length_le (by omega)] at hTL
  rcases own_cellsT L.own with ⟨h0, hv, -⟩ | ⟨g, cap, hv, -, hg, hcs⟩
  · exact ⟨none, 0, by rw [hv, h0], Or.inl (List.length_eq_zero_iff.1 (by rw [List.length_map, hj, h0]))⟩
  · refine ⟨_, cap, hv, Or.inr ⟨g, 0, rfl, hg, fun x t hx => ?_⟩⟩
    rw [List.getElem?_map] at hx
    obtain ⟨i, hi, rfl⟩ := Option.map_eq_some_iff.1 hx
    obtain ⟨q3, n3, c3, q5, n5, c5, q7, n7, c7, ⟨a0, a1, a2, a3⟩, k⟩ := hTL.2 x i hi
    refine ⟨q3, n3, c3, q5, n5, c5, q7, n7, c7, ⟨?_, ?_, ?_, ?_⟩, (k.at (fun k hk => hBL.block k hk)).mono hBL.size⟩
    · rw [Nat.zero_add]; exact hcs _ _ a0
    · rw [Nat.zero_add]; exact hcs _ _ a1
    · rw [Nat.zero_add]; exact hcs _ _ a2
    · rw [Nat.zero_add]; exact hcs _ _ a3
/-- What the reference's Tokens answers. -/
def RgT (u : List UInt8 → Bool) (x : List UInt8) (w : World) (e : Value) (w' : World) : Prop := Below w.heap.size w w' ∧ ((∃ L q c, tkS u x L ∧ e = .tuple #[.slice q L.length c, .int .i64 0] ∧ TkL w' w'.heap.size q L) ∨ ((∀ L, ¬ tkS u x L) ∧ e = .tuple #[.slice none 0 0, .int .i64 2]))
end WI
end Go.Proofs.YtfkgfcggcfkkiaaDoor
namespace Go.Proofs.YtfkgfcggcfkkiaaDoor
open Go.RowKit Go.Sort Go.Deep
namespace WI
variable {T : World → Prop} {u : List UInt8 → Bool}
theorem step_runZ {P : Program} {ops : Array Oper} {o : Oper} {a : Act} {w : World} {K : Act → World → Prop} {Q : Exit → Act → World → Prop} {E : Prop} (hg : o.guard = none) (s x : Operand) (t tn : TypeId)
    (ho : o.op = .call { callee := .builtin .append, args := #[s, x], argTypes := #[t, tn] }) (vs vx : Value) (hs : a.eval s = vs) (hx : a.eval x = vx)
    (v' : Value) (w' : World) (hr : (Builtin.append_ #[t, tn] o.type #[vs, vx]).run P w = .ok v' w') (h : K (a.put o.dst v') w') : if Region.wanted o (yielded ops a.tmps) = true then Oper.wp P o a w K Q else E := by
  have hw : Region.wanted o (yielded ops a.tmps) = true := by simp [Region.wanted, hg]
  rw [if_pos hw]
  exact Lib.wp_append_run w s x t tn ho vs vx hs hx v' w' hr h
set_option maxHeartbeats 8000000 in
set_option maxRecDepth 20000 in
/-- THE REFERENCE'S Tokens. -/
theorem rTokens_c (hU : UV T u) (S : ByteArray) (w : World) (hT : T w) : Calls Tryd.prog 22 #[.string S] w (RetW (RgT u S.data.toList w)) := by
  have h2s := hU.2.1 w hT
  have HT : Hid (∀ X, Below w.heap.size w X → T X) := fun X hX => hU.1 w X hT (fun k hk => hX.block k (by omega))
  have KT : Hid (∀ X, Below w.heap.size w X → (∀ L, ¬ tkS u S.data.toList L) → RgT u S.data.toList w (.tuple #[.slice none 0 0, .int .i64 2]) X) := fun X hX hn => ⟨hX, Or.inr ⟨hn, rfl⟩⟩
  have hl : S.data.toList.length = S.size := by rw [Array.length_toList]; rfl
  clear hT
  by_cases h3 : S.size < 3
  · have g : (S.size : Int) < 3 := by omega
    have KR := hidW (KT.out w (Below.refl _ _) (fun L h => by have := (tkS_len h).1; omega))
    clear hl h3
    go_enter Tryd.func22, Tryd.ntmps22
    go_wp2
    go_ret2
    exact ⟨_, rfl, KR.out⟩
  have g3 : ¬ (S.size : Int) < 3 := by omega
  by_cases h6 : 65536 < S.size
  · have g : (65536 : Int) < (S.size : Int) := by omega
    have KR := hidW (KT.out w (Below.refl _ _) (fun L h => by have := (tkS_len h).2; omega))
    clear hl h3 h6
    go_enter Tryd.func22, Tryd.ntmps22
    go_wp2
    go_ret2
    exact ⟨_, rfl, KR.out⟩
  have g6 : ¬ (65536 : Int) < (S.size : Int) := by omega
  obtain ⟨A, hA⟩ : ∃ A, Hid (S.extract 0 3 = A) := ⟨_, rfl⟩
  have hsl : ∀ X, (Instr.sliceAt 9 (.string S) none (some (.int .i64 3)) none).run Tryd.prog X = .ok (.string A) X := fun X => sl_hiX S 3 (by omega) A hA.out X
  have hAl : A.toList = S.data.toList.take 3 := by
    rw [ByteArray.toList_eq, ← hA.out, ByteArray.data_extract, Array.toList_extract, List.extract_eq_take_drop]
    simp
  have he : (A.toList == ({ data := #[109, 118, 49] } : ByteArray).toList) = mvP S.data.toList := by
    rw [hAl, ByteArray.toList_eq]; rfl
  have he2 : (A.toList == [109, 118, 49]) = mvP S.data.toList := by rw [hAl]; rfl
  cases hb : mvP S.data.toList with
  | false =>
    have KR := hidW (KT.out w (Below.refl _ _) (fun L h => by have := (tkS_kn h).1; rw [hb] at this; cases this))
    rw [hb] at he he2
    clear hl h3 h6 hAl hb
    go_enter Tryd.func22, Tryd.ntmps22
    go_wp2
    go_ret2
    exact ⟨_, rfl, KR.out⟩
  | true =>
  rw [hb] at he he2
  obtain ⟨R, hR⟩ : ∃ R, Hid (S.extract 3 S.size = R) := ⟨_, rfl⟩
  have hsr : ∀ X, (Instr.sliceAt 9 (.string S) (some (.int .i64 3)) none none).run Tryd.prog X = .ok (.string R) X := fun X => sl_loX S 3 (by omega) R hR.out X
  have hRl : R.data.toList = S.data.toList.drop 3 := by
    rw [← hR.out, ByteArray.data_extract, Array.toList_extract, List.extract_eq_take_drop, List.take_of_length_le]
    simp
  have HR : Hid (R = ⟨(S.data.toList.drop 3).toArray⟩) := by show _ = _; rw [← hRl, ba_of]
  obtain ⟨y, er2, hy⟩ : ∃ y er2, Hid (fT R = (y, er2)) := ⟨_, _, rfl⟩
  have hfl := rfrom_any R w
  rw [hy.out] at hfl
  clear hl h3 h6 hAl hb hRl
  go_enter Tryd.func22, Tryd.ntmps22
  go_wp2_with fail
  refine hfl.mono ?_
  rintro e w2 ⟨v2, rfl, hb2, rfl⟩
  have B2 := hidW hb2
  obtain ⟨i, er4, hi⟩ : ∃ i er4, Hid (prs u y = (i, er4)) := ⟨_, _, rfl⟩
  have HE : Hid (∀ L, tkS u S.data.toList L → er2 = 0 ∧ er4 = 0 ∧ i = toI L) := fun L h => tkS_item (by rw [← HR.out]; exact hy.out) hi.out h
  clear hfl hb2
  by_cases h0 : er2 = 0
  rotate_left
  · have g0 : (er2 != 0) = true := by simp [h0]
    have KR := hidW (KT.out w2 B2.out (fun L h => h0 (HE.out L h).1))
    clear h0
    go_wp2
    go_ret2
    exact ⟨_, rfl, KR.out⟩
  subst h0
  obtain ⟨Y, hY⟩ : ∃ Y, Hid ((⟨y.toArray⟩ : ByteArray) = Y) := ⟨_, rfl⟩
  have hYl : Y.data.toList = y := by rw [← hY.out]
  have hpc := rParse_any hU w2 Y (HT.out w2 B2.out)
  rw [hYl, hi.out] at hpc
  have hkn := hidW (prs_kn u y)
  rw [hi.out] at hkn
  have hYe : (⟨y.toArray⟩ : ByteArray) = Y := hY.out
  rw [hYe]
  clear hYl hYe
  go_wp2_with fail
  refine hpc.mono ?_
  rintro e w4 ⟨v4, rfl, hb4, qd, dl, cd, ql, ml, cl, rfl, hI4⟩
  unfold itv
  obtain ⟨w5, hw5⟩ : ∃ w5, Hid (w4.alloc (.cells #[.int .i64 i.k, .int .u64 (i.n : Int), .slice qd dl cd, .slice ql ml cl] 27) = w5) := ⟨_, rfl⟩
  have hb5 : Below w4.heap.size w4 w5 := by rw [← hw5.out]; exact alloc_below _ _
  have R5 : RowS w5 w4.heap.size [.int .i64 i.k, .int .u64 (i.n : Int), .slice qd dl cd, .slice ql ml cl] := by rw [← hw5.out]; exact arow w4 _ _ _ _ _
  have B5 := hidW ((B2.out.trans (hb4.mono B2.out.size)).trans (hb5.mono (Nat.le_trans B2.out.size hb4.size)))
  have HM := hidW (InM.up hb5 hI4)
  have k0 := R5.cell 0 _ rfl
  have k3 := R5.cell 3 _ rfl
  have hlk := R5.1
  have HR5 := hidW R5
  clear hpc hb4 hI4 hb5 R5
  go_upto_region 7 with fail
  rw [hw5.out]
  by_cases h4 : er4 = 0
  rotate_left
  · have g0 : (er4 != 0) = true := by simp [h4]
    have KR := hidW (KT.out w5 B5.out (fun L h => h4 (HE.out L h).2.1))
    clear h4
    go_wp2
    go_ret2
    exact ⟨_, rfl, KR.out⟩
  subst h4
  by_cases hk : i.k = 4
  rotate_left
  · have g0 : (i.k != 4) = true := by simp [hk]
    have KR := hidW (KT.out w5 B5.out (fun L h => hk (by rw [(HE.out L h).2.2]; rfl)))
    clear hk
    go_wp2
    go_ret2
    exact ⟨_, rfl, KR.out⟩
  have g4 : (i.k != 4) = false := by simp [hk]
  obtain ⟨ki, ni, di, li⟩ := i
  have hkk : Hid (ki = 4) := hk
  obtain rfl := len_m HM.out
  have hcn : cnts li ≤ 4095 := by have := hkn.out.1; rw [cnt] at this; omega
  have L0 : Hid (LtR w5 li 0 (.slice none 0 0) [] w5) := ⟨Below.refl _ _, World.ownsRow_nil _ _ _ _, TLr.nil _ _⟩
  obtain ⟨m, hm⟩ : ∃ m, Hid (li.length = m) := ⟨_, rfl⟩
  have hmb : m ≤ 4095 := by rw [← hm.out]; have := len_cnts li; omega
  rw [hm.out] at k3 HM HR5
  clear hk
  go_wp2
  go_loopg [7, 8] (m + 1) (fun gk s7 s8 wr => ∃ (j : Nat) (v : Value) (cs : List Value), v = s7 ∧ s8 = .int .i64 (j : Int) ∧ gk = m + 1 - j ∧ j ≤ m ∧ LtR w5 li j v cs wr)
  case atStart => exact ⟨0, _, _, rfl, rfl, rfl, Nat.zero_le _, L0.out⟩
  case round =>
    obtain ⟨j, v, cs, rfl, rfl, hgk, hjm, LL⟩ := hrel
    have Rr := HR5.out.below LL.bl
    have d3 := Rr.cell 3 _ rfl
    have hld := Rr.1
    clear Rr k0 k3 hlk
    by_cases hj : j < m
    · have hjz : (j : Int) < (m : Int) := by omega
      have hjl : j < li.length := by rw [hm.out]; exact hj
      obtain ⟨i', hi'⟩ : ∃ i', li[j]? = some i' := ⟨_, List.getElem?_eq_getElem hjl⟩
      have hM := HM.out
      rw [InM] at hM
      obtain ⟨-, -, -, -, q1, c1, he1, hin⟩ := hM
      rcases hin with h | ⟨b, off, hq1, hb, hL⟩
      · rw [h] at hjl; cases hjl
      obtain ⟨rfl, -, rfl⟩ : ql = q1 ∧ m = li.length ∧ cl = c1 := by simpa using he1
      subst hq1
      obtain ⟨vd, vl, hC, hMi⟩ := InL.get li off j i' hL hi'
      obtain ⟨qd1, dl1, cd1, ql1, ml1, cl1, rfl, rfl⟩ := hMi.form
      have hix := fun X => idxI b off m cl j hj X
      have hbl := World.block_lt_of_cell? _ _ hC.1
      have a0 : wr.cell? ⟨b, off + j * 4, none⟩ = some (.int .i64 i'.k) := (LL.bl.cell (p := ⟨b, off + j * 4, none⟩) hbl).trans hC.1
      have a1 : wr.cell? ⟨b, off + j * 4 + 1, none⟩ = some (.int .u64 (i'.n : Int)) := (LL.bl.cell (p := ⟨b, off + j * 4 + 1, none⟩) hbl).trans hC.2.1
      have a2 : wr.cell? ⟨b, off + j * 4 + 2, none⟩ = some (.slice qd1 dl1 cd1) := (LL.bl.cell (p := ⟨b, off + j * 4 + 2, none⟩) hbl).trans hC.2.2.1
      have a3 : wr.cell? ⟨b, off + j * 4 + 3, none⟩ = some (.slice ql1 ml1 cl1) := (LL.bl.cell (p := ⟨b, off + j * 4 + 3, none⟩) hbl).trans hC.2.2.2
      have hlb := World.block_lt_of_cell? _ _ a0
      obtain ⟨wx, hwx⟩ : ∃ wx, Hid (wr.alloc (.cells #[.int .i64 i'.k, .int .u64 (i'.n : Int), .slice qd1 dl1 cd1, .slice ql1 ml1 cl1] 27) = wx) := ⟨_, rfl⟩
      have hbx : Below wr.heap.size wr wx := by rw [← hwx.out]; exact alloc_below _ _
      have rx : RowS wx wr.heap.size [.int .i64 i'.k, .int .u64 (i'.n : Int), .slice qd1 dl1 cd1, .slice ql1 ml1 cl1] := by rw [← hwx.out]; exact arow wr _ _ _ _ _
      have hb5x : Below w5.heap.size w5 wx := LL.bl.trans (hbx.mono LL.bl.size)
      have x0 := rx.cell 0 _ rfl
      have x3 := rx.cell 3 _ rfl
      have hlx := rx.1
      have Bx := hidW (B5.out.trans (hb5x.mono B5.out.size))
      have HC := hidW (And.intro LL (And.intro hbx hb5x))
      have hno : Hid (i'.k ≠ 5 ∨ i'.l.length ≠ 8 → ∀ L, ¬ tkS u S.data.toList L) := fun hor L h => by
        have e := (HE.out L h).2.2
        have e2 : (L.map tkI)[j]? = some i' := by
          have e3 : li = L.map tkI := (by simpa [toI] using e : _ ∧ _ ∧ _ ∧ li = L.map tkI).2.2.2
          rw [← e3]; exact hi'
        rw [List.getElem?_map] at e2
        obtain ⟨t, -, rfl⟩ := Option.map_eq_some_iff.1 e2
        rcases hor with h | h
        · exact h rfl
        · exact h rfl
      by_cases h5 : i'.k = 5
      rotate_left
      · have g5 : (i'.k != 5) = true := by simp [h5]
        have KR := hidW (KT.out wx Bx.out (hno.out (Or.inl h5)))
        clear LL hL hC hMi he1 rx hbx hb5x h5
        go_upto_region 14 with fail
        rw [hwx.out]
        go_wp2
        go_ret2
        exact ⟨_, rfl, KR.out⟩
      have g5 : (i'.k != 5) = false := by simp [h5]
      by_cases h8 : i'.l.length = 8
      rotate_left
      · have hml1 : ml1 ≠ 8 := by
          obtain ⟨k', n', d', l'⟩ := i'
          rw [len_m hMi]; exact h8
        have g8 : ((ml1 : Int) != 8) = true := by simp; omega
        have KR := hidW (KT.out wx Bx.out (hno.out (Or.inr h8)))
        clear LL hL hC hMi he1 rx hbx hb5x h5 h8
        go_upto_region 14 with fail
        rw [hwx.out]
        go_wp2
        go_ret2
        exact ⟨_, rfl, KR.out⟩
      obtain ⟨rfl, b3, o3, q3, n3, c3, q5, n5, c5, q7, n7, c7, rfl, ⟨t1, t3, t5, t7⟩, hTk⟩ := tok_in hMi h8
      have hlt3 := World.block_lt_of_cell? _ _ t1
      have y1 : wx.cell? ⟨b3, o3 + 4 + 1, none⟩ = some (.int .u64 ((toTk i').a : Int)) := (hb5x.cell (p := ⟨b3, o3 + 4 + 1, none⟩) hlt3).trans t1
      have y3 : wx.cell? ⟨b3, o3 + 12 + 2, none⟩ = some (.slice q3 n3 c3) := (hb5x.cell (p := ⟨b3, o3 + 12 + 2, none⟩) hlt3).trans t3
      have y5 : wx.cell? ⟨b3, o3 + 20 + 2, none⟩ = some (.slice q5 n5 c5) := (hb5x.cell (p := ⟨b3, o3 + 20 + 2, none⟩) hlt3).trans t5
      have y7 : wx.cell? ⟨b3, o3 + 28 + 2, none⟩ = some (.slice q7 n7 c7) := (hb5x.cell (p := ⟨b3, o3 + 28 + 2, none⟩) hlt3).trans t7
      have hly := World.block_lt_of_cell? _ _ y1
      have i1 : ∀ X : World, (Instr.indexAt 25 (.slice (some ⟨b3, o3, none⟩) 8 cl1) (.int .i64 1)).run Tryd.prog X = .ok (.pointer (some ⟨b3, o3 + 4, none⟩)) X := fun X => idxI1 b3 o3 cl1 1 (by decide) 1 rfl X
      have i3 : ∀ X : World, (Instr.indexAt 25 (.slice (some ⟨b3, o3, none⟩) 8 cl1) (.int .i64 3)).run Tryd.prog X = .ok (.pointer (some ⟨b3, o3 + 12, none⟩)) X := fun X => idxI1 b3 o3 cl1 3 (by decide) 3 rfl X
      have i5 : ∀ X : World, (Instr.indexAt 25 (.slice (some ⟨b3, o3, none⟩) 8 cl1) (.int .i64 5)).run Tryd.prog X = .ok (.pointer (some ⟨b3, o3 + 20, none⟩)) X := fun X => idxI1 b3 o3 cl1 5 (by decide) 5 rfl X
      have i7 : ∀ X : World, (Instr.indexAt 25 (.slice (some ⟨b3, o3, none⟩) 8 cl1) (.int .i64 7)).run Tryd.prog X = .ok (.pointer (some ⟨b3, o3 + 28, none⟩)) X := fun X => idxI1 b3 o3 cl1 7 (by decide) 7 rfl X
      have hbd : Below wx.heap.size wx wx.drew := ⟨rfl, rfl, rfl, Nat.le_refl _, fun _ _ => rfl⟩
      obtain ⟨q', n', c', W', hap, hblk, cs', L2⟩ := LL.add (w6 := wx.drew) (hbx.trans (hbd.mono hbx.size)) hi' hTk rfl (by omega)
      have HAP : Hid ((Builtin.append_ #[47, 47] 47 #[v, .slice (some ⟨wx.heap.size, 0, none⟩) 1 1]).run Tryd.prog (wx.alloc (.cells #[.int .u64 ((toTk i').a : Int), .slice q3 n3 c3, .slice q5 n5 c5, .slice q7 n7 c7] 49)).drew = .ok (.slice q' n' c') W') := hap
      have SX : Hid (∀ X : World, (∀ k, k < wx.heap.size → k = wr.heap.size ∨ k = b3 → X.heap[k]? = wx.heap[k]?) → X.cell? ⟨wr.heap.size, 3, none⟩ = some (.slice (some ⟨b3, o3, none⟩) 8 cl1) ∧ X.cell? ⟨b3, o3 + 4 + 1, none⟩ = some (.int .u64 ((toTk i').a : Int)) ∧ X.cell? ⟨b3, o3 + 12 + 2, none⟩ = some (.slice q3 n3 c3) ∧ X.cell? ⟨b3, o3 + 20 + 2, none⟩ = some (.slice q5 n5 c5) ∧ X.cell? ⟨b3, o3 + 28 + 2, none⟩ = some (.slice q7 n7 c7)) := fun X hX => by
        have c1 := hX _ hlx (Or.inl rfl)
        have c2 := hX b3 hly (Or.inr rfl)
        exact ⟨(World.cell?_of_block (a := ⟨wr.heap.size, 3, none⟩) c1).trans x3, (World.cell?_of_block (a := ⟨b3, o3 + 4 + 1, none⟩) c2).trans y1, (World.cell?_of_block (a := ⟨b3, o3 + 12 + 2, none⟩) c2).trans y3, (World.cell?_of_block (a := ⟨b3, o3 + 20 + 2, none⟩) c2).trans y5, (World.cell?_of_block (a := ⟨b3, o3 + 28 + 2, none⟩) c2).trans y7⟩
      have SD := hidW (SX.out wx.drew (fun _ _ _ => rfl))
      have SA := hidW (SX.out (wx.alloc (.cells #[.int .u64 ((toTk i').a : Int), .slice q3 n3 c3, .slice q5 n5 c5, .slice q7 n7 c7] 49)).drew (fun k hk _ => (alloc_below wx (.cells #[.int .u64 ((toTk i').a : Int), .slice q3 n3 c3, .slice q5 n5 c5, .slice q7 n7 c7] 49)).block k hk))
      have SW := hidW (SX.out W' (fun k hk ho => (hblk k hk (fun e => by
        have h1 := LL.own.lt k e
        have h2 : b3 < w5.heap.size := hlt3
        rcases ho with h | h
        · omega
        · omega))))
      have L3 := hidW L2
      clear LL hL hC hMi he1 rx hbx hb5x h5 h8 t1 t3 t5 t7 hTk hap L2 hbd hlt3 hbl
      go_upto_region 14 with fail
      rw [hwx.out]
      clear a0 a1 a2 a3 hlb hix
      go_upto_region 16 with fail
      clear x0 x3 y1 y3 y5 y7
      go_region_held3 (fun W => W.cell? ⟨wr.heap.size, 3, none⟩ = some (.slice (some ⟨b3, o3, none⟩) 8 cl1) ∧ W.cell? ⟨b3, o3 + 4 + 1, none⟩ = some (.int .u64 ((toTk i').a : Int)) ∧ W.cell? ⟨b3, o3 + 12 + 2, none⟩ = some (.slice q3 n3 c3) ∧ W.cell? ⟨b3, o3 + 20 + 2, none⟩ = some (.slice q5 n5 c5) ∧ W.cell? ⟨b3, o3 + 28 + 2, none⟩ = some (.slice q7 n7 c7)) (first | exact SD.out | exact SA.out | exact SW.out) (refine step_runZ rfl (.tmp 65) (.tmp 87) 47 47 rfl v (.slice (some ⟨wx.heap.size, 0, none⟩) 1 1) rfl rfl _ _ HAP.out ?_)
      go_wp2
      go_roundg (m + 1 - (j + 1))
      case measure => omega
      case rel => exact ⟨j + 1, _, _, rfl, rfl, rfl, by omega, L3.out⟩
    · have hjz : ¬ (j : Int) < (m : Int) := by omega
      obtain rfl : j = m := by omega
      obtain ⟨qv, cv, rfl, hTk⟩ := LL.end hm.out
      have hLm : (li.map toTk).length = j := by rw [List.length_map, hm.out]
      have Br : Hid (Below w.heap.size w wr) := B5.out.trans (LL.bl.mono B5.out.size)
      have hput := rPut_c hU (li.map toTk) (by rw [hLm]; omega) wr wr.heap.size qv cv (HT.out wr Br.out) (Nat.le_refl _) hTk
      rw [hLm] at hput
      have HL : Hid (∀ L, tkS u S.data.toList L → li.map toTk = L) := fun L h => by
        have e := (HE.out L h).2.2
        have e3 : li = L.map tkI := (by simpa [toI] using e : _ ∧ _ ∧ _ ∧ li = L.map tkI).2.2.2
        rw [e3, map_tkI]
      have HF := hidW (And.intro hLm (And.intro hTk (fun t (ht : t ∈ li.map toTk) => (by
        obtain ⟨i', hi', rfl⟩ := List.mem_map.1 ht
        obtain ⟨k, hk⟩ := List.getElem?_of_mem hi'
        have hTL := LL.tl
        rw [List.take_of_length_le (by rw [hm.out]; exact Nat.le_refl _)] at hTL
        obtain ⟨_, _, _, _, _, _, _, _, _, _, hq⟩ := hTL.2 k i' hk
        exact hq.1 : t.a < 18446744073709551616))))
      clear LL hTk hLm
      go_wp2_with fail
      refine hput.mono ?_
      rintro e w7 ⟨v7, rfl, hb7, hpt⟩
      have B7 := hidW (Br.out.trans (hb7.mono Br.out.size))
      have HB7 := hidW hb7
      rcases hpt with ⟨hl, rfl⟩ | ⟨hl, ⟨hp, rfl⟩ | ⟨hp, rfl⟩⟩
      · have KR := hidW (KT.out w7 B7.out (fun L h => by have := HL.out L h; rw [this] at hl; have := h.1; omega))
        clear hput hb7 hl
        go_wp2
        go_ret2
        exact ⟨_, rfl, KR.out⟩
      · obtain ⟨Z, hZ⟩ : ∃ Z, Hid ((⟨(tx (li.map toTk)).toArray⟩ : ByteArray) = Z) := ⟨_, rfl⟩
        have hdec := txt_dec S (li.map toTk)
        rw [hZ.out] at hdec
        have hPk := hidW (And.intro hl hp)
        rw [hZ.out]
        clear hput hb7 hl hp
        by_cases hx : tx (li.map toTk) = S.data.toList
        · rw [decide_eq_true hx] at hdec
          have KR : Hid (RgT u S.data.toList w (.tuple #[.slice qv j cv, .int .i64 0]) w7) := by
            obtain ⟨hLm, hTk, h64⟩ := HF.out
            exact ⟨B7.out, Or.inl ⟨li.map toTk, qv, cv, ⟨hPk.out.1, hPk.out.2, hx, h64⟩, by rw [hLm], by
              rcases hTk.at (fun k hk => HB7.out.block k hk) with h | ⟨b, o, h1, h2, h3⟩
              · exact Or.inl h
              · refine Or.inr ⟨b, o, h1, Nat.lt_of_lt_of_le h2 HB7.out.size, fun x t hx => ?_⟩
                obtain ⟨q1, n1, c1, q2, n2, c2, q3, n3, c3, k1, k2⟩ := h3 x t hx
                exact ⟨q1, n1, c1, q2, n2, c2, q3, n3, c3, k1, k2.mono HB7.out.size⟩⟩⟩
          clear hx
          go_wp2
          go_ret2
          exact ⟨_, rfl, KR.out⟩
        · rw [decide_eq_false hx] at hdec
          have KR := hidW (KT.out w7 B7.out (fun L h => by have e := HL.out L h; exact hx (by rw [e]; exact h.2.2.1)))
          clear hx
          go_wp2
          go_ret2
          exact ⟨_, rfl, KR.out⟩
      · have KR := hidW (KT.out w7 B7.out (fun L h => by have := HL.out L h; rw [this] at hp; exact hp h.2.1))
        clear hput hb7 hp
        go_wp2
        go_ret2
        exact ⟨_, rfl, KR.out⟩
end WI
end Go.Proofs.YtfkgfcggcfkkiaaDoor
namespace Go.Proofs.YtfkgfcggcfkkiaaDoor
open Go.RowKit Go.Sort Go.Deep
namespace WI
variable {T : World → Prop} {u : List UInt8 → Bool}
set_option maxHeartbeats 4000000 in
set_option maxRecDepth 20000 in
/-- The law's tokens, of the same tokens twice in memory. -/
theorem tokens_c (L : List Tk) (hL : L.length ≤ 1000) (w : World) (B : Nat) (q q' : Option Addr) (c c' : Nat) (hB : B ≤ w.heap.size) (h : TkL w B q L) (h' : TkL w B q' L) : Calls Tryd.prog 21 #[.slice q L.length c, .slice q' L.length c'] w (RetW (SaR w)) := by
  obtain ⟨m, hm⟩ : ∃ m, Hid (L.length = m) := ⟨_, rfl⟩
  have hmz : m ≤ 1000 := by rw [← hm.out]; exact hL
  have HK := hidW (And.intro h h')
  rw [hm.out]
  clear h h' hL
  go_enter Tryd.func21, Tryd.ntmps21
  go_wp2
  go_loopg [5] (m + 1) (fun gk s5 wr => ∃ j : Nat, s5 = .int .i64 (j : Int) ∧ j ≤ m ∧ gk = m + 1 - j ∧ Below w.heap.size w wr)
  case atStart => exact ⟨0, rfl, Nat.zero_le _, rfl, Below.refl _ _⟩
  case round =>
    obtain ⟨j, rfl, hjm, hgk, hb⟩ := hrel
    by_cases hj : j < m
    · have hjz : (j : Int) < (m : Int) := by omega
      obtain ⟨t, ht⟩ : ∃ t, L[j]? = some t := ⟨_, List.getElem?_eq_getElem (by rw [hm.out]; exact hj)⟩
      have hold : ∀ k, k < B → wr.heap[k]? = w.heap[k]? := fun k hk => hb.block k (by omega)
      rcases HK.out.1.at hold with hnil | ⟨b, o, rfl, hbB, hcell⟩
      · rw [hnil] at ht; cases ht
      rcases HK.out.2.at hold with hnil | ⟨b', o', rfl, hbB', hcell'⟩
      · rw [hnil] at ht; cases ht
      obtain ⟨q1, n1, c1, q2, n2, c2, q3, n3, c3, ⟨a0, a1, a2, a3⟩, hTM⟩ := hcell j t ht
      obtain ⟨p1, l1, d1, p2, l2, d2, p3, l3, d3, ⟨e0, e1, e2, e3⟩, hTM'⟩ := hcell' j t ht
      have hix := fun X => idxT b o m c j hj X
      have hix' := fun X => idxT b' o' m c' j hj X
      have hla := World.block_lt_of_cell? _ _ a0
      have hle := World.block_lt_of_cell? _ _ e0
      have hdn : ∀ k, Below wr.heap.size wr (wr.drewN k) := fun k => ⟨rfl, rfl, rfl, Nat.le_refl _, fun _ _ => rfl⟩
      obtain ⟨S1, hS1⟩ : ∃ S, Hid ((⟨t.ks.toArray⟩ : ByteArray) = S) := ⟨_, rfl⟩
      obtain ⟨S2, hS2⟩ : ∃ S, Hid ((⟨t.sc.toArray⟩ : ByteArray) = S) := ⟨_, rfl⟩
      obtain ⟨S3, hS3⟩ : ∃ S, Hid ((⟨t.sg.toArray⟩ : ByteArray) = S) := ⟨_, rfl⟩
      have v1 := fun k => pb_conv (hTM.2.1.pb.below (hdn k))
      have v2 := fun k => pb_conv (hTM.2.2.1.pb.below (hdn k))
      have v3 := fun k => pb_conv (hTM.2.2.2.1.pb.below (hdn k))
      have v1' := fun k => pb_conv (hTM'.2.1.pb.below (hdn k))
      have v2' := fun k => pb_conv (hTM'.2.2.1.pb.below (hdn k))
      have v3' := fun k => pb_conv (hTM'.2.2.2.1.pb.below (hdn k))
      simp only [hS1.out] at v1 v1'
      simp only [hS2.out] at v2 v2'
      simp only [hS3.out] at v3 v3'
      have s1 : (S1.toList == S1.toList) = true := by simp
      have s2 : (S2.toList == S2.toList) = true := by simp
      have s3 : (S3.toList == S3.toList) = true := by simp
      have KB : Hid (∀ k, Below w.heap.size w (wr.drewN k)) := fun k => hb.trans ((hdn k).mono hb.size)
      clear hcell hcell' hTM hTM' hold ht hb hdn
      go_upto_region 6 with fail
      go_quiet (fail)
      go_wp2
      go_roundg (m + 1 - (j + 1))
      case measure => omega
      case rel => exact ⟨j + 1, rfl, by omega, rfl, KB.out _⟩
    · have hjz : ¬ (j : Int) < (m : Int) := by omega
      have HQ : Hid (SaR w (.bool true) wr) := ⟨hb, rfl⟩
      clear hb
      go_wp2
      go_ret
      exact ⟨_, rfl, HQ.out⟩
end WI
end Go.Proofs.YtfkgfcggcfkkiaaDoor
namespace Go.Proofs.YtfkgfcggcfkkiaaDoor
open Go.RowKit Go.Sort Go.Deep
namespace WI
variable {T : World → Prop} {u : List UInt8 → Bool}
/-- A text is of one list of tokens. -/
theorem tkS_uni {x : List UInt8} {L L' : List Tk} (h : tkS u x L) (h' : tkS u x L') : L = L' := by
  obtain ⟨-, h2, h3⟩ := tkS_kn h
  have := tkS_eq h2 h3 h'
  have e : L.map tkI = L'.map tkI := this
  rw [← map_tkI L, e, map_tkI]
/-- The tokens that Tokens gave, in memory. -/
theorem tg_tkl {w : World} {B : Nat} {L : List Tk} {q : Option Addr} {c : Nat} {cs vs : List Value} (hl : ∀ t ∈ L, tkOk t = true) (hO : w.ownsRow B 49 4 (.slice q L.length c) L.length cs) (hT : TCx w B (L.map tkI) cs vs) : TkL w w.heap.size q L := by
  have e : (L.map tkI).map toTk = L := map_tkI L
  rcases own_cellsT hO with ⟨h0, -, -⟩ | ⟨g, cap, hv, -, hg, hcs⟩
  · exact Or.inl (List.length_eq_zero_iff.1 h0)
  · obtain ⟨rfl, -, -⟩ : q = some ⟨g, 0, none⟩ ∧ L.length = L.length ∧ c = cap := by simpa using hv
    have := hT.tkl hg (fun x y hx => hcs x y hx) (fun x y hx => ?_)
    · rw [e] at this; exact this
    · rw [List.getElem?_map] at hx
      obtain ⟨t, ht, rfl⟩ := Option.map_eq_some_iff.1 hx
      have hk := hl t (List.mem_of_getElem? ht)
      unfold tkOk at hk
      simp only [Bool.and_eq_true, beq_iff_eq, decide_eq_true_eq] at hk
      rw [toTk_tkI]
      exact ⟨by omega, by omega, by omega⟩
/-- The rows that Tokens gave: in blocks of their own, none of them long. -/
theorem tg_all {w : World} {B : Nat} {L : List Tk} {cs vs : List Value} (hl : ∀ t ∈ L, tkOk t = true) (hT : TCx w B (L.map tkI) cs vs) : ∀ v ∈ vs, ∃ d : List UInt8, w.ownsRow B 5 1 v d.length (Lib.byteCells d) ∧ d.length ≤ 100000 := by
  obtain ⟨-, h2, hj⟩ := hT
  intro v hv
  obtain ⟨k, hk⟩ := List.getElem?_of_mem hv
  have hkl : k < vs.length := (List.getElem?_eq_some_iff.1 hk).1
  rw [h2, List.length_map] at hkl
  have hlt : k / 3 < L.length := by omega
  obtain ⟨t, ht⟩ : ∃ t, L[k / 3]? = some t := ⟨_, List.getElem?_eq_getElem hlt⟩
  have hok := hl t (List.mem_of_getElem? ht)
  unfold tkOk at hok
  simp only [Bool.and_eq_true, beq_iff_eq, decide_eq_true_eq] at hok
  obtain ⟨-, q3, n3, c3, q5, n5, c5, q7, n7, c7, -, ⟨b0, b1, b2⟩, o3, o5, o7⟩ := hj (k / 3) (tkI t) (by rw [List.getElem?_map, ht]; rfl)
  rw [toTk_tkI] at o3 o5 o7
  have h3 : k = k / 3 * 3 ∨ k = k / 3 * 3 + 1 ∨ k = k / 3 * 3 + 2 := by omega
  rcases h3 with h | h | h
  · rw [h, b0] at hk
    obtain rfl := Option.some.inj hk
    exact ⟨t.ks, o3, by omega⟩
  · rw [h, b1] at hk
    obtain rfl := Option.some.inj hk
    exact ⟨t.sc, o5, by omega⟩
  · rw [h, b2] at hk
    obtain rfl := Option.some.inj hk
    exact ⟨t.sg, o7, by omega⟩
end WI
end Go.Proofs.YtfkgfcggcfkkiaaDoor
namespace Go.Proofs.YtfkgfcggcfkkiaaDoor
open Go.RowKit Go.Sort Go.Deep
namespace WI
variable {T : World → Prop} {u : List UInt8 → Bool}
/-- What the law's loop keeps: three rows a token. -/
structure AlI (w4 : World) (vs : List Value) (j : Nat) (v : Value) (wr : World) : Prop where
  bl : Below w4.heap.size w4 wr
  own : wr.ownsRow w4.heap.size 22 1 v (j * 3) (vs.take (j * 3))
theorem take3 {vs : List Value} {n : Nat} {a b c : Value} (h0 : vs[n]? = some a) (h1 : vs[n + 1]? = some b) (h2 : vs[n + 2]? = some c) : vs.take (n + 3) = vs.take n ++ [a, b, c] := by
  rw [take_s vs (n + 2) c h2, take_s vs (n + 1) b h1, take_s vs n a h0]
  simp
theorem AlI.add {w4 wr w6 : World} {vs : List Value} {j : Nat} {v : Value} (L : AlI w4 vs j v wr) (hb6 : Below wr.heap.size wr w6) {q3 : Option Addr} {n3 c3 : Nat} {q5 : Option Addr} {n5 c5 : Nat} {q7 : Option Addr} {n7 c7 : Nat} (h0 : vs[j * 3]? = some (.slice q3 n3 c3)) (h1 : vs[j * 3 + 1]? = some (.slice q5 n5 c5)) (h2 : vs[j * 3 + 2]? = some (.slice q7 n7 c7)) (hj : j ≤ 10000) :
    ∃ v' W', (Builtin.append_ #[36, 36] 36 #[v, .slice (some ⟨w6.heap.size, 0, none⟩) 3 3]).run Tryd.prog (w6.alloc (.cells #[.slice q3 n3 c3, .slice q5 n5 c5, .slice q7 n7 c7] 22)) = .ok v' W' ∧ (∀ k, k < w6.heap.size → v.ownBlock ≠ some k → W'.heap[k]? = w6.heap[k]?) ∧ AlI w4 vs (j + 1) v' W' := by
  have hba := alloc_below w6 (.cells #[.slice q3 n3 c3, .slice q5 n5 c5, .slice q7 n7 c7] 22)
  have hbr := hb6.trans (hba.mono hb6.size)
  have hown := own_at L.own (fun k hk => hbr.block k (L.own.lt k hk).2)
  have h51 := L.bl.size
  have h52 := hbr.size
  obtain ⟨v', W', r1, r2, r3⟩ := ls_app (g := w6.heap.size) (c := 3) (m := 3) hown (news := [.slice q3 n3 c3, .slice q5 n5 c5, .slice q7 n7 c7]) rfl (fun x y hx => by
    have := al_r w6 [.slice q3 n3 c3, .slice q5 n5 c5, .slice q7 n7 c7] 22 _ rfl x y hx
    rw [Nat.zero_add] at this
    exact this) (fun y hy => by
      simp only [List.mem_cons, List.not_mem_nil, or_false] at hy
      rcases hy with rfl | rfl | rfl <;> rfl) (by omega) (by omega)
  refine ⟨v', W', r1, fun k h1 h2 => ?_, ?_, ?_⟩
  · rw [r3.block k (Nat.lt_of_lt_of_le h1 hba.size) (fun e => h2 e.symm), hba.block k h1]
  · exact below_grown (L.bl.trans (hbr.mono h51)) r3 (by omega) (fun k hk => (L.own.lt k hk).1)
  · rw [show (j + 1) * 3 = j * 3 + 3 by omega, take3 h0 h1 h2]
    exact r2
/-- A list of tokens is the text's that it makes. -/
theorem tkS_of {w : World} {B : Nat} {q : Option Addr} {L : List Tk} (h : TkL w B q L) (hl : L.length ≤ 64) (hp : Pok u L) : tkS u (tx L) L := by
  refine ⟨hl, hp, rfl, fun t ht => ?_⟩
  obtain ⟨k, hk⟩ := List.getElem?_of_mem ht
  rcases h with h | ⟨b, o, -, -, hc⟩
  · rw [h] at ht; cases ht
  · obtain ⟨_, _, _, _, _, _, _, _, _, _, hm⟩ := hc k t hk
    exact hm.1
theorem tkl_up {w w' : World} {B B' : Nat} {q : Option Addr} {L : List Tk} (h : TkL w B q L) (hb : ∀ k, k < B → w'.heap[k]? = w.heap[k]?) (hB : B ≤ B') : TkL w' B' q L := by
  rcases h.at hb with h | ⟨b, o, h1, h2, h3⟩
  · exact Or.inl h
  · refine Or.inr ⟨b, o, h1, by omega, fun x t hx => ?_⟩
    obtain ⟨q1, n1, c1, q2, n2, c2, q3, n3, c3, k1, k2⟩ := h3 x t hx
    exact ⟨q1, n1, c1, q2, n2, c2, q3, n3, c3, k1, k2.mono hB⟩
end WI
end Go.Proofs.YtfkgfcggcfkkiaaDoor
namespace Go.Proofs.YtfkgfcggcfkkiaaDoor
open Go.RowKit Go.Sort Go.Deep
namespace WI
variable {T : World → Prop} {u : List UInt8 → Bool}
set_option maxHeartbeats 8000000 in
set_option maxRecDepth 20000 in
/-- THE LAW. -/
theorem tokens_law (hU : UV T u) (L : List Tk) (hL : L.length ≤ 4611686018427387904) (s : ByteArray) (w : World) (q : Option Addr) (c : Nat) (hT : T w) (h : TkL w w.heap.size q L) : Calls Tryd.prog 6 #[.slice q L.length c, .string s] w (RetW (TuR w)) := by
  obtain ⟨m, hm⟩ : ∃ m, Hid (L.length = m) := ⟨_, rfl⟩
  have h2s := hU.2.1 w hT
  have HT : Hid (∀ X, Below w.heap.size w X → T X) := fun X hX => hU.1 w X hT (fun k hk => hX.block k (by omega))
  have HK := hidW h
  clear hT h
  by_cases h1 : 100 < m
  · have g : (100 : Int) < (m : Int) := by omega
    rw [hm.out]
    go_enter Tryd.func6, Tryd.ntmps6
    go_wp2
    go_ret
    exact ⟨_, rfl, rfl, Below.refl _ _⟩
  have g1 : ¬ (100 : Int) < (m : Int) := by omega
  by_cases h2 : (131072 : Int) < (s.size : Int)
  · rw [hm.out]
    go_enter Tryd.func6, Tryd.ntmps6
    go_wp2
    go_ret
    exact ⟨_, rfl, rfl, Below.refl _ _⟩
  rw [hm.out]
  go_enter Tryd.func6, Tryd.ntmps6
  go_wp2
  go_loopg [5] (m + 1) (fun gk s5 wr => ∃ j : Nat, s5 = .int .i64 (j : Int) ∧ j ≤ m ∧ gk = m + 1 - j ∧ wr = w)
  case atStart => exact ⟨0, rfl, Nat.zero_le _, rfl, rfl⟩
  case round =>
    obtain ⟨j, rfl, hjm, hgk, rfl⟩ := hrel
    by_cases hj : j < m
    · have hjz : (j : Int) < (m : Int) := by omega
      obtain ⟨t, ht⟩ : ∃ t, L[j]? = some t := ⟨_, List.getElem?_eq_getElem (by rw [hm.out]; exact hj)⟩
      rcases HK.out with hnil | ⟨b, o, rfl, hbB, hcell⟩
      · rw [hnil] at ht; cases ht
      obtain ⟨q1, n1, c1, q2, n2, c2, q3, n3, c3, ⟨a0, a1, a2, a3⟩, -⟩ := hcell j t ht
      have hix := fun X => idxT b o m c j hj X
      have hla := World.block_lt_of_cell? _ _ a0
      clear hcell ht
      by_cases b1 : (100 : Int) < (n1 : Int)
      · go_wp2
        go_ret
        exact ⟨_, rfl, rfl, Below.refl _ _⟩
      by_cases b2 : (100 : Int) < (n2 : Int)
      · go_wp2
        go_ret
        exact ⟨_, rfl, rfl, Below.refl _ _⟩
      by_cases b3 : (100 : Int) < (n3 : Int)
      · go_wp2
        go_ret
        exact ⟨_, rfl, rfl, Below.refl _ _⟩
      go_wp2
      go_roundg (m + 1 - (j + 1))
      case measure => omega
      case rel => exact ⟨j + 1, rfl, by omega, rfl, rfl⟩
    · have hjz : ¬ (j : Int) < (m : Int) := by omega
      obtain rfl : j = m := by omega
      have hP := PutTokens_c hU L hL wr wr.heap.size q c (HT.out wr (Below.refl _ _)) (Nat.le_refl _) HK.out
      rw [hm.out] at hP
      go_wp2_with fail
      refine hP.mono ?_
      rintro e w2 ⟨v2, rfl, hb2, hp2⟩
      have hR := rPut_c hU L hL w2 wr.heap.size q c (HT.out w2 hb2) hb2.size (HK.out.at (fun k hk => hb2.block k hk))
      rw [hm.out] at hR
      have B2 := hidW hb2
      clear hP hb2
      rcases hp2 with ⟨hl, rfl⟩ | ⟨hl, ⟨hp, rfl⟩ | ⟨hp, rfl⟩⟩
      · go_wp2_with fail
        refine hR.mono ?_
        rintro e w3 ⟨v3, rfl, hb3, ⟨-, rfl⟩ | ⟨hl3, -⟩⟩
        rotate_left
        · omega
        have Bx := hidW (B2.out.trans (hb3.mono B2.out.size))
        clear hR hb3 hl
        have hTk := Tokens_c hU s w3 (HT.out w3 Bx.out)
        go_wp2_with fail
        refine hTk.mono ?_
        rintro e wy ⟨vy, rfl, hby, hy⟩
        have By := hidW (Bx.out.trans (hby.mono Bx.out.size))
        have hTr := rTokens_c hU s wy (HT.out wy By.out)
        rcases hy with ⟨L1, q1, c1, cs1, vs1, hS1, rfl, hO1, hTC1, hA1⟩ | ⟨hn1, rfl⟩
        · have K1 := hidW (And.intro hS1 (tg_tkl (fun t ht => List.all_eq_true.1 hS1.2.1.2.1 t ht) hO1 hTC1))
          obtain ⟨m1, hm1⟩ : ∃ m1, Hid (L1.length = m1) := ⟨_, rfl⟩
          rw [hm1.out]
          clear hTk hby hO1 hTC1 hA1 hS1
          go_wp2_with fail
          refine hTr.mono ?_
          rintro e wz ⟨vz, rfl, hbz, hz⟩
          have Bz := hidW (By.out.trans (hbz.mono By.out.size))
          rcases hz with ⟨L2, q2, c2, hS2, rfl, hK2⟩ | ⟨hn2, rfl⟩
          · obtain rfl := tkS_uni K1.out.1 hS2
            have hts := tokens_c L1 (by have := hS2.1; omega) wz wz.heap.size q1 q2 c1 c2 (Nat.le_refl _) (tkl_up K1.out.2 (fun k hk => hbz.block k hk) hbz.size) hK2
            rw [hm1.out] at hts ⊢
            clear hTr hbz hS2 hK2 K1
            go_wp2_with fail
            refine hts.mono ?_
            rintro e w9 ⟨v9, rfl, hb9, rfl⟩
            have B9 := hidW (Bz.out.trans (hb9.mono Bz.out.size))
            clear hts hb9
            go_wp2
            go_ret
            exact ⟨_, rfl, rfl, B9.out⟩
          · exact absurd K1.out.1 (hn2 L1)
        · clear hTk hby
          go_wp2_with fail
          refine hTr.mono ?_
          rintro e wz ⟨vz, rfl, hbz, hz⟩
          have Bz := hidW (By.out.trans (hbz.mono By.out.size))
          rcases hz with ⟨L2, q2, c2, hS2, rfl, hK2⟩ | ⟨hn2, rfl⟩
          · exact absurd hS2 (hn1 L2)
          · have hts : Calls Tryd.prog 21 #[.slice none 0 0, .slice none 0 0] wz (RetW (SaR wz)) := tokens_c [] (by simp) wz wz.heap.size none none 0 0 (Nat.le_refl _) (Or.inl rfl) (Or.inl rfl)
            clear hTr hbz hn1 hn2
            go_wp2_with fail
            refine hts.mono ?_
            rintro e w9 ⟨v9, rfl, hb9, rfl⟩
            have B9 := hidW (Bz.out.trans (hb9.mono Bz.out.size))
            clear hts hb9
            go_wp2
            go_ret
            exact ⟨_, rfl, rfl, B9.out⟩
      · obtain ⟨Z, hZ⟩ : ∃ Z, Hid ((⟨(tx L).toArray⟩ : ByteArray) = Z) := ⟨_, rfl⟩
        have hse : (Z.toList == Z.toList) = true := by simp
        rw [hZ.out]
        go_wp2_with fail
        refine hR.mono ?_
        rintro e w3 ⟨v3, rfl, hb3, ⟨hl3, -⟩ | ⟨-, ⟨-, rfl⟩ | ⟨hp3, -⟩⟩⟩
        · omega
        rotate_left
        · exact absurd hp hp3
        rw [hZ.out]
        have B3 := hidW (B2.out.trans (hb3.mono B2.out.size))
        have hC := Tokens_c hU Z w3 (HT.out w3 B3.out)
        have hZx : Z.data.toList = tx L := by rw [← hZ.out]
        rw [hZx] at hC
        have HS := hidW (tkS_of HK.out hl hp)
        clear hR hb3 hl hp hZx
        go_wp2_with fail
        refine hC.mono ?_
        rintro e w4 ⟨v4, rfl, hb4, ⟨L1, q4, c4, cs, vs, hS1, rfl, hO, hTC, hA⟩ | ⟨hn, -⟩⟩
        rotate_left
        · exact absurd HS.out (hn L)
        obtain rfl := tkS_uni HS.out hS1
        have hok : ∀ t ∈ L, tkOk t = true := fun t ht => List.all_eq_true.1 hS1.2.1.2.1 t ht
        have hm64 : j ≤ 64 := by rw [← hm.out]; exact hS1.1
        have h0m : 0 < j := by
          rw [← hm.out]
          exact List.length_pos_iff.2 hS1.2.1.1
        have B4 := hidW (B3.out.trans (hb4.mono B3.out.size))
        have hts := tokens_c L (by have := hS1.1; omega) w4 w4.heap.size q4 q c4 c (Nat.le_refl _) (tg_tkl hok hO hTC) (tkl_up HK.out (fun k hk => B4.out.block k hk) B4.out.size)
        rw [hm.out] at hts ⊢
        obtain ⟨g, cap, hv, hgB, hg, hcs⟩ : ∃ g cap, Value.slice q4 L.length c4 = .slice (some ⟨g, 0, none⟩) L.length cap ∧ w3.heap.size ≤ g ∧ g < w4.heap.size ∧ ∀ j u, cs[j]? = some u → w4.cell? ⟨g, j, none⟩ = some u := by
          rcases own_cellsT hO with ⟨h0, -, -⟩ | h
          · rw [hm.out] at h0; omega
          · exact h
        obtain ⟨rfl, -, rfl⟩ : q4 = some ⟨g, 0, none⟩ ∧ L.length = L.length ∧ c4 = cap := by simpa using hv
        have HF := hidW (And.intro hTC (And.intro hA (And.intro hok (And.intro hcs (And.intro hg hb4.size)))))
        clear hC hb4 hS1 hO hTC hA hok hv hcs hgB hg
        go_wp2_with fail
        refine hts.mono ?_
        rintro e w5 ⟨v5, rfl, hb5, rfl⟩
        have B5 := hidW (B4.out.trans (hb5.mono B4.out.size))
        have H5 := hidW hb5
        have A0 : Hid (AlI w5 vs 0 (.slice none 0 0) w5) := ⟨Below.refl _ _, World.ownsRow_nil _ _ _ _⟩
        clear hts hb5
        go_wp2
        go_loopg [13, 14] (j + 1) (fun gk s13 s14 wq => ∃ (i : Nat) (v : Value), v = s13 ∧ s14 = .int .i64 (i : Int) ∧ gk = j + 1 - i ∧ i ≤ j ∧ AlI w5 vs i v wq)
        case atStart => exact ⟨0, _, rfl, rfl, rfl, Nat.zero_le _, A0.out⟩
        case round =>
          obtain ⟨i, v, rfl, rfl, hgi, hij, LL⟩ := hrel
          by_cases hi : i < j
          · have hiz : (i : Int) < (j : Int) := by omega
            obtain ⟨t, ht⟩ : ∃ t, L[i]? = some t := ⟨_, List.getElem?_eq_getElem (by rw [hm.out]; exact hi)⟩
            obtain ⟨hTC, -, -, hcs, hg, -⟩ := HF.out
            obtain ⟨-, q3, n3, c3, q5, n5, c5, q7, n7, c7, ⟨-, a1, a2, a3⟩, ⟨b0, b1, b2⟩, -, -, -⟩ := hTC.2.2 i (tkI t) (by rw [List.getElem?_map, ht]; rfl)
            have hbq : Below w4.heap.size w4 wr := H5.out.trans (LL.bl.mono H5.out.size)
            have hdw : Below wr.heap.size wr wr.drew := ⟨rfl, rfl, rfl, Nat.le_refl _, fun _ _ => rfl⟩
            obtain ⟨v', W', hap, hblk, L2⟩ := LL.add (w6 := wr.drew) hdw b0 b1 b2 (by omega)
            have HAP : Hid ((Builtin.append_ #[36, 36] 36 #[v, .slice (some ⟨wr.heap.size, 0, none⟩) 3 3]).run Tryd.prog (wr.alloc (.cells #[.slice q3 n3 c3, .slice q5 n5 c5, .slice q7 n7 c7] 22)).drew = .ok v' W') := hap
            have hgq : g < wr.heap.size := Nat.lt_of_lt_of_le hg hbq.size
            have SX : Hid (∀ X : World, X.heap[g]? = wr.heap[g]? → X.cell? ⟨g, i * 4 + 1, none⟩ = some (.slice q3 n3 c3) ∧ X.cell? ⟨g, i * 4 + 2, none⟩ = some (.slice q5 n5 c5) ∧ X.cell? ⟨g, i * 4 + 3, none⟩ = some (.slice q7 n7 c7)) := fun X hX => by
              have f : ∀ k y, cs[k]? = some y → X.cell? ⟨g, k, none⟩ = some y := fun k y hk => by
                rw [World.cell?_of_block (a := ⟨g, k, none⟩) hX, hbq.cell (p := ⟨g, k, none⟩) hg]
                exact hcs k y hk
              exact ⟨f _ _ a1, f _ _ a2, f _ _ a3⟩
            have SD := hidW (SX.out wr.drew rfl)
            have SA := hidW (SX.out (wr.alloc (.cells #[.slice q3 n3 c3, .slice q5 n5 c5, .slice q7 n7 c7] 22)).drew ((alloc_below wr (.cells #[.slice q3 n3 c3, .slice q5 n5 c5, .slice q7 n7 c7] 22)).block g hgq))
            have SW := hidW (SX.out W' (hblk g hgq (fun e => by
              have h1 := (LL.own.lt g e).1
              have h2 := H5.out.size
              omega)))
            have L3 := hidW L2
            have hix := fun (X : World) (cq : Nat) => idxT g 0 j cq i hi X
            clear LL hTC hcs a1 a2 a3 b0 b1 b2 hbq hdw hap hblk L2 ht
            go_upto_region 19 with fail
            go_region_held3 (fun W => W.cell? ⟨g, i * 4 + 1, none⟩ = some (.slice q3 n3 c3) ∧ W.cell? ⟨g, i * 4 + 2, none⟩ = some (.slice q5 n5 c5) ∧ W.cell? ⟨g, i * 4 + 3, none⟩ = some (.slice q7 n7 c7)) (first | exact SD.out | exact SA.out | exact SW.out) (refine step_runZ rfl (.tmp 92) (.tmp 108) 36 36 rfl v (.slice (some ⟨wr.heap.size, 0, none⟩) 3 3) rfl rfl _ _ HAP.out ?_)
            go_wp2
            go_roundg (j + 1 - (i + 1))
            case measure => omega
            case rel => exact ⟨i + 1, _, rfl, rfl, rfl, by omega, L3.out⟩
          · have hiz : ¬ (i : Int) < (j : Int) := by omega
            obtain rfl : i = j := by omega
            obtain ⟨hTC, hA, hok, -, -, h34⟩ := HF.out
            have hvl : vs.length = i * 3 := by rw [hTC.2.1, List.length_map, hm.out]
            have how := LL.own
            rw [List.take_of_length_le (by rw [hvl]; exact Nat.le_refl _)] at how
            have hbq : Below w4.heap.size w4 wr := H5.out.trans (LL.bl.mono H5.out.size)
            have how2 : wr.ownsRow w5.heap.size 22 1 v vs.length vs := by rw [hvl]; rw [hvl] at *; exact how
            have hap : Calls Tryd.prog 12 #[v] wr (fun e w'' => e = .returned (.bool true) ∧ Below w3.heap.size wr w'') :=
              apart_in (w := w5) (i := zI) (vd := undef) (vl := undef) (by omega) hA (tg_all hok (hTC.below hbq)) (by omega) H5.out.size (Nat.le_trans h34 H5.out.size) LL.bl how2
            obtain ⟨g7, c7, rfl, -⟩ := own_shapeX how (by omega)
            have B7 := hidW (B5.out.trans (LL.bl.mono B5.out.size))
            clear LL hTC hA hok how how2 hbq h34 hvl
            go_wp2_with fail
            refine hap.mono ?_
            rintro e w8 ⟨rfl, hb8⟩
            have Bx := hidW (B7.out.trans (hb8.mono B3.out.size))
            clear hap hb8
            have hTk := Tokens_c hU s w8 (HT.out w8 Bx.out)
            go_wp2_with fail
            refine hTk.mono ?_
            rintro e wy ⟨vy, rfl, hby, hy⟩
            have By := hidW (Bx.out.trans (hby.mono Bx.out.size))
            have hTr := rTokens_c hU s wy (HT.out wy By.out)
            rcases hy with ⟨L1, q1, c1, cs1, vs1, hS1, rfl, hO1, hTC1, hA1⟩ | ⟨hn1, rfl⟩
            · have K1 := hidW (And.intro hS1 (tg_tkl (fun t ht => List.all_eq_true.1 hS1.2.1.2.1 t ht) hO1 hTC1))
              obtain ⟨m1, hm1⟩ : ∃ m1, Hid (L1.length = m1) := ⟨_, rfl⟩
              rw [hm1.out]
              clear hTk hby hO1 hTC1 hA1 hS1
              go_wp2_with fail
              refine hTr.mono ?_
              rintro e wz ⟨vz, rfl, hbz, hz⟩
              have Bz := hidW (By.out.trans (hbz.mono By.out.size))
              rcases hz with ⟨L2, q2, c2, hS2, rfl, hK2⟩ | ⟨hn2, rfl⟩
              · obtain rfl := tkS_uni K1.out.1 hS2
                have hts := tokens_c L1 (by have := hS2.1; omega) wz wz.heap.size q1 q2 c1 c2 (Nat.le_refl _) (tkl_up K1.out.2 (fun k hk => hbz.block k hk) hbz.size) hK2
                rw [hm1.out] at hts ⊢
                clear hTr hbz hS2 hK2 K1
                go_wp2_with fail
                refine hts.mono ?_
                rintro e w9 ⟨v9, rfl, hb9, rfl⟩
                have B9 := hidW (Bz.out.trans (hb9.mono Bz.out.size))
                clear hts hb9
                go_wp2
                go_ret
                exact ⟨_, rfl, rfl, B9.out⟩
              · exact absurd K1.out.1 (hn2 L1)
            · clear hTk hby
              go_wp2_with fail
              refine hTr.mono ?_
              rintro e wz ⟨vz, rfl, hbz, hz⟩
              have Bz := hidW (By.out.trans (hbz.mono By.out.size))
              rcases hz with ⟨L2, q2, c2, hS2, rfl, hK2⟩ | ⟨hn2, rfl⟩
              · exact absurd hS2 (hn1 L2)
              · have hts : Calls Tryd.prog 21 #[.slice none 0 0, .slice none 0 0] wz (RetW (SaR wz)) := tokens_c [] (by simp) wz wz.heap.size none none 0 0 (Nat.le_refl _) (Or.inl rfl) (Or.inl rfl)
                clear hTr hbz hn1 hn2
                go_wp2_with fail
                refine hts.mono ?_
                rintro e w9 ⟨v9, rfl, hb9, rfl⟩
                have B9 := hidW (Bz.out.trans (hb9.mono Bz.out.size))
                clear hts hb9
                go_wp2
                go_ret
                exact ⟨_, rfl, rfl, B9.out⟩
      · go_wp2_with fail
        refine hR.mono ?_
        rintro e w3 ⟨v3, rfl, hb3, ⟨hl3, -⟩ | ⟨-, ⟨hp3, -⟩ | ⟨-, rfl⟩⟩⟩
        · omega
        · exact absurd hp3 hp
        have Bx := hidW (B2.out.trans (hb3.mono B2.out.size))
        clear hR hb3 hl hp
        have hTk := Tokens_c hU s w3 (HT.out w3 Bx.out)
        go_wp2_with fail
        refine hTk.mono ?_
        rintro e wy ⟨vy, rfl, hby, hy⟩
        have By := hidW (Bx.out.trans (hby.mono Bx.out.size))
        have hTr := rTokens_c hU s wy (HT.out wy By.out)
        rcases hy with ⟨L1, q1, c1, cs1, vs1, hS1, rfl, hO1, hTC1, hA1⟩ | ⟨hn1, rfl⟩
        · have K1 := hidW (And.intro hS1 (tg_tkl (fun t ht => List.all_eq_true.1 hS1.2.1.2.1 t ht) hO1 hTC1))
          obtain ⟨m1, hm1⟩ : ∃ m1, Hid (L1.length = m1) := ⟨_, rfl⟩
          rw [hm1.out]
          clear hTk hby hO1 hTC1 hA1 hS1
          go_wp2_with fail
          refine hTr.mono ?_
          rintro e wz ⟨vz, rfl, hbz, hz⟩
          have Bz := hidW (By.out.trans (hbz.mono By.out.size))
          rcases hz with ⟨L2, q2, c2, hS2, rfl, hK2⟩ | ⟨hn2, rfl⟩
          · obtain rfl := tkS_uni K1.out.1 hS2
            have hts := tokens_c L1 (by have := hS2.1; omega) wz wz.heap.size q1 q2 c1 c2 (Nat.le_refl _) (tkl_up K1.out.2 (fun k hk => hbz.block k hk) hbz.size) hK2
            rw [hm1.out] at hts ⊢
            clear hTr hbz hS2 hK2 K1
            go_wp2_with fail
            refine hts.mono ?_
            rintro e w9 ⟨v9, rfl, hb9, rfl⟩
            have B9 := hidW (Bz.out.trans (hb9.mono Bz.out.size))
            clear hts hb9
            go_wp2
            go_ret
            exact ⟨_, rfl, rfl, B9.out⟩
          · exact absurd K1.out.1 (hn2 L1)
        · clear hTk hby
          go_wp2_with fail
          refine hTr.mono ?_
          rintro e wz ⟨vz, rfl, hbz, hz⟩
          have Bz := hidW (By.out.trans (hbz.mono By.out.size))
          rcases hz with ⟨L2, q2, c2, hS2, rfl, hK2⟩ | ⟨hn2, rfl⟩
          · exact absurd hS2 (hn1 L2)
          · have hts : Calls Tryd.prog 21 #[.slice none 0 0, .slice none 0 0] wz (RetW (SaR wz)) := tokens_c [] (by simp) wz wz.heap.size none none 0 0 (Nat.le_refl _) (Or.inl rfl) (Or.inl rfl)
            clear hTr hbz hn1 hn2
            go_wp2_with fail
            refine hts.mono ?_
            rintro e w9 ⟨v9, rfl, hb9, rfl⟩
            have B9 := hidW (Bz.out.trans (hb9.mono Bz.out.size))
            clear hts hb9
            go_wp2
            go_ret
            exact ⟨_, rfl, rfl, B9.out⟩
end WI
end Go.Proofs.YtfkgfcggcfkkiaaDoor
namespace Go.Proofs.YtfkgfcggcfkkiaaDoor
open Go.RowKit Go.Sort Go.Deep
namespace WI
set_option maxHeartbeats 4000000 in
set_option maxRecDepth 100000 in
theorem word_c (g o m c : Nat) (x0 x1 x2 x3 x4 x5 x6 x7 : UInt8) (w : World) (hm : 8 ≤ m) (c0 : w.cell? ⟨g, o, none⟩ = some (.int .u8 (x0.toNat : Int))) (c1 : w.cell? ⟨g, o + 1, none⟩ = some (.int .u8 (x1.toNat : Int))) (c2 : w.cell? ⟨g, o + 2, none⟩ = some (.int .u8 (x2.toNat : Int))) (c3 : w.cell? ⟨g, o + 3, none⟩ = some (.int .u8 (x3.toNat : Int))) (c4 : w.cell? ⟨g, o + 4, none⟩ = some (.int .u8 (x4.toNat : Int))) (c5 : w.cell? ⟨g, o + 5, none⟩ = some (.int .u8 (x5.toNat : Int))) (c6 : w.cell? ⟨g, o + 6, none⟩ = some (.int .u8 (x6.toNat : Int))) (c7 : w.cell? ⟨g, o + 7, none⟩ = some (.int .u8 (x7.toNat : Int))) :
    Calls Tryd.prog 74 #[.slice (some ⟨g, o, none⟩) m c] w fun e w' => e = .returned (.int .u64 ((Lib.leNat [x0, x1, x2, x3, x4, x5, x6, x7] : Nat) : Int)) ∧ ∃ q, w' = w.drewN q := by
  have h0 : x0.toNat < 256 := x0.toNat_lt
  have h1 : x1.toNat < 256 := x1.toNat_lt
  have h2 : x2.toNat < 256 := x2.toNat_lt
  have h3 : x3.toNat < 256 := x3.toNat_lt
  have h4 : x4.toNat < 256 := x4.toNat_lt
  have h5 : x5.toNat < 256 := x5.toNat_lt
  have h6 : x6.toNat < 256 := x6.toNat_lt
  have h7 : x7.toNat < 256 := x7.toNat_lt
  have hv : ((Lib.leNat [x0, x1, x2, x3, x4, x5, x6, x7] : Nat) : Int) = (x0.toNat : Int) + (x1.toNat : Int) * 256 + (x2.toNat : Int) * 65536 + (x3.toNat : Int) * 16777216 + (x4.toNat : Int) * 4294967296 + (x5.toNat : Int) * 1099511627776 + (x6.toNat : Int) * 281474976710656 + (x7.toNat : Int) * 72057594037927936 := by
    simp only [Lib.leNat]
    omega
  have q0 : (0 : Int) < (m : Int) := by omega
  have q1 : (1 : Int) < (m : Int) := by omega
  have q2 : (2 : Int) < (m : Int) := by omega
  have q3 : (3 : Int) < (m : Int) := by omega
  have q4 : (4 : Int) < (m : Int) := by omega
  have q5 : (5 : Int) < (m : Int) := by omega
  have q6 : (6 : Int) < (m : Int) := by omega
  have q7 : (7 : Int) < (m : Int) := by omega
  have mixed : Tryd.prog.follows .mixedOrders = true := by kernel_rfl
  go_enter Tryd.func74, Tryd.ntmps74
  go_wp2
  go_quiet (fail)
  go_wp2
  go_ret
  refine ⟨?_, _, rfl⟩
  simp (disch := omega) only [u64_wrap_id, u64_or8, u64_or16, u64_or24, u64_or32, u64_or40, u64_or48, u64_or56]
  rw [hv]
  rfl
end WI
end Go.Proofs.YtfkgfcggcfkkiaaDoor
namespace Go.Proofs.YtfkgfcggcfkkiaaDoor
open Go.RowKit Go.Sort Go.Deep
namespace WI
section
variable (F lo hi : Nat → Nat)
/-- What utf8.Valid says of bytes, by its tables. -/
def uv : List UInt8 → Bool
  | [] => true
  | b :: r => if b.toNat < 128 then uv r else
    if F b.toNat % 8 = 2 then (match r with
      | b1 :: r' => !(decide (b1.toNat < lo (F b.toNat / 16)) || decide (hi (F b.toNat / 16) < b1.toNat)) && uv r'
      | _ => false)
    else if F b.toNat % 8 = 3 then (match r with
      | b1 :: b2 :: r' => !(decide (b1.toNat < lo (F b.toNat / 16)) || decide (hi (F b.toNat / 16) < b1.toNat) || decide (b2.toNat < 128) || decide (191 < b2.toNat)) && uv r'
      | _ => false)
    else if F b.toNat % 8 = 4 then (match r with
      | b1 :: b2 :: b3 :: r' => !(decide (b1.toNat < lo (F b.toNat / 16)) || decide (hi (F b.toNat / 16) < b1.toNat) || decide (b2.toNat < 128) || decide (191 < b2.toNat) || decide (b3.toNat < 128) || decide (191 < b3.toNat)) && uv r'
      | _ => false)
    else false
theorem uv_cons (b : UInt8) (r : List UInt8) : uv F lo hi (b :: r) = (if b.toNat < 128 then uv F lo hi r else
    if F b.toNat % 8 = 2 then (match r with
      | b1 :: r' => !(decide (b1.toNat < lo (F b.toNat / 16)) || decide (hi (F b.toNat / 16) < b1.toNat)) && uv F lo hi r'
      | _ => false)
    else if F b.toNat % 8 = 3 then (match r with
      | b1 :: b2 :: r' => !(decide (b1.toNat < lo (F b.toNat / 16)) || decide (hi (F b.toNat / 16) < b1.toNat) || decide (b2.toNat < 128) || decide (191 < b2.toNat)) && uv F lo hi r'
      | _ => false)
    else if F b.toNat % 8 = 4 then (match r with
      | b1 :: b2 :: b3 :: r' => !(decide (b1.toNat < lo (F b.toNat / 16)) || decide (hi (F b.toNat / 16) < b1.toNat) || decide (b2.toNat < 128) || decide (191 < b2.toNat) || decide (b3.toNat < 128) || decide (191 < b3.toNat)) && uv F lo hi r'
      | _ => false)
    else false) := by
  conv => lhs; unfold uv
theorem uv_asc (r : List UInt8) : ∀ l : List UInt8, (∀ b ∈ l, b.toNat < 128) → uv F lo hi (l ++ r) = uv F lo hi r
  | [], _ => rfl
  | b :: l, h => by
    rw [List.cons_append, uv_cons, if_pos (h b (by simp)), uv_asc r l (fun x hx => h x (by simp [hx]))]
/-- The tables, as they are laid. -/
def TabV (w : World) : Prop := 2 ≤ w.heap.size ∧ (∀ i, i < 256 → w.cell? ⟨0, i, none⟩ = some (.int .u8 (F i : Int))) ∧ ∀ j, j < 16 → w.cell? ⟨1, j * 2, none⟩ = some (.int .u8 (lo j : Int)) ∧ w.cell? ⟨1, j * 2 + 1, none⟩ = some (.int .u8 (hi j : Int))
theorem TabV.at {w w' : World} (h : TabV F lo hi w) (hs : 2 ≤ w'.heap.size) (hb : ∀ k, k < 2 → w'.heap[k]? = w.heap[k]?) : TabV F lo hi w' := by
  refine ⟨hs, fun i hi => ?_, fun j hj => ?_⟩
  · rw [World.cell?_of_block (a := ⟨0, i, none⟩) (hb 0 (by omega))]; exact h.2.1 i hi
  · rw [World.cell?_of_block (a := ⟨1, j * 2, none⟩) (hb 1 (by omega)), World.cell?_of_block (a := ⟨1, j * 2 + 1, none⟩) (hb 1 (by omega))]; exact h.2.2 j hj
end
theorem eight (x0 x1 x2 x3 x4 x5 x6 x7 : UInt8) : (Lib.leNat [x0, x1, x2, x3, x4, x5, x6, x7] &&& 9259542123273814144 = 0) → ∀ b ∈ [x0, x1, x2, x3, x4, x5, x6, x7], b.toNat < 128 := fun h => by
  have := (Lib.word_asc ⟨#[x0, x1, x2, x3, x4, x5, x6, x7]⟩ (Nat.le_refl 8)).1 h
  exact this
theorem leNat_lt (x0 x1 x2 x3 x4 x5 x6 x7 : UInt8) : Lib.leNat [x0, x1, x2, x3, x4, x5, x6, x7] < 18446744073709551616 := Lib.word_lt ⟨#[x0, x1, x2, x3, x4, x5, x6, x7]⟩
theorem split8 (r : List UInt8) (h : 8 ≤ r.length) : ∃ x0 x1 x2 x3 x4 x5 x6 x7 s, r = x0 :: x1 :: x2 :: x3 :: x4 :: x5 :: x6 :: x7 :: s := by
  match r, h with
  | x0 :: x1 :: x2 :: x3 :: x4 :: x5 :: x6 :: x7 :: s, _ => exact ⟨x0, x1, x2, x3, x4, x5, x6, x7, s, rfl⟩
/-- Bytes of a slice that is full. -/
def PC (w : World) (q : Option Addr) (y : List UInt8) : Prop := y = [] ∨ ∃ g o, q = some ⟨g, o, none⟩ ∧ ∀ j x, y[j]? = some x → w.cell? ⟨g, o + j, none⟩ = some (.int .u8 (x.toNat : Int))
theorem PC.below {w w' : World} {q : Option Addr} {y : List UInt8} (h : PC w q y) (hb : Below w.heap.size w w') : PC w' q y := by
  rcases h with h | ⟨g, o, h1, h2⟩
  · exact Or.inl h
  · refine Or.inr ⟨g, o, h1, fun j x hj => ?_⟩
    have := h2 j x hj
    rw [hb.cell (p := ⟨g, o + j, none⟩) (World.block_lt_of_cell? _ _ this)]
    exact this
theorem sl_pc {w : World} {g o : Nat} {y : List UInt8} (n k m : Nat) (z : Int) (hz : (k : Int) = z) (hn : y.length = n) (hk : k ≤ n) (hm : n - k = m) (h : ∀ j x, y[j]? = some x → w.cell? ⟨g, o + j, none⟩ = some (.int .u8 (x.toNat : Int))) :
    ∃ q', (∀ w', (Instr.sliceAt 22 (.slice (some ⟨g, o, none⟩) n n) (some (.int .i64 z)) none none).run Tryd.prog w' = .ok (.slice q' m m) w') ∧ PC w q' (y.drop k) := by
  subst hm
  subst hz
  by_cases hkn : k = n
  · subst hkn
    refine ⟨some ⟨g, o, none⟩, fun w' => ?_, Or.inl (List.drop_of_length_le (by omega))⟩
    have h1 : ¬ (k : Int) < 0 := by omega
    go_simp
  · refine ⟨some ⟨g, o + k, none⟩, fun w' => ?_, Or.inr ⟨g, o + k, rfl, fun j x hj => ?_⟩⟩
    · have h1 : ¬ (k : Int) < 0 := by omega
      have h2 : (k : Int) ≤ n := by omega
      have h3 : ¬ n = k := by omega
      have h4 : ¬ n - k = 0 := by omega
      go_simp
    · rw [List.getElem?_drop] at hj
      rw [Nat.add_assoc]
      exact h _ x hj
theorem drewN_add (w : World) (a b : Nat) : (w.drewN a).drewN b = w.drewN (a + b) := by
  simp [World.drewN, Nat.add_assoc]
/-- The first eight, read as one. -/
theorem word_pc {w : World} {q : Option Addr} {x0 x1 x2 x3 x4 x5 x6 x7 : UInt8} {s : List UInt8} (n : Nat) (hn : s.length + 8 = n) (h : PC w q (x0 :: x1 :: x2 :: x3 :: x4 :: x5 :: x6 :: x7 :: s)) :
    ∀ z, Calls Tryd.prog 74 #[.slice q n n] (w.drewN z) fun e w' => e = .returned (.int .u64 ((Lib.leNat [x0, x1, x2, x3, x4, x5, x6, x7] : Nat) : Int)) ∧ ∃ q, w' = w.drewN q := fun z => by
  rcases h with h | ⟨g, o, rfl, h⟩
  · cases h
  · have hc : ∀ j x, (x0 :: x1 :: x2 :: x3 :: x4 :: x5 :: x6 :: x7 :: s)[j]? = some x → (w.drewN z).cell? ⟨g, o + j, none⟩ = some (.int .u8 (x.toNat : Int)) := fun j x hj => by
      rw [World.cell?_drewN]; exact h j x hj
    refine (word_c g o n n x0 x1 x2 x3 x4 x5 x6 x7 _ (by omega) (hc 0 _ rfl) (hc 1 _ rfl) (hc 2 _ rfl) (hc 3 _ rfl) (hc 4 _ rfl) (hc 5 _ rfl) (hc 6 _ rfl) (hc 7 _ rfl)).mono ?_
    rintro e w' ⟨rfl, q, rfl⟩
    exact ⟨rfl, z + q, drewN_add w z q⟩
set_option maxRecDepth 100000 in
theorem and7u : ∀ X : Fin 256, bits .and .u8 ((X.val : Nat) : Int) 7 = ((X.val % 8 : Nat) : Int) := by decide
end WI
end Go.Proofs.YtfkgfcggcfkkiaaDoor
namespace Go.Proofs.YtfkgfcggcfkkiaaDoor
open Go.RowKit Go.Sort Go.Deep
namespace WI
theorem sl3s (g o n c : Nat) (hc : n ≤ c) (w : World) : (Instr.sliceAt 22 (.slice (some ⟨g, o, none⟩) n c) none (some (.int .i64 (n : Int))) (some (.int .i64 (n : Int)))).run Tryd.prog w = .ok (.slice (some ⟨g, o, none⟩) n n) w := by
  have h1 : (n : Int) ≤ c := by omega
  have h2 : ¬ (n : Int) < 0 := by omega
  go_simp
theorem sl3a (a : Addr) (c : Nat) (w : World) : (Instr.sliceAt 22 (.slice (some a) 0 c) none (some (.int .i64 0)) (some (.int .i64 0))).run Tryd.prog w = .ok (.slice (some a) 0 0) w := by
  have h1 : (0 : Int) ≤ c := by omega
  go_simp
theorem sl3n (c : Nat) (w : World) : (Instr.sliceAt 22 (.slice none 0 c) none (some (.int .i64 0)) (some (.int .i64 0))).run Tryd.prog w = .ok (.slice none 0 0) w := by
  have h1 : (0 : Int) ≤ c := by omega
  go_simp
end WI
end Go.Proofs.YtfkgfcggcfkkiaaDoor
