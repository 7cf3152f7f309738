import Derived.Lib.ConvBytes
import Derived.Test.YtfkgfcggcfkkiaaDoorwt5
set_option linter.unusedVariables false
set_option linter.unusedSimpArgs false
namespace Go.Proofs.YtfkgfcggcfkkiaaDoor
open Go.RowKit Go.Sort Go.Deep
namespace WI
variable {T : World → Prop} {u : List UInt8 → Bool}
set_option maxHeartbeats 1000000 in
set_option maxRecDepth 20000 in
theorem rv4 (hU : UV T u) (n : Nat) (d : List UInt8) (l : List Itm) (hI : ∀ i ∈ l, VSp T u i) (w : World) (qd : Option Addr) (cd : Nat) (ql : Option Addr) (cl : Nat) (dp left : Nat) (hT : T w) (hM : InM w w.heap.size (.mk 4 n d l) (.slice qd d.length cd) (.slice ql l.length cl)) (hdp : dp ≤ 16) (hlf : left ≤ 4096) (hl1 : 1 ≤ left) :
    Calls Tryd.prog 30 #[itv 4 n qd d.length cd ql l.length cl, .int .i64 (dp : Int), .int .i64 (left : Int)] w (RetW (VaR u w (.mk 4 n d l) dp left)) := by
  unfold itv
  have hM0 := hM
  rw [InM] at hM0
  obtain ⟨hn64, hd62, hl60, hpd, q', c', hq', hin⟩ := hM0
  obtain ⟨rfl, rfl⟩ : ql = q' ∧ cl = c' := by simpa using hq'
  have hdc : d.length ≤ cd := by
    obtain ⟨qq, cc, e, hcc, -⟩ := hpd
    obtain ⟨-, rfl⟩ : qd = qq ∧ cd = cc := by simpa using e
    exact hcc
  obtain ⟨wb, hwb⟩ : ∃ wb, Hid (w.alloc (.cells #[.int .i64 4, .int .u64 (n : Int), .slice qd d.length cd, .slice ql l.length cl] 27) = wb) := ⟨_, rfl⟩
  have hb0 : Hid (Below w.heap.size w wb) := by rw [← hwb.out]; exact alloc_below _ _
  have h2 := hU.2.1 w hT
  have hTb : T wb := hU.1 w _ hT (fun j hj => hb0.out.block j (by omega))
  have hUC := hU.2.2 wb qd d.length cd d hTb (hpd.pb.below hb0.out) hdc hd62
  have bx : Hid (∀ w1, Below wb.heap.size wb w1 → w1.cell? ⟨w.heap.size, 0, none⟩ = some (.int .i64 4) ∧ w1.cell? ⟨w.heap.size, 1, none⟩ = some (.int .u64 (n : Int)) ∧ w1.cell? ⟨w.heap.size, 2, none⟩ = some (.slice qd d.length cd) ∧ w1.cell? ⟨w.heap.size, 3, none⟩ = some (.slice ql l.length cl) ∧ w.heap.size < w1.heap.size) := fun w1 hb => by
    have hz : ∀ j v, ([.int .i64 4, .int .u64 (n : Int), .slice qd d.length cd, .slice ql l.length cl] : List Value)[j]? = some v → w1.cell? ⟨w.heap.size, j, none⟩ = some v := fun j v hj => by
      have := al_c w #[.int .i64 4, .int .u64 (n : Int), .slice qd d.length cd, .slice ql l.length cl] 27 _ j v rfl (by simpa using hj)
      rw [hwb.out] at this
      rw [hb.cell (p := ⟨w.heap.size, j, none⟩) (World.block_lt_of_cell? _ _ this)]
      exact this
    exact ⟨hz 0 _ rfl, hz 1 _ rfl, hz 2 _ rfl, hz 3 _ rfl, World.block_lt_of_cell? _ _ (hz 0 _ rfl)⟩
  have g1 : ¬ (left : Int) < 1 := by omega
  have g1b : decide ((left : Int) < 1) = false := decide_eq_false g1
  have g2 : ¬ (16 : Int) < (dp : Int) := by omega
  have g2b : decide ((16 : Int) < (dp : Int)) = false := decide_eq_false g2
  have hFF : Hid (own u 4 n d l.length = false → ∀ w', Below wb.heap.size wb w' → VaR u w (.mk 4 n d l) dp left (.tuple #[.int .i64 0, .bool false]) w') := fun ho w' hw' => ⟨hb0.out.trans (hw'.mono hb0.out.size), Or.inr ⟨(fun hv => by rw [((vok_mk u 4 n d l dp left).1 hv).1] at ho; cases ho), rfl⟩⟩
  have hFL : Hid (¬ voks u l (dp + 1) (left - 1) → ∀ w', Below wb.heap.size wb w' → VaR u w (.mk 4 n d l) dp left (.tuple #[.int .i64 0, .bool false]) w') := fun ho w' hw' => ⟨hb0.out.trans (hw'.mono hb0.out.size), Or.inr ⟨(fun hv => ho ((vok_mk u 4 n d l dp left).1 hv).2.2.2), rfl⟩⟩
  have hTT : Hid (own u 4 n d l.length = true → ∀ w', VLo u wb l dp left l.length w' → VaR u w (.mk 4 n d l) dp left (.tuple #[.int .i64 ((1 + cnts l : Nat) : Int), .bool true]) w') := fun ho w' L => by
    have h3 := L.ok
    rw [List.take_length] at h3
    refine ⟨hb0.out.trans (L.bl.mono hb0.out.size), Or.inl ⟨(vok_mk u 4 n d l dp left).2 ⟨ho, hdp, hl1, h3⟩, ?_⟩⟩
    rw [cnt, Nat.add_comm]
  have HE : Hid (∀ w1 j, VLo u wb l dp left j w1 → ∀ i, l[j]? = some i → ∃ b off qd' dl' cd' ql' ml' cl', ql = some ⟨b, off, none⟩ ∧ b < w1.heap.size ∧ CeI w1 b (off + j * 4) i (.slice qd' dl' cd') (.slice ql' ml' cl') ∧ Calls Tryd.prog 30 #[itv i.k i.n qd' dl' cd' ql' ml' cl', .int .i64 ((dp + 1 : Nat) : Int), .int .i64 ((left - (1 + cnts (l.take j)) : Nat) : Int)] w1 (RetW (VaR u w1 i (dp + 1) (left - (1 + cnts (l.take j)))))) := fun w1 j L i hi => by
    rcases hin with hn | ⟨b, off, rfl, hbb, hL⟩
    · rw [hn] at hi; cases hi
    · have hbw : Below w.heap.size w w1 := hb0.out.trans (L.bl.mono hb0.out.size)
      obtain ⟨vd, vl, hC, hM2⟩ := InL.get l off j i (InL.at (fun k hk => hbw.block k hk) l b off hbb hL) hi
      obtain ⟨qd', dl', cd', ql', ml', cl', rfl, rfl⟩ := hM2.form
      exact ⟨b, off, qd', dl', cd', ql', ml', cl', rfl, Nat.lt_of_lt_of_le hbb hbw.size, hC, hI i (List.mem_of_getElem? hi) w1 qd' dl' cd' ql' ml' cl' (dp + 1) _ (hU.1 wb _ hTb (fun k hk => L.bl.block k (by have := hb0.out.size; omega))) (InM.mono hbw.size i _ _ hM2) (by omega) (by omega)⟩
  obtain ⟨dl, hdl⟩ : ∃ dl, Hid (d.length = dl) := ⟨_, rfl⟩
  obtain ⟨m, hm⟩ : ∃ m, Hid (l.length = m) := ⟨_, rfl⟩
  have hm60 : m ≤ 1152921504606846976 := by rw [← hm.out]; exact hl60
  rw [hdl.out] at hUC bx hwb ⊢
  rw [hm.out] at bx hwb ⊢
  rw [hm.out] at hFF hTT
  obtain ⟨bt, hbt⟩ : ∃ bt, Hid (u d = bt) := ⟨_, rfl⟩
  rw [hbt.out] at hUC
  clear hT hM hpd hin hq' hTb h2 hdc hd62 hl60 hI
  by_cases zn : n = 0
  · subst zn
    by_cases zdl : dl = 0
    · subst zdl
      by_cases zm : m = 0
      · subst zm
        go_enter Tryd.func30, Tryd.ntmps30
        go_wp2_with fail
        rw [← hwb.out] at hUC
        refine hUC.mono ?_
        rintro e w1 ⟨v1, rfl, rfl, hb1⟩
        rw [hwb.out] at hb1
        have HB1 := hidW hb1
        obtain ⟨i0, i1, i2, i3, hil⟩ := bx.out w1 hb1
        clear hb1 hUC
        go_wp2
        go_loopg [11, 12] 1 (fun gk s11 s12 wr => s12 = .int .i64 0 ∧ s11 = .int .i64 1 ∧ gk = 1 ∧ w1 = wr)
        case atStart => exact ⟨rfl, rfl, rfl, rfl⟩
        case round =>
          obtain ⟨rfl, rfl, rfl, rfl⟩ := hrel
          have hl0 : l = [] := List.length_eq_zero_iff.1 hm.out
          subst hl0
          have HQ0 := hTT.out (by simp [own, hdl.out]) w1 ⟨Nat.le_refl _, HB1.out, ⟨rfl, fun h => absurd rfl h, by rw [List.take_nil, cnts]; omega⟩⟩
          rw [show 1 + cnts [] = 1 by rw [cnts]] at HQ0
          have HQ := hidW HQ0
          clear HQ0
          go_wp2
          go_ret2
          exact ⟨_, rfl, HQ.out⟩
      · obtain ⟨em, fm⟩ := ne0 m zm
        go_enter Tryd.func30, Tryd.ntmps30
        go_wp2_with fail
        rw [← hwb.out] at hUC
        refine hUC.mono ?_
        rintro e w1 ⟨v1, rfl, rfl, hb1⟩
        rw [hwb.out] at hb1
        have HB1 := hidW hb1
        obtain ⟨i0, i1, i2, i3, hil⟩ := bx.out w1 hb1
        clear hb1 hUC
        go_wp2
        go_loopg [11, 12] (m + 1) (fun gk s11 s12 wr => ∃ j c : Nat, s12 = .int .i64 (j : Int) ∧ s11 = .int .i64 (c : Int) ∧ Hid (c = 1 + cnts (l.take j)) ∧ gk = m + 1 - j ∧ VLo u wb l dp left j wr)
        case atStart => exact ⟨0, 1, rfl, rfl, (by show 1 = 1 + cnts (l.take 0); rw [List.take_zero, cnts]), rfl, Nat.zero_le _, HB1.out, (by rw [List.take_zero]; exact ⟨rfl, fun h => absurd rfl h, by rw [cnts]; omega⟩)⟩
        case round =>
          obtain ⟨j, cj, rfl, rfl, hcj, hgk, L⟩ := hrel
          have hjm : j ≤ m := by rw [← hm.out]; exact L.hj
          obtain ⟨i0, i1, i2, i3, hil⟩ := bx.out wr L.bl
          by_cases hj : j < m
          · obtain ⟨i, hi⟩ : ∃ i, l[j]? = some i := ⟨_, List.getElem?_eq_getElem (by rw [hm.out]; exact hj)⟩
            obtain ⟨b, off, qd', dl', cd', ql', ml', cl', rfl, hbl, ⟨c0, c1, c2, c3⟩, hc⟩ := HE.out wr j L i hi
            have hjz : (j : Int) < (m : Int) := by omega
            have hix := fun w => idxI b off m cl j hj w
            obtain ⟨lf, hlfd⟩ : ∃ lf, Hid (left - (1 + cnts (l.take j)) = lf) := ⟨_, rfl⟩
            obtain ⟨dq, hdq⟩ : ∃ dq, Hid (dp + 1 = dq) := ⟨_, rfl⟩
            rw [hlfd.out, hdq.out] at hc
            have hs1 : (dp : Int) + 1 = (dq : Int) := by rw [← hdq.out]; omega
            have hs2 : (left : Int) - (cj : Int) = (lf : Int) := by
              have h3 := L.ok.2.2
              have h4 := hcj.out
              rw [← hlfd.out]; omega
            have hclf : cj ≤ left := by have h3 := L.ok.2.2; have h4 := hcj.out; omega
            have HL := hidW (And.intro L hi)
            clear L hi
            go_wp2_with fail
            refine hc.mono ?_
            rintro e w3 ⟨v3, rfl, hb3, hr3⟩
            rw [← hlfd.out, ← hdq.out] at hr3
            rcases hr3 with ⟨hv3, rfl⟩ | ⟨hv3, rfl⟩
            · obtain ⟨LN, hce⟩ := HL.out.1.next HL.out.2 hb3 hv3
              have HN := hidW LN
              obtain ⟨ci, hci⟩ : ∃ ci, Hid (cnt i = ci) := ⟨_, rfl⟩
              obtain ⟨cN, hcN⟩ : ∃ cN, Hid (cj + ci = cN) := ⟨_, rfl⟩
              have hcs : (cj : Int) + (ci : Int) = (cN : Int) := by rw [← hcN.out]; omega
              have hcb : cN ≤ 10000 := by
                have h3 := LN.ok.2.2
                have h4 := hcj.out
                have h5 := hci.out
                rw [← hcN.out]; omega
              rw [hci.out]
              clear LN hb3 hc hv3
              go_wp2
              go_roundg (m + 1 - (j + 1))
              case measure => omega
              case rel => exact ⟨j + 1, cN, rfl, rfl, (by show cN = _; rw [← hcN.out, ← hce, hcj.out, hci.out]), rfl, HN.out⟩
            · have HQ := hidW (hFL.out (HL.out.1.bad HL.out.2 hv3) w3 (HL.out.1.bl.trans (hb3.mono HL.out.1.bl.size)))
              clear hb3 hc hv3
              go_wp2
              go_ret2
              exact ⟨_, rfl, HQ.out⟩
          · have hjz : ¬ (j : Int) < (m : Int) := by omega
            obtain rfl : j = m := by omega
            have h4 := hcj.out
            rw [← hm.out, List.take_length] at h4
            have HQ0 := hTT.out (by simp [own, hdl.out]) wr L
            rw [← h4] at HQ0
            have HQ := hidW HQ0
            clear HQ0 h4
            clear L
            go_wp2
            go_ret2
            exact ⟨_, rfl, HQ.out⟩
    · obtain ⟨edl, fdl⟩ := ne0 dl zdl
      go_enter Tryd.func30, Tryd.ntmps30
      go_wp2_with fail
      rw [← hwb.out] at hUC
      refine hUC.mono ?_
      rintro e w1 ⟨v1, rfl, rfl, hb1⟩
      rw [hwb.out] at hb1
      have HB1 := hidW hb1
      obtain ⟨i0, i1, i2, i3, hil⟩ := bx.out w1 hb1
      clear hb1 hUC
      go_wp2
      go_ret2
      exact ⟨_, rfl, hFF.out (by simp [own, hdl.out, zdl]) _ HB1.out⟩
  · obtain ⟨en, fn⟩ := ne0 n zn
    go_enter Tryd.func30, Tryd.ntmps30
    go_wp2_with fail
    rw [← hwb.out] at hUC
    refine hUC.mono ?_
    rintro e w1 ⟨v1, rfl, rfl, hb1⟩
    rw [hwb.out] at hb1
    have HB1 := hidW hb1
    obtain ⟨i0, i1, i2, i3, hil⟩ := bx.out w1 hb1
    clear hb1 hUC
    go_wp2
    go_ret2
    exact ⟨_, rfl, hFF.out (by simp [own, zn]) _ HB1.out⟩
set_option maxHeartbeats 1000000 in
set_option maxRecDepth 20000 in
theorem rv5 (hU : UV T u) (n : Nat) (d : List UInt8) (l : List Itm) (hI : ∀ i ∈ l, VSp T u i) (w : World) (qd : Option Addr) (cd : Nat) (ql : Option Addr) (cl : Nat) (dp left : Nat) (hT : T w) (hM : InM w w.heap.size (.mk 5 n d l) (.slice qd d.length cd) (.slice ql l.length cl)) (hdp : dp ≤ 16) (hlf : left ≤ 4096) (hl1 : 1 ≤ left) :
    Calls Tryd.prog 30 #[itv 5 n qd d.length cd ql l.length cl, .int .i64 (dp : Int), .int .i64 (left : Int)] w (RetW (VaR u w (.mk 5 n d l) dp left)) := by
  unfold itv
  have hM0 := hM
  rw [InM] at hM0
  obtain ⟨hn64, hd62, hl60, hpd, q', c', hq', hin⟩ := hM0
  obtain ⟨rfl, rfl⟩ : ql = q' ∧ cl = c' := by simpa using hq'
  have hdc : d.length ≤ cd := by
    obtain ⟨qq, cc, e, hcc, -⟩ := hpd
    obtain ⟨-, rfl⟩ : qd = qq ∧ cd = cc := by simpa using e
    exact hcc
  obtain ⟨wb, hwb⟩ : ∃ wb, Hid (w.alloc (.cells #[.int .i64 5, .int .u64 (n : Int), .slice qd d.length cd, .slice ql l.length cl] 27) = wb) := ⟨_, rfl⟩
  have hb0 : Hid (Below w.heap.size w wb) := by rw [← hwb.out]; exact alloc_below _ _
  have h2 := hU.2.1 w hT
  have hTb : T wb := hU.1 w _ hT (fun j hj => hb0.out.block j (by omega))
  have hUC := hU.2.2 wb qd d.length cd d hTb (hpd.pb.below hb0.out) hdc hd62
  have bx : Hid (∀ w1, Below wb.heap.size wb w1 → w1.cell? ⟨w.heap.size, 0, none⟩ = some (.int .i64 5) ∧ w1.cell? ⟨w.heap.size, 1, none⟩ = some (.int .u64 (n : Int)) ∧ w1.cell? ⟨w.heap.size, 2, none⟩ = some (.slice qd d.length cd) ∧ w1.cell? ⟨w.heap.size, 3, none⟩ = some (.slice ql l.length cl) ∧ w.heap.size < w1.heap.size) := fun w1 hb => by
    have hz : ∀ j v, ([.int .i64 5, .int .u64 (n : Int), .slice qd d.length cd, .slice ql l.length cl] : List Value)[j]? = some v → w1.cell? ⟨w.heap.size, j, none⟩ = some v := fun j v hj => by
      have := al_c w #[.int .i64 5, .int .u64 (n : Int), .slice qd d.length cd, .slice ql l.length cl] 27 _ j v rfl (by simpa using hj)
      rw [hwb.out] at this
      rw [hb.cell (p := ⟨w.heap.size, j, none⟩) (World.block_lt_of_cell? _ _ this)]
      exact this
    exact ⟨hz 0 _ rfl, hz 1 _ rfl, hz 2 _ rfl, hz 3 _ rfl, World.block_lt_of_cell? _ _ (hz 0 _ rfl)⟩
  have g1 : ¬ (left : Int) < 1 := by omega
  have g1b : decide ((left : Int) < 1) = false := decide_eq_false g1
  have g2 : ¬ (16 : Int) < (dp : Int) := by omega
  have g2b : decide ((16 : Int) < (dp : Int)) = false := decide_eq_false g2
  have hFF : Hid (own u 5 n d l.length = false → ∀ w', Below wb.heap.size wb w' → VaR u w (.mk 5 n d l) dp left (.tuple #[.int .i64 0, .bool false]) w') := fun ho w' hw' => ⟨hb0.out.trans (hw'.mono hb0.out.size), Or.inr ⟨(fun hv => by rw [((vok_mk u 5 n d l dp left).1 hv).1] at ho; cases ho), rfl⟩⟩
  have hFL : Hid (¬ voks u l (dp + 1) (left - 1) → ∀ w', Below wb.heap.size wb w' → VaR u w (.mk 5 n d l) dp left (.tuple #[.int .i64 0, .bool false]) w') := fun ho w' hw' => ⟨hb0.out.trans (hw'.mono hb0.out.size), Or.inr ⟨(fun hv => ho ((vok_mk u 5 n d l dp left).1 hv).2.2.2), rfl⟩⟩
  have hTT : Hid (own u 5 n d l.length = true → ∀ w', VLo u wb l dp left l.length w' → VaR u w (.mk 5 n d l) dp left (.tuple #[.int .i64 ((1 + cnts l : Nat) : Int), .bool true]) w') := fun ho w' L => by
    have h3 := L.ok
    rw [List.take_length] at h3
    refine ⟨hb0.out.trans (L.bl.mono hb0.out.size), Or.inl ⟨(vok_mk u 5 n d l dp left).2 ⟨ho, hdp, hl1, h3⟩, ?_⟩⟩
    rw [cnt, Nat.add_comm]
  have HE : Hid (∀ w1 j, VLo u wb l dp left j w1 → ∀ i, l[j]? = some i → ∃ b off qd' dl' cd' ql' ml' cl', ql = some ⟨b, off, none⟩ ∧ b < w1.heap.size ∧ CeI w1 b (off + j * 4) i (.slice qd' dl' cd') (.slice ql' ml' cl') ∧ Calls Tryd.prog 30 #[itv i.k i.n qd' dl' cd' ql' ml' cl', .int .i64 ((dp + 1 : Nat) : Int), .int .i64 ((left - (1 + cnts (l.take j)) : Nat) : Int)] w1 (RetW (VaR u w1 i (dp + 1) (left - (1 + cnts (l.take j)))))) := fun w1 j L i hi => by
    rcases hin with hn | ⟨b, off, rfl, hbb, hL⟩
    · rw [hn] at hi; cases hi
    · have hbw : Below w.heap.size w w1 := hb0.out.trans (L.bl.mono hb0.out.size)
      obtain ⟨vd, vl, hC, hM2⟩ := InL.get l off j i (InL.at (fun k hk => hbw.block k hk) l b off hbb hL) hi
      obtain ⟨qd', dl', cd', ql', ml', cl', rfl, rfl⟩ := hM2.form
      exact ⟨b, off, qd', dl', cd', ql', ml', cl', rfl, Nat.lt_of_lt_of_le hbb hbw.size, hC, hI i (List.mem_of_getElem? hi) w1 qd' dl' cd' ql' ml' cl' (dp + 1) _ (hU.1 wb _ hTb (fun k hk => L.bl.block k (by have := hb0.out.size; omega))) (InM.mono hbw.size i _ _ hM2) (by omega) (by omega)⟩
  obtain ⟨dl, hdl⟩ : ∃ dl, Hid (d.length = dl) := ⟨_, rfl⟩
  obtain ⟨m, hm⟩ : ∃ m, Hid (l.length = m) := ⟨_, rfl⟩
  have hm60 : m ≤ 1152921504606846976 := by rw [← hm.out]; exact hl60
  rw [hdl.out] at hUC bx hwb ⊢
  rw [hm.out] at bx hwb ⊢
  rw [hm.out] at hFF hTT
  obtain ⟨bt, hbt⟩ : ∃ bt, Hid (u d = bt) := ⟨_, rfl⟩
  rw [hbt.out] at hUC
  clear hT hM hpd hin hq' hTb h2 hdc hd62 hl60 hI
  by_cases zn : n = 0
  · subst zn
    by_cases zdl : dl = 0
    · subst zdl
      by_cases zm : m = 0
      · subst zm
        go_enter Tryd.func30, Tryd.ntmps30
        go_wp2_with fail
        rw [← hwb.out] at hUC
        refine hUC.mono ?_
        rintro e w1 ⟨v1, rfl, rfl, hb1⟩
        rw [hwb.out] at hb1
        have HB1 := hidW hb1
        obtain ⟨i0, i1, i2, i3, hil⟩ := bx.out w1 hb1
        clear hb1 hUC
        go_wp2
        go_loopg [11, 12] 1 (fun gk s11 s12 wr => s12 = .int .i64 0 ∧ s11 = .int .i64 1 ∧ gk = 1 ∧ w1 = wr)
        case atStart => exact ⟨rfl, rfl, rfl, rfl⟩
        case round =>
          obtain ⟨rfl, rfl, rfl, rfl⟩ := hrel
          have hl0 : l = [] := List.length_eq_zero_iff.1 hm.out
          subst hl0
          have HQ0 := hTT.out (by simp [own, hdl.out]) w1 ⟨Nat.le_refl _, HB1.out, ⟨rfl, fun h => absurd rfl h, by rw [List.take_nil, cnts]; omega⟩⟩
          rw [show 1 + cnts [] = 1 by rw [cnts]] at HQ0
          have HQ := hidW HQ0
          clear HQ0
          go_wp2
          go_ret2
          exact ⟨_, rfl, HQ.out⟩
      · obtain ⟨em, fm⟩ := ne0 m zm
        have hr : (m : Int).tmod 2 = ((m % 2 : Nat) : Int) := rfl
        obtain ⟨r2, hr2⟩ : ∃ r2, Hid (m % 2 = r2) := ⟨_, rfl⟩
        rw [hr2.out] at hr
        by_cases zr : r2 = 0
        · subst zr
          go_enter Tryd.func30, Tryd.ntmps30
          go_wp2_with fail
          rw [← hwb.out] at hUC
          refine hUC.mono ?_
          rintro e w1 ⟨v1, rfl, rfl, hb1⟩
          rw [hwb.out] at hb1
          have HB1 := hidW hb1
          obtain ⟨i0, i1, i2, i3, hil⟩ := bx.out w1 hb1
          clear hb1 hUC
          go_wp2
          go_loopg [11, 12] (m + 1) (fun gk s11 s12 wr => ∃ j c : Nat, s12 = .int .i64 (j : Int) ∧ s11 = .int .i64 (c : Int) ∧ Hid (c = 1 + cnts (l.take j)) ∧ gk = m + 1 - j ∧ VLo u wb l dp left j wr)
          case atStart => exact ⟨0, 1, rfl, rfl, (by show 1 = 1 + cnts (l.take 0); rw [List.take_zero, cnts]), rfl, Nat.zero_le _, HB1.out, (by rw [List.take_zero]; exact ⟨rfl, fun h => absurd rfl h, by rw [cnts]; omega⟩)⟩
          case round =>
            obtain ⟨j, cj, rfl, rfl, hcj, hgk, L⟩ := hrel
            have hjm : j ≤ m := by rw [← hm.out]; exact L.hj
            obtain ⟨i0, i1, i2, i3, hil⟩ := bx.out wr L.bl
            by_cases hj : j < m
            · obtain ⟨i, hi⟩ : ∃ i, l[j]? = some i := ⟨_, List.getElem?_eq_getElem (by rw [hm.out]; exact hj)⟩
              obtain ⟨b, off, qd', dl', cd', ql', ml', cl', rfl, hbl, ⟨c0, c1, c2, c3⟩, hc⟩ := HE.out wr j L i hi
              have hjz : (j : Int) < (m : Int) := by omega
              have hix := fun w => idxI b off m cl j hj w
              obtain ⟨lf, hlfd⟩ : ∃ lf, Hid (left - (1 + cnts (l.take j)) = lf) := ⟨_, rfl⟩
              obtain ⟨dq, hdq⟩ : ∃ dq, Hid (dp + 1 = dq) := ⟨_, rfl⟩
              rw [hlfd.out, hdq.out] at hc
              have hs1 : (dp : Int) + 1 = (dq : Int) := by rw [← hdq.out]; omega
              have hs2 : (left : Int) - (cj : Int) = (lf : Int) := by
                have h3 := L.ok.2.2
                have h4 := hcj.out
                rw [← hlfd.out]; omega
              have hclf : cj ≤ left := by have h3 := L.ok.2.2; have h4 := hcj.out; omega
              have HL := hidW (And.intro L hi)
              clear L hi
              go_wp2_with fail
              refine hc.mono ?_
              rintro e w3 ⟨v3, rfl, hb3, hr3⟩
              rw [← hlfd.out, ← hdq.out] at hr3
              rcases hr3 with ⟨hv3, rfl⟩ | ⟨hv3, rfl⟩
              · obtain ⟨LN, hce⟩ := HL.out.1.next HL.out.2 hb3 hv3
                have HN := hidW LN
                obtain ⟨ci, hci⟩ : ∃ ci, Hid (cnt i = ci) := ⟨_, rfl⟩
                obtain ⟨cN, hcN⟩ : ∃ cN, Hid (cj + ci = cN) := ⟨_, rfl⟩
                have hcs : (cj : Int) + (ci : Int) = (cN : Int) := by rw [← hcN.out]; omega
                have hcb : cN ≤ 10000 := by
                  have h3 := LN.ok.2.2
                  have h4 := hcj.out
                  have h5 := hci.out
                  rw [← hcN.out]; omega
                rw [hci.out]
                clear LN hb3 hc hv3
                go_wp2
                go_roundg (m + 1 - (j + 1))
                case measure => omega
                case rel => exact ⟨j + 1, cN, rfl, rfl, (by show cN = _; rw [← hcN.out, ← hce, hcj.out, hci.out]), rfl, HN.out⟩
              · have HQ := hidW (hFL.out (HL.out.1.bad HL.out.2 hv3) w3 (HL.out.1.bl.trans (hb3.mono HL.out.1.bl.size)))
                clear hb3 hc hv3
                go_wp2
                go_ret2
                exact ⟨_, rfl, HQ.out⟩
            · have hjz : ¬ (j : Int) < (m : Int) := by omega
              obtain rfl : j = m := by omega
              have h4 := hcj.out
              rw [← hm.out, List.take_length] at h4
              have HQ0 := hTT.out (by simp [own, hdl.out, hr2.out]) wr L
              rw [← h4] at HQ0
              have HQ := hidW HQ0
              clear HQ0 h4
              clear L
              go_wp2
              go_ret2
              exact ⟨_, rfl, HQ.out⟩
        · obtain ⟨er, fr⟩ := ne0 r2 zr
          go_enter Tryd.func30, Tryd.ntmps30
          go_wp2_with fail
          rw [← hwb.out] at hUC
          refine hUC.mono ?_
          rintro e w1 ⟨v1, rfl, rfl, hb1⟩
          rw [hwb.out] at hb1
          have HB1 := hidW hb1
          obtain ⟨i0, i1, i2, i3, hil⟩ := bx.out w1 hb1
          clear hb1 hUC
          go_wp2
          go_ret2
          exact ⟨_, rfl, hFF.out (by simp [own, hdl.out, hr2.out, zr]) _ HB1.out⟩
    · obtain ⟨edl, fdl⟩ := ne0 dl zdl
      go_enter Tryd.func30, Tryd.ntmps30
      go_wp2_with fail
      rw [← hwb.out] at hUC
      refine hUC.mono ?_
      rintro e w1 ⟨v1, rfl, rfl, hb1⟩
      rw [hwb.out] at hb1
      have HB1 := hidW hb1
      obtain ⟨i0, i1, i2, i3, hil⟩ := bx.out w1 hb1
      clear hb1 hUC
      go_wp2
      go_ret2
      exact ⟨_, rfl, hFF.out (by simp [own, hdl.out, zdl]) _ HB1.out⟩
  · obtain ⟨en, fn⟩ := ne0 n zn
    go_enter Tryd.func30, Tryd.ntmps30
    go_wp2_with fail
    rw [← hwb.out] at hUC
    refine hUC.mono ?_
    rintro e w1 ⟨v1, rfl, rfl, hb1⟩
    rw [hwb.out] at hb1
    have HB1 := hidW hb1
    obtain ⟨i0, i1, i2, i3, hil⟩ := bx.out w1 hb1
    clear hb1 hUC
    go_wp2
    go_ret2
    exact ⟨_, rfl, hFF.out (by simp [own, zn]) _ HB1.out⟩
end WI
end Go.Proofs.YtfkgfcggcfkkiaaDoor
namespace Go.Proofs.YtfkgfcggcfkkiaaDoor
open Go.RowKit Go.Sort Go.Deep
namespace WI
variable {T : World → Prop} {u : List UInt8 → Bool}
set_option maxHeartbeats 1000000 in
set_option maxRecDepth 20000 in
theorem rv7 (hU : UV T u) (n : Nat) (d : List UInt8) (l : List Itm) (hI : ∀ i ∈ l, VSp T u i) (w : World) (qd : Option Addr) (cd : Nat) (ql : Option Addr) (cl : Nat) (dp left : Nat) (hT : T w) (hM : InM w w.heap.size (.mk 7 n d l) (.slice qd d.length cd) (.slice ql l.length cl)) (hdp : dp ≤ 16) (hlf : left ≤ 4096) (hl1 : 1 ≤ left) :
    Calls Tryd.prog 30 #[itv 7 n qd d.length cd ql l.length cl, .int .i64 (dp : Int), .int .i64 (left : Int)] w (RetW (VaR u w (.mk 7 n d l) dp left)) := by
  unfold itv
  have hM0 := hM
  rw [InM] at hM0
  obtain ⟨hn64, hd62, hl60, hpd, q', c', hq', hin⟩ := hM0
  obtain ⟨rfl, rfl⟩ : ql = q' ∧ cl = c' := by simpa using hq'
  have hdc : d.length ≤ cd := by
    obtain ⟨qq, cc, e, hcc, -⟩ := hpd
    obtain ⟨-, rfl⟩ : qd = qq ∧ cd = cc := by simpa using e
    exact hcc
  obtain ⟨wb, hwb⟩ : ∃ wb, Hid (w.alloc (.cells #[.int .i64 7, .int .u64 (n : Int), .slice qd d.length cd, .slice ql l.length cl] 27) = wb) := ⟨_, rfl⟩
  have hb0 : Hid (Below w.heap.size w wb) := by rw [← hwb.out]; exact alloc_below _ _
  have h2 := hU.2.1 w hT
  have hTb : T wb := hU.1 w _ hT (fun j hj => hb0.out.block j (by omega))
  have hUC := hU.2.2 wb qd d.length cd d hTb (hpd.pb.below hb0.out) hdc hd62
  have bx : Hid (∀ w1, Below wb.heap.size wb w1 → w1.cell? ⟨w.heap.size, 0, none⟩ = some (.int .i64 7) ∧ w1.cell? ⟨w.heap.size, 1, none⟩ = some (.int .u64 (n : Int)) ∧ w1.cell? ⟨w.heap.size, 2, none⟩ = some (.slice qd d.length cd) ∧ w1.cell? ⟨w.heap.size, 3, none⟩ = some (.slice ql l.length cl) ∧ w.heap.size < w1.heap.size) := fun w1 hb => by
    have hz : ∀ j v, ([.int .i64 7, .int .u64 (n : Int), .slice qd d.length cd, .slice ql l.length cl] : List Value)[j]? = some v → w1.cell? ⟨w.heap.size, j, none⟩ = some v := fun j v hj => by
      have := al_c w #[.int .i64 7, .int .u64 (n : Int), .slice qd d.length cd, .slice ql l.length cl] 27 _ j v rfl (by simpa using hj)
      rw [hwb.out] at this
      rw [hb.cell (p := ⟨w.heap.size, j, none⟩) (World.block_lt_of_cell? _ _ this)]
      exact this
    exact ⟨hz 0 _ rfl, hz 1 _ rfl, hz 2 _ rfl, hz 3 _ rfl, World.block_lt_of_cell? _ _ (hz 0 _ rfl)⟩
  have g1 : ¬ (left : Int) < 1 := by omega
  have g1b : decide ((left : Int) < 1) = false := decide_eq_false g1
  have g2 : ¬ (16 : Int) < (dp : Int) := by omega
  have g2b : decide ((16 : Int) < (dp : Int)) = false := decide_eq_false g2
  have hFF : Hid (own u 7 n d l.length = false → ∀ w', Below wb.heap.size wb w' → VaR u w (.mk 7 n d l) dp left (.tuple #[.int .i64 0, .bool false]) w') := fun ho w' hw' => ⟨hb0.out.trans (hw'.mono hb0.out.size), Or.inr ⟨(fun hv => by rw [((vok_mk u 7 n d l dp left).1 hv).1] at ho; cases ho), rfl⟩⟩
  have hFL : Hid (¬ voks u l (dp + 1) (left - 1) → ∀ w', Below wb.heap.size wb w' → VaR u w (.mk 7 n d l) dp left (.tuple #[.int .i64 0, .bool false]) w') := fun ho w' hw' => ⟨hb0.out.trans (hw'.mono hb0.out.size), Or.inr ⟨(fun hv => ho ((vok_mk u 7 n d l dp left).1 hv).2.2.2), rfl⟩⟩
  have hTT : Hid (own u 7 n d l.length = true → ∀ w', VLo u wb l dp left l.length w' → VaR u w (.mk 7 n d l) dp left (.tuple #[.int .i64 ((1 + cnts l : Nat) : Int), .bool true]) w') := fun ho w' L => by
    have h3 := L.ok
    rw [List.take_length] at h3
    refine ⟨hb0.out.trans (L.bl.mono hb0.out.size), Or.inl ⟨(vok_mk u 7 n d l dp left).2 ⟨ho, hdp, hl1, h3⟩, ?_⟩⟩
    rw [cnt, Nat.add_comm]
  have HE : Hid (∀ w1 j, VLo u wb l dp left j w1 → ∀ i, l[j]? = some i → ∃ b off qd' dl' cd' ql' ml' cl', ql = some ⟨b, off, none⟩ ∧ b < w1.heap.size ∧ CeI w1 b (off + j * 4) i (.slice qd' dl' cd') (.slice ql' ml' cl') ∧ Calls Tryd.prog 30 #[itv i.k i.n qd' dl' cd' ql' ml' cl', .int .i64 ((dp + 1 : Nat) : Int), .int .i64 ((left - (1 + cnts (l.take j)) : Nat) : Int)] w1 (RetW (VaR u w1 i (dp + 1) (left - (1 + cnts (l.take j)))))) := fun w1 j L i hi => by
    rcases hin with hn | ⟨b, off, rfl, hbb, hL⟩
    · rw [hn] at hi; cases hi
    · have hbw : Below w.heap.size w w1 := hb0.out.trans (L.bl.mono hb0.out.size)
      obtain ⟨vd, vl, hC, hM2⟩ := InL.get l off j i (InL.at (fun k hk => hbw.block k hk) l b off hbb hL) hi
      obtain ⟨qd', dl', cd', ql', ml', cl', rfl, rfl⟩ := hM2.form
      exact ⟨b, off, qd', dl', cd', ql', ml', cl', rfl, Nat.lt_of_lt_of_le hbb hbw.size, hC, hI i (List.mem_of_getElem? hi) w1 qd' dl' cd' ql' ml' cl' (dp + 1) _ (hU.1 wb _ hTb (fun k hk => L.bl.block k (by have := hb0.out.size; omega))) (InM.mono hbw.size i _ _ hM2) (by omega) (by omega)⟩
  obtain ⟨dl, hdl⟩ : ∃ dl, Hid (d.length = dl) := ⟨_, rfl⟩
  obtain ⟨m, hm⟩ : ∃ m, Hid (l.length = m) := ⟨_, rfl⟩
  have hm60 : m ≤ 1152921504606846976 := by rw [← hm.out]; exact hl60
  rw [hdl.out] at hUC bx hwb ⊢
  rw [hm.out] at bx hwb ⊢
  rw [hm.out] at hFF hTT
  obtain ⟨bt, hbt⟩ : ∃ bt, Hid (u d = bt) := ⟨_, rfl⟩
  rw [hbt.out] at hUC
  clear hT hM hpd hin hq' hTb h2 hdc hd62 hl60 hI
  by_cases zn : n = 0
  · subst zn
    by_cases zdl : dl = 0
    · subst zdl
      by_cases zm : m = 0
      · subst zm
        go_enter Tryd.func30, Tryd.ntmps30
        go_wp2_with fail
        rw [← hwb.out] at hUC
        refine hUC.mono ?_
        rintro e w1 ⟨v1, rfl, rfl, hb1⟩
        rw [hwb.out] at hb1
        have HB1 := hidW hb1
        obtain ⟨i0, i1, i2, i3, hil⟩ := bx.out w1 hb1
        clear hb1 hUC
        go_wp2
        go_ret2
        exact ⟨_, rfl, hFF.out (by simp [own, hdl.out]) _ HB1.out⟩
      · obtain ⟨em, fm⟩ := ne0 m zm
        go_enter Tryd.func30, Tryd.ntmps30
        go_wp2_with fail
        rw [← hwb.out] at hUC
        refine hUC.mono ?_
        rintro e w1 ⟨v1, rfl, rfl, hb1⟩
        rw [hwb.out] at hb1
        have HB1 := hidW hb1
        obtain ⟨i0, i1, i2, i3, hil⟩ := bx.out w1 hb1
        clear hb1 hUC
        go_wp2
        go_ret2
        exact ⟨_, rfl, hFF.out (by simp [own, zm]) _ HB1.out⟩
    · obtain ⟨edl, fdl⟩ := ne0 dl zdl
      go_enter Tryd.func30, Tryd.ntmps30
      go_wp2_with fail
      rw [← hwb.out] at hUC
      refine hUC.mono ?_
      rintro e w1 ⟨v1, rfl, rfl, hb1⟩
      rw [hwb.out] at hb1
      have HB1 := hidW hb1
      obtain ⟨i0, i1, i2, i3, hil⟩ := bx.out w1 hb1
      clear hb1 hUC
      go_wp2
      go_ret2
      exact ⟨_, rfl, hFF.out (by simp [own, hdl.out, zdl]) _ HB1.out⟩
  · obtain ⟨en, fn⟩ := ne0 n zn
    by_cases zdl : dl = 0
    · subst zdl
      by_cases zm : m = 0
      · subst zm
        by_cases c1 : n < 20
        · have c1z : (n : Int) < 20 := by omega
          go_enter Tryd.func30, Tryd.ntmps30
          go_wp2_with fail
          rw [← hwb.out] at hUC
          refine hUC.mono ?_
          rintro e w1 ⟨v1, rfl, rfl, hb1⟩
          rw [hwb.out] at hb1
          have HB1 := hidW hb1
          obtain ⟨i0, i1, i2, i3, hil⟩ := bx.out w1 hb1
          clear hb1 hUC
          go_wp2
          go_ret2
          exact ⟨_, rfl, hFF.out (by simp [own, hdl.out]; omega) _ HB1.out⟩
        · have c1z : ¬ (n : Int) < 20 := by omega
          have c1b : decide ((n : Int) < 20) = false := decide_eq_false c1z
          by_cases c2 : 22 < n
          · have c2z : (22 : Int) < (n : Int) := by omega
            go_enter Tryd.func30, Tryd.ntmps30
            go_wp2_with fail
            rw [← hwb.out] at hUC
            refine hUC.mono ?_
            rintro e w1 ⟨v1, rfl, rfl, hb1⟩
            rw [hwb.out] at hb1
            have HB1 := hidW hb1
            obtain ⟨i0, i1, i2, i3, hil⟩ := bx.out w1 hb1
            clear hb1 hUC
            go_wp2
            go_ret2
            exact ⟨_, rfl, hFF.out (by simp [own, hdl.out]; omega) _ HB1.out⟩
          · have c2z : ¬ (22 : Int) < (n : Int) := by omega
            have c2b : decide ((22 : Int) < (n : Int)) = false := decide_eq_false c2z
            go_enter Tryd.func30, Tryd.ntmps30
            go_wp2_with fail
            rw [← hwb.out] at hUC
            refine hUC.mono ?_
            rintro e w1 ⟨v1, rfl, rfl, hb1⟩
            rw [hwb.out] at hb1
            have HB1 := hidW hb1
            obtain ⟨i0, i1, i2, i3, hil⟩ := bx.out w1 hb1
            clear hb1 hUC
            go_wp2
            go_loopg [11, 12] 1 (fun gk s11 s12 wr => s12 = .int .i64 0 ∧ s11 = .int .i64 1 ∧ gk = 1 ∧ w1 = wr)
            case atStart => exact ⟨rfl, rfl, rfl, rfl⟩
            case round =>
              obtain ⟨rfl, rfl, rfl, rfl⟩ := hrel
              have hl0 : l = [] := List.length_eq_zero_iff.1 hm.out
              subst hl0
              have HQ0 := hTT.out (by simp [own, hdl.out]; omega) w1 ⟨Nat.le_refl _, HB1.out, ⟨rfl, fun h => absurd rfl h, by rw [List.take_nil, cnts]; omega⟩⟩
              rw [show 1 + cnts [] = 1 by rw [cnts]] at HQ0
              have HQ := hidW HQ0
              clear HQ0
              go_wp2
              go_ret2
              exact ⟨_, rfl, HQ.out⟩
      · obtain ⟨em, fm⟩ := ne0 m zm
        go_enter Tryd.func30, Tryd.ntmps30
        go_wp2_with fail
        rw [← hwb.out] at hUC
        refine hUC.mono ?_
        rintro e w1 ⟨v1, rfl, rfl, hb1⟩
        rw [hwb.out] at hb1
        have HB1 := hidW hb1
        obtain ⟨i0, i1, i2, i3, hil⟩ := bx.out w1 hb1
        clear hb1 hUC
        go_wp2
        go_ret2
        exact ⟨_, rfl, hFF.out (by simp [own, zm]) _ HB1.out⟩
    · obtain ⟨edl, fdl⟩ := ne0 dl zdl
      go_enter Tryd.func30, Tryd.ntmps30
      go_wp2_with fail
      rw [← hwb.out] at hUC
      refine hUC.mono ?_
      rintro e w1 ⟨v1, rfl, rfl, hb1⟩
      rw [hwb.out] at hb1
      have HB1 := hidW hb1
      obtain ⟨i0, i1, i2, i3, hil⟩ := bx.out w1 hb1
      clear hb1 hUC
      go_wp2
      go_ret2
      exact ⟨_, rfl, hFF.out (by simp [own, hdl.out, zdl]) _ HB1.out⟩
end WI
end Go.Proofs.YtfkgfcggcfkkiaaDoor
namespace Go.Proofs.YtfkgfcggcfkkiaaDoor
open Go.RowKit Go.Sort Go.Deep
namespace WI
variable {T : World → Prop} {u : List UInt8 → Bool}
theorem not_vok (k : Int) (n : Nat) (d : List UInt8) (l : List Itm) (dp left : Nat) (h : left = 0 ∨ 16 < dp ∨ own u k n d l.length = false) : ¬ vok u (.mk k n d l) dp left := fun hv => by
  obtain ⟨h1, h2, h3, -⟩ := (vok_mk u k n d l dp left).1 hv
  rcases h with h | h | h
  · omega
  · omega
  · rw [h1] at h; cases h
set_option maxRecDepth 20000 in
set_option maxHeartbeats 1000000 in
/-- Too deep, or too many: whatever it is. -/
theorem rv_few (i : Itm) (w : World) (qd : Option Addr) (dl cd : Nat) (ql : Option Addr) (m cl : Nat) (dp left : Nat) (h : left = 0 ∨ 16 < dp) : Calls Tryd.prog 30 #[itv i.k i.n qd dl cd ql m cl, .int .i64 (dp : Int), .int .i64 (left : Int)] w (RetW (VaR u w i dp left)) := by
  have hF : Hid (VaR u w i dp left (.tuple #[.int .i64 0, .bool false]) (w.alloc (.cells #[.int .i64 i.k, .int .u64 (i.n : Int), .slice qd dl cd, .slice ql m cl] 27))) := by
    cases i with
    | mk k n d l => exact ⟨alloc_below _ _, Or.inr ⟨not_vok k n d l dp left (by rcases h with h | h; exact Or.inl h; exact Or.inr (Or.inl h)), rfl⟩⟩
  unfold itv
  by_cases hl : left = 0
  · subst hl
    go_enter Tryd.func30, Tryd.ntmps30
    go_wp2
    go_ret2
    exact ⟨_, rfl, hF.out⟩
  · have g1 : ¬ (left : Int) < 1 := by omega
    have g1b : decide ((left : Int) < 1) = false := decide_eq_false g1
    have g2 : (16 : Int) < (dp : Int) := by omega
    go_enter Tryd.func30, Tryd.ntmps30
    go_wp2
    go_ret2
    exact ⟨_, rfl, hF.out⟩
set_option maxRecDepth 20000 in
set_option maxHeartbeats 1000000 in
/-- A kind that there is not. -/
theorem rv_kind (hU : UV T u) (i : Itm) (w : World) (qd : Option Addr) (dl cd : Nat) (ql : Option Addr) (m cl : Nat) (dp left : Nat) (hT : T w) (hM : InM w w.heap.size i (.slice qd dl cd) (.slice ql m cl)) (hdp : dp ≤ 16) (hl1 : 1 ≤ left) (hk : i.k < 0 ∨ 7 < i.k ∨ i.k = 6) : Calls Tryd.prog 30 #[itv i.k i.n qd dl cd ql m cl, .int .i64 (dp : Int), .int .i64 (left : Int)] w (RetW (VaR u w i dp left)) := by
  obtain ⟨k, hkd⟩ : ∃ k, Hid (i.k = k) := ⟨_, rfl⟩
  obtain ⟨wb, hwb⟩ : ∃ wb, Hid (w.alloc (.cells #[.int .i64 i.k, .int .u64 (i.n : Int), .slice qd dl cd, .slice ql m cl] 27) = wb) := ⟨_, rfl⟩
  have hb0 : Hid (Below w.heap.size w wb) := by rw [← hwb.out]; exact alloc_below _ _
  have h2 := hU.2.1 w hT
  have hTb : T wb := hU.1 w _ hT (fun j hj => hb0.out.block j (by omega))
  have hF : Hid (∀ w', Below wb.heap.size wb w' → VaR u w i dp left (.tuple #[.int .i64 0, .bool false]) w') := fun w' hw' => by
    refine ⟨hb0.out.trans (hw'.mono hb0.out.size), Or.inr ⟨?_, rfl⟩⟩
    cases i with
    | mk k' n d l =>
      refine not_vok k' n d l dp left (Or.inr (Or.inr ?_))
      cases ho : own u k' n d l.length with
      | false => rfl
      | true =>
        have h3 := own_kind u k' n d l.length ho
        have h4 : k' < 0 ∨ 7 < k' ∨ k' = 6 := hk
        omega
  obtain ⟨bt, hUC⟩ : ∃ bt, Calls Tryd.prog 46 #[.slice qd dl cd] wb (RetW (BoR wb bt)) := by
    cases i with
    | mk k' n d l =>
      rw [InM] at hM
      obtain ⟨-, hd62, -, hpd, -⟩ := hM
      have hdd := hpd
      obtain ⟨qq, cc, e, hcc, -⟩ := hdd
      obtain ⟨rfl, rfl, rfl⟩ : qd = qq ∧ dl = d.length ∧ cd = cc := by simpa using e
      exact ⟨_, hU.2.2 wb qd d.length cd d hTb (hpd.pb.below hb0.out) hcc hd62⟩
  have bx : Hid (∀ w1, Below wb.heap.size wb w1 → w1.cell? ⟨w.heap.size, 0, none⟩ = some (.int .i64 i.k)) := fun w1 hb => by
    have := al_c w #[.int .i64 i.k, .int .u64 (i.n : Int), .slice qd dl cd, .slice ql m cl] 27 _ 0 _ rfl rfl
    rw [hwb.out] at this
    rw [hb.cell (p := ⟨w.heap.size, 0, none⟩) (World.block_lt_of_cell? _ _ this)]
    exact this
  have g1 : ¬ (left : Int) < 1 := by omega
  have g1b : decide ((left : Int) < 1) = false := decide_eq_false g1
  have g2 : ¬ (16 : Int) < (dp : Int) := by omega
  have g2b : decide ((16 : Int) < (dp : Int)) = false := decide_eq_false g2
  rw [hkd.out] at bx hwb hk
  unfold itv
  rw [hkd.out]
  clear hT hM hTb h2
  have n2 : (k == 2) = false := by simp; omega
  have n3 : (k == 3) = false := by simp; omega
  have n4 : (k == 4) = false := by simp; omega
  have n5 : (k == 5) = false := by simp; omega
  by_cases c1 : k < 0
  · go_enter Tryd.func30, Tryd.ntmps30
    go_wp2_with fail
    rw [hwb.out]
    refine hUC.mono ?_
    rintro e w1 ⟨v1, rfl, rfl, hb1⟩
    have HB1 := hidW hb1
    have i0 := bx.out w1 hb1
    have hil := World.block_lt_of_cell? _ _ i0
    clear hb1 hUC
    go_wp2
    go_ret2
    exact ⟨_, rfl, hF.out _ HB1.out⟩
  · have c1b : decide (k < 0) = false := decide_eq_false c1
    by_cases c2 : 7 < k
    · go_enter Tryd.func30, Tryd.ntmps30
      go_wp2_with fail
      rw [hwb.out]
      refine hUC.mono ?_
      rintro e w1 ⟨v1, rfl, rfl, hb1⟩
      have HB1 := hidW hb1
      have i0 := bx.out w1 hb1
      have hil := World.block_lt_of_cell? _ _ i0
      clear hb1 hUC
      go_wp2
      go_ret2
      exact ⟨_, rfl, hF.out _ HB1.out⟩
    · obtain rfl : k = 6 := by omega
      go_enter Tryd.func30, Tryd.ntmps30
      go_wp2_with fail
      rw [hwb.out]
      refine hUC.mono ?_
      rintro e w1 ⟨v1, rfl, rfl, hb1⟩
      have HB1 := hidW hb1
      have i0 := bx.out w1 hb1
      have hil := World.block_lt_of_cell? _ _ i0
      clear hb1 hUC
      go_wp2
      go_ret2
      exact ⟨_, rfl, hF.out _ HB1.out⟩
/-- THE REFERENCE'S valid, of any item. -/
theorem rvalid_c (hU : UV T u) : ∀ (N : Nat) (i : Itm), cnt i ≤ N → VSp T u i
  | 0, i, hN => by have := cnt_pos i; omega
  | N + 1, .mk k nn dd l, hN => by
    have hI : ∀ i ∈ l, VSp T u i := fun i hi => rvalid_c hU N i (by have := cnts_mem l i hi; rw [cnt] at hN; omega)
    intro w qd dl cd ql m cl dp left hT hM hdp hlf
    by_cases hfew : left = 0 ∨ 16 < dp
    · exact rv_few _ w qd dl cd ql m cl dp left hfew
    have h16 : dp ≤ 16 := by omega
    have hl1 : 1 ≤ left := by omega
    have hM0 := hM
    rw [InM] at hM0
    obtain ⟨-, -, -, h4, q, c, h5, -⟩ := hM0
    obtain rfl : dl = dd.length := by
      obtain ⟨q', c', e, -⟩ := h4
      exact (by simpa using e : qd = q' ∧ dl = dd.length ∧ cd = c').2.1
    obtain rfl : m = l.length := (by simpa using h5 : ql = q ∧ m = l.length ∧ cl = c).2.1
    clear h5 h4
    by_cases hk : k < 0 ∨ 7 < k ∨ k = 6
    · exact rv_kind hU (.mk k nn dd l) w qd dd.length cd ql l.length cl dp left hT hM h16 hl1 hk
    obtain rfl | rfl | rfl | rfl | rfl | rfl | rfl : k = 0 ∨ k = 1 ∨ k = 2 ∨ k = 3 ∨ k = 4 ∨ k = 5 ∨ k = 7 := by omega
    · exact rv0 hU nn dd l hI w qd cd ql cl dp left hT hM h16 hlf hl1
    · exact rv1 hU nn dd l hI w qd cd ql cl dp left hT hM h16 hlf hl1
    · exact rv2 hU nn dd l hI w qd cd ql cl dp left hT hM h16 hlf hl1
    · exact rv3 hU nn dd l hI w qd cd ql cl dp left hT hM h16 hlf hl1
    · exact rv4 hU nn dd l hI w qd cd ql cl dp left hT hM h16 hlf hl1
    · exact rv5 hU nn dd l hI w qd cd ql cl dp left hT hM h16 hlf hl1
    · exact rv7 hU nn dd l hI w qd cd ql cl dp left hT hM h16 hlf hl1
end WI
end Go.Proofs.YtfkgfcggcfkkiaaDoor
namespace Go.Proofs.YtfkgfcggcfkkiaaDoor
open Go.RowKit Go.Sort Go.Deep
namespace WI
variable {T : World → Prop} {u : List UInt8 → Bool}
/-- THE REFERENCE'S write, of whatever is valid. -/
theorem rwrite_c (u : List UInt8 → Bool) : ∀ (N : Nat) (i : Itm), cnt i ≤ N → shv u i = true → RwS i
  | 0, i, hN, _ => by have := cnt_pos i; omega
  | N + 1, .mk k nn dd l, hN, hv => by
    rw [shv, Bool.and_eq_true] at hv
    obtain ⟨ho, hs⟩ := hv
    have hsm : ∀ (l : List Itm), shvs u l = true → ∀ i ∈ l, shv u i = true := fun l => by
      induction l with
      | nil => intro _ i hi; cases hi
      | cons a r ih =>
        intro h i hi
        rw [shvs, Bool.and_eq_true] at h
        rcases List.mem_cons.1 hi with rfl | hi
        · exact h.1
        · exact ih h.2 i hi
    have hI : ∀ i ∈ l, RwS i := fun i hi => rwrite_c u N i (by have := cnts_mem l i hi; rw [cnt] at hN; omega) (hsm l hs i hi)
    obtain rfl | rfl | rfl | rfl | rfl | rfl | rfl := own_kind u k nn dd l.length ho
    · exact rw0 nn dd l
    · exact rw1 nn dd l
    · exact rw2 nn dd l
    · exact rw3 nn dd l
    · exact rw4 nn dd l hI
    · exact rw5 nn dd l hI
    · exact rw7 nn dd l
/-- What the reference's Print answers. -/
def RpR (u : List UInt8 → Bool) (w : World) (i : Itm) (e : Value) (w' : World) : Prop := Below w.heap.size w w' ∧ ((wok u i 0 0 0 ∧ e = .tuple #[.string ⟨(byt i).toArray⟩, .bool true]) ∨ (¬ wok u i 0 0 0 ∧ e = .tuple #[.string ⟨#[]⟩, .bool false]))
set_option maxHeartbeats 1000000 in
set_option maxRecDepth 20000 in
theorem rPrint_c (hU : UV T u) (i : Itm) (w : World) (qd : Option Addr) (dl cd : Nat) (ql : Option Addr) (m cl : Nat) (hT : T w) (hM : InM w w.heap.size i (.slice qd dl cd) (.slice ql m cl)) : Calls Tryd.prog 17 #[itv i.k i.n qd dl cd ql m cl] w (RetW (RpR u w i)) := by
  have h2 := hU.2.1 w hT
  obtain ⟨it, hit⟩ : ∃ it, Hid (itv i.k i.n qd dl cd ql m cl = it) := ⟨_, rfl⟩
  obtain ⟨wb, hwb⟩ : ∃ wb, Hid (w.alloc (.cells #[.int .i64 i.k, .int .u64 (i.n : Int), .slice qd dl cd, .slice ql m cl] 27) = wb) := ⟨_, rfl⟩
  have hb0 : Hid (Below w.heap.size w wb) := by rw [← hwb.out]; exact alloc_below _ _
  have hTb : T wb := hU.1 w _ hT (fun j hj => hb0.out.block j (by omega))
  have hMX : Hid (∀ X, Below wb.heap.size wb X → InM X X.heap.size i (.slice qd dl cd) (.slice ql m cl)) := fun X hX => by
    have hbw : Below w.heap.size w X := hb0.out.trans (hX.mono hb0.out.size)
    exact InM.mono hbw.size i _ _ (InM.at (fun k hk => hbw.block k hk) i _ _ hM)
  have bx : Hid (∀ w1, Below wb.heap.size wb w1 → w1.cell? ⟨w.heap.size, 0, none⟩ = some (.int .i64 i.k) ∧ w1.cell? ⟨w.heap.size, 1, none⟩ = some (.int .u64 (i.n : Int)) ∧ w1.cell? ⟨w.heap.size, 2, none⟩ = some (.slice qd dl cd) ∧ w1.cell? ⟨w.heap.size, 3, none⟩ = some (.slice ql m cl) ∧ w.heap.size < w1.heap.size) := fun w1 hb => by
    have hz : ∀ j v, ([.int .i64 i.k, .int .u64 (i.n : Int), .slice qd dl cd, .slice ql m cl] : List Value)[j]? = some v → w1.cell? ⟨w.heap.size, j, none⟩ = some v := fun j v hj => by
      have := al_c w #[.int .i64 i.k, .int .u64 (i.n : Int), .slice qd dl cd, .slice ql m cl] 27 _ j v rfl (by simpa using hj)
      rw [hwb.out] at this
      rw [hb.cell (p := ⟨w.heap.size, j, none⟩) (World.block_lt_of_cell? _ _ this)]
      exact this
    exact ⟨hz 0 _ rfl, hz 1 _ rfl, hz 2 _ rfl, hz 3 _ rfl, World.block_lt_of_cell? _ _ (hz 0 _ rfl)⟩
  have hV : Calls Tryd.prog 30 #[itv i.k i.n qd dl cd ql m cl, .int .i64 1, .int .i64 4096] wb (RetW (VaR u wb i 1 4096)) := rvalid_c hU _ i (Nat.le_refl _) wb qd dl cd ql m cl 1 4096 hTb (hMX.out wb (Below.refl _ _)) (by decide) (by decide)
  have hW : Hid (∀ X, Below wb.heap.size wb X → vok u i 1 4096 → Calls Tryd.prog 31 #[itv i.k i.n qd dl cd ql m cl] X (RetW (RwR X i))) := fun X hX hv => rwrite_c u _ i (Nat.le_refl _) hv.1 X qd dl cd ql m cl (hMX.out X hX)
  have hF : Hid (∀ w', Below wb.heap.size wb w' → ¬ wok u i 0 0 0 → RpR u w i (.tuple #[.string ⟨#[]⟩, .bool false]) w') := fun w' h1 h2 => ⟨hb0.out.trans (h1.mono hb0.out.size), Or.inr ⟨h2, rfl⟩⟩
  have hS : Hid (∀ w', Below wb.heap.size wb w' → wok u i 0 0 0 → RpR u w i (.tuple #[.string ⟨(byt i).toArray⟩, .bool true]) w') := fun w' h1 h2 => ⟨hb0.out.trans (h1.mono hb0.out.size), Or.inl ⟨h2, rfl⟩⟩
  obtain ⟨k, hk⟩ : ∃ k, Hid (i.k = k) := ⟨_, rfl⟩
  obtain ⟨n, hn⟩ : ∃ n, Hid (i.n = n) := ⟨_, rfl⟩
  rw [hk.out, hn.out] at hV hW bx hwb ⊢
  clear hT hM hTb h2 hit
  unfold itv at hV hW ⊢
  obtain ⟨i0, i1, i2, i3, hil⟩ := bx.out wb (Below.refl _ _)
  go_enter Tryd.func17, Tryd.ntmps17
  go_wp2_with fail
  rw [hwb.out]
  refine hV.mono ?_
  rintro e w1 ⟨v1, rfl, hb1, hr1⟩
  have HB1 := hidW hb1
  clear i0 i1 i2 i3 hil hV
  obtain ⟨i0, i1, i2, i3, hil⟩ := bx.out w1 hb1
  clear hb1
  rcases hr1 with ⟨hv, rfl⟩ | ⟨hv, rfl⟩
  · have hc := hW.out w1 HB1.out hv
    have hv' := hidW hv
    obtain ⟨cN, hcN⟩ : ∃ c, Hid (cnt i = c) := ⟨_, rfl⟩
    rw [hcN.out]
    clear hv
    go_wp2_with fail
    refine hc.mono ?_
    rintro e w2 ⟨v2, rfl, hb2, hr2⟩
    have HB2 := hidW (HB1.out.trans (hb2.mono HB1.out.size))
    clear hb2 hc i0 i1 i2 i3 hil
    rcases hr2 with ⟨hw2, rfl⟩ | ⟨hw2, s2, rfl⟩
    · have HQ := hidW (hS.out w2 HB2.out ((wok_iff u i).2 ⟨hv'.out, hw2⟩))
      obtain ⟨S, hSd⟩ : ∃ S, Hid ((⟨(byt i).toArray⟩ : ByteArray) = S) := ⟨_, rfl⟩
      rw [hSd.out] at HQ ⊢
      clear hw2
      go_wp2
      go_ret2
      exact ⟨_, rfl, HQ.out⟩
    · have HQ := hidW (hF.out w2 HB2.out (fun h => by rw [((wok_iff u i).1 h).2] at hw2; cases hw2))
      clear hw2
      go_wp2
      go_ret2
      exact ⟨_, rfl, HQ.out⟩
  · have HQ := hidW (hF.out w1 HB1.out (fun h => hv ((wok_iff u i).1 h).1))
    clear hv
    go_wp2
    go_ret2
    exact ⟨_, rfl, HQ.out⟩
end WI
end Go.Proofs.YtfkgfcggcfkkiaaDoor
namespace Go.Proofs.YtfkgfcggcfkkiaaDoor
open Go.RowKit Go.Sort Go.Deep
namespace WI
variable {T : World → Prop} {u : List UInt8 → Bool}
/-- A step: kind, number, text, how many. -/
structure Nd where
  k : Int
  n : Nat
  s : ByteArray
  c : Int
/-- Steps in memory. -/
def NdL (w : World) (q : Option Addr) (L : List Nd) : Prop := L = [] ∨ ∃ b o, q = some ⟨b, o, none⟩ ∧ b < w.heap.size ∧ ∀ j x, L[j]? = some x → w.cell? ⟨b, o + j * 4, none⟩ = some (.int .i64 x.k) ∧ w.cell? ⟨b, o + j * 4 + 1, none⟩ = some (.int .u64 (x.n : Int)) ∧ w.cell? ⟨b, o + j * 4 + 2, none⟩ = some (.string x.s) ∧ w.cell? ⟨b, o + j * 4 + 3, none⟩ = some (.int .i64 x.c)
theorem NdL.below {w w' : World} {q : Option Addr} {L : List Nd} (h : NdL w q L) (hb : Below w.heap.size w w') : NdL w' q L := by
  rcases h with h | ⟨b, o, h1, h2, h3⟩
  · exact Or.inl h
  · refine Or.inr ⟨b, o, h1, Nat.lt_of_lt_of_le h2 hb.size, fun j x hj => ?_⟩
    obtain ⟨c0, c1, c2, c3⟩ := h3 j x hj
    exact ⟨by rw [hb.cell (p := ⟨b, _, none⟩) h2]; exact c0, by rw [hb.cell (p := ⟨b, _, none⟩) h2]; exact c1, by rw [hb.cell (p := ⟨b, _, none⟩) h2]; exact c2, by rw [hb.cell (p := ⟨b, _, none⟩) h2]; exact c3⟩
theorem idxN (g o m c i : Nat) (hi : i < m) (w : World) : (Instr.indexAt 39 (.slice (some ⟨g, o, none⟩) m c) (.int .i64 (i : Int))).run Tryd.prog w = .ok (.pointer (some ⟨g, o + i * 4, none⟩)) w := by
  have h1 : ¬ (i : Int) < 0 := by omega
  have h2 : (i : Int) < (m : Int) := by omega
  go_simp
def SmR (w : World) (L : List Nd) (e : Value) (w' : World) : Prop := w' = w ∧ ∃ b, e = .bool b ∧ (b = true → L.length ≤ 256)
set_option maxHeartbeats 1000000 in
set_option maxRecDepth 20000 in
theorem small_c (w : World) (q : Option Addr) (c : Nat) (L : List Nd) (h : NdL w q L) (hL : L.length ≤ 1152921504606846976) : Calls Tryd.prog 14 #[.slice q L.length c] w (RetW (SmR w L)) := by
  obtain ⟨m, hm⟩ : ∃ m, Hid (L.length = m) := ⟨_, rfl⟩
  rw [hm.out] at hL ⊢
  go_enter Tryd.func14, Tryd.ntmps14
  go_wp2
  go_loopg [3, 4] (m + 1) (fun gk s3 s4 wr => ∃ (j : Nat) (x : Int), s4 = .int .i64 (j : Int) ∧ s3 = .int .i64 x ∧ j ≤ m ∧ gk = m + 1 - j ∧ w = wr)
  case atStart => exact ⟨0, 0, rfl, rfl, Nat.zero_le _, rfl, rfl⟩
  case round =>
    obtain ⟨j, x, rfl, rfl, hjm, hgk, rfl⟩ := hrel
    by_cases hj : j < m
    · obtain ⟨nd, hnd⟩ : ∃ i, L[j]? = some i := ⟨_, List.getElem?_eq_getElem (by rw [hm.out]; exact hj)⟩
      rcases h with h | ⟨b, o, rfl, hb, h3⟩
      · rw [h] at hnd; cases hnd
      obtain ⟨c0, c1, c2, c3⟩ := h3 j nd hnd
      have hjz : (j : Int) < (m : Int) := by omega
      have hix := fun w => idxN b o m c j hj w
      obtain ⟨S, hS⟩ : ∃ S, Hid (nd.s = S) := ⟨_, rfl⟩
      rw [hS.out] at c2
      clear h3 hnd
      go_wp2
      go_roundg (m + 1 - (j + 1))
      case measure => omega
      case rel => exact ⟨j + 1, _, rfl, rfl, by omega, rfl, rfl⟩
    · have hjz : ¬ (j : Int) < (m : Int) := by omega
      obtain rfl : j = m := by omega
      by_cases g : (j : Int) ≤ 256
      · have gb : decide ((j : Int) ≤ 256) = true := decide_eq_true g
        have hg : Hid (L.length ≤ 256) := by show _ ≤ _; rw [hm.out]; omega
        go_wp2
        go_ret
        exact ⟨_, rfl, rfl, _, rfl, fun _ => hg.out⟩
      · have gb : decide ((j : Int) ≤ 256) = false := decide_eq_false g
        go_wp2
        go_ret
        exact ⟨_, rfl, rfl, _, rfl, fun h => by cases h⟩
/-- What built answers. -/
def BuR (i : Itm) (w : World) (e : Value) (w' : World) : Prop := Below w.heap.size w w' ∧ ∃ qd dl cd ql m cl, e = itv i.k i.n qd dl cd ql m cl ∧ InM w' w'.heap.size i (.slice qd dl cd) (.slice ql m cl)
def PrL (w : World) (e : Value) (w' : World) : Prop := e = .bool true ∧ Below w.heap.size w w'
set_option maxHeartbeats 1000000 in
set_option maxRecDepth 20000 in
/-- The law, whatever was built. -/
theorem prints_any (hU : UV T u) (i : Itm) (w : World) (hT : T w) (q : Option Addr) (c : Nat) (L : List Nd) (h : NdL w q L) (hL : L.length ≤ 1152921504606846976) (hB : L.length ≤ 256 → ∀ X, NdL X q L → Calls Tryd.prog 16 #[.slice q L.length c] X (RetW (BuR i X))) :
    Calls Tryd.prog 4 #[.slice q L.length c] w (RetW (PrL w)) := by
  have hs := small_c w q c L h hL
  have hB' := hidW hB
  have h' := hidW h
  have hT' := hidW hT
  have h2 := hU.2.1 w hT
  have HT : Hid (∀ X, Below w.heap.size w X → T X) := fun X hX => hU.1 w X hT (fun k hk => hX.block k (by omega))
  obtain ⟨m, hm⟩ : ∃ m, Hid (L.length = m) := ⟨_, rfl⟩
  rw [hm.out] at hs hB' ⊢
  clear hB h hT hL h2
  go_enter Tryd.func4, Tryd.ntmps4
  go_wp2_with fail
  refine hs.mono ?_
  rintro e w1 ⟨v1, rfl, rfl, bs, rfl, hbs⟩
  cases bs with
  | false =>
    clear hbs hs
    go_wp2
    go_ret
    exact ⟨_, rfl, rfl, Below.refl _ _⟩
  | true =>
    have hsm0 := hbs rfl
    rw [hm.out] at hsm0
    have hc1 := hB'.out hsm0 w1 h'.out
    have hsm := hidW hsm0
    clear hsm0
    clear hbs hs
    go_wp2_with fail
    refine hc1.mono ?_
    rintro e w2 ⟨v2, rfl, hb2, qd, dl, cd, ql, ml, cl, rfl, hM2⟩
    have HB2 := hidW hb2
    have hc2 := Print_c hU i qd dl cd ql ml cl w2 (HT.out w2 hb2) hM2
    clear hc1 hb2 hM2
    unfold itv at hc2 ⊢
    go_wp2_with fail
    refine hc2.mono ?_
    rintro e w3 ⟨v3, rfl, hb3, hr3⟩
    have HB3 := hidW (HB2.out.trans (hb3.mono HB2.out.size))
    have hc3 := hB'.out hsm.out w3 (h'.out.below HB3.out)
    have hr3' := hidW hr3
    clear hc2 hb3 hr3
    obtain ⟨y, q3, m3, c3, e3, rfl, hy3⟩ : ∃ y q3 m3 c3 e3, v3 = .tuple #[.slice q3 m3 c3, .int .i64 e3] ∧ Hid ((wok u i 0 0 0 ∧ y = true ∧ e3 = 0 ∧ w3.ownsRow w2.heap.size 5 1 (.slice q3 m3 c3) (byt i).length (Lib.byteCells (byt i))) ∨ (¬ wok u i 0 0 0 ∧ y = false ∧ e3 = 2 ∧ m3 = 0)) := by
      rcases hr3'.out with ⟨h1, rfl⟩ | ⟨h1, q3, m3, c3, rfl, h4⟩
      · exact ⟨false, _, _, _, _, rfl, Or.inr ⟨h1, rfl, rfl, rfl⟩⟩
      · exact ⟨true, _, _, _, _, rfl, Or.inl ⟨h1, rfl, rfl, h4⟩⟩
    clear hr3'
    go_wp2_with fail
    refine hc3.mono ?_
    rintro e w4 ⟨v4, rfl, hb4, qd', dl', cd', ql', ml', cl', rfl, hM4⟩
    have HB4 := hidW (HB3.out.trans (hb4.mono HB3.out.size))
    have Hb4 := hidW hb4
    have hc4 := rPrint_c hU i w4 qd' dl' cd' ql' ml' cl' (HT.out w4 HB4.out) hM4
    clear hc3 hb4 hM4
    unfold itv at hc4 ⊢
    go_wp2_with fail
    refine hc4.mono ?_
    rintro e w5 ⟨v5, rfl, hb5, hr5⟩
    have Hb5 := hidW (Hb4.out.trans (hb5.mono Hb4.out.size))
    clear hc4 hb5
    rcases hr5 with ⟨hk5, rfl⟩ | ⟨hk5, rfl⟩
    · rcases hy3.out with ⟨-, -, rfl, how⟩ | ⟨h, -⟩
      · have hcv := pb_conv ((own_pb how).below Hb5.out)
        obtain ⟨S, hS⟩ : ∃ S, Hid ((⟨(byt i).toArray⟩ : ByteArray) = S) := ⟨_, rfl⟩
        rw [hS.out] at hcv ⊢
        have hse : (S.toList == S.toList) = true := by simp
        clear hk5 how hy3
        go_wp2
        go_ret
        exact ⟨_, rfl, rfl, HB3.out.trans (Hb5.out.mono HB3.out.size)⟩
      · exact absurd hk5 h
    · rcases hy3.out with ⟨h, -⟩ | ⟨-, -, rfl, rfl⟩
      · exact absurd h hk5
      · clear hk5 hy3
        go_wp2
        go_ret
        exact ⟨_, rfl, rfl, HB3.out.trans (Hb5.out.mono HB3.out.size)⟩
end WI
end Go.Proofs.YtfkgfcggcfkkiaaDoor
namespace Go.Proofs.YtfkgfcggcfkkiaaDoor
open Go.RowKit Go.Sort Go.Deep
namespace WI
/-- Items' cells, in a row. -/
def IC (w : World) (B : Nat) : List Itm → List Value → Prop
  | [], cs => cs = []
  | i :: r, cs => ∃ vd vl cs', cs = .int .i64 i.k :: .int .u64 (i.n : Int) :: vd :: vl :: cs' ∧ InM w B i vd vl ∧ IC w B r cs'
theorem IC.len {w : World} {B : Nat} : ∀ {l : List Itm} {cs : List Value}, IC w B l cs → cs.length = l.length * 4
  | [], cs, h => by rw [IC] at h; rw [h]; rfl
  | i :: r, cs, h => by
    rw [IC] at h
    obtain ⟨vd, vl, cs', rfl, -, h3⟩ := h
    have := h3.len
    simp only [List.length_cons]
    omega
theorem IC.app {w : World} {B : Nat} {m : List Itm} {ds : List Value} (h2 : IC w B m ds) : ∀ {l : List Itm} {cs : List Value}, IC w B l cs → IC w B (l ++ m) (cs ++ ds)
  | [], cs, h => by rw [IC] at h; rw [h]; exact h2
  | i :: r, cs, h => by
    rw [IC] at h
    obtain ⟨vd, vl, cs', rfl, h1, h3⟩ := h
    rw [List.cons_append, IC]
    exact ⟨vd, vl, cs' ++ ds, rfl, h1, IC.app h2 h3⟩
theorem IC.cut {w : World} {B : Nat} : ∀ {l : List Itm} {cs : List Value} (k : Nat), IC w B l cs → IC w B (l.take k) (cs.take (k * 4)) ∧ IC w B (l.drop k) (cs.drop (k * 4))
  | l, cs, 0, h => by simp only [List.take_zero, Nat.zero_mul, List.drop_zero]; exact ⟨by rw [IC], h⟩
  | [], cs, k + 1, h => by rw [IC] at h; rw [h]; simp [IC]
  | i :: r, cs, k + 1, h => by
    rw [IC] at h
    obtain ⟨vd, vl, cs', rfl, h1, h3⟩ := h
    have := IC.cut k h3
    rw [show (k + 1) * 4 = k * 4 + 1 + 1 + 1 + 1 by omega]
    simp only [List.take_succ_cons, List.drop_succ_cons]
    refine ⟨?_, this.2⟩
    rw [IC]
    exact ⟨vd, vl, _, rfl, h1, this.1⟩
theorem IC.at {w w' : World} {B : Nat} (hb : ∀ k, k < B → w'.heap[k]? = w.heap[k]?) : ∀ {l : List Itm} {cs : List Value}, IC w B l cs → IC w' B l cs
  | [], cs, h => by rw [IC] at h ⊢; exact h
  | i :: r, cs, h => by
    rw [IC] at h ⊢
    obtain ⟨vd, vl, cs', h0, h1, h3⟩ := h
    exact ⟨vd, vl, cs', h0, InM.at hb i vd vl h1, IC.at hb h3⟩
theorem IC.mono {w : World} {B B' : Nat} (hB : B ≤ B') : ∀ {l : List Itm} {cs : List Value}, IC w B l cs → IC w B' l cs
  | [], cs, h => by rw [IC] at h ⊢; exact h
  | i :: r, cs, h => by
    rw [IC] at h ⊢
    obtain ⟨vd, vl, cs', h0, h1, h3⟩ := h
    exact ⟨vd, vl, cs', h0, InM.mono hB i vd vl h1, IC.mono hB h3⟩
theorem IC.up {w w' : World} {l : List Itm} {cs : List Value} (h : IC w w.heap.size l cs) (hb : Below w.heap.size w w') : IC w' w'.heap.size l cs := IC.mono hb.size (IC.at (fun k hk => hb.block k hk) h)
theorem IC.one {w : World} {B : Nat} : ∀ {l : List Itm} {cs : List Value}, IC w B l cs → ∀ u ∈ cs, u.oneCell' = true
  | [], cs, h => by rw [IC] at h; rw [h]; intro u hu; cases hu
  | i :: r, cs, h => by
    rw [IC] at h
    obtain ⟨vd, vl, cs', rfl, h1, h3⟩ := h
    obtain ⟨qd, dl, cd, ql, m, cl, rfl, rfl⟩ := h1.form
    intro u hu
    simp only [List.mem_cons] at hu
    rcases hu with rfl | rfl | rfl | rfl | hu
    · rfl
    · rfl
    · rfl
    · rfl
    · exact IC.one h3 u hu
theorem IC.inl {w : World} {B b : Nat} : ∀ {l : List Itm} {cs : List Value} (o : Nat), IC w B l cs → (∀ j u, cs[j]? = some u → w.cell? ⟨b, o + j, none⟩ = some u) → InL w B l b o
  | [], cs, o, h, _ => by rw [InL]; trivial
  | i :: r, cs, o, h, hc => by
    rw [IC] at h
    obtain ⟨vd, vl, cs', rfl, h1, h3⟩ := h
    rw [InL]
    refine ⟨⟨vd, vl, ⟨hc 0 _ rfl, hc 1 _ rfl, hc 2 _ rfl, hc 3 _ rfl⟩, h1⟩, IC.inl (o + 4) h3 fun j u hj => ?_⟩
    rw [Nat.add_assoc, Nat.add_comm 4 j]
    exact hc (j + 4) u hj
theorem IC.last {w : World} {B : Nat} {i : Itm} {l : List Itm} {cs : List Value} (h : IC w B (l ++ [i]) cs) : ∃ vd vl, cs[l.length * 4]? = some (.int .i64 i.k) ∧ cs[l.length * 4 + 1]? = some (.int .u64 (i.n : Int)) ∧ cs[l.length * 4 + 2]? = some vd ∧ cs[l.length * 4 + 3]? = some vl ∧ InM w B i vd vl := by
  have := (IC.cut l.length h).2
  rw [List.drop_left] at this
  rw [IC] at this
  obtain ⟨vd, vl, cs', h0, h1, h3⟩ := this
  have e : ∀ j, cs[l.length * 4 + j]? = (cs.drop (l.length * 4))[j]? := fun j => by rw [List.getElem?_drop]
  exact ⟨vd, vl, by rw [← Nat.add_zero (l.length * 4), e, h0]; rfl, by rw [e, h0]; rfl, by rw [e, h0]; rfl, by rw [e, h0]; rfl, h1⟩
theorem undI : Tryd.prog.underlying 25 = some (.slice 27) := by kernel_rfl
theorem infoI : (Tryd.prog.info? 27).map (fun i => (i.size, i.bytes, i.zero.map (fun z => z.cells.size))) = some (4, 64, some 4) := by kernel_rfl
/-- 'append(l, x...)' of items. -/
theorem it_app {base : Nat} {W : World} {v : Value} {n m c : Nat} {xs news : List Value} {q : Option Addr} (hown : W.ownsRow base 27 4 v n xs) (hl : news.length = m * 4) (hq : m = 0 ∨ ∃ b o, q = some ⟨b, o, none⟩ ∧ ∀ j u, news[j]? = some u → W.cell? ⟨b, o + j, none⟩ = some u) (h1 : ∀ u ∈ news, u.oneCell' = true) (hn : n + m ≤ 1000000) (hb : base ≤ W.heap.size) :
    ∃ v' W', (Builtin.append_ #[25, 25] 25 #[v, .slice q m c]).run Tryd.prog W = .ok v' W' ∧ W'.ownsRow base 27 4 v' (n + m) (xs ++ news) ∧ W.grownBy W' v.ownBlock := by
  obtain ⟨i, hi, he⟩ := Option.map_eq_some_iff.1 infoI
  simp only [Prod.mk.injEq] at he
  obtain ⟨h2, h3, h4⟩ := he
  obtain ⟨z, hz, hz2⟩ := Option.map_eq_some_iff.1 h4
  cases q with
  | none =>
    obtain rfl : m = 0 := by
      rcases hq with h | ⟨b, o, h, -⟩
      · exact h
      · cases h
    obtain rfl : news = [] := List.length_eq_zero_iff.1 (by simpa using hl)
    rcases id hown with ⟨-, ⟨rfl, rfl⟩ | ⟨g, cap, cur, rfl, g1, g2, g3, g4⟩⟩
    · refine ⟨.slice none 0 0, W, ?_, by rw [List.append_nil]; exact hown, ⟨rfl, rfl, rfl, Nat.le_refl _, fun _ _ _ => rfl⟩⟩
      kernel_rfl
    · have hap := run_append_room_src (P := Tryd.prog) W 25 25 25 27 i undI hi g 0 n cap (.slice none 0 c) 0 [] (Src.ofNil (e' := 27) _ undI c) g3 (fun j hj => by cases hj) (fun j hj => by cases hj)
      refine ⟨_, _, hap, ?_, ⟨rfl, rfl, rfl, Nat.le_refl _, fun _ _ _ => rfl⟩⟩
      rw [List.append_nil]
      exact hown
  | some a =>
    by_cases h0 : m = 0
    · subst h0
      obtain rfl : news = [] := List.length_eq_zero_iff.1 (by simpa using hl)
      obtain ⟨v', W', r1, r2, r3, r4⟩ := run_append_own (P := Tryd.prog) W base 25 25 27 i z 4 64 undI hi hz h2 h3 hz2 (by decide) v n xs hown a 0 c [] rfl (fun j u hj => by cases hj) (fun u hu => by cases hu) (by unfold maxLen; omega) (by omega) hb
      exact ⟨v', W', r1, r2, r3⟩
    · rcases hq with h | ⟨b, o, h, hc⟩
      · exact absurd h h0
      · obtain rfl := Option.some.inj h
        obtain ⟨v', W', r1, r2, r3, r4⟩ := run_append_own (P := Tryd.prog) W base 25 25 27 i z 4 64 undI hi hz h2 h3 hz2 (by decide) v n xs hown ⟨b, o, none⟩ m c news hl (fun j u hj => by rw [addS0]; exact hc j u hj) h1 (by unfold maxLen; omega) (by omega) hb
        exact ⟨v', W', r1, r2, r3⟩
/-- The cells of a row of one's own. -/
theorem own_cells {base n : Nat} {W : World} {v : Value} {xs : List Value} (h : W.ownsRow base 27 4 v n xs) : (n = 0 ∧ v = .slice none 0 0 ∧ xs = []) ∨ ∃ g cap, v = .slice (some ⟨g, 0, none⟩) n cap ∧ base ≤ g ∧ g < W.heap.size ∧ n ≤ cap ∧ cap ≤ maxLen ∧ ∀ j u, xs[j]? = some u → W.cell? ⟨g, j, none⟩ = some u := by
  rcases h with ⟨h0, ⟨rfl, rfl⟩ | ⟨g, cap, cur, rfl, h1, h2, h3, h4, h5, h6⟩⟩
  · exact Or.inl ⟨rfl, rfl, List.length_eq_zero_iff.1 (by simpa using h0)⟩
  · refine Or.inr ⟨g, cap, rfl, h1, (Array.getElem?_eq_some_iff.1 h2).1, h3, h4, fun j u hj => ?_⟩
    have hl := (List.getElem?_eq_some_iff.1 hj).1
    rw [← h6, List.getElem?_take] at hj
    split at hj
    · rw [Array.getElem?_toList] at hj
      unfold World.cell?
      simp only [h2]
      exact hj
    · cases hj
theorem slI_hi (b o n c k : Nat) (hk : k ≤ c) (w : World) : (Instr.sliceAt 25 (.slice (some ⟨b, o, none⟩) n c) none (some (.int .i64 (k : Int))) none).run Tryd.prog w = .ok (.slice (some ⟨b, o, none⟩) k c) w := by
  have h1 : (k : Int) ≤ c := by omega
  go_simp
theorem slI_lo (b o n c k : Nat) (hk : k ≤ n) (hc : n ≤ c) : ∃ o', (∀ w : World, (Instr.sliceAt 25 (.slice (some ⟨b, o, none⟩) n c) (some (.int .i64 (k : Int))) none none).run Tryd.prog w = .ok (.slice (some ⟨b, o', none⟩) (n - k) (c - k)) w) ∧ (k < n → o' = o + k * 4) := by
  have h1 : ¬ (k : Int) < 0 := by omega
  have h2 : (k : Int) ≤ (n : Int) := by omega
  by_cases h : k = c
  · obtain rfl : n = k := by omega
    subst h
    exact ⟨o, fun w => by go_simp, fun h => by omega⟩
  · have h3 : ¬ c = k := fun e => h e.symm
    have e := addS0 b o (k * 4)
    have e' := addS0 b o (4 * k)
    rw [Nat.mul_comm] at e'
    refine ⟨o + k * 4, fun w => ?_, fun _ => rfl⟩
    have h4 : (n : Int) ≤ (c : Int) := by omega
    go_simp
    try rw [if_neg (by omega), Nat.mul_comm]
theorem slI_n1 (w : World) : (Instr.sliceAt 25 (.slice none 0 0) none (some (.int .i64 0)) none).run Tryd.prog w = .ok (.slice none 0 0) w := by kernel_rfl
theorem slI_n2 (w : World) : (Instr.sliceAt 25 (.slice none 0 0) (some (.int .i64 0)) none none).run Tryd.prog w = .ok (.slice none 0 0) w := by kernel_rfl
end WI
end Go.Proofs.YtfkgfcggcfkkiaaDoor
namespace Go.Proofs.YtfkgfcggcfkkiaaDoor
open Go.RowKit Go.Sort Go.Deep
namespace WI
/-- How many of the last a step takes. -/
def cnS (c : Int) : Nat := (if c < 0 then -(c + 1) else c).toNat % 9
/-- A step. -/
def stp (st : List Itm) (x : Nd) : List Itm := st.take (st.length - min (cnS x.c) st.length) ++ [.mk x.k x.n x.s.data.toList (st.drop (st.length - min (cnS x.c) st.length))]
def bst (L : List Nd) : List Itm := L.foldl stp []
/-- What is built. -/
def bld (L : List Nd) : Itm := (bst L).getLast?.getD (.mk 0 0 [] [])
theorem stp_len (st : List Itm) (x : Nd) : (stp st x).length ≤ st.length + 1 := by
  unfold stp; rw [List.length_append, List.length_take]; have : ([Itm.mk x.k x.n x.s.data.toList (st.drop (st.length - min (cnS x.c) st.length))]).length = 1 := rfl; omega
theorem bst_snoc (L : List Nd) (x : Nd) : bst (L ++ [x]) = stp (bst L) x := by unfold bst; rw [List.foldl_append]; rfl
theorem bst_take (L : List Nd) (j : Nat) (x : Nd) (h : L[j]? = some x) : bst (L.take (j + 1)) = stp (bst (L.take j)) x := by
  obtain ⟨hj, e⟩ := List.getElem?_eq_some_iff.1 h
  rw [List.take_succ_eq_append_getElem hj, e, bst_snoc]
theorem bst_len (L : List Nd) (j : Nat) : (bst (L.take j)).length ≤ j := by
  induction j with
  | zero => rw [List.take_zero]; exact Nat.le_refl _
  | succ j ih =>
    cases h : L[j]? with
    | none =>
      have := List.getElem?_eq_none_iff.1 h
      rw [List.take_of_length_le (by omega)]
      rw [List.take_of_length_le (by omega)] at ih
      omega
    | some x =>
      rw [bst_take L j x h]
      have := stp_len (bst (L.take j)) x
      omega
/-- A text's bytes, new. -/
def DB (w : World) (base : Nat) (v : Value) (s : ByteArray) : Prop := ∃ (g cap : Nat) (cs : Array Value) (fz : Nat × Nat), v = .slice (some ⟨g, 0, none⟩) s.size cap ∧ s.size ≤ cap ∧ base ≤ g ∧ w.heap[g]? = some (.cells cs 5 fz) ∧ ∀ (j : Nat) (u : UInt8), s.data.toList[j]? = some u → cs[j]? = some (Value.int .u8 (u.toNat : Int))
theorem DB.below {w w' : World} {base : Nat} {v : Value} {s : ByteArray} (h : DB w base v s) (hb : Below w.heap.size w w') : DB w' base v s := by
  obtain ⟨g, cap, cs, fz, h1, h2, h3, h4, h5⟩ := h
  exact ⟨g, cap, cs, fz, h1, h2, h3, by rw [hb.block g (Array.getElem?_eq_some_iff.1 h4).1]; exact h4, h5⟩
theorem DB.pbb {w : World} {base : Nat} {v : Value} {s : ByteArray} (h : DB w base v s) : PBb w w.heap.size v s.data.toList := by
  obtain ⟨g, cap, cs, fz, h1, h2, h3, h4, h5⟩ := h
  have hl : s.data.toList.length = s.size := by rw [Array.length_toList]; rfl
  refine ⟨some ⟨g, 0, none⟩, cap, by rw [hl]; exact h1, by rw [hl]; exact h2, Or.inr ⟨g, 0, rfl, (Array.getElem?_eq_some_iff.1 h4).1, fun j u hj => ?_⟩⟩
  have := h5 j u hj
  unfold World.cell?
  simp only [h4, Nat.zero_add]
  exact this
theorem conv_DB (s : ByteArray) (w : World) (base : Nat) (hb : base ≤ w.heap.size) : ∃ v w', (convert 9 22 (.string s)).run Tryd.prog w = .ok v w' ∧ DB w' base v s ∧ Below w.heap.size w w' := by
  have h := Lib.run_convert_string_bytes (P := Tryd.prog) w 9 22 5 s (u := .string) (by kernel_rfl) undB (by kernel_rfl)
  have hcap : s.size ≤ grownCap w s.size 0 5 := by
    unfold grownCap Question.cut
    exact Nat.le_add_right _ _
  refine ⟨_, _, h, ⟨w.heap.size, _, _, _, rfl, hcap, hb, Lib.bytesWorld_at_new w 5 s, fun j u hj => ?_⟩, ⟨?_, ?_, ?_, ?_, fun k hk => Lib.bytesWorld_at_old w 5 s k hk⟩⟩
  · have hj2 := (List.getElem?_eq_some_iff.1 hj).1
    rw [Array.getElem?_toList] at hj
    rw [Array.length_toList] at hj2
    unfold Lib.bytesCells
    rw [Array.getElem?_append_left (by rw [Array.size_map]; exact hj2), Array.getElem?_map, hj]
    rfl
  · unfold Lib.bytesWorld World.freeze
    rw [if_neg (by decide)]
    rfl
  · unfold Lib.bytesWorld World.freeze
    rw [if_neg (by decide)]
    rfl
  · unfold Lib.bytesWorld World.freeze
    rw [if_neg (by decide)]
    rfl
  · rw [Lib.bytesWorld_size]; omega
/-- A box of an item, new. -/
def BXi (w : World) (base g : Nat) (cs : List Value) : Prop := base ≤ g ∧ w.heap[g]? = some (.cells cs.toArray 27 (0, 0))
theorem BXi.below {w w' : World} {base g : Nat} {cs : List Value} (h : BXi w base g cs) (hb : Below w.heap.size w w') : BXi w' base g cs := ⟨h.1, by rw [hb.block g (Array.getElem?_eq_some_iff.1 h.2).1]; exact h.2⟩
/-- The values of region 11. -/
def G11 (q : Option Addr) (m c j b o : Nat) (x : Nd) (base : Nat) (w0 : World) : RX.Gw where
  R i v w := if i = 15 then DB w base v x.s else if i = 16 then ∃ v', v = .agg #[.int .i64 x.k, .int .u64 (x.n : Int), v', .slice none 0 0] ∧ DB w base v' x.s else if i = 17 then ∃ g, v = .pointer (some ⟨g, 0, none⟩) ∧ BXi w base g [.int .i64 0, .int .u64 0, .slice none 0 0, .slice none 0 0] else v = ([.slice q m c, .int .i64 (j : Int), .pointer (some ⟨b, o, none⟩), .pointer (some ⟨b, o, none⟩), .int .i64 x.k, .slice q m c, .int .i64 (j : Int), .pointer (some ⟨b, o, none⟩), .pointer (some ⟨b, o + 1, none⟩), .int .u64 (x.n : Int), .slice q m c, .int .i64 (j : Int), .pointer (some ⟨b, o, none⟩), .pointer (some ⟨b, o + 2, none⟩), .string x.s] : List Value).getD i undef
  B w := Below w0.heap.size w0 w
  sR i v w w' hb h := by
    by_cases e : i = 15
    · rw [if_pos e] at h ⊢; exact h.below hb
    · rw [if_neg e] at h ⊢
      by_cases e : i = 16
      · rw [if_pos e] at h ⊢
        obtain ⟨v', h1, h2⟩ := h
        exact ⟨v', h1, h2.below hb⟩
      · rw [if_neg e] at h ⊢
        by_cases e : i = 17
        · rw [if_pos e] at h ⊢
          obtain ⟨g, h1, h2⟩ := h
          exact ⟨g, h1, h2.below hb⟩
        · rw [if_neg e] at h ⊢; exact h
  sB w w' hb h := h.trans (hb.mono h.size)
end WI
namespace RX
open Go.Proofs.YtfkgfcggcfkkiaaDoor.RG
theorem gw_idxX {P : Program} {ops : Array Oper} {Q : Exit → Act → World → Prop} {a0 : Act} {G : Gw} {k : Nat} {o : Oper} (T : TypeId) (s t : Tmp) (ho : o.op = .indexAddr T (.tmp s) (.tmp t))
    (h : ∀ (a : Act) (w : World), PreG G ops a0 k o a w → ∃ v1 v2 v, a.eval (.tmp s) = v1 ∧ a.eval (.tmp t) = v2 ∧ (Instr.indexAt T v1 v2).run P w = .ok v w ∧ G.R k v w) : CertF P Q G.flow ops a0 k o :=
  cf_val fun a w hp => by
    obtain ⟨v1, v2, v, h1, h2, h3, hR⟩ := h a w (pre_of hp)
    refine ⟨v, w, ?_, Below.refl _ _, hR⟩
    unfold execOp
    rw [ho]
    dsimp only
    rw [h1, h2, Sem.run_bind, h3]
    rfl
/-- A conversion that makes memory. -/
theorem gw_cnvM {P : Program} {ops : Array Oper} {Q : Exit → Act → World → Prop} {a0 : Act} {G : Gw} {k : Nat} {o : Oper} (T T' : TypeId) (t : Tmp) (ho : o.op = .convert T T' (.tmp t))
    (h : ∀ (a : Act) (w : World), PreG G ops a0 k o a w → ∃ v1 v w', a.eval (.tmp t) = v1 ∧ (convert T T' v1).run P w = .ok v w' ∧ Below w.heap.size w w' ∧ G.R k v w') : CertF P Q G.flow ops a0 k o :=
  cf_val fun a w hp => by
    obtain ⟨v1, v, w', h1, h3, hb, hR⟩ := h a w (pre_of hp)
    refine ⟨v, w', ?_, hb, hR⟩
    unfold execOp
    rw [ho]
    dsimp only
    rw [h1, Sem.run_bind, h3]
    rfl
end RX
end Go.Proofs.YtfkgfcggcfkkiaaDoor
namespace Go.Proofs.YtfkgfcggcfkkiaaDoor
open Go.RowKit Go.Sort Go.Deep
namespace RX
open Go.Proofs.YtfkgfcggcfkkiaaDoor.RG
section
variable {P : Program} {ops : Array Oper} {Q : Exit → Act → World → Prop} {a0 : Act} {F : Flow} {k : Nat} {o : Oper}
theorem cf_shiX (T : TypeId) (s t : Tmp) (ho : o.op = .slice T (.tmp s) none (some (.tmp t)) none)
    (h : ∀ (a : Act) (w : World), PreF F ops a0 k o a w → ∃ v1 v2 v, a.eval (.tmp s) = v1 ∧ a.eval (.tmp t) = v2 ∧ (Instr.sliceAt T v1 none (some v2) none).run P w = .ok v w ∧ F.E k w w ∧ F.R k v w) : CertF P Q F ops a0 k o :=
  cf_val fun a w hp => by
    obtain ⟨v1, v2, v, h1, h2, h3, hE, hR⟩ := h a w hp
    refine ⟨v, w, ?_, hE, hR⟩
    unfold execOp
    rw [ho]
    dsimp only [Option.map]
    rw [h1, h2, Sem.run_bind, h3]
    rfl
theorem cf_sloX (T : TypeId) (s t : Tmp) (ho : o.op = .slice T (.tmp s) (some (.tmp t)) none none)
    (h : ∀ (a : Act) (w : World), PreF F ops a0 k o a w → ∃ v1 v2 v, a.eval (.tmp s) = v1 ∧ a.eval (.tmp t) = v2 ∧ (Instr.sliceAt T v1 (some v2) none none).run P w = .ok v w ∧ F.E k w w ∧ F.R k v w) : CertF P Q F ops a0 k o :=
  cf_val fun a w hp => by
    obtain ⟨v1, v2, v, h1, h2, h3, hE, hR⟩ := h a w hp
    refine ⟨v, w, ?_, hE, hR⟩
    unfold execOp
    rw [ho]
    dsimp only [Option.map]
    rw [h1, h2, Sem.run_bind, h3]
    rfl
theorem cf_subX (T T' : TypeId) (s t : Tmp) (ho : o.op = .binOp .sub T (.tmp s) (.tmp t) T')
    (h : ∀ (a : Act) (w : World), PreF F ops a0 k o a w → ∃ v1 v2 v, a.eval (.tmp s) = v1 ∧ a.eval (.tmp t) = v2 ∧ (binOp .sub T v1 v2).run P w = .ok v w ∧ F.E k w w ∧ F.R k v w) : CertF P Q F ops a0 k o :=
  cf_val fun a w hp => by
    obtain ⟨v1, v2, v, h1, h2, h3, hE, hR⟩ := h a w hp
    refine ⟨v, w, ?_, hE, hR⟩
    unfold execOp
    rw [ho]
    dsimp only
    rw [h1, h2, Sem.run_bind, Sem.run_bind, show (eqGuard .sub T (.tmp s) (.tmp t) v1 v2).run P w = .ok () w from rfl]
    dsimp only [Result.andThen]
    rw [h3]
    rfl
end
end RX
namespace WI
theorem own_atI {base n : Nat} {W W' : World} {v : Value} {xs : List Value} (h : W.ownsRow base 27 4 v n xs) (hb : ∀ g, g < W.heap.size → W'.heap[g]? = W.heap[g]?) : W'.ownsRow base 27 4 v n xs := by
  rcases h with ⟨h0, h1 | ⟨g, cap, cur, h1, h2, h3, h4⟩⟩
  · exact ⟨h0, Or.inl h1⟩
  · exact ⟨h0, Or.inr ⟨g, cap, cur, h1, h2, by rw [hb g (Array.getElem?_eq_some_iff.1 h3).1]; exact h3, h4⟩⟩
/-- 'append([]api.Item{}, x...)'. -/
theorem it_app0 {base g : Nat} {W : World} {m c : Nat} {news : List Value} {q : Option Addr} (hg : base ≤ g) (hg2 : W.heap[g]? = some (.cells #[] 27 (0, 0))) (hl : news.length = m * 4) (hq : m = 0 ∨ ∃ b o, q = some ⟨b, o, none⟩ ∧ ∀ j u, news[j]? = some u → W.cell? ⟨b, o + j, none⟩ = some u) (h1 : ∀ u ∈ news, u.oneCell' = true) (hn : m ≤ 1000000) (hb : base ≤ W.heap.size) :
    ∃ v' W', (Builtin.append_ #[25, 25] 25 #[.slice (some ⟨g, 0, none⟩) 0 0, .slice q m c]).run Tryd.prog W = .ok v' W' ∧ W'.ownsRow base 27 4 v' m news ∧ Below W.heap.size W W' := by
  obtain ⟨i, hi, he⟩ := Option.map_eq_some_iff.1 infoI
  simp only [Prod.mk.injEq] at he
  obtain ⟨h2, h3, h4⟩ := he
  obtain ⟨z, hz, hz2⟩ := Option.map_eq_some_iff.1 h4
  have hown : W.ownsRow base 27 4 (.slice (some ⟨g, 0, none⟩) 0 0) 0 [] := ⟨rfl, .inr ⟨g, 0, #[], rfl, hg, hg2, Nat.le_refl _, Nat.zero_le _, rfl, rfl⟩⟩
  by_cases h0 : m = 0
  · subst h0
    obtain rfl : news = [] := List.length_eq_zero_iff.1 (by simpa using hl)
    have hs : Src Tryd.prog i.size 25 (.slice q 0 c) 0 [] W := by
      cases q with
      | none => exact Src.ofNil (e' := 27) _ undI c
      | some a => exact Src.ofSlice (e' := 27) _ undI a 0 c [] (by simp) (fun j u hj => by simp at hj) (fun u hu => by cases hu)
    have hap := run_append_room_src (P := Tryd.prog) W 25 25 25 27 i undI hi g 0 0 0 (.slice q 0 c) 0 [] hs (Nat.le_refl _) (fun j hj => by cases hj) (fun j hj => by cases hj)
    exact ⟨_, _, hap, hown, Below.refl _ _⟩
  · obtain ⟨v', W', r1, r2, r3⟩ := it_app (c := c) hown hl hq h1 (by omega) hb
    rw [Nat.zero_add, List.nil_append] at r2
    refine ⟨v', W', r1, r2, ?_⟩
    rcases hq with h | ⟨b, o, rfl, hc⟩
    · exact absurd h h0
    have hs : Src Tryd.prog i.size 25 (.slice (some ⟨b, o, none⟩) m c) m news W := Src.ofSlice (e' := 27) _ undI ⟨b, o, none⟩ m c news (by rw [hl, h2]) (fun j u hj => by rw [addS0]; exact hc j u hj) h1
    have hh1 := nextcap_le (0 + m) 0 (by omega)
    have hh2 : Builtin.nextslicecap (0 + m) 0 * i.bytes ≤ (2 * (0 + m) + 768) * 64 := by rw [h3]; exact Nat.mul_le_mul_right _ hh1
    have hap := run_append_grow_src (P := Tryd.prog) W 25 25 25 27 i z undI hi hz (some ⟨g, 0, none⟩) 0 0 [] (by
      unfold Builtin.firstCells
      rw [Nat.zero_mul]
      rfl) (.slice (some ⟨b, o, none⟩) m c) m news hs (by omega) (by omega) (Nat.le_trans hh2 (by clear hh1 hh2; omega))
    rw [hap] at r1
    injection r1 with e1 e2
    rw [← e2]
    exact (⟨rfl, rfl, rfl, Nat.le_refl _, fun _ _ => rfl⟩ : Below W.heap.size W W.drew).trans ((Below.refl _ W.drew).alloc (Nat.le_refl _) _)
theorem sc_other (g k : Nat) (h : k ≠ g) : ∀ (vs : List Value) (o : Nat) (w : World), (w.setCells g o vs).heap[k]? = w.heap[k]?
  | [], _, _ => rfl
  | v :: r, o, w => (sc_other g k h r (o + 1) _).trans (blk_other _ _ _ _ h)
theorem sc_lt (g : Nat) (vs : List Value) (w : World) (h : g < w.heap.size) : g < (w.setCells g 0 vs).heap.size := Nat.lt_of_lt_of_le h (RG.below_setCells (B := g) (Nat.le_refl _) vs 0 w ⟨rfl, rfl, rfl, Nat.le_refl _, fun _ _ => rfl⟩ |>.size |> fun h => h)
theorem four_one (k : Int) (n : Nat) (q : Option Addr) (a b : Nat) (q' : Option Addr) (a' b' : Nat) : (#[Value.int .i64 k, .int .u64 (n : Int), .slice q a b, .slice q' a' b'] : Array Value).all (·.oneCell') = true := by kernel_rfl
/-- A row of one's own, cut in two. -/
theorem st_cut {base n d mm c3 : Nat} {W : World} {q3 : Option Addr} {cs : List Value} (h : W.ownsRow base 27 4 (.slice q3 n c3) n cs) (hd : d + mm = n) :
    ∃ q7 c7, (∀ X : World, (Instr.sliceAt 25 (.slice q3 n c3) (some (.int .i64 (d : Int))) none none).run Tryd.prog X = .ok (.slice q7 mm c7) X) ∧ (mm = 0 ∨ ∃ b o, q7 = some ⟨b, o, none⟩ ∧ b < W.heap.size ∧ ∀ j u, (cs.drop (d * 4))[j]? = some u → W.cell? ⟨b, o + j, none⟩ = some u) ∧
      (∀ X : World, (Instr.sliceAt 25 (.slice q3 n c3) none (some (.int .i64 (d : Int))) none).run Tryd.prog X = .ok (.slice q3 d c3) X) ∧ (d = 0 ∨ ∃ b o, q3 = some ⟨b, o, none⟩ ∧ b < W.heap.size ∧ ∀ j u, (cs.take (d * 4))[j]? = some u → W.cell? ⟨b, o + j, none⟩ = some u) := by
  rcases own_cells h with ⟨h0, h1, h2⟩ | ⟨g, cap, h1, h2, h3, h4, h5, h6⟩
  · injection h1 with e1 e2 e3
    subst e1 e3 h0
    obtain rfl : d = 0 := by omega
    obtain rfl : mm = 0 := by omega
    exact ⟨none, 0, fun X => slI_n2 X, Or.inl rfl, fun X => slI_n1 X, Or.inl rfl⟩
  · injection h1 with e1 e2 e3
    subst e1 e3
    obtain ⟨o', h7, h8⟩ := slI_lo g 0 n c3 d (by omega) h4
    have e : n - d = mm := by omega
    rw [e] at h7
    refine ⟨some ⟨g, o', none⟩, c3 - d, h7, ?_, fun X => slI_hi g 0 n c3 d (by omega) X, ?_⟩
    · by_cases hm : mm = 0
      · exact Or.inl hm
      · refine Or.inr ⟨g, o', rfl, h3, fun j u hj => ?_⟩
        rw [List.getElem?_drop] at hj
        rw [h8 (by omega), Nat.zero_add]
        exact h6 _ _ hj
    · by_cases hm : d = 0
      · exact Or.inl hm
      · refine Or.inr ⟨g, 0, rfl, h3, fun j u hj => ?_⟩
        rw [List.getElem?_take] at hj
        split at hj
        · rw [Nat.zero_add]; exact h6 _ _ hj
        · cases hj
/-- A text's bytes, not in block g. -/
def DBn (w : World) (base : Nat) (v : Value) (s : ByteArray) (g : Nat) : Prop := ∃ (gd cap : Nat) (cs : Array Value) (fz : Nat × Nat), v = .slice (some ⟨gd, 0, none⟩) s.size cap ∧ s.size ≤ cap ∧ (gd ≠ g ∧ base ≤ gd) ∧ w.heap[gd]? = some (.cells cs 5 fz) ∧ ∀ (j : Nat) (u : UInt8), s.data.toList[j]? = some u → cs[j]? = some (Value.int .u8 (u.toNat : Int))
theorem DBn.keep {w w' : World} {base : Nat} {v : Value} {s : ByteArray} {g : Nat} (h : DBn w base v s g) (hb : ∀ k, k < w.heap.size → k ≠ g → w'.heap[k]? = w.heap[k]?) : DBn w' base v s g := by
  obtain ⟨gd, cap, cs, fz, h1, h2, h3, h4, h5⟩ := h
  exact ⟨gd, cap, cs, fz, h1, h2, h3, by rw [hb gd (Array.getElem?_eq_some_iff.1 h4).1 h3.1]; exact h4, h5⟩
theorem DBn.pbb {w W : World} {base B : Nat} {v : Value} {s : ByteArray} {g : Nat} (h : DBn w base v s g) (hB : B ≤ base) (hW : ∀ k, B ≤ k → k < w.heap.size → W.heap[k]? = w.heap[k]?) : PBb W w.heap.size v s.data.toList := by
  obtain ⟨gd, cap, cs, fz, h1, h2, h3, h4, h5⟩ := h
  have hlt := (Array.getElem?_eq_some_iff.1 h4).1
  have hl : s.data.toList.length = s.size := by rw [Array.length_toList]; rfl
  refine ⟨some ⟨gd, 0, none⟩, cap, by rw [hl]; exact h1, by rw [hl]; exact h2, Or.inr ⟨gd, 0, rfl, hlt, fun j u hj => ?_⟩⟩
  have := h5 j u hj
  have h4' := (hW gd (Nat.le_trans hB h3.2) hlt).trans h4
  unfold World.cell?
  simp only [h4', Nat.zero_add]
  exact this
/-- Items' cells, whatever lies below base. -/
def ICQ (base : Nat) (w : World) (l : List Itm) (cs : List Value) : Prop := ∀ W : World, (∀ k, base ≤ k → k < w.heap.size → W.heap[k]? = w.heap[k]?) → IC W w.heap.size l cs
def IMQ (base : Nat) (w : World) (i : Itm) (vd vl : Value) : Prop := ∀ W : World, (∀ k, base ≤ k → k < w.heap.size → W.heap[k]? = w.heap[k]?) → InM W w.heap.size i vd vl
theorem ICQ.up {base : Nat} {w w' : World} {l : List Itm} {cs : List Value} (h : ICQ base w l cs) (hb : Below w.heap.size w w') : ICQ base w' l cs := fun W hW => IC.mono hb.size (h W fun k h1 h2 => (hW k h1 (Nat.lt_of_lt_of_le h2 hb.size)).trans (hb.block k h2))
theorem IMQ.up {base : Nat} {w w' : World} {i : Itm} {vd vl : Value} (h : IMQ base w i vd vl) (hb : Below w.heap.size w w') : IMQ base w' i vd vl := fun W hW => InM.mono hb.size i _ _ (h W fun k h1 h2 => (hW k h1 (Nat.lt_of_lt_of_le h2 hb.size)).trans (hb.block k h2))
theorem own_upI {B B' n : Nat} {w2 : World} {v : Value} {xs : List Value} (h : w2.ownsRow B' 27 4 v n xs) (hB : B ≤ B') : w2.ownsRow B 27 4 v n xs := by
  rcases h with ⟨h0, h1 | ⟨g, cap, cur, h1, h2, h3⟩⟩
  · exact ⟨h0, Or.inl h1⟩
  · exact ⟨h0, Or.inr ⟨g, cap, cur, h1, Nat.le_trans hB h2, h3⟩⟩
/-- An item of a step, in memory. -/
theorem inm_step {w wr : World} {base B B' n mm gb : Nat} {k : Int} {s : ByteArray} {l : List Itm} {cs : List Value} {vd : Value} {q8 : Option Addr} {c8 : Nat} (hn : n < 18446744073709551616) (hs : s.size ≤ 4611686018427387904) (hD : DBn w B' vd s gb) (hl : l.length = mm) (hm : mm ≤ 256) (hI : ICQ base wr l cs) (hb : Below wr.heap.size wr w) (h8 : w.ownsRow B 27 4 (.slice q8 mm c8) mm cs) (hB : base ≤ B) (hB' : base ≤ B') : IMQ base w (.mk k n s.data.toList l) vd (.slice q8 mm c8) := fun W hW => by
  rw [InM]
  refine ⟨hn, by rw [Array.length_toList]; exact hs, by omega, hD.pbb hB' hW, q8, c8, by rw [hl], ?_⟩
  rcases own_cells h8 with ⟨h0, -⟩ | ⟨g, cap, h1, h2, h3, -, -, h6⟩
  · exact Or.inl (List.length_eq_zero_iff.1 (by omega))
  · injection h1 with e1 _ _
    exact Or.inr ⟨g, 0, e1, h3, IC.inl 0 (hI.up hb W hW) fun j u hj => by
      rw [Nat.zero_add, World.cell?_of_block (a := ⟨g, j, none⟩) (hW g (Nat.le_trans hB h2) h3)]; exact h6 j u hj⟩
theorem results_cellI {P : Program} {fn : Func} {tmps : Array Value} {W : World} {k : Nat} {vs : List Value} (t : Tmp) (T : TypeId) (hr : fn.results = #[.cell t T]) (h : RowS W k vs) (ht : tmps[t]? = some (.pointer (some ⟨k, 0, none⟩)))
    (hu : (P.underlying T).map (·.isRow) = some true) (hi : (P.info? T).map (·.size) = some vs.length) : (results fn tmps).run P W = .ok (.agg vs.toArray) W := by
  obtain ⟨d, hu, hd⟩ := Option.map_eq_some_iff.1 hu
  have h1 := run_loadVar_mid (P := P) W k 0 T vs d h.2.1 hu hd hi
  have h2 : tmps.getD t undef = .pointer (some ⟨k, 0, none⟩) := by rw [Array.getD_eq_getD_getElem?, ht]; rfl
  unfold results
  rw [hr]
  simp only [Array.mapM_eq_mapM_toList, List.mapM_cons, List.mapM_nil, h2, asAddr]
  simp [Sem.run_bind, h1]
theorem isz27 : (Tryd.prog.info? 27).map (·.size) = some 4 := by kernel_rfl
theorem urw27 : (Tryd.prog.underlying 27).map (·.isRow) = some true := by kernel_rfl
/-- The values of region 12. -/
def G12 (gb : Nat) (v3 : Value) (n3 mm d : Nat) (v7 : Value) (cs : List Value) (w0 : World) : RX.Gw where
  R i v w := if i = 8 then w.ownsRow w0.heap.size 27 4 v mm cs else v = ([.pointer (some ⟨gb, 3, none⟩), .slice none 0 0, v3, v3, .int .i64 (n3 : Int), .int .i64 (mm : Int), .int .i64 (d : Int), v7, undef, .pointer (some ⟨gb, 3, none⟩)] : List Value).getD i undef
  B w := Below w0.heap.size w0 w
  sR i v w w' hb h := by
    by_cases e : i = 8
    · rw [if_pos e] at h ⊢; exact own_atI h (fun g hg => hb.block g hg)
    · rw [if_neg e] at h ⊢; exact h
  sB w w' hb h := h.trans (hb.mono h.size)
def mem13 (i : Nat) : Bool := i == 0 || i == 7 || i == 9 || i == 10 || i == 11
def R13 (base d : Nat) (cs it : List Value) (i : Nat) (v : Value) (w : World) : Prop :=
  if i = 0 then ∃ g, v = .slice (some ⟨g, 0, none⟩) 0 0 ∧ base ≤ g ∧ w.heap[g]? = some (.cells #[] 27 (0, 0))
  else if i = 7 then w.ownsRow base 27 4 v d cs
  else if i = 9 then ∃ g, v = .slice (some ⟨g, 0, none⟩) 1 1 ∧ BXi w base g it
  else w.ownsRow base 27 4 v (d + 1) (cs ++ it)
theorem R13.below {base d : Nat} {cs it : List Value} {i : Nat} {v : Value} {w w' : World} (h : R13 base d cs it i v w) (hb : Below w.heap.size w w') : R13 base d cs it i v w' := by
  unfold R13 at h ⊢
  by_cases e0 : i = 0
  · rw [if_pos e0] at h ⊢
    obtain ⟨g, h1, h2, h3⟩ := h
    exact ⟨g, h1, h2, by rw [hb.block g (Array.getElem?_eq_some_iff.1 h3).1]; exact h3⟩
  · rw [if_neg e0] at h ⊢
    by_cases e7 : i = 7
    · rw [if_pos e7] at h ⊢; exact own_atI h (fun g hg => hb.block g hg)
    · rw [if_neg e7] at h ⊢
      by_cases e9 : i = 9
      · rw [if_pos e9] at h ⊢
        obtain ⟨g, h1, h2⟩ := h
        exact ⟨g, h1, h2.below hb⟩
      · rw [if_neg e9] at h ⊢; exact own_atI h (fun g hg => hb.block g hg)
/-- Region 13. -/
def F13 (w0 : World) (ks : List Value) (d : Nat) (cs it : List Value) : RX.Flow where
  R i v w := if mem13 i = true then R13 w0.heap.size d cs it i v w else v = ks.getD i undef
  B _ w := Below w0.heap.size w0 w
  E i w w' := if i = 10 then Below w0.heap.size w w' else Below w.heap.size w w'
  kill i := if mem13 i && decide (i < 10) then [10] else []
  killB _ := []
theorem F13.reg {P : Program} {ops : Array Oper} {Q : Exit → Act → World → Prop} {a0 : Act} {w0 : World} {ks : List Value} {d : Nat} {cs it : List Value} (hs : ops.size = 12) (hd : RX.depOn ops 11 10 = true) (hc : RX.chkF ops a0.tmps.size = true) (h : RX.CertsF P Q (F13 w0 ks d cs it) ops a0 0 (ops.toList.take ops.size)) : RX.RegF P Q (F13 w0 ks d cs it) ops a0 ops.size := by
  refine ⟨hc, RX.certs_but h, fun i j hi hj hij hk hdp v w w' hE hR => ?_, fun i b hi hk w w' hE hB => ?_⟩
  · show (if mem13 j = true then R13 w0.heap.size d cs it j v w' else v = ks.getD j undef)
    have hR' : (if mem13 j = true then R13 w0.heap.size d cs it j v w else v = ks.getD j undef) := hR
    by_cases hm : mem13 j = true
    · rw [if_pos hm] at hR' ⊢
      have hE' : (if i = 10 then Below w0.heap.size w w' else Below w.heap.size w w') := hE
      by_cases h10 : i = 10
      · exfalso
        subst h10
        by_cases hj10 : j < 10
        · have hk' : ((if mem13 j && decide (j < 10) then [10] else []) : List Nat).contains 10 = false := hk
          rw [hm, decide_eq_true hj10] at hk'
          simp at hk'
        · obtain rfl : j = 11 := by omega
          rw [hd] at hdp; cases hdp
      · rw [if_neg h10] at hE'
        exact hR'.below hE'
    · rw [if_neg hm] at hR' ⊢; exact hR'
  · have hE' : (if i = 10 then Below w0.heap.size w w' else Below w.heap.size w w') := hE
    have hB' : Below w0.heap.size w0 w := hB
    show Below w0.heap.size w0 w'
    split at hE'
    · exact hB'.trans hE'
    · exact hB'.trans (hE'.mono hB'.size)
end WI
end Go.Proofs.YtfkgfcggcfkkiaaDoor
