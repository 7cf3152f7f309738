import Derived.Test.YtfkgfcggcfkkiaaDoorwk5
set_option linter.unusedVariables false
set_option linter.unusedSimpArgs false
namespace Go.Proofs.YtfkgfcggcfkkiaaDoor
open Go.RowKit Go.Sort Go.Deep
namespace WI
variable {T : World → Prop} {u : List UInt8 → Bool}
/-- The last key, of any number of places. -/
def lke : List UInt8 → List (List UInt8) → List UInt8
  | _, k :: _ :: r => lke k r
  | _, [k] => k
  | a, [] => a
theorem lke_snoc (x : List UInt8) : ∀ (L : List (List UInt8)) (a : List UInt8), lke a (L ++ [x]) = (if L.length % 2 = 0 then x else lke a L) ∧ rise a (L ++ [x]) = (rise a L && (if L.length % 2 = 0 then ltB (lke a L) x else true))
  | [], a => by simp [lke, rise]
  | [y], a => by simp [lke, rise]
  | y :: z :: r, a => by
    have ih := lke_snoc x r y
    have e : (y :: z :: r).length % 2 = r.length % 2 := by simp only [List.length_cons]; omega
    rw [List.cons_append, List.cons_append, lke, lke, rise, rise, ih.1, ih.2, e, Bool.and_assoc]
    exact ⟨rfl, rfl⟩
theorem rise_pre (m : List (List UInt8)) : ∀ (L : List (List UInt8)) (a : List UInt8), rise a (L ++ m) = true → rise a L = true
  | [], a, _ => by simp [rise]
  | [y], a, h => by
    cases m with
    | nil => simpa using h
    | cons z r =>
      rw [List.cons_append, List.nil_append, rise, Bool.and_eq_true] at h
      rw [rise]; exact h.1
  | y :: z :: r, a, h => by
    rw [List.cons_append, List.cons_append, rise, Bool.and_eq_true] at h
    rw [rise, Bool.and_eq_true]
    exact ⟨h.1, rise_pre m r y h.2⟩
theorem leB : ∀ x y : List UInt8, (Op.bytesLess x y || x == y) = !ltB y x
  | [], [] => by simp [Op.bytesLess, ltB]
  | [], _ :: _ => by simp [Op.bytesLess, ltB]
  | _ :: _, [] => by simp [Op.bytesLess, ltB]
  | a :: x, b :: y => by
    have ih := leB x y
    unfold Op.bytesLess ltB
    by_cases h1 : a < b
    · have h2 : ¬ b < a := by rw [UInt8.lt_iff_toNat_lt] at h1 ⊢; omega
      have h3 : ¬ b = a := by rintro rfl; exact h2 h1
      simp [h1, h2, h3]
    · by_cases h3 : a = b
      · subst h3
        simp only [h1, decide_false, Bool.false_or, beq_self_eq_true, Bool.true_and, if_false, if_true, List.cons_beq_cons]
        exact ih
      · have h2 : b < a := by
          have : a.toNat ≠ b.toNat := fun e => h3 (UInt8.toNat_inj.1 e)
          rw [UInt8.lt_iff_toNat_lt] at h1 ⊢
          omega
        simp [h1, h2, h3]
/-- What write's loop keeps. -/
structure RLo (k : Int) (wb : World) (l : List Itm) (H : List UInt8) (j : Nat) (w' : World) : Prop where
  hj : j ≤ l.length
  bl : Below wb.heap.size wb w'
  ok : wrbs (l.take j) = true
  ri : k = 5 → rise [] (byts (l.take j)) = true
  ln : H.length + (byts (l.take j)).flatten.length ≤ 65536
theorem RLo.next {k : Int} {wb w1 w2 : World} {l : List Itm} {H : List UInt8} {j : Nat} {i : Itm} (L : RLo k wb l H j w1) (hi : l[j]? = some i) (hb : Below w1.heap.size w1 w2) (hv : wrb i = true) (hr : k = 5 → j % 2 = 0 → ltB (lke [] (byts (l.take j))) (byt i) = true) (hn : (H ++ (byts (l.take j)).flatten).length + (byt i).length ≤ 65536) : RLo k wb l H (j + 1) w2 ∧ H ++ (byts (l.take j)).flatten ++ byt i = H ++ (byts (l.take (j + 1))).flatten := by
  have hj1 := (List.getElem?_eq_some_iff.1 hi).1
  have e := take_s l j i hi
  have hl : (byts (l.take j)).length = j := by rw [byts_length, List.length_take]; omega
  have eb : byts (l.take (j + 1)) = byts (l.take j) ++ [byt i] := by rw [e, byts_append]; rfl
  refine ⟨⟨by omega, L.bl.trans (hb.mono L.bl.size), ?_, fun h5 => ?_, ?_⟩, ?_⟩
  · rw [e, wrbs_append, L.ok]; simp [wrbs, hv]
  · rw [eb, (lke_snoc _ _ _).2, L.ri h5, hl]
    by_cases h2 : j % 2 = 0
    · rw [if_pos h2, hr h5 h2]; rfl
    · rw [if_neg h2]; rfl
  · rw [eb, flat_snoc]; simp only [List.length_append] at hn ⊢; omega
  · rw [eb, flat_snoc, List.append_assoc]
theorem RLo.bad {k : Int} {wb w1 : World} {l : List Itm} {H : List UInt8} {j : Nat} {i : Itm} (hk : k = 4 ∨ k = 5) (n : Nat) (d : List UInt8) (hH : byt (.mk k n d l) = H ++ (byts l).flatten) (L : RLo k wb l H j w1) (hi : l[j]? = some i) (h : wrb i = false ∨ 65536 < (H ++ (byts (l.take j)).flatten).length + (byt i).length ∨ (k = 5 ∧ j % 2 = 0 ∧ ltB (lke [] (byts (l.take j))) (byt i) = false)) : wrb (.mk k n d l) = false := by
  have hj1 := (List.getElem?_eq_some_iff.1 hi).1
  have e := take_s l j i hi
  have el : l.take j ++ ([i] ++ l.drop (j + 1)) = l := by rw [← List.append_assoc, ← e, List.take_append_drop]
  rw [wrb, if_pos hk, hH]
  rcases h with h | h | ⟨h5, h2, h⟩
  · have : wrbs l = false := by rw [← el, wrbs_append, wrbs_append]; simp [wrbs, h]
    rw [this]; rfl
  · have : ¬ (H ++ (byts l).flatten).length ≤ 65536 := by
      have eb : byts l = byts (l.take j) ++ ([byt i] ++ byts (l.drop (j + 1))) := by
        have e2 := congrArg byts el
        rw [byts_append, byts_append] at e2
        exact e2.symm
      rw [eb]
      simp only [List.length_append, List.flatten_append, List.flatten_cons, List.flatten_nil, List.append_nil] at h ⊢
      omega
    rw [decide_eq_false this, Bool.and_false]
  · have : rise [] (byts l) = false := by
      have eb : byts l = (byts (l.take j) ++ [byt i]) ++ byts (l.drop (j + 1)) := by
        have e2 := congrArg byts el
        rw [byts_append, byts_append, ← List.append_assoc] at e2
        exact e2.symm
      have hl : (byts (l.take j)).length = j := by rw [byts_length, List.length_take]; omega
      cases hr : rise [] (byts l) with
      | false => rfl
      | true =>
        rw [eb] at hr
        have := rise_pre _ _ _ hr
        rw [(lke_snoc _ _ _).2, hl, if_pos h2, h, Bool.and_false] at this
        exact absurd this (by decide)
    rw [this, h5]; simp
set_option maxHeartbeats 1000000 in
set_option maxRecDepth 20000 in
theorem rw4 (n : Nat) (d : List UInt8) (l : List Itm) (hI : ∀ i ∈ l, RwS i) : RwS (.mk 4 n d l) := by
  intro w qd dl cd ql m cl hM
  rw [InM] at hM
  obtain ⟨hn64, hd62, hl60, hpd, q', c', hq', hin⟩ := hM
  show Calls Tryd.prog 31 #[itv 4 n qd dl cd ql m cl] w _
  unfold itv
  obtain ⟨rfl, hdc⟩ : dl = d.length ∧ d.length ≤ cd := by
    obtain ⟨qq, cc, e, hcc, -⟩ := hpd
    obtain ⟨rfl, rfl, rfl⟩ : qd = qq ∧ dl = d.length ∧ cd = cc := by simpa using e
    exact ⟨rfl, hcc⟩
  obtain ⟨rfl, rfl, rfl⟩ : ql = q' ∧ m = l.length ∧ cl = c' := by simpa using hq'
  obtain ⟨wb, hwb⟩ : ∃ wb, Hid (w.alloc (.cells #[.int .i64 4, .int .u64 (n : Int), .slice qd d.length cd, .slice ql l.length cl] 27) = wb) := ⟨_, rfl⟩
  have hb0 : Hid (Below w.heap.size w wb) := by rw [← hwb.out]; exact alloc_below _ _
  have bx : Hid (∀ w1, Below wb.heap.size wb w1 → w1.cell? ⟨w.heap.size, 0, none⟩ = some (.int .i64 4) ∧ w1.cell? ⟨w.heap.size, 1, none⟩ = some (.int .u64 (n : Int)) ∧ w1.cell? ⟨w.heap.size, 2, none⟩ = some (.slice qd d.length cd) ∧ w1.cell? ⟨w.heap.size, 3, none⟩ = some (.slice ql l.length cl) ∧ w.heap.size < w1.heap.size) := fun w1 hb => by
    have hz : ∀ j v, ([.int .i64 4, .int .u64 (n : Int), .slice qd d.length cd, .slice ql l.length cl] : List Value)[j]? = some v → w1.cell? ⟨w.heap.size, j, none⟩ = some v := fun j v hj => by
      have := al_c w #[.int .i64 4, .int .u64 (n : Int), .slice qd d.length cd, .slice ql l.length cl] 27 _ j v rfl (by simpa using hj)
      rw [hwb.out] at this
      rw [hb.cell (p := ⟨w.heap.size, j, none⟩) (World.block_lt_of_cell? _ _ this)]
      exact this
    exact ⟨hz 0 _ rfl, hz 1 _ rfl, hz 2 _ rfl, hz 3 _ rfl, World.block_lt_of_cell? _ _ (hz 0 _ rfl)⟩
  obtain ⟨M, hM⟩ : ∃ M, Hid (M = l.length) := ⟨_, rfl⟩
  have hby : Hid (byt (.mk 4 n d l) = hd 4 M ++ (byts l).flatten) := by show _ = _; rw [hM.out]; simp [byt]
  have hc : Calls Tryd.prog 47 #[.int .i64 4, .int .u64 (M : Int)] wb _ := rhead_c wb 4 M (by decide) (by rw [hM.out]; omega)
  have h9 := hidW (hd_le 4 M)
  obtain ⟨H, hH⟩ : ∃ H, Hid (hd 4 M = H) := ⟨_, rfl⟩
  rw [hH.out] at hc hby h9
  have hFF : Hid (∀ w' s, wrb (.mk 4 n d l) = false → Below wb.heap.size wb w' → RwR w (.mk 4 n d l) (.tuple #[.string s, .bool false]) w') := fun w' s h hw' => ⟨hb0.out.trans (hw'.mono hb0.out.size), Or.inr ⟨h, s, rfl⟩⟩
  have hTT : Hid (∀ w' S, RLo 4 wb l H l.length w' → S = (⟨(H ++ (byts (l.take l.length)).flatten).toArray⟩ : ByteArray) → RwR w (.mk 4 n d l) (.tuple #[.string S, .bool true]) w') := fun w' S L hS => by
    have h1 := L.ok
    have h2 := L.ri
    have h3 := L.ln
    rw [List.take_length] at h1 h2 h3 hS
    refine ⟨hb0.out.trans (L.bl.mono hb0.out.size), Or.inl ⟨?_, by rw [hby.out, hS]⟩⟩
    rw [wrb, if_pos (by decide), h1, hby.out, decide_eq_true (by rw [List.length_append]; exact h3)]
    rfl
  have HE : Hid (∀ w1 j, RLo 4 wb l H j w1 → ∀ i, l[j]? = some i → ∃ b off qd' dl' cd' ql' ml' cl', ql = some ⟨b, off, none⟩ ∧ b < w1.heap.size ∧ CeI w1 b (off + j * 4) i (.slice qd' dl' cd') (.slice ql' ml' cl') ∧ Calls Tryd.prog 31 #[itv i.k i.n qd' dl' cd' ql' ml' cl'] w1 (RetW (RwR w1 i))) := fun w1 j L i hi => by
    rcases hin with hn | ⟨b, off, rfl, hbb, hL⟩
    · rw [hn] at hi; cases hi
    · have hbw : Below w.heap.size w w1 := hb0.out.trans (L.bl.mono hb0.out.size)
      obtain ⟨vd, vl, hC, hM2⟩ := InL.get l off j i (InL.at (fun k hk => hbw.block k hk) l b off hbb hL) hi
      obtain ⟨qd', dl', cd', ql', ml', cl', rfl, rfl⟩ := hM2.form
      exact ⟨b, off, qd', dl', cd', ql', ml', cl', rfl, Nat.lt_of_lt_of_le hbb hbw.size, hC, hI i (List.mem_of_getElem? hi) w1 qd' dl' cd' ql' ml' cl' (InM.mono hbw.size i _ _ hM2)⟩
  obtain ⟨m, hm⟩ : ∃ m, Hid (l.length = m) := ⟨_, rfl⟩
  have hm60 : m ≤ 1152921504606846976 := by rw [← hm.out]; exact hl60
  rw [hm.out] at bx hwb hM hTT ⊢
  obtain rfl : m = M := hM.out.symm
  clear hpd hin hq' hd62 hdc hl60 hI
  go_enter Tryd.func31, Tryd.ntmps31
  go_wp2_with fail
  rw [hwb.out]
  refine hc.mono ?_
  rintro e w1 ⟨v1, rfl, hb1, rfl⟩
  have HB1 := hidW hb1
  obtain ⟨i0, i1, i2, i3, hil⟩ := bx.out w1 hb1
  obtain ⟨O0, hO0⟩ : ∃ S, Hid ((⟨H.toArray⟩ : ByteArray) = S) := ⟨_, rfl⟩
  rw [hO0.out]
  clear hb1 hc
  go_wp2
  go_loopg [6, 7, 8] (m + 1) (fun gk s6 s7 s8 wr => ∃ (j : Nat) (O LK : ByteArray), s8 = .int .i64 (j : Int) ∧ s6 = .string O ∧ s7 = .string LK ∧ Hid (O = ⟨(H ++ (byts (l.take j)).flatten).toArray⟩) ∧ Hid (True) ∧ gk = m + 1 - j ∧ RLo 4 wb l H j wr)
  case atStart => exact ⟨0, O0, ⟨#[]⟩, rfl, rfl, rfl, (by show _ = _; rw [← hO0.out, List.take_zero, byts]; simp), trivial, rfl, Nat.zero_le _, HB1.out, (by rw [List.take_zero]; rfl), (fun _ => by rw [List.take_zero]; rfl), (by rw [List.take_zero, byts]; have := h9.out; simp; omega)⟩
  case round =>
    obtain ⟨j, O, LK, rfl, rfl, rfl, hO, hLK, hgk, L⟩ := hrel
    have hjm : j ≤ m := by rw [← hm.out]; exact L.hj
    obtain ⟨i0, i1, i2, i3, hil⟩ := bx.out wr L.bl
    have hOs : Hid (O.size = (H ++ (byts (l.take j)).flatten).length) := by show _ = _; rw [hO.out]; simp [ByteArray.size]
    have hOb : O.size ≤ 65536 := by have := L.ln; rw [hOs.out, List.length_append]; exact this
    by_cases hj : j < m
    · obtain ⟨i, hi⟩ : ∃ i, l[j]? = some i := ⟨_, List.getElem?_eq_getElem (by rw [hm.out]; exact hj)⟩
      obtain ⟨b, off, qd', dl', cd', ql', ml', cl', rfl, hbl, ⟨c0, c1, c2, c3⟩, hc⟩ := HE.out wr j L i hi
      have hjz : (j : Int) < (m : Int) := by omega
      have hix := fun w => idxI b off m cl j hj w
      have HL := hidW (And.intro L hi)
      clear L hi
      go_wp2_with fail
      refine hc.mono ?_
      rintro e w3 ⟨v3, rfl, hb3, hr3⟩
      have HB3 := hidW (HL.out.1.bl.trans (hb3.mono HL.out.1.bl.size))
      obtain ⟨i0', i1', i2', i3', hil'⟩ := bx.out w3 HB3.out
      have Hb3 := hidW hb3
      clear i0 i1 i2 i3 hil c0 c1 c2 c3 hb3
      rcases hr3 with ⟨hv3, rfl⟩ | ⟨hv3, s3, rfl⟩
      · have hlen := wrb_len i hv3
        obtain ⟨S, hS⟩ : ∃ S, Hid ((⟨(byt i).toArray⟩ : ByteArray) = S) := ⟨_, rfl⟩
        have hSs : Hid (S.size = (byt i).length) := by show _ = _; rw [← hS.out]; simp [ByteArray.size]
        have hSb : S.size ≤ 65536 := by rw [hSs.out]; exact hlen
        rw [hS.out]
        have hv3' := hidW hv3
        clear hv3 hlen hc
        obtain ⟨N, hN⟩ : ∃ N, Hid (O.size + S.size = N) := ⟨_, rfl⟩
        have hNs : (O.size : Int) + (S.size : Int) = (N : Int) := by rw [← hN.out]; omega
        have hNb : N ≤ 131072 := by rw [← hN.out]; omega
        by_cases hg : 65536 < N
        · have gz : (65536 : Int) < (N : Int) := by omega
          have HQ := hidW (hFF.out w3 ⟨#[]⟩ (HL.out.1.bad (by decide) n d hby.out HL.out.2 (Or.inr (Or.inl (by rw [← hOs.out, ← hSs.out, hN.out]; exact hg)))) HB3.out)
          go_wp2
          go_ret2
          exact ⟨_, rfl, HQ.out⟩
        · have gz : ¬ (65536 : Int) < (N : Int) := by omega
          have gzb : decide ((65536 : Int) < (N : Int)) = false := decide_eq_false gz
          have hcs : O.size + S.size ≤ 9223372036854775807 := by omega
          have HNX : Hid ((4 = (5 : Int) → j % 2 = 0 → ltB (lke [] (byts (l.take j))) (byt i) = true) → RLo 4 wb l H (j + 1) w3 ∧ O ++ S = ⟨(H ++ (byts (l.take (j + 1))).flatten).toArray⟩) := fun hr => by
            obtain ⟨h1, h2⟩ := HL.out.1.next HL.out.2 Hb3.out hv3'.out hr (by rw [← hOs.out, ← hSs.out, hN.out]; omega)
            exact ⟨h1, cat_eq _ _ _ hO.out hS.out.symm h2⟩
          go_wp2
          go_roundg (m + 1 - (j + 1))
          case measure => omega
          case rel => exact ⟨j + 1, O ++ S, LK, rfl, rfl, rfl, (HNX.out (fun h => absurd h (by decide))).2, trivial, rfl, (HNX.out (fun h => absurd h (by decide))).1⟩
      · have HQ := hidW (hFF.out w3 ⟨#[]⟩ (HL.out.1.bad (by decide) n d hby.out HL.out.2 (Or.inl hv3)) HB3.out)
        clear hc hv3
        go_wp2
        go_ret2
        exact ⟨_, rfl, HQ.out⟩
    · have hjz : ¬ (j : Int) < (m : Int) := by omega
      obtain rfl : j = m := by omega
      have HQ := hidW (hTT.out wr O L hO.out)
      clear L
      go_wp2
      go_ret2
      exact ⟨_, rfl, HQ.out⟩
end WI
end Go.Proofs.YtfkgfcggcfkkiaaDoor
namespace Go.Proofs.YtfkgfcggcfkkiaaDoor
open Go.RowKit Go.Sort Go.Deep
namespace WI
variable {T : World → Prop} {u : List UInt8 → Bool}
theorem ne0 (n : Nat) (h : ¬ n = 0) : ((n : Int) == 0) = false ∧ ¬ (n : Int) = 0 := ⟨(eq0 n h).1, by omega⟩
/-- What valid's loop keeps. -/
structure VLo (u : List UInt8 → Bool) (wb : World) (l : List Itm) (dp left j : Nat) (w' : World) : Prop where
  hj : j ≤ l.length
  bl : Below wb.heap.size wb w'
  ok : voks u (l.take j) (dp + 1) (left - 1)
theorem VLo.next {wb w1 w2 : World} {l : List Itm} {dp left j : Nat} {i : Itm} (L : VLo u wb l dp left j w1) (hi : l[j]? = some i) (hb : Below w1.heap.size w1 w2) (hv : vok u i (dp + 1) (left - (1 + cnts (l.take j)))) : VLo u wb l dp left (j + 1) w2 ∧ 1 + cnts (l.take j) + cnt i = 1 + cnts (l.take (j + 1)) := by
  have hj1 := (List.getElem?_eq_some_iff.1 hi).1
  have e := take_s l j i hi
  refine ⟨⟨by omega, L.bl.trans (hb.mono L.bl.size), ?_⟩, ?_⟩
  · rw [e, voks_snoc]
    exact ⟨L.ok, by rw [show left - 1 - cnts (l.take j) = left - (1 + cnts (l.take j)) by omega]; exact hv⟩
  · rw [e, cnts_append]; simp only [cnts]; omega
theorem VLo.bad {wb w1 : World} {l : List Itm} {dp left j : Nat} {i : Itm} (L : VLo u wb l dp left j w1) (hi : l[j]? = some i) (hv : ¬ vok u i (dp + 1) (left - (1 + cnts (l.take j)))) : ¬ voks u l (dp + 1) (left - 1) := fun h => hv (by
  have h2 : voks u (l.take (j + 1)) (dp + 1) (left - 1) := by
    refine voks_app u _ (l.drop (j + 1)) _ _ ?_
    rw [List.take_append_drop]; exact h
  rw [take_s l j i hi, voks_snoc] at h2
  rw [show left - (1 + cnts (l.take j)) = left - 1 - cnts (l.take j) by omega]
  exact h2.2)
set_option maxHeartbeats 1000000 in
set_option maxRecDepth 20000 in
theorem rv0 (hU : UV T u) (n : Nat) (d : List UInt8) (l : List Itm) (hI : ∀ i ∈ l, VSp T u i) (w : World) (qd : Option Addr) (cd : Nat) (ql : Option Addr) (cl : Nat) (dp left : Nat) (hT : T w) (hM : InM w w.heap.size (.mk 0 n d l) (.slice qd d.length cd) (.slice ql l.length cl)) (hdp : dp ≤ 16) (hlf : left ≤ 4096) (hl1 : 1 ≤ left) :
    Calls Tryd.prog 30 #[itv 0 n qd d.length cd ql l.length cl, .int .i64 (dp : Int), .int .i64 (left : Int)] w (RetW (VaR u w (.mk 0 n d l) dp left)) := by
  unfold itv
  have hM0 := hM
  rw [InM] at hM0
  obtain ⟨hn64, hd62, hl60, hpd, q', c', hq', hin⟩ := hM0
  obtain ⟨rfl, rfl⟩ : ql = q' ∧ cl = c' := by simpa using hq'
  have hdc : d.length ≤ cd := by
    obtain ⟨qq, cc, e, hcc, -⟩ := hpd
    obtain ⟨-, rfl⟩ : qd = qq ∧ cd = cc := by simpa using e
    exact hcc
  obtain ⟨wb, hwb⟩ : ∃ wb, Hid (w.alloc (.cells #[.int .i64 0, .int .u64 (n : Int), .slice qd d.length cd, .slice ql l.length cl] 27) = wb) := ⟨_, rfl⟩
  have hb0 : Hid (Below w.heap.size w wb) := by rw [← hwb.out]; exact alloc_below _ _
  have h2 := hU.2.1 w hT
  have hTb : T wb := hU.1 w _ hT (fun j hj => hb0.out.block j (by omega))
  have hUC := hU.2.2 wb qd d.length cd d hTb (hpd.pb.below hb0.out) hdc hd62
  have bx : Hid (∀ w1, Below wb.heap.size wb w1 → w1.cell? ⟨w.heap.size, 0, none⟩ = some (.int .i64 0) ∧ w1.cell? ⟨w.heap.size, 1, none⟩ = some (.int .u64 (n : Int)) ∧ w1.cell? ⟨w.heap.size, 2, none⟩ = some (.slice qd d.length cd) ∧ w1.cell? ⟨w.heap.size, 3, none⟩ = some (.slice ql l.length cl) ∧ w.heap.size < w1.heap.size) := fun w1 hb => by
    have hz : ∀ j v, ([.int .i64 0, .int .u64 (n : Int), .slice qd d.length cd, .slice ql l.length cl] : List Value)[j]? = some v → w1.cell? ⟨w.heap.size, j, none⟩ = some v := fun j v hj => by
      have := al_c w #[.int .i64 0, .int .u64 (n : Int), .slice qd d.length cd, .slice ql l.length cl] 27 _ j v rfl (by simpa using hj)
      rw [hwb.out] at this
      rw [hb.cell (p := ⟨w.heap.size, j, none⟩) (World.block_lt_of_cell? _ _ this)]
      exact this
    exact ⟨hz 0 _ rfl, hz 1 _ rfl, hz 2 _ rfl, hz 3 _ rfl, World.block_lt_of_cell? _ _ (hz 0 _ rfl)⟩
  have g1 : ¬ (left : Int) < 1 := by omega
  have g1b : decide ((left : Int) < 1) = false := decide_eq_false g1
  have g2 : ¬ (16 : Int) < (dp : Int) := by omega
  have g2b : decide ((16 : Int) < (dp : Int)) = false := decide_eq_false g2
  have hFF : Hid (own u 0 n d l.length = false → ∀ w', Below wb.heap.size wb w' → VaR u w (.mk 0 n d l) dp left (.tuple #[.int .i64 0, .bool false]) w') := fun ho w' hw' => ⟨hb0.out.trans (hw'.mono hb0.out.size), Or.inr ⟨(fun hv => by rw [((vok_mk u 0 n d l dp left).1 hv).1] at ho; cases ho), rfl⟩⟩
  have hFL : Hid (¬ voks u l (dp + 1) (left - 1) → ∀ w', Below wb.heap.size wb w' → VaR u w (.mk 0 n d l) dp left (.tuple #[.int .i64 0, .bool false]) w') := fun ho w' hw' => ⟨hb0.out.trans (hw'.mono hb0.out.size), Or.inr ⟨(fun hv => ho ((vok_mk u 0 n d l dp left).1 hv).2.2.2), rfl⟩⟩
  have hTT : Hid (own u 0 n d l.length = true → ∀ w', VLo u wb l dp left l.length w' → VaR u w (.mk 0 n d l) dp left (.tuple #[.int .i64 ((1 + cnts l : Nat) : Int), .bool true]) w') := fun ho w' L => by
    have h3 := L.ok
    rw [List.take_length] at h3
    refine ⟨hb0.out.trans (L.bl.mono hb0.out.size), Or.inl ⟨(vok_mk u 0 n d l dp left).2 ⟨ho, hdp, hl1, h3⟩, ?_⟩⟩
    rw [cnt, Nat.add_comm]
  have HE : Hid (∀ w1 j, VLo u wb l dp left j w1 → ∀ i, l[j]? = some i → ∃ b off qd' dl' cd' ql' ml' cl', ql = some ⟨b, off, none⟩ ∧ b < w1.heap.size ∧ CeI w1 b (off + j * 4) i (.slice qd' dl' cd') (.slice ql' ml' cl') ∧ Calls Tryd.prog 30 #[itv i.k i.n qd' dl' cd' ql' ml' cl', .int .i64 ((dp + 1 : Nat) : Int), .int .i64 ((left - (1 + cnts (l.take j)) : Nat) : Int)] w1 (RetW (VaR u w1 i (dp + 1) (left - (1 + cnts (l.take j)))))) := fun w1 j L i hi => by
    rcases hin with hn | ⟨b, off, rfl, hbb, hL⟩
    · rw [hn] at hi; cases hi
    · have hbw : Below w.heap.size w w1 := hb0.out.trans (L.bl.mono hb0.out.size)
      obtain ⟨vd, vl, hC, hM2⟩ := InL.get l off j i (InL.at (fun k hk => hbw.block k hk) l b off hbb hL) hi
      obtain ⟨qd', dl', cd', ql', ml', cl', rfl, rfl⟩ := hM2.form
      exact ⟨b, off, qd', dl', cd', ql', ml', cl', rfl, Nat.lt_of_lt_of_le hbb hbw.size, hC, hI i (List.mem_of_getElem? hi) w1 qd' dl' cd' ql' ml' cl' (dp + 1) _ (hU.1 wb _ hTb (fun k hk => L.bl.block k (by have := hb0.out.size; omega))) (InM.mono hbw.size i _ _ hM2) (by omega) (by omega)⟩
  obtain ⟨dl, hdl⟩ : ∃ dl, Hid (d.length = dl) := ⟨_, rfl⟩
  obtain ⟨m, hm⟩ : ∃ m, Hid (l.length = m) := ⟨_, rfl⟩
  have hm60 : m ≤ 1152921504606846976 := by rw [← hm.out]; exact hl60
  rw [hdl.out] at hUC bx hwb ⊢
  rw [hm.out] at bx hwb ⊢
  rw [hm.out] at hFF hTT
  obtain ⟨bt, hbt⟩ : ∃ bt, Hid (u d = bt) := ⟨_, rfl⟩
  rw [hbt.out] at hUC
  clear hT hM hpd hin hq' hTb h2 hdc hd62 hl60 hI
  by_cases zn : n = 0
  · subst zn
    by_cases zdl : dl = 0
    · subst zdl
      by_cases zm : m = 0
      · subst zm
        go_enter Tryd.func30, Tryd.ntmps30
        go_wp2_with fail
        rw [← hwb.out] at hUC
        refine hUC.mono ?_
        rintro e w1 ⟨v1, rfl, rfl, hb1⟩
        rw [hwb.out] at hb1
        have HB1 := hidW hb1
        obtain ⟨i0, i1, i2, i3, hil⟩ := bx.out w1 hb1
        clear hb1 hUC
        go_wp2
        go_loopg [11, 12] 1 (fun gk s11 s12 wr => s12 = .int .i64 0 ∧ s11 = .int .i64 1 ∧ gk = 1 ∧ w1 = wr)
        case atStart => exact ⟨rfl, rfl, rfl, rfl⟩
        case round =>
          obtain ⟨rfl, rfl, rfl, rfl⟩ := hrel
          have hl0 : l = [] := List.length_eq_zero_iff.1 hm.out
          subst hl0
          have HQ0 := hTT.out (by simp [own, hdl.out]) w1 ⟨Nat.le_refl _, HB1.out, ⟨rfl, fun h => absurd rfl h, by rw [List.take_nil, cnts]; omega⟩⟩
          rw [show 1 + cnts [] = 1 by rw [cnts]] at HQ0
          have HQ := hidW HQ0
          clear HQ0
          go_wp2
          go_ret2
          exact ⟨_, rfl, HQ.out⟩
      · obtain ⟨em, fm⟩ := ne0 m zm
        go_enter Tryd.func30, Tryd.ntmps30
        go_wp2_with fail
        rw [← hwb.out] at hUC
        refine hUC.mono ?_
        rintro e w1 ⟨v1, rfl, rfl, hb1⟩
        rw [hwb.out] at hb1
        have HB1 := hidW hb1
        obtain ⟨i0, i1, i2, i3, hil⟩ := bx.out w1 hb1
        clear hb1 hUC
        go_wp2
        go_ret2
        exact ⟨_, rfl, hFF.out (by simp [own, zm]) _ HB1.out⟩
    · obtain ⟨edl, fdl⟩ := ne0 dl zdl
      go_enter Tryd.func30, Tryd.ntmps30
      go_wp2_with fail
      rw [← hwb.out] at hUC
      refine hUC.mono ?_
      rintro e w1 ⟨v1, rfl, rfl, hb1⟩
      rw [hwb.out] at hb1
      have HB1 := hidW hb1
      obtain ⟨i0, i1, i2, i3, hil⟩ := bx.out w1 hb1
      clear hb1 hUC
      go_wp2
      go_ret2
      exact ⟨_, rfl, hFF.out (by simp [own, hdl.out, zdl]) _ HB1.out⟩
  · obtain ⟨en, fn⟩ := ne0 n zn
    by_cases zdl : dl = 0
    · subst zdl
      by_cases zm : m = 0
      · subst zm
        go_enter Tryd.func30, Tryd.ntmps30
        go_wp2_with fail
        rw [← hwb.out] at hUC
        refine hUC.mono ?_
        rintro e w1 ⟨v1, rfl, rfl, hb1⟩
        rw [hwb.out] at hb1
        have HB1 := hidW hb1
        obtain ⟨i0, i1, i2, i3, hil⟩ := bx.out w1 hb1
        clear hb1 hUC
        go_wp2
        go_loopg [11, 12] 1 (fun gk s11 s12 wr => s12 = .int .i64 0 ∧ s11 = .int .i64 1 ∧ gk = 1 ∧ w1 = wr)
        case atStart => exact ⟨rfl, rfl, rfl, rfl⟩
        case round =>
          obtain ⟨rfl, rfl, rfl, rfl⟩ := hrel
          have hl0 : l = [] := List.length_eq_zero_iff.1 hm.out
          subst hl0
          have HQ0 := hTT.out (by simp [own, hdl.out]) w1 ⟨Nat.le_refl _, HB1.out, ⟨rfl, fun h => absurd rfl h, by rw [List.take_nil, cnts]; omega⟩⟩
          rw [show 1 + cnts [] = 1 by rw [cnts]] at HQ0
          have HQ := hidW HQ0
          clear HQ0
          go_wp2
          go_ret2
          exact ⟨_, rfl, HQ.out⟩
      · obtain ⟨em, fm⟩ := ne0 m zm
        go_enter Tryd.func30, Tryd.ntmps30
        go_wp2_with fail
        rw [← hwb.out] at hUC
        refine hUC.mono ?_
        rintro e w1 ⟨v1, rfl, rfl, hb1⟩
        rw [hwb.out] at hb1
        have HB1 := hidW hb1
        obtain ⟨i0, i1, i2, i3, hil⟩ := bx.out w1 hb1
        clear hb1 hUC
        go_wp2
        go_ret2
        exact ⟨_, rfl, hFF.out (by simp [own, zm]) _ HB1.out⟩
    · obtain ⟨edl, fdl⟩ := ne0 dl zdl
      go_enter Tryd.func30, Tryd.ntmps30
      go_wp2_with fail
      rw [← hwb.out] at hUC
      refine hUC.mono ?_
      rintro e w1 ⟨v1, rfl, rfl, hb1⟩
      rw [hwb.out] at hb1
      have HB1 := hidW hb1
      obtain ⟨i0, i1, i2, i3, hil⟩ := bx.out w1 hb1
      clear hb1 hUC
      go_wp2
      go_ret2
      exact ⟨_, rfl, hFF.out (by simp [own, hdl.out, zdl]) _ HB1.out⟩
set_option maxHeartbeats 1000000 in
set_option maxRecDepth 20000 in
theorem rv1 (hU : UV T u) (n : Nat) (d : List UInt8) (l : List Itm) (hI : ∀ i ∈ l, VSp T u i) (w : World) (qd : Option Addr) (cd : Nat) (ql : Option Addr) (cl : Nat) (dp left : Nat) (hT : T w) (hM : InM w w.heap.size (.mk 1 n d l) (.slice qd d.length cd) (.slice ql l.length cl)) (hdp : dp ≤ 16) (hlf : left ≤ 4096) (hl1 : 1 ≤ left) :
    Calls Tryd.prog 30 #[itv 1 n qd d.length cd ql l.length cl, .int .i64 (dp : Int), .int .i64 (left : Int)] w (RetW (VaR u w (.mk 1 n d l) dp left)) := by
  unfold itv
  have hM0 := hM
  rw [InM] at hM0
  obtain ⟨hn64, hd62, hl60, hpd, q', c', hq', hin⟩ := hM0
  obtain ⟨rfl, rfl⟩ : ql = q' ∧ cl = c' := by simpa using hq'
  have hdc : d.length ≤ cd := by
    obtain ⟨qq, cc, e, hcc, -⟩ := hpd
    obtain ⟨-, rfl⟩ : qd = qq ∧ cd = cc := by simpa using e
    exact hcc
  obtain ⟨wb, hwb⟩ : ∃ wb, Hid (w.alloc (.cells #[.int .i64 1, .int .u64 (n : Int), .slice qd d.length cd, .slice ql l.length cl] 27) = wb) := ⟨_, rfl⟩
  have hb0 : Hid (Below w.heap.size w wb) := by rw [← hwb.out]; exact alloc_below _ _
  have h2 := hU.2.1 w hT
  have hTb : T wb := hU.1 w _ hT (fun j hj => hb0.out.block j (by omega))
  have hUC := hU.2.2 wb qd d.length cd d hTb (hpd.pb.below hb0.out) hdc hd62
  have bx : Hid (∀ w1, Below wb.heap.size wb w1 → w1.cell? ⟨w.heap.size, 0, none⟩ = some (.int .i64 1) ∧ w1.cell? ⟨w.heap.size, 1, none⟩ = some (.int .u64 (n : Int)) ∧ w1.cell? ⟨w.heap.size, 2, none⟩ = some (.slice qd d.length cd) ∧ w1.cell? ⟨w.heap.size, 3, none⟩ = some (.slice ql l.length cl) ∧ w.heap.size < w1.heap.size) := fun w1 hb => by
    have hz : ∀ j v, ([.int .i64 1, .int .u64 (n : Int), .slice qd d.length cd, .slice ql l.length cl] : List Value)[j]? = some v → w1.cell? ⟨w.heap.size, j, none⟩ = some v := fun j v hj => by
      have := al_c w #[.int .i64 1, .int .u64 (n : Int), .slice qd d.length cd, .slice ql l.length cl] 27 _ j v rfl (by simpa using hj)
      rw [hwb.out] at this
      rw [hb.cell (p := ⟨w.heap.size, j, none⟩) (World.block_lt_of_cell? _ _ this)]
      exact this
    exact ⟨hz 0 _ rfl, hz 1 _ rfl, hz 2 _ rfl, hz 3 _ rfl, World.block_lt_of_cell? _ _ (hz 0 _ rfl)⟩
  have g1 : ¬ (left : Int) < 1 := by omega
  have g1b : decide ((left : Int) < 1) = false := decide_eq_false g1
  have g2 : ¬ (16 : Int) < (dp : Int) := by omega
  have g2b : decide ((16 : Int) < (dp : Int)) = false := decide_eq_false g2
  have hFF : Hid (own u 1 n d l.length = false → ∀ w', Below wb.heap.size wb w' → VaR u w (.mk 1 n d l) dp left (.tuple #[.int .i64 0, .bool false]) w') := fun ho w' hw' => ⟨hb0.out.trans (hw'.mono hb0.out.size), Or.inr ⟨(fun hv => by rw [((vok_mk u 1 n d l dp left).1 hv).1] at ho; cases ho), rfl⟩⟩
  have hFL : Hid (¬ voks u l (dp + 1) (left - 1) → ∀ w', Below wb.heap.size wb w' → VaR u w (.mk 1 n d l) dp left (.tuple #[.int .i64 0, .bool false]) w') := fun ho w' hw' => ⟨hb0.out.trans (hw'.mono hb0.out.size), Or.inr ⟨(fun hv => ho ((vok_mk u 1 n d l dp left).1 hv).2.2.2), rfl⟩⟩
  have hTT : Hid (own u 1 n d l.length = true → ∀ w', VLo u wb l dp left l.length w' → VaR u w (.mk 1 n d l) dp left (.tuple #[.int .i64 ((1 + cnts l : Nat) : Int), .bool true]) w') := fun ho w' L => by
    have h3 := L.ok
    rw [List.take_length] at h3
    refine ⟨hb0.out.trans (L.bl.mono hb0.out.size), Or.inl ⟨(vok_mk u 1 n d l dp left).2 ⟨ho, hdp, hl1, h3⟩, ?_⟩⟩
    rw [cnt, Nat.add_comm]
  have HE : Hid (∀ w1 j, VLo u wb l dp left j w1 → ∀ i, l[j]? = some i → ∃ b off qd' dl' cd' ql' ml' cl', ql = some ⟨b, off, none⟩ ∧ b < w1.heap.size ∧ CeI w1 b (off + j * 4) i (.slice qd' dl' cd') (.slice ql' ml' cl') ∧ Calls Tryd.prog 30 #[itv i.k i.n qd' dl' cd' ql' ml' cl', .int .i64 ((dp + 1 : Nat) : Int), .int .i64 ((left - (1 + cnts (l.take j)) : Nat) : Int)] w1 (RetW (VaR u w1 i (dp + 1) (left - (1 + cnts (l.take j)))))) := fun w1 j L i hi => by
    rcases hin with hn | ⟨b, off, rfl, hbb, hL⟩
    · rw [hn] at hi; cases hi
    · have hbw : Below w.heap.size w w1 := hb0.out.trans (L.bl.mono hb0.out.size)
      obtain ⟨vd, vl, hC, hM2⟩ := InL.get l off j i (InL.at (fun k hk => hbw.block k hk) l b off hbb hL) hi
      obtain ⟨qd', dl', cd', ql', ml', cl', rfl, rfl⟩ := hM2.form
      exact ⟨b, off, qd', dl', cd', ql', ml', cl', rfl, Nat.lt_of_lt_of_le hbb hbw.size, hC, hI i (List.mem_of_getElem? hi) w1 qd' dl' cd' ql' ml' cl' (dp + 1) _ (hU.1 wb _ hTb (fun k hk => L.bl.block k (by have := hb0.out.size; omega))) (InM.mono hbw.size i _ _ hM2) (by omega) (by omega)⟩
  obtain ⟨dl, hdl⟩ : ∃ dl, Hid (d.length = dl) := ⟨_, rfl⟩
  obtain ⟨m, hm⟩ : ∃ m, Hid (l.length = m) := ⟨_, rfl⟩
  have hm60 : m ≤ 1152921504606846976 := by rw [← hm.out]; exact hl60
  rw [hdl.out] at hUC bx hwb ⊢
  rw [hm.out] at bx hwb ⊢
  rw [hm.out] at hFF hTT
  obtain ⟨bt, hbt⟩ : ∃ bt, Hid (u d = bt) := ⟨_, rfl⟩
  rw [hbt.out] at hUC
  clear hT hM hpd hin hq' hTb h2 hdc hd62 hl60 hI
  by_cases zn : n = 0
  · subst zn
    by_cases zdl : dl = 0
    · subst zdl
      by_cases zm : m = 0
      · subst zm
        go_enter Tryd.func30, Tryd.ntmps30
        go_wp2_with fail
        rw [← hwb.out] at hUC
        refine hUC.mono ?_
        rintro e w1 ⟨v1, rfl, rfl, hb1⟩
        rw [hwb.out] at hb1
        have HB1 := hidW hb1
        obtain ⟨i0, i1, i2, i3, hil⟩ := bx.out w1 hb1
        clear hb1 hUC
        go_wp2
        go_loopg [11, 12] 1 (fun gk s11 s12 wr => s12 = .int .i64 0 ∧ s11 = .int .i64 1 ∧ gk = 1 ∧ w1 = wr)
        case atStart => exact ⟨rfl, rfl, rfl, rfl⟩
        case round =>
          obtain ⟨rfl, rfl, rfl, rfl⟩ := hrel
          have hl0 : l = [] := List.length_eq_zero_iff.1 hm.out
          subst hl0
          have HQ0 := hTT.out (by simp [own, hdl.out]) w1 ⟨Nat.le_refl _, HB1.out, ⟨rfl, fun h => absurd rfl h, by rw [List.take_nil, cnts]; omega⟩⟩
          rw [show 1 + cnts [] = 1 by rw [cnts]] at HQ0
          have HQ := hidW HQ0
          clear HQ0
          go_wp2
          go_ret2
          exact ⟨_, rfl, HQ.out⟩
      · obtain ⟨em, fm⟩ := ne0 m zm
        go_enter Tryd.func30, Tryd.ntmps30
        go_wp2_with fail
        rw [← hwb.out] at hUC
        refine hUC.mono ?_
        rintro e w1 ⟨v1, rfl, rfl, hb1⟩
        rw [hwb.out] at hb1
        have HB1 := hidW hb1
        obtain ⟨i0, i1, i2, i3, hil⟩ := bx.out w1 hb1
        clear hb1 hUC
        go_wp2
        go_ret2
        exact ⟨_, rfl, hFF.out (by simp [own, zm]) _ HB1.out⟩
    · obtain ⟨edl, fdl⟩ := ne0 dl zdl
      go_enter Tryd.func30, Tryd.ntmps30
      go_wp2_with fail
      rw [← hwb.out] at hUC
      refine hUC.mono ?_
      rintro e w1 ⟨v1, rfl, rfl, hb1⟩
      rw [hwb.out] at hb1
      have HB1 := hidW hb1
      obtain ⟨i0, i1, i2, i3, hil⟩ := bx.out w1 hb1
      clear hb1 hUC
      go_wp2
      go_ret2
      exact ⟨_, rfl, hFF.out (by simp [own, hdl.out, zdl]) _ HB1.out⟩
  · obtain ⟨en, fn⟩ := ne0 n zn
    by_cases zdl : dl = 0
    · subst zdl
      by_cases zm : m = 0
      · subst zm
        go_enter Tryd.func30, Tryd.ntmps30
        go_wp2_with fail
        rw [← hwb.out] at hUC
        refine hUC.mono ?_
        rintro e w1 ⟨v1, rfl, rfl, hb1⟩
        rw [hwb.out] at hb1
        have HB1 := hidW hb1
        obtain ⟨i0, i1, i2, i3, hil⟩ := bx.out w1 hb1
        clear hb1 hUC
        go_wp2
        go_loopg [11, 12] 1 (fun gk s11 s12 wr => s12 = .int .i64 0 ∧ s11 = .int .i64 1 ∧ gk = 1 ∧ w1 = wr)
        case atStart => exact ⟨rfl, rfl, rfl, rfl⟩
        case round =>
          obtain ⟨rfl, rfl, rfl, rfl⟩ := hrel
          have hl0 : l = [] := List.length_eq_zero_iff.1 hm.out
          subst hl0
          have HQ0 := hTT.out (by simp [own, hdl.out]) w1 ⟨Nat.le_refl _, HB1.out, ⟨rfl, fun h => absurd rfl h, by rw [List.take_nil, cnts]; omega⟩⟩
          rw [show 1 + cnts [] = 1 by rw [cnts]] at HQ0
          have HQ := hidW HQ0
          clear HQ0
          go_wp2
          go_ret2
          exact ⟨_, rfl, HQ.out⟩
      · obtain ⟨em, fm⟩ := ne0 m zm
        go_enter Tryd.func30, Tryd.ntmps30
        go_wp2_with fail
        rw [← hwb.out] at hUC
        refine hUC.mono ?_
        rintro e w1 ⟨v1, rfl, rfl, hb1⟩
        rw [hwb.out] at hb1
        have HB1 := hidW hb1
        obtain ⟨i0, i1, i2, i3, hil⟩ := bx.out w1 hb1
        clear hb1 hUC
        go_wp2
        go_ret2
        exact ⟨_, rfl, hFF.out (by simp [own, zm]) _ HB1.out⟩
    · obtain ⟨edl, fdl⟩ := ne0 dl zdl
      go_enter Tryd.func30, Tryd.ntmps30
      go_wp2_with fail
      rw [← hwb.out] at hUC
      refine hUC.mono ?_
      rintro e w1 ⟨v1, rfl, rfl, hb1⟩
      rw [hwb.out] at hb1
      have HB1 := hidW hb1
      obtain ⟨i0, i1, i2, i3, hil⟩ := bx.out w1 hb1
      clear hb1 hUC
      go_wp2
      go_ret2
      exact ⟨_, rfl, hFF.out (by simp [own, hdl.out, zdl]) _ HB1.out⟩
end WI
end Go.Proofs.YtfkgfcggcfkkiaaDoor
namespace Go.Proofs.YtfkgfcggcfkkiaaDoor
open Go.RowKit Go.Sort Go.Deep
namespace WI
variable {T : World → Prop} {u : List UInt8 → Bool}
set_option maxHeartbeats 1000000 in
set_option maxRecDepth 20000 in
theorem rw5 (n : Nat) (d : List UInt8) (l : List Itm) (hI : ∀ i ∈ l, RwS i) : RwS (.mk 5 n d l) := by
  intro w qd dl cd ql m cl hM
  rw [InM] at hM
  obtain ⟨hn64, hd62, hl60, hpd, q', c', hq', hin⟩ := hM
  show Calls Tryd.prog 31 #[itv 5 n qd dl cd ql m cl] w _
  unfold itv
  obtain ⟨rfl, hdc⟩ : dl = d.length ∧ d.length ≤ cd := by
    obtain ⟨qq, cc, e, hcc, -⟩ := hpd
    obtain ⟨rfl, rfl, rfl⟩ : qd = qq ∧ dl = d.length ∧ cd = cc := by simpa using e
    exact ⟨rfl, hcc⟩
  obtain ⟨rfl, rfl, rfl⟩ : ql = q' ∧ m = l.length ∧ cl = c' := by simpa using hq'
  obtain ⟨wb, hwb⟩ : ∃ wb, Hid (w.alloc (.cells #[.int .i64 5, .int .u64 (n : Int), .slice qd d.length cd, .slice ql l.length cl] 27) = wb) := ⟨_, rfl⟩
  have hb0 : Hid (Below w.heap.size w wb) := by rw [← hwb.out]; exact alloc_below _ _
  have bx : Hid (∀ w1, Below wb.heap.size wb w1 → w1.cell? ⟨w.heap.size, 0, none⟩ = some (.int .i64 5) ∧ w1.cell? ⟨w.heap.size, 1, none⟩ = some (.int .u64 (n : Int)) ∧ w1.cell? ⟨w.heap.size, 2, none⟩ = some (.slice qd d.length cd) ∧ w1.cell? ⟨w.heap.size, 3, none⟩ = some (.slice ql l.length cl) ∧ w.heap.size < w1.heap.size) := fun w1 hb => by
    have hz : ∀ j v, ([.int .i64 5, .int .u64 (n : Int), .slice qd d.length cd, .slice ql l.length cl] : List Value)[j]? = some v → w1.cell? ⟨w.heap.size, j, none⟩ = some v := fun j v hj => by
      have := al_c w #[.int .i64 5, .int .u64 (n : Int), .slice qd d.length cd, .slice ql l.length cl] 27 _ j v rfl (by simpa using hj)
      rw [hwb.out] at this
      rw [hb.cell (p := ⟨w.heap.size, j, none⟩) (World.block_lt_of_cell? _ _ this)]
      exact this
    exact ⟨hz 0 _ rfl, hz 1 _ rfl, hz 2 _ rfl, hz 3 _ rfl, World.block_lt_of_cell? _ _ (hz 0 _ rfl)⟩
  obtain ⟨M, hM⟩ : ∃ M, Hid (M = l.length / 2) := ⟨_, rfl⟩
  have hby : Hid (byt (.mk 5 n d l) = hd 5 M ++ (byts l).flatten) := by show _ = _; rw [hM.out]; simp [byt]
  have hc : Calls Tryd.prog 47 #[.int .i64 5, .int .u64 (M : Int)] wb _ := rhead_c wb 5 M (by decide) (by rw [hM.out]; omega)
  have h9 := hidW (hd_le 5 M)
  obtain ⟨H, hH⟩ : ∃ H, Hid (hd 5 M = H) := ⟨_, rfl⟩
  rw [hH.out] at hc hby h9
  have hFF : Hid (∀ w' s, wrb (.mk 5 n d l) = false → Below wb.heap.size wb w' → RwR w (.mk 5 n d l) (.tuple #[.string s, .bool false]) w') := fun w' s h hw' => ⟨hb0.out.trans (hw'.mono hb0.out.size), Or.inr ⟨h, s, rfl⟩⟩
  have hTT : Hid (∀ w' S, RLo 5 wb l H l.length w' → S = (⟨(H ++ (byts (l.take l.length)).flatten).toArray⟩ : ByteArray) → RwR w (.mk 5 n d l) (.tuple #[.string S, .bool true]) w') := fun w' S L hS => by
    have h1 := L.ok
    have h2 := L.ri
    have h3 := L.ln
    rw [List.take_length] at h1 h2 h3 hS
    refine ⟨hb0.out.trans (L.bl.mono hb0.out.size), Or.inl ⟨?_, by rw [hby.out, hS]⟩⟩
    rw [wrb, if_pos (by decide), h1, hby.out, decide_eq_true (by rw [List.length_append]; exact h3)]
    rw [h2 rfl]; rfl
  have HE : Hid (∀ w1 j, RLo 5 wb l H j w1 → ∀ i, l[j]? = some i → ∃ b off qd' dl' cd' ql' ml' cl', ql = some ⟨b, off, none⟩ ∧ b < w1.heap.size ∧ CeI w1 b (off + j * 4) i (.slice qd' dl' cd') (.slice ql' ml' cl') ∧ Calls Tryd.prog 31 #[itv i.k i.n qd' dl' cd' ql' ml' cl'] w1 (RetW (RwR w1 i))) := fun w1 j L i hi => by
    rcases hin with hn | ⟨b, off, rfl, hbb, hL⟩
    · rw [hn] at hi; cases hi
    · have hbw : Below w.heap.size w w1 := hb0.out.trans (L.bl.mono hb0.out.size)
      obtain ⟨vd, vl, hC, hM2⟩ := InL.get l off j i (InL.at (fun k hk => hbw.block k hk) l b off hbb hL) hi
      obtain ⟨qd', dl', cd', ql', ml', cl', rfl, rfl⟩ := hM2.form
      exact ⟨b, off, qd', dl', cd', ql', ml', cl', rfl, Nat.lt_of_lt_of_le hbb hbw.size, hC, hI i (List.mem_of_getElem? hi) w1 qd' dl' cd' ql' ml' cl' (InM.mono hbw.size i _ _ hM2)⟩
  obtain ⟨m, hm⟩ : ∃ m, Hid (l.length = m) := ⟨_, rfl⟩
  have hm60 : m ≤ 1152921504606846976 := by rw [← hm.out]; exact hl60
  rw [hm.out] at bx hwb hM hTT ⊢
  have hq2 : (m : Int).tdiv 2 = (M : Int) := by rw [hM.out]; rfl
  have hMb : M ≤ 1152921504606846976 := by rw [hM.out]; omega
  clear hpd hin hq' hd62 hdc hl60 hI
  go_enter Tryd.func31, Tryd.ntmps31
  go_wp2_with fail
  rw [hwb.out]
  refine hc.mono ?_
  rintro e w1 ⟨v1, rfl, hb1, rfl⟩
  have HB1 := hidW hb1
  obtain ⟨i0, i1, i2, i3, hil⟩ := bx.out w1 hb1
  obtain ⟨O0, hO0⟩ : ∃ S, Hid ((⟨H.toArray⟩ : ByteArray) = S) := ⟨_, rfl⟩
  rw [hO0.out]
  clear hb1 hc
  go_wp2
  go_loopg [6, 7, 8] (m + 1) (fun gk s6 s7 s8 wr => ∃ (j : Nat) (O LK : ByteArray), s8 = .int .i64 (j : Int) ∧ s6 = .string O ∧ s7 = .string LK ∧ Hid (O = ⟨(H ++ (byts (l.take j)).flatten).toArray⟩) ∧ Hid (LK = ⟨(lke [] (byts (l.take j))).toArray⟩) ∧ gk = m + 1 - j ∧ RLo 5 wb l H j wr)
  case atStart => exact ⟨0, O0, ⟨#[]⟩, rfl, rfl, rfl, (by show _ = _; rw [← hO0.out, List.take_zero, byts]; simp), rfl, rfl, Nat.zero_le _, HB1.out, (by rw [List.take_zero]; rfl), (fun _ => by rw [List.take_zero]; rfl), (by rw [List.take_zero, byts]; have := h9.out; simp; omega)⟩
  case round =>
    obtain ⟨j, O, LK, rfl, rfl, rfl, hO, hLK, hgk, L⟩ := hrel
    have hjm : j ≤ m := by rw [← hm.out]; exact L.hj
    obtain ⟨i0, i1, i2, i3, hil⟩ := bx.out wr L.bl
    have hOs : Hid (O.size = (H ++ (byts (l.take j)).flatten).length) := by show _ = _; rw [hO.out]; simp [ByteArray.size]
    have hOb : O.size ≤ 65536 := by have := L.ln; rw [hOs.out, List.length_append]; exact this
    by_cases hj : j < m
    · obtain ⟨i, hi⟩ : ∃ i, l[j]? = some i := ⟨_, List.getElem?_eq_getElem (by rw [hm.out]; exact hj)⟩
      obtain ⟨b, off, qd', dl', cd', ql', ml', cl', rfl, hbl, ⟨c0, c1, c2, c3⟩, hc⟩ := HE.out wr j L i hi
      have hjz : (j : Int) < (m : Int) := by omega
      have hix := fun w => idxI b off m cl j hj w
      have HL := hidW (And.intro L hi)
      clear L hi
      go_wp2_with fail
      refine hc.mono ?_
      rintro e w3 ⟨v3, rfl, hb3, hr3⟩
      have HB3 := hidW (HL.out.1.bl.trans (hb3.mono HL.out.1.bl.size))
      obtain ⟨i0', i1', i2', i3', hil'⟩ := bx.out w3 HB3.out
      have Hb3 := hidW hb3
      clear i0 i1 i2 i3 hil c0 c1 c2 c3 hb3
      rcases hr3 with ⟨hv3, rfl⟩ | ⟨hv3, s3, rfl⟩
      · have hlen := wrb_len i hv3
        obtain ⟨S, hS⟩ : ∃ S, Hid ((⟨(byt i).toArray⟩ : ByteArray) = S) := ⟨_, rfl⟩
        have hSs : Hid (S.size = (byt i).length) := by show _ = _; rw [← hS.out]; simp [ByteArray.size]
        have hSb : S.size ≤ 65536 := by rw [hSs.out]; exact hlen
        rw [hS.out]
        have hv3' := hidW hv3
        clear hv3 hlen hc
        obtain ⟨N, hN⟩ : ∃ N, Hid (O.size + S.size = N) := ⟨_, rfl⟩
        have hNs : (O.size : Int) + (S.size : Int) = (N : Int) := by rw [← hN.out]; omega
        have hNb : N ≤ 131072 := by rw [← hN.out]; omega
        by_cases hg : 65536 < N
        · have gz : (65536 : Int) < (N : Int) := by omega
          have HQ := hidW (hFF.out w3 ⟨#[]⟩ (HL.out.1.bad (by decide) n d hby.out HL.out.2 (Or.inr (Or.inl (by rw [← hOs.out, ← hSs.out, hN.out]; exact hg)))) HB3.out)
          go_wp2
          go_ret2
          exact ⟨_, rfl, HQ.out⟩
        · have gz : ¬ (65536 : Int) < (N : Int) := by omega
          have gzb : decide ((65536 : Int) < (N : Int)) = false := decide_eq_false gz
          have hcs : O.size + S.size ≤ 9223372036854775807 := by omega
          have HNX : Hid ((5 = (5 : Int) → j % 2 = 0 → ltB (lke [] (byts (l.take j))) (byt i) = true) → RLo 5 wb l H (j + 1) w3 ∧ O ++ S = ⟨(H ++ (byts (l.take (j + 1))).flatten).toArray⟩) := fun hr => by
            obtain ⟨h1, h2⟩ := HL.out.1.next HL.out.2 Hb3.out hv3'.out hr (by rw [← hOs.out, ← hSs.out, hN.out]; omega)
            exact ⟨h1, cat_eq _ _ _ hO.out hS.out.symm h2⟩
          have hr : (j : Int).tmod 2 = ((j % 2 : Nat) : Int) := rfl
          obtain ⟨r2, hr2⟩ : ∃ r2, Hid (j % 2 = r2) := ⟨_, rfl⟩
          rw [hr2.out] at hr
          have hkl : Hid ((byts (l.take j)).length = j) := by show _ = _; rw [byts_length, List.length_take]; have := HL.out.1.hj; omega
          have hkS : Hid (byts (l.take (j + 1)) = byts (l.take j) ++ [byt i]) := by show _ = _; rw [take_s l j i HL.out.2, byts_append]; rfl
          have eLK : Hid (LK.toList = lke [] (byts (l.take j))) := by show _ = _; rw [hLK.out, ByteArray.toList_eq]
          have eS : Hid (S.toList = byt i) := by show _ = _; rw [← hS.out, ByteArray.toList_eq]
          by_cases zr : r2 = 0
          · subst zr
            have hLN : Hid (S = ⟨(lke [] (byts (l.take (j + 1)))).toArray⟩) := by show _ = _; rw [hkS.out, (lke_snoc _ _ _).1, hkl.out, if_pos hr2.out]; exact hS.out.symm
            by_cases zj : j = 0
            · have hjp : ¬ (0 : Int) < (j : Int) := by omega
              have hjb : decide ((0 : Int) < (j : Int)) = false := decide_eq_false hjp
              have hlt : Hid (5 = (5 : Int) → j % 2 = 0 → ltB (lke [] (byts (l.take j))) (byt i) = true) := fun _ _ => by
                rw [zj, List.take_zero, byts, lke]
                have := byt_pos i
                cases hb : byt i with
                | nil => rw [hb] at this; cases this
                | cons x y => rfl
              clear zj
              go_wp2
              go_roundg (m + 1 - (j + 1))
              case measure => omega
              case rel => exact ⟨j + 1, O ++ S, S, rfl, rfl, rfl, (HNX.out hlt.out).2, hLN, rfl, (HNX.out hlt.out).1⟩
            · have hjp : (0 : Int) < (j : Int) := by omega
              cases hlt : ltB (lke [] (byts (l.take j))) (byt i) with
              | true =>
                obtain ⟨hl1, hl2⟩ : Op.bytesLess S.toList LK.toList = false ∧ (S.toList == LK.toList) = false := by
                  have h := leB (byt i) (lke [] (byts (l.take j)))
                  rw [hlt, Bool.not_true, Bool.or_eq_false_iff] at h
                  rw [eLK.out, eS.out]; exact h
                have hlt' := hidW hlt
                clear hlt
                go_wp2
                go_roundg (m + 1 - (j + 1))
                case measure => omega
                case rel => exact ⟨j + 1, O ++ S, S, rfl, rfl, rfl, (HNX.out fun _ _ => hlt'.out).2, hLN, rfl, (HNX.out fun _ _ => hlt'.out).1⟩
              | false =>
                have hl : Op.bytesLess S.toList LK.toList = true ∨ (S.toList == LK.toList) = true := by
                  have h := leB (byt i) (lke [] (byts (l.take j)))
                  rw [hlt, Bool.not_false, Bool.or_eq_true] at h
                  rw [eLK.out, eS.out]; exact h
                have HQ := hidW (hFF.out w3 ⟨#[]⟩ (HL.out.1.bad (by decide) n d hby.out HL.out.2 (Or.inr (Or.inr ⟨rfl, hr2.out, hlt⟩))) HB3.out)
                clear hlt
                rcases hl with hl | hl
                · go_wp2
                  go_ret2
                  exact ⟨_, rfl, HQ.out⟩
                · cases hl0 : Op.bytesLess S.toList LK.toList with
                  | true =>
                    go_wp2
                    go_ret2
                    exact ⟨_, rfl, HQ.out⟩
                  | false =>
                    go_wp2
                    go_ret2
                    exact ⟨_, rfl, HQ.out⟩
          · obtain ⟨er, fr⟩ := ne0 r2 zr
            have hno : Hid (5 = (5 : Int) → j % 2 = 0 → ltB (lke [] (byts (l.take j))) (byt i) = true) := fun _ h => absurd (hr2.out.symm.trans h) zr
            have hLN : Hid (LK = ⟨(lke [] (byts (l.take (j + 1)))).toArray⟩) := by show _ = _; rw [hkS.out, (lke_snoc _ _ _).1, hkl.out, if_neg (by rw [hr2.out]; exact zr)]; exact hLK.out
            clear zr
            go_wp2
            go_roundg (m + 1 - (j + 1))
            case measure => omega
            case rel => exact ⟨j + 1, O ++ S, LK, rfl, rfl, rfl, (HNX.out hno.out).2, hLN, rfl, (HNX.out hno.out).1⟩
      · have HQ := hidW (hFF.out w3 ⟨#[]⟩ (HL.out.1.bad (by decide) n d hby.out HL.out.2 (Or.inl hv3)) HB3.out)
        clear hc hv3
        go_wp2
        go_ret2
        exact ⟨_, rfl, HQ.out⟩
    · have hjz : ¬ (j : Int) < (m : Int) := by omega
      obtain rfl : j = m := by omega
      have HQ := hidW (hTT.out wr O L hO.out)
      clear L
      go_wp2
      go_ret2
      exact ⟨_, rfl, HQ.out⟩
end WI
end Go.Proofs.YtfkgfcggcfkkiaaDoor
namespace Go.Proofs.YtfkgfcggcfkkiaaDoor
open Go.RowKit Go.Sort Go.Deep
namespace WI
variable {T : World → Prop} {u : List UInt8 → Bool}
set_option maxHeartbeats 1000000 in
set_option maxRecDepth 20000 in
theorem rv2 (hU : UV T u) (n : Nat) (d : List UInt8) (l : List Itm) (hI : ∀ i ∈ l, VSp T u i) (w : World) (qd : Option Addr) (cd : Nat) (ql : Option Addr) (cl : Nat) (dp left : Nat) (hT : T w) (hM : InM w w.heap.size (.mk 2 n d l) (.slice qd d.length cd) (.slice ql l.length cl)) (hdp : dp ≤ 16) (hlf : left ≤ 4096) (hl1 : 1 ≤ left) :
    Calls Tryd.prog 30 #[itv 2 n qd d.length cd ql l.length cl, .int .i64 (dp : Int), .int .i64 (left : Int)] w (RetW (VaR u w (.mk 2 n d l) dp left)) := by
  unfold itv
  have hM0 := hM
  rw [InM] at hM0
  obtain ⟨hn64, hd62, hl60, hpd, q', c', hq', hin⟩ := hM0
  obtain ⟨rfl, rfl⟩ : ql = q' ∧ cl = c' := by simpa using hq'
  have hdc : d.length ≤ cd := by
    obtain ⟨qq, cc, e, hcc, -⟩ := hpd
    obtain ⟨-, rfl⟩ : qd = qq ∧ cd = cc := by simpa using e
    exact hcc
  obtain ⟨wb, hwb⟩ : ∃ wb, Hid (w.alloc (.cells #[.int .i64 2, .int .u64 (n : Int), .slice qd d.length cd, .slice ql l.length cl] 27) = wb) := ⟨_, rfl⟩
  have hb0 : Hid (Below w.heap.size w wb) := by rw [← hwb.out]; exact alloc_below _ _
  have h2 := hU.2.1 w hT
  have hTb : T wb := hU.1 w _ hT (fun j hj => hb0.out.block j (by omega))
  have hUC := hU.2.2 wb qd d.length cd d hTb (hpd.pb.below hb0.out) hdc hd62
  have bx : Hid (∀ w1, Below wb.heap.size wb w1 → w1.cell? ⟨w.heap.size, 0, none⟩ = some (.int .i64 2) ∧ w1.cell? ⟨w.heap.size, 1, none⟩ = some (.int .u64 (n : Int)) ∧ w1.cell? ⟨w.heap.size, 2, none⟩ = some (.slice qd d.length cd) ∧ w1.cell? ⟨w.heap.size, 3, none⟩ = some (.slice ql l.length cl) ∧ w.heap.size < w1.heap.size) := fun w1 hb => by
    have hz : ∀ j v, ([.int .i64 2, .int .u64 (n : Int), .slice qd d.length cd, .slice ql l.length cl] : List Value)[j]? = some v → w1.cell? ⟨w.heap.size, j, none⟩ = some v := fun j v hj => by
      have := al_c w #[.int .i64 2, .int .u64 (n : Int), .slice qd d.length cd, .slice ql l.length cl] 27 _ j v rfl (by simpa using hj)
      rw [hwb.out] at this
      rw [hb.cell (p := ⟨w.heap.size, j, none⟩) (World.block_lt_of_cell? _ _ this)]
      exact this
    exact ⟨hz 0 _ rfl, hz 1 _ rfl, hz 2 _ rfl, hz 3 _ rfl, World.block_lt_of_cell? _ _ (hz 0 _ rfl)⟩
  have g1 : ¬ (left : Int) < 1 := by omega
  have g1b : decide ((left : Int) < 1) = false := decide_eq_false g1
  have g2 : ¬ (16 : Int) < (dp : Int) := by omega
  have g2b : decide ((16 : Int) < (dp : Int)) = false := decide_eq_false g2
  have hFF : Hid (own u 2 n d l.length = false → ∀ w', Below wb.heap.size wb w' → VaR u w (.mk 2 n d l) dp left (.tuple #[.int .i64 0, .bool false]) w') := fun ho w' hw' => ⟨hb0.out.trans (hw'.mono hb0.out.size), Or.inr ⟨(fun hv => by rw [((vok_mk u 2 n d l dp left).1 hv).1] at ho; cases ho), rfl⟩⟩
  have hFL : Hid (¬ voks u l (dp + 1) (left - 1) → ∀ w', Below wb.heap.size wb w' → VaR u w (.mk 2 n d l) dp left (.tuple #[.int .i64 0, .bool false]) w') := fun ho w' hw' => ⟨hb0.out.trans (hw'.mono hb0.out.size), Or.inr ⟨(fun hv => ho ((vok_mk u 2 n d l dp left).1 hv).2.2.2), rfl⟩⟩
  have hTT : Hid (own u 2 n d l.length = true → ∀ w', VLo u wb l dp left l.length w' → VaR u w (.mk 2 n d l) dp left (.tuple #[.int .i64 ((1 + cnts l : Nat) : Int), .bool true]) w') := fun ho w' L => by
    have h3 := L.ok
    rw [List.take_length] at h3
    refine ⟨hb0.out.trans (L.bl.mono hb0.out.size), Or.inl ⟨(vok_mk u 2 n d l dp left).2 ⟨ho, hdp, hl1, h3⟩, ?_⟩⟩
    rw [cnt, Nat.add_comm]
  have HE : Hid (∀ w1 j, VLo u wb l dp left j w1 → ∀ i, l[j]? = some i → ∃ b off qd' dl' cd' ql' ml' cl', ql = some ⟨b, off, none⟩ ∧ b < w1.heap.size ∧ CeI w1 b (off + j * 4) i (.slice qd' dl' cd') (.slice ql' ml' cl') ∧ Calls Tryd.prog 30 #[itv i.k i.n qd' dl' cd' ql' ml' cl', .int .i64 ((dp + 1 : Nat) : Int), .int .i64 ((left - (1 + cnts (l.take j)) : Nat) : Int)] w1 (RetW (VaR u w1 i (dp + 1) (left - (1 + cnts (l.take j)))))) := fun w1 j L i hi => by
    rcases hin with hn | ⟨b, off, rfl, hbb, hL⟩
    · rw [hn] at hi; cases hi
    · have hbw : Below w.heap.size w w1 := hb0.out.trans (L.bl.mono hb0.out.size)
      obtain ⟨vd, vl, hC, hM2⟩ := InL.get l off j i (InL.at (fun k hk => hbw.block k hk) l b off hbb hL) hi
      obtain ⟨qd', dl', cd', ql', ml', cl', rfl, rfl⟩ := hM2.form
      exact ⟨b, off, qd', dl', cd', ql', ml', cl', rfl, Nat.lt_of_lt_of_le hbb hbw.size, hC, hI i (List.mem_of_getElem? hi) w1 qd' dl' cd' ql' ml' cl' (dp + 1) _ (hU.1 wb _ hTb (fun k hk => L.bl.block k (by have := hb0.out.size; omega))) (InM.mono hbw.size i _ _ hM2) (by omega) (by omega)⟩
  obtain ⟨dl, hdl⟩ : ∃ dl, Hid (d.length = dl) := ⟨_, rfl⟩
  obtain ⟨m, hm⟩ : ∃ m, Hid (l.length = m) := ⟨_, rfl⟩
  have hm60 : m ≤ 1152921504606846976 := by rw [← hm.out]; exact hl60
  rw [hdl.out] at hUC bx hwb ⊢
  rw [hm.out] at bx hwb ⊢
  rw [hm.out] at hFF hTT
  obtain ⟨bt, hbt⟩ : ∃ bt, Hid (u d = bt) := ⟨_, rfl⟩
  rw [hbt.out] at hUC
  clear hT hM hpd hin hq' hTb h2 hdc hd62 hl60 hI
  by_cases zn : n = 0
  · subst zn
    by_cases zdl : dl = 0
    · subst zdl
      by_cases zm : m = 0
      · subst zm
        go_enter Tryd.func30, Tryd.ntmps30
        go_wp2_with fail
        rw [← hwb.out] at hUC
        refine hUC.mono ?_
        rintro e w1 ⟨v1, rfl, rfl, hb1⟩
        rw [hwb.out] at hb1
        have HB1 := hidW hb1
        obtain ⟨i0, i1, i2, i3, hil⟩ := bx.out w1 hb1
        clear hb1 hUC
        go_wp2
        go_loopg [11, 12] 1 (fun gk s11 s12 wr => s12 = .int .i64 0 ∧ s11 = .int .i64 1 ∧ gk = 1 ∧ w1 = wr)
        case atStart => exact ⟨rfl, rfl, rfl, rfl⟩
        case round =>
          obtain ⟨rfl, rfl, rfl, rfl⟩ := hrel
          have hl0 : l = [] := List.length_eq_zero_iff.1 hm.out
          subst hl0
          have HQ0 := hTT.out (by simp [own]) w1 ⟨Nat.le_refl _, HB1.out, ⟨rfl, fun h => absurd rfl h, by rw [List.take_nil, cnts]; omega⟩⟩
          rw [show 1 + cnts [] = 1 by rw [cnts]] at HQ0
          have HQ := hidW HQ0
          clear HQ0
          go_wp2
          go_ret2
          exact ⟨_, rfl, HQ.out⟩
      · obtain ⟨em, fm⟩ := ne0 m zm
        go_enter Tryd.func30, Tryd.ntmps30
        go_wp2_with fail
        rw [← hwb.out] at hUC
        refine hUC.mono ?_
        rintro e w1 ⟨v1, rfl, rfl, hb1⟩
        rw [hwb.out] at hb1
        have HB1 := hidW hb1
        obtain ⟨i0, i1, i2, i3, hil⟩ := bx.out w1 hb1
        clear hb1 hUC
        go_wp2
        go_ret2
        exact ⟨_, rfl, hFF.out (by simp [own, zm]) _ HB1.out⟩
    · obtain ⟨edl, fdl⟩ := ne0 dl zdl
      by_cases zm : m = 0
      · subst zm
        go_enter Tryd.func30, Tryd.ntmps30
        go_wp2_with fail
        rw [← hwb.out] at hUC
        refine hUC.mono ?_
        rintro e w1 ⟨v1, rfl, rfl, hb1⟩
        rw [hwb.out] at hb1
        have HB1 := hidW hb1
        obtain ⟨i0, i1, i2, i3, hil⟩ := bx.out w1 hb1
        clear hb1 hUC
        go_wp2
        go_loopg [11, 12] 1 (fun gk s11 s12 wr => s12 = .int .i64 0 ∧ s11 = .int .i64 1 ∧ gk = 1 ∧ w1 = wr)
        case atStart => exact ⟨rfl, rfl, rfl, rfl⟩
        case round =>
          obtain ⟨rfl, rfl, rfl, rfl⟩ := hrel
          have hl0 : l = [] := List.length_eq_zero_iff.1 hm.out
          subst hl0
          have HQ0 := hTT.out (by simp [own]) w1 ⟨Nat.le_refl _, HB1.out, ⟨rfl, fun h => absurd rfl h, by rw [List.take_nil, cnts]; omega⟩⟩
          rw [show 1 + cnts [] = 1 by rw [cnts]] at HQ0
          have HQ := hidW HQ0
          clear HQ0
          go_wp2
          go_ret2
          exact ⟨_, rfl, HQ.out⟩
      · obtain ⟨em, fm⟩ := ne0 m zm
        go_enter Tryd.func30, Tryd.ntmps30
        go_wp2_with fail
        rw [← hwb.out] at hUC
        refine hUC.mono ?_
        rintro e w1 ⟨v1, rfl, rfl, hb1⟩
        rw [hwb.out] at hb1
        have HB1 := hidW hb1
        obtain ⟨i0, i1, i2, i3, hil⟩ := bx.out w1 hb1
        clear hb1 hUC
        go_wp2
        go_ret2
        exact ⟨_, rfl, hFF.out (by simp [own, zm]) _ HB1.out⟩
  · obtain ⟨en, fn⟩ := ne0 n zn
    go_enter Tryd.func30, Tryd.ntmps30
    go_wp2_with fail
    rw [← hwb.out] at hUC
    refine hUC.mono ?_
    rintro e w1 ⟨v1, rfl, rfl, hb1⟩
    rw [hwb.out] at hb1
    have HB1 := hidW hb1
    obtain ⟨i0, i1, i2, i3, hil⟩ := bx.out w1 hb1
    clear hb1 hUC
    go_wp2
    go_ret2
    exact ⟨_, rfl, hFF.out (by simp [own, zn]) _ HB1.out⟩
set_option maxHeartbeats 1000000 in
set_option maxRecDepth 20000 in
theorem rv3 (hU : UV T u) (n : Nat) (d : List UInt8) (l : List Itm) (hI : ∀ i ∈ l, VSp T u i) (w : World) (qd : Option Addr) (cd : Nat) (ql : Option Addr) (cl : Nat) (dp left : Nat) (hT : T w) (hM : InM w w.heap.size (.mk 3 n d l) (.slice qd d.length cd) (.slice ql l.length cl)) (hdp : dp ≤ 16) (hlf : left ≤ 4096) (hl1 : 1 ≤ left) :
    Calls Tryd.prog 30 #[itv 3 n qd d.length cd ql l.length cl, .int .i64 (dp : Int), .int .i64 (left : Int)] w (RetW (VaR u w (.mk 3 n d l) dp left)) := by
  unfold itv
  have hM0 := hM
  rw [InM] at hM0
  obtain ⟨hn64, hd62, hl60, hpd, q', c', hq', hin⟩ := hM0
  obtain ⟨rfl, rfl⟩ : ql = q' ∧ cl = c' := by simpa using hq'
  have hdc : d.length ≤ cd := by
    obtain ⟨qq, cc, e, hcc, -⟩ := hpd
    obtain ⟨-, rfl⟩ : qd = qq ∧ cd = cc := by simpa using e
    exact hcc
  obtain ⟨wb, hwb⟩ : ∃ wb, Hid (w.alloc (.cells #[.int .i64 3, .int .u64 (n : Int), .slice qd d.length cd, .slice ql l.length cl] 27) = wb) := ⟨_, rfl⟩
  have hb0 : Hid (Below w.heap.size w wb) := by rw [← hwb.out]; exact alloc_below _ _
  have h2 := hU.2.1 w hT
  have hTb : T wb := hU.1 w _ hT (fun j hj => hb0.out.block j (by omega))
  have hUC := hU.2.2 wb qd d.length cd d hTb (hpd.pb.below hb0.out) hdc hd62
  have bx : Hid (∀ w1, Below wb.heap.size wb w1 → w1.cell? ⟨w.heap.size, 0, none⟩ = some (.int .i64 3) ∧ w1.cell? ⟨w.heap.size, 1, none⟩ = some (.int .u64 (n : Int)) ∧ w1.cell? ⟨w.heap.size, 2, none⟩ = some (.slice qd d.length cd) ∧ w1.cell? ⟨w.heap.size, 3, none⟩ = some (.slice ql l.length cl) ∧ w.heap.size < w1.heap.size) := fun w1 hb => by
    have hz : ∀ j v, ([.int .i64 3, .int .u64 (n : Int), .slice qd d.length cd, .slice ql l.length cl] : List Value)[j]? = some v → w1.cell? ⟨w.heap.size, j, none⟩ = some v := fun j v hj => by
      have := al_c w #[.int .i64 3, .int .u64 (n : Int), .slice qd d.length cd, .slice ql l.length cl] 27 _ j v rfl (by simpa using hj)
      rw [hwb.out] at this
      rw [hb.cell (p := ⟨w.heap.size, j, none⟩) (World.block_lt_of_cell? _ _ this)]
      exact this
    exact ⟨hz 0 _ rfl, hz 1 _ rfl, hz 2 _ rfl, hz 3 _ rfl, World.block_lt_of_cell? _ _ (hz 0 _ rfl)⟩
  have g1 : ¬ (left : Int) < 1 := by omega
  have g1b : decide ((left : Int) < 1) = false := decide_eq_false g1
  have g2 : ¬ (16 : Int) < (dp : Int) := by omega
  have g2b : decide ((16 : Int) < (dp : Int)) = false := decide_eq_false g2
  have hFF : Hid (own u 3 n d l.length = false → ∀ w', Below wb.heap.size wb w' → VaR u w (.mk 3 n d l) dp left (.tuple #[.int .i64 0, .bool false]) w') := fun ho w' hw' => ⟨hb0.out.trans (hw'.mono hb0.out.size), Or.inr ⟨(fun hv => by rw [((vok_mk u 3 n d l dp left).1 hv).1] at ho; cases ho), rfl⟩⟩
  have hFL : Hid (¬ voks u l (dp + 1) (left - 1) → ∀ w', Below wb.heap.size wb w' → VaR u w (.mk 3 n d l) dp left (.tuple #[.int .i64 0, .bool false]) w') := fun ho w' hw' => ⟨hb0.out.trans (hw'.mono hb0.out.size), Or.inr ⟨(fun hv => ho ((vok_mk u 3 n d l dp left).1 hv).2.2.2), rfl⟩⟩
  have hTT : Hid (own u 3 n d l.length = true → ∀ w', VLo u wb l dp left l.length w' → VaR u w (.mk 3 n d l) dp left (.tuple #[.int .i64 ((1 + cnts l : Nat) : Int), .bool true]) w') := fun ho w' L => by
    have h3 := L.ok
    rw [List.take_length] at h3
    refine ⟨hb0.out.trans (L.bl.mono hb0.out.size), Or.inl ⟨(vok_mk u 3 n d l dp left).2 ⟨ho, hdp, hl1, h3⟩, ?_⟩⟩
    rw [cnt, Nat.add_comm]
  have HE : Hid (∀ w1 j, VLo u wb l dp left j w1 → ∀ i, l[j]? = some i → ∃ b off qd' dl' cd' ql' ml' cl', ql = some ⟨b, off, none⟩ ∧ b < w1.heap.size ∧ CeI w1 b (off + j * 4) i (.slice qd' dl' cd') (.slice ql' ml' cl') ∧ Calls Tryd.prog 30 #[itv i.k i.n qd' dl' cd' ql' ml' cl', .int .i64 ((dp + 1 : Nat) : Int), .int .i64 ((left - (1 + cnts (l.take j)) : Nat) : Int)] w1 (RetW (VaR u w1 i (dp + 1) (left - (1 + cnts (l.take j)))))) := fun w1 j L i hi => by
    rcases hin with hn | ⟨b, off, rfl, hbb, hL⟩
    · rw [hn] at hi; cases hi
    · have hbw : Below w.heap.size w w1 := hb0.out.trans (L.bl.mono hb0.out.size)
      obtain ⟨vd, vl, hC, hM2⟩ := InL.get l off j i (InL.at (fun k hk => hbw.block k hk) l b off hbb hL) hi
      obtain ⟨qd', dl', cd', ql', ml', cl', rfl, rfl⟩ := hM2.form
      exact ⟨b, off, qd', dl', cd', ql', ml', cl', rfl, Nat.lt_of_lt_of_le hbb hbw.size, hC, hI i (List.mem_of_getElem? hi) w1 qd' dl' cd' ql' ml' cl' (dp + 1) _ (hU.1 wb _ hTb (fun k hk => L.bl.block k (by have := hb0.out.size; omega))) (InM.mono hbw.size i _ _ hM2) (by omega) (by omega)⟩
  obtain ⟨dl, hdl⟩ : ∃ dl, Hid (d.length = dl) := ⟨_, rfl⟩
  obtain ⟨m, hm⟩ : ∃ m, Hid (l.length = m) := ⟨_, rfl⟩
  have hm60 : m ≤ 1152921504606846976 := by rw [← hm.out]; exact hl60
  rw [hdl.out] at hUC bx hwb ⊢
  rw [hm.out] at bx hwb ⊢
  rw [hm.out] at hFF hTT
  obtain ⟨bt, hbt⟩ : ∃ bt, Hid (u d = bt) := ⟨_, rfl⟩
  rw [hbt.out] at hUC
  clear hT hM hpd hin hq' hTb h2 hdc hd62 hl60 hI
  by_cases zn : n = 0
  · subst zn
    by_cases zdl : dl = 0
    · subst zdl
      by_cases zm : m = 0
      · subst zm
        cases bt with
        | true =>
          go_enter Tryd.func30, Tryd.ntmps30
          go_wp2_with fail
          rw [← hwb.out] at hUC
          refine hUC.mono ?_
          rintro e w1 ⟨v1, rfl, rfl, hb1⟩
          rw [hwb.out] at hb1
          have HB1 := hidW hb1
          obtain ⟨i0, i1, i2, i3, hil⟩ := bx.out w1 hb1
          clear hb1 hUC
          go_wp2
          go_loopg [11, 12] 1 (fun gk s11 s12 wr => s12 = .int .i64 0 ∧ s11 = .int .i64 1 ∧ gk = 1 ∧ w1 = wr)
          case atStart => exact ⟨rfl, rfl, rfl, rfl⟩
          case round =>
            obtain ⟨rfl, rfl, rfl, rfl⟩ := hrel
            have hl0 : l = [] := List.length_eq_zero_iff.1 hm.out
            subst hl0
            have HQ0 := hTT.out (by simp [own, hbt.out]) w1 ⟨Nat.le_refl _, HB1.out, ⟨rfl, fun h => absurd rfl h, by rw [List.take_nil, cnts]; omega⟩⟩
            rw [show 1 + cnts [] = 1 by rw [cnts]] at HQ0
            have HQ := hidW HQ0
            clear HQ0
            go_wp2
            go_ret2
            exact ⟨_, rfl, HQ.out⟩
        | false =>
          go_enter Tryd.func30, Tryd.ntmps30
          go_wp2_with fail
          rw [← hwb.out] at hUC
          refine hUC.mono ?_
          rintro e w1 ⟨v1, rfl, rfl, hb1⟩
          rw [hwb.out] at hb1
          have HB1 := hidW hb1
          obtain ⟨i0, i1, i2, i3, hil⟩ := bx.out w1 hb1
          clear hb1 hUC
          go_wp2
          go_ret2
          exact ⟨_, rfl, hFF.out (by simp [own, hbt.out]) _ HB1.out⟩
      · obtain ⟨em, fm⟩ := ne0 m zm
        go_enter Tryd.func30, Tryd.ntmps30
        go_wp2_with fail
        rw [← hwb.out] at hUC
        refine hUC.mono ?_
        rintro e w1 ⟨v1, rfl, rfl, hb1⟩
        rw [hwb.out] at hb1
        have HB1 := hidW hb1
        obtain ⟨i0, i1, i2, i3, hil⟩ := bx.out w1 hb1
        clear hb1 hUC
        go_wp2
        go_ret2
        exact ⟨_, rfl, hFF.out (by simp [own, zm]) _ HB1.out⟩
    · obtain ⟨edl, fdl⟩ := ne0 dl zdl
      by_cases zm : m = 0
      · subst zm
        cases bt with
        | true =>
          go_enter Tryd.func30, Tryd.ntmps30
          go_wp2_with fail
          rw [← hwb.out] at hUC
          refine hUC.mono ?_
          rintro e w1 ⟨v1, rfl, rfl, hb1⟩
          rw [hwb.out] at hb1
          have HB1 := hidW hb1
          obtain ⟨i0, i1, i2, i3, hil⟩ := bx.out w1 hb1
          clear hb1 hUC
          go_wp2
          go_loopg [11, 12] 1 (fun gk s11 s12 wr => s12 = .int .i64 0 ∧ s11 = .int .i64 1 ∧ gk = 1 ∧ w1 = wr)
          case atStart => exact ⟨rfl, rfl, rfl, rfl⟩
          case round =>
            obtain ⟨rfl, rfl, rfl, rfl⟩ := hrel
            have hl0 : l = [] := List.length_eq_zero_iff.1 hm.out
            subst hl0
            have HQ0 := hTT.out (by simp [own, hbt.out]) w1 ⟨Nat.le_refl _, HB1.out, ⟨rfl, fun h => absurd rfl h, by rw [List.take_nil, cnts]; omega⟩⟩
            rw [show 1 + cnts [] = 1 by rw [cnts]] at HQ0
            have HQ := hidW HQ0
            clear HQ0
            go_wp2
            go_ret2
            exact ⟨_, rfl, HQ.out⟩
        | false =>
          go_enter Tryd.func30, Tryd.ntmps30
          go_wp2_with fail
          rw [← hwb.out] at hUC
          refine hUC.mono ?_
          rintro e w1 ⟨v1, rfl, rfl, hb1⟩
          rw [hwb.out] at hb1
          have HB1 := hidW hb1
          obtain ⟨i0, i1, i2, i3, hil⟩ := bx.out w1 hb1
          clear hb1 hUC
          go_wp2
          go_ret2
          exact ⟨_, rfl, hFF.out (by simp [own, hbt.out]) _ HB1.out⟩
      · obtain ⟨em, fm⟩ := ne0 m zm
        go_enter Tryd.func30, Tryd.ntmps30
        go_wp2_with fail
        rw [← hwb.out] at hUC
        refine hUC.mono ?_
        rintro e w1 ⟨v1, rfl, rfl, hb1⟩
        rw [hwb.out] at hb1
        have HB1 := hidW hb1
        obtain ⟨i0, i1, i2, i3, hil⟩ := bx.out w1 hb1
        clear hb1 hUC
        go_wp2
        go_ret2
        exact ⟨_, rfl, hFF.out (by simp [own, zm]) _ HB1.out⟩
  · obtain ⟨en, fn⟩ := ne0 n zn
    go_enter Tryd.func30, Tryd.ntmps30
    go_wp2_with fail
    rw [← hwb.out] at hUC
    refine hUC.mono ?_
    rintro e w1 ⟨v1, rfl, rfl, hb1⟩
    rw [hwb.out] at hb1
    have HB1 := hidW hb1
    obtain ⟨i0, i1, i2, i3, hil⟩ := bx.out w1 hb1
    clear hb1 hUC
    go_wp2
    go_ret2
    exact ⟨_, rfl, hFF.out (by simp [own, zn]) _ HB1.out⟩
end WI
end Go.Proofs.YtfkgfcggcfkkiaaDoor
namespace Go.Proofs.YtfkgfcggcfkkiaaDoor
open Go.RowKit Go.Sort Go.Deep
namespace WI
variable {T : World → Prop} {u : List UInt8 → Bool}
set_option maxHeartbeats 1000000 in
set_option maxRecDepth 20000 in
theorem rv4 (hU : UV T u) (n : Nat) (d : List UInt8) (l : List Itm) (hI : ∀ i ∈ l, VSp T u i) (w : World) (qd : Option Addr) (cd : Nat) (ql : Option Addr) (cl : Nat) (dp left : Nat) (hT : T w) (hM : InM w w.heap.size (.mk 4 n d l) (.slice qd d.length cd) (.slice ql l.length cl)) (hdp : dp ≤ 16) (hlf : left ≤ 4096) (hl1 : 1 ≤ left) :
    Calls Tryd.prog 30 #[itv 4 n qd d.length cd ql l.length cl, .int .i64 (dp : Int), .int .i64 (left : Int)] w (RetW (VaR u w (.mk 4 n d l) dp left)) := by
  unfold itv
  have hM0 := hM
  rw [InM] at hM0
  obtain ⟨hn64, hd62, hl60, hpd, q', c', hq', hin⟩ := hM0
  obtain ⟨rfl, rfl⟩ : ql = q' ∧ cl = c' := by simpa using hq'
  have hdc : d.length ≤ cd := by
    obtain ⟨qq, cc, e, hcc, -⟩ := hpd
    obtain ⟨-, rfl⟩ : qd = qq ∧ cd = cc := by simpa using e
    exact hcc
  obtain ⟨wb, hwb⟩ : ∃ wb, Hid (w.alloc (.cells #[.int .i64 4, .int .u64 (n : Int), .slice qd d.length cd, .slice ql l.length cl] 27) = wb) := ⟨_, rfl⟩
  have hb0 : Hid (Below w.heap.size w wb) := by rw [← hwb.out]; exact alloc_below _ _
  have h2 := hU.2.1 w hT
  have hTb : T wb := hU.1 w _ hT (fun j hj => hb0.out.block j (by omega))
  have hUC := hU.2.2 wb qd d.length cd d hTb (hpd.pb.below hb0.out) hdc hd62
  have bx : Hid (∀ w1, Below wb.heap.size wb w1 → w1.cell? ⟨w.heap.size, 0, none⟩ = some (.int .i64 4) ∧ w1.cell? ⟨w.heap.size, 1, none⟩ = some (.int .u64 (n : Int)) ∧ w1.cell? ⟨w.heap.size, 2, none⟩ = some (.slice qd d.length cd) ∧ w1.cell? ⟨w.heap.size, 3, none⟩ = some (.slice ql l.length cl) ∧ w.heap.size < w1.heap.size) := fun w1 hb => by
    have hz : ∀ j v, ([.int .i64 4, .int .u64 (n : Int), .slice qd d.length cd, .slice ql l.length cl] : List Value)[j]? = some v → w1.cell? ⟨w.heap.size, j, none⟩ = some v := fun j v hj => by
      have := al_c w #[.int .i64 4, .int .u64 (n : Int), .slice qd d.length cd, .slice ql l.length cl] 27 _ j v rfl (by simpa using hj)
      rw [hwb.out] at this
      rw [hb.cell (p := ⟨w.heap.size, j, none⟩) (World.block_lt_of_cell? _ _ this)]
      exact this
    exact ⟨hz 0 _ rfl, hz 1 _ rfl, hz 2 _ rfl, hz 3 _ rfl, World.block_lt_of_cell? _ _ (hz 0 _ rfl)⟩
  have g1 : ¬ (left : Int) < 1 := by omega
  have g1b : decide ((left : Int) < 1) = false := decide_eq_false g1
  have g2 : ¬ (16 : Int) < (dp : Int) := by omega
  have g2b : decide ((16 : Int) < (dp : Int)) = false := decide_eq_false g2
  have hFF : Hid (own u 4 n d l.length = false → ∀ w', Below wb.heap.size wb w' → VaR u w (.mk 4 n d l) dp left (.tuple #[.int .i64 0, .bool false]) w') := fun ho w' hw' => ⟨hb0.out.trans (hw'.mono hb0.out.size), Or.inr ⟨(fun hv => by rw [((vok_mk u 4 n d l dp left).1 hv).1] at ho; cases ho), rfl⟩⟩
  have hFL : Hid (¬ voks u l (dp + 1) (left - 1) → ∀ w', Below wb.heap.size wb w' → VaR u w (.mk 4 n d l) dp left (.tuple #[.int .i64 0, .bool false]) w') := fun ho w' hw' => ⟨hb0.out.trans (hw'.mono hb0.out.size), Or.inr ⟨(fun hv => ho ((vok_mk u 4 n d l dp left).1 hv).2.2.2), rfl⟩⟩
  have hTT : Hid (own u 4 n d l.length = true → ∀ w', VLo u wb l dp left l.length w' → VaR u w (.mk 4 n d l) dp left (.tuple #[.int .i64 ((1 + cnts l : Nat) : Int), .bool true]) w') := fun ho w' L => by
    have h3 := L.ok
    rw [List.take_length] at h3
    refine ⟨hb0.out.trans (L.bl.mono hb0.out.size), Or.inl ⟨(vok_mk u 4 n d l dp left).2 ⟨ho, hdp, hl1, h3⟩, ?_⟩⟩
    rw [cnt, Nat.add_comm]
  have HE : Hid (∀ w1 j, VLo u wb l dp left j w1 → ∀ i, l[j]? = some i → ∃ b off qd' dl' cd' ql' ml' cl', ql = some ⟨b, off, none⟩ ∧ b < w1.heap.size ∧ CeI w1 b (off + j * 4) i (.slice qd' dl' cd') (.slice ql' ml' cl') ∧ Calls Tryd.prog 30 #[itv i.k i.n qd' dl' cd' ql' ml' cl', .int .i64 ((dp + 1 : Nat) : Int), .int .i64 ((left - (1 + cnts (l.take j)) : Nat) : Int)] w1 (RetW (VaR u w1 i (dp + 1) (left - (1 + cnts (l.take j)))))) := fun w1 j L i hi => by
    rcases hin with hn | ⟨b, off, rfl, hbb, hL⟩
    · rw [hn] at hi; cases hi
    · have hbw : Below w.heap.size w w1 := hb0.out.trans (L.bl.mono hb0.out.size)
      obtain ⟨vd, vl, hC, hM2⟩ := InL.get l off j i (InL.at (fun k hk => hbw.block k hk) l b off hbb hL) hi
      obtain ⟨qd', dl', cd', ql', ml', cl', rfl, rfl⟩ := hM2.form
      exact ⟨b, off, qd', dl', cd', ql', ml', cl', rfl, Nat.lt_of_lt_of_le hbb hbw.size, hC, hI i (List.mem_of_getElem? hi) w1 qd' dl' cd' ql' ml' cl' (dp + 1) _ (hU.1 wb _ hTb (fun k hk => L.bl.block k (by have := hb0.out.size; omega))) (InM.mono hbw.size i _ _ hM2) (by omega) (by omega)⟩
  obtain ⟨dl, hdl⟩ : ∃ dl, Hid (d.length = dl) := ⟨_, rfl⟩
  obtain ⟨m, hm⟩ : ∃ m, Hid (l.length = m) := ⟨_, rfl⟩
  have hm60 : m ≤ 1152921504606846976 := by rw [← hm.out]; exact hl60
  rw [hdl.out] at hUC bx hwb ⊢
  rw [hm.out] at bx hwb ⊢
  rw [hm.out] at hFF hTT
  obtain ⟨bt, hbt⟩ : ∃ bt, Hid (u d = bt) := ⟨_, rfl⟩
  rw [hbt.out] at hUC
  clear hT hM hpd hin hq' hTb h2 hdc hd62 hl60 hI
  by_cases zn : n = 0
  · subst zn
    by_cases zdl : dl = 0
    · subst zdl
      by_cases zm : m = 0
      · subst zm
        go_enter Tryd.func30, Tryd.ntmps30
        go_wp2_with fail
        rw [← hwb.out] at hUC
        refine hUC.mono ?_
        rintro e w1 ⟨v1, rfl, rfl, hb1⟩
        rw [hwb.out] at hb1
        have HB1 := hidW hb1
        obtain ⟨i0, i1, i2, i3, hil⟩ := bx.out w1 hb1
        clear hb1 hUC
        go_wp2
        go_loopg [11, 12] 1 (fun gk s11 s12 wr => s12 = .int .i64 0 ∧ s11 = .int .i64 1 ∧ gk = 1 ∧ w1 = wr)
        case atStart => exact ⟨rfl, rfl, rfl, rfl⟩
        case round =>
          obtain ⟨rfl, rfl, rfl, rfl⟩ := hrel
          have hl0 : l = [] := List.length_eq_zero_iff.1 hm.out
          subst hl0
          have HQ0 := hTT.out (by simp [own, hdl.out]) w1 ⟨Nat.le_refl _, HB1.out, ⟨rfl, fun h => absurd rfl h, by rw [List.take_nil, cnts]; omega⟩⟩
          rw [show 1 + cnts [] = 1 by rw [cnts]] at HQ0
          have HQ := hidW HQ0
          clear HQ0
          go_wp2
          go_ret2
          exact ⟨_, rfl, HQ.out⟩
      · obtain ⟨em, fm⟩ := ne0 m zm
        go_enter Tryd.func30, Tryd.ntmps30
        go_wp2_with fail
        rw [← hwb.out] at hUC
        refine hUC.mono ?_
        rintro e w1 ⟨v1, rfl, rfl, hb1⟩
        rw [hwb.out] at hb1
        have HB1 := hidW hb1
        obtain ⟨i0, i1, i2, i3, hil⟩ := bx.out w1 hb1
        clear hb1 hUC
        go_wp2
        go_loopg [11, 12] (m + 1) (fun gk s11 s12 wr => ∃ j c : Nat, s12 = .int .i64 (j : Int) ∧ s11 = .int .i64 (c : Int) ∧ Hid (c = 1 + cnts (l.take j)) ∧ gk = m + 1 - j ∧ VLo u wb l dp left j wr)
        case atStart => exact ⟨0, 1, rfl, rfl, (by show 1 = 1 + cnts (l.take 0); rw [List.take_zero, cnts]), rfl, Nat.zero_le _, HB1.out, (by rw [List.take_zero]; exact ⟨rfl, fun h => absurd rfl h, by rw [cnts]; omega⟩)⟩
        case round =>
          obtain ⟨j, cj, rfl, rfl, hcj, hgk, L⟩ := hrel
          have hjm : j ≤ m := by rw [← hm.out]; exact L.hj
          obtain ⟨i0, i1, i2, i3, hil⟩ := bx.out wr L.bl
          by_cases hj : j < m
          · obtain ⟨i, hi⟩ : ∃ i, l[j]? = some i := ⟨_, List.getElem?_eq_getElem (by rw [hm.out]; exact hj)⟩
            obtain ⟨b, off, qd', dl', cd', ql', ml', cl', rfl, hbl, ⟨c0, c1, c2, c3⟩, hc⟩ := HE.out wr j L i hi
            have hjz : (j : Int) < (m : Int) := by omega
            have hix := fun w => idxI b off m cl j hj w
            obtain ⟨lf, hlfd⟩ : ∃ lf, Hid (left - (1 + cnts (l.take j)) = lf) := ⟨_, rfl⟩
            obtain ⟨dq, hdq⟩ : ∃ dq, Hid (dp + 1 = dq) := ⟨_, rfl⟩
            rw [hlfd.out, hdq.out] at hc
            have hs1 : (dp : Int) + 1 = (dq : Int) := by rw [← hdq.out]; omega
            have hs2 : (left : Int) - (cj : Int) = (lf : Int) := by
              have h3 := L.ok.2.2
              have h4 := hcj.out
              rw [← hlfd.out]; omega
            have hclf : cj ≤ left := by have h3 := L.ok.2.2; have h4 := hcj.out; omega
            have HL := hidW (And.intro L hi)
            clear L hi
            go_wp2_with fail
            refine hc.mono ?_
            rintro e w3 ⟨v3, rfl, hb3, hr3⟩
            rw [← hlfd.out, ← hdq.out] at hr3
            rcases hr3 with ⟨hv3, rfl⟩ | ⟨hv3, rfl⟩
            · obtain ⟨LN, hce⟩ := HL.out.1.next HL.out.2 hb3 hv3
              have HN := hidW LN
              obtain ⟨ci, hci⟩ : ∃ ci, Hid (cnt i = ci) := ⟨_, rfl⟩
              obtain ⟨cN, hcN⟩ : ∃ cN, Hid (cj + ci = cN) := ⟨_, rfl⟩
              have hcs : (cj : Int) + (ci : Int) = (cN : Int) := by rw [← hcN.out]; omega
              have hcb : cN ≤ 10000 := by
                have h3 := LN.ok.2.2
                have h4 := hcj.out
                have h5 := hci.out
                rw [← hcN.out]; omega
              rw [hci.out]
              clear LN hb3 hc hv3
              go_wp2
              go_roundg (m + 1 - (j + 1))
              case measure => omega
              case rel => exact ⟨j + 1, cN, rfl, rfl, (by show cN = _; rw [← hcN.out, ← hce, hcj.out, hci.out]), rfl, HN.out⟩
            · have HQ := hidW (hFL.out (HL.out.1.bad HL.out.2 hv3) w3 (HL.out.1.bl.trans (hb3.mono HL.out.1.bl.size)))
              clear hb3 hc hv3
              go_wp2
              go_ret2
              exact ⟨_, rfl, HQ.out⟩
          · have hjz : ¬ (j : Int) < (m : Int) := by omega
            obtain rfl : j = m := by omega
            have h4 := hcj.out
            rw [← hm.out, List.take_length] at h4
            have HQ0 := hTT.out (by simp [own, hdl.out]) wr L
            rw [← h4] at HQ0
            have HQ := hidW HQ0
            clear HQ0 h4
            clear L
            go_wp2
            go_ret2
            exact ⟨_, rfl, HQ.out⟩
    · obtain ⟨edl, fdl⟩ := ne0 dl zdl
      go_enter Tryd.func30, Tryd.ntmps30
      go_wp2_with fail
      rw [← hwb.out] at hUC
      refine hUC.mono ?_
      rintro e w1 ⟨v1, rfl, rfl, hb1⟩
      rw [hwb.out] at hb1
      have HB1 := hidW hb1
      obtain ⟨i0, i1, i2, i3, hil⟩ := bx.out w1 hb1
      clear hb1 hUC
      go_wp2
      go_ret2
      exact ⟨_, rfl, hFF.out (by simp [own, hdl.out, zdl]) _ HB1.out⟩
  · obtain ⟨en, fn⟩ := ne0 n zn
    go_enter Tryd.func30, Tryd.ntmps30
    go_wp2_with fail
    rw [← hwb.out] at hUC
    refine hUC.mono ?_
    rintro e w1 ⟨v1, rfl, rfl, hb1⟩
    rw [hwb.out] at hb1
    have HB1 := hidW hb1
    obtain ⟨i0, i1, i2, i3, hil⟩ := bx.out w1 hb1
    clear hb1 hUC
    go_wp2
    go_ret2
    exact ⟨_, rfl, hFF.out (by simp [own, zn]) _ HB1.out⟩
set_option maxHeartbeats 1000000 in
set_option maxRecDepth 20000 in
theorem rv5 (hU : UV T u) (n : Nat) (d : List UInt8) (l : List Itm) (hI : ∀ i ∈ l, VSp T u i) (w : World) (qd : Option Addr) (cd : Nat) (ql : Option Addr) (cl : Nat) (dp left : Nat) (hT : T w) (hM : InM w w.heap.size (.mk 5 n d l) (.slice qd d.length cd) (.slice ql l.length cl)) (hdp : dp ≤ 16) (hlf : left ≤ 4096) (hl1 : 1 ≤ left) :
    Calls Tryd.prog 30 #[itv 5 n qd d.length cd ql l.length cl, .int .i64 (dp : Int), .int .i64 (left : Int)] w (RetW (VaR u w (.mk 5 n d l) dp left)) := by
  unfold itv
  have hM0 := hM
  rw [InM] at hM0
  obtain ⟨hn64, hd62, hl60, hpd, q', c', hq', hin⟩ := hM0
  obtain ⟨rfl, rfl⟩ : ql = q' ∧ cl = c' := by simpa using hq'
  have hdc : d.length ≤ cd := by
    obtain ⟨qq, cc, e, hcc, -⟩ := hpd
    obtain ⟨-, rfl⟩ : qd = qq ∧ cd = cc := by simpa using e
    exact hcc
  obtain ⟨wb, hwb⟩ : ∃ wb, Hid (w.alloc (.cells #[.int .i64 5, .int .u64 (n : Int), .slice qd d.length cd, .slice ql l.length cl] 27) = wb) := ⟨_, rfl⟩
  have hb0 : Hid (Below w.heap.size w wb) := by rw [← hwb.out]; exact alloc_below _ _
  have h2 := hU.2.1 w hT
  have hTb : T wb := hU.1 w _ hT (fun j hj => hb0.out.block j (by omega))
  have hUC := hU.2.2 wb qd d.length cd d hTb (hpd.pb.below hb0.out) hdc hd62
  have bx : Hid (∀ w1, Below wb.heap.size wb w1 → w1.cell? ⟨w.heap.size, 0, none⟩ = some (.int .i64 5) ∧ w1.cell? ⟨w.heap.size, 1, none⟩ = some (.int .u64 (n : Int)) ∧ w1.cell? ⟨w.heap.size, 2, none⟩ = some (.slice qd d.length cd) ∧ w1.cell? ⟨w.heap.size, 3, none⟩ = some (.slice ql l.length cl) ∧ w.heap.size < w1.heap.size) := fun w1 hb => by
    have hz : ∀ j v, ([.int .i64 5, .int .u64 (n : Int), .slice qd d.length cd, .slice ql l.length cl] : List Value)[j]? = some v → w1.cell? ⟨w.heap.size, j, none⟩ = some v := fun j v hj => by
      have := al_c w #[.int .i64 5, .int .u64 (n : Int), .slice qd d.length cd, .slice ql l.length cl] 27 _ j v rfl (by simpa using hj)
      rw [hwb.out] at this
      rw [hb.cell (p := ⟨w.heap.size, j, none⟩) (World.block_lt_of_cell? _ _ this)]
      exact this
    exact ⟨hz 0 _ rfl, hz 1 _ rfl, hz 2 _ rfl, hz 3 _ rfl, World.block_lt_of_cell? _ _ (hz 0 _ rfl)⟩
  have g1 : ¬ (left : Int) < 1 := by omega
  have g1b : decide ((left : Int) < 1) = false := decide_eq_false g1
  have g2 : ¬ (16 : Int) < (dp : Int) := by omega
  have g2b : decide ((16 : Int) < (dp : Int)) = false := decide_eq_false g2
  have hFF : Hid (own u 5 n d l.length = false → ∀ w', Below wb.heap.size wb w' → VaR u w (.mk 5 n d l) dp left (.tuple #[.int .i64 0, .bool false]) w') := fun ho w' hw' => ⟨hb0.out.trans (hw'.mono hb0.out.size), Or.inr ⟨(fun hv => by rw [((vok_mk u 5 n d l dp left).1 hv).1] at ho; cases ho), rfl⟩⟩
  have hFL : Hid (¬ voks u l (dp + 1) (left - 1) → ∀ w', Below wb.heap.size wb w' → VaR u w (.mk 5 n d l) dp left (.tuple #[.int .i64 0, .bool false]) w') := fun ho w' hw' => ⟨hb0.out.trans (hw'.mono hb0.out.size), Or.inr ⟨(fun hv => ho ((vok_mk u 5 n d l dp left).1 hv).2.2.2), rfl⟩⟩
  have hTT : Hid (own u 5 n d l.length = true → ∀ w', VLo u wb l dp left l.length w' → VaR u w (.mk 5 n d l) dp left (.tuple #[.int .i64 ((1 + cnts l : Nat) : Int), .bool true]) w') := fun ho w' L => by
    have h3 := L.ok
    rw [List.take_length] at h3
    refine ⟨hb0.out.trans (L.bl.mono hb0.out.size), Or.inl ⟨(vok_mk u 5 n d l dp left).2 ⟨ho, hdp, hl1, h3⟩, ?_⟩⟩
    rw [cnt, Nat.add_comm]
  have HE : Hid (∀ w1 j, VLo u wb l dp left j w1 → ∀ i, l[j]? = some i → ∃ b off qd' dl' cd' ql' ml' cl', ql = some ⟨b, off, none⟩ ∧ b < w1.heap.size ∧ CeI w1 b (off + j * 4) i (.slice qd' dl' cd') (.slice ql' ml' cl') ∧ Calls Tryd.prog 30 #[itv i.k i.n qd' dl' cd' ql' ml' cl', .int .i64 ((dp + 1 : Nat) : Int), .int .i64 ((left - (1 + cnts (l.take j)) : Nat) : Int)] w1 (RetW (VaR u w1 i (dp + 1) (left - (1 + cnts (l.take j)))))) := fun w1 j L i hi => by
    rcases hin with hn | ⟨b, off, rfl, hbb, hL⟩
    · rw [hn] at hi; cases hi
    · have hbw : Below w.heap.size w w1 := hb0.out.trans (L.bl.mono hb0.out.size)
      obtain ⟨vd, vl, hC, hM2⟩ := InL.get l off j i (InL.at (fun k hk => hbw.block k hk) l b off hbb hL) hi
      obtain ⟨qd', dl', cd', ql', ml', cl', rfl, rfl⟩ := hM2.form
      exact ⟨b, off, qd', dl', cd', ql', ml', cl', rfl, Nat.lt_of_lt_of_le hbb hbw.size, hC, hI i (List.mem_of_getElem? hi) w1 qd' dl' cd' ql' ml' cl' (dp + 1) _ (hU.1 wb _ hTb (fun k hk => L.bl.block k (by have := hb0.out.size; omega))) (InM.mono hbw.size i _ _ hM2) (by omega) (by omega)⟩
  obtain ⟨dl, hdl⟩ : ∃ dl, Hid (d.length = dl) := ⟨_, rfl⟩
  obtain ⟨m, hm⟩ : ∃ m, Hid (l.length = m) := ⟨_, rfl⟩
  have hm60 : m ≤ 1152921504606846976 := by rw [← hm.out]; exact hl60
  rw [hdl.out] at hUC bx hwb ⊢
  rw [hm.out] at bx hwb ⊢
  rw [hm.out] at hFF hTT
  obtain ⟨bt, hbt⟩ : ∃ bt, Hid (u d = bt) := ⟨_, rfl⟩
  rw [hbt.out] at hUC
  clear hT hM hpd hin hq' hTb h2 hdc hd62 hl60 hI
  by_cases zn : n = 0
  · subst zn
    by_cases zdl : dl = 0
    · subst zdl
      by_cases zm : m = 0
      · subst zm
        go_enter Tryd.func30, Tryd.ntmps30
        go_wp2_with fail
        rw [← hwb.out] at hUC
        refine hUC.mono ?_
        rintro e w1 ⟨v1, rfl, rfl, hb1⟩
        rw [hwb.out] at hb1
        have HB1 := hidW hb1
        obtain ⟨i0, i1, i2, i3, hil⟩ := bx.out w1 hb1
        clear hb1 hUC
        go_wp2
        go_loopg [11, 12] 1 (fun gk s11 s12 wr => s12 = .int .i64 0 ∧ s11 = .int .i64 1 ∧ gk = 1 ∧ w1 = wr)
        case atStart => exact ⟨rfl, rfl, rfl, rfl⟩
        case round =>
          obtain ⟨rfl, rfl, rfl, rfl⟩ := hrel
          have hl0 : l = [] := List.length_eq_zero_iff.1 hm.out
          subst hl0
          have HQ0 := hTT.out (by simp [own, hdl.out]) w1 ⟨Nat.le_refl _, HB1.out, ⟨rfl, fun h => absurd rfl h, by rw [List.take_nil, cnts]; omega⟩⟩
          rw [show 1 + cnts [] = 1 by rw [cnts]] at HQ0
          have HQ := hidW HQ0
          clear HQ0
          go_wp2
          go_ret2
          exact ⟨_, rfl, HQ.out⟩
      · obtain ⟨em, fm⟩ := ne0 m zm
        have hr : (m : Int).tmod 2 = ((m % 2 : Nat) : Int) := rfl
        obtain ⟨r2, hr2⟩ : ∃ r2, Hid (m % 2 = r2) := ⟨_, rfl⟩
        rw [hr2.out] at hr
        by_cases zr : r2 = 0
        · subst zr
          go_enter Tryd.func30, Tryd.ntmps30
          go_wp2_with fail
          rw [← hwb.out] at hUC
          refine hUC.mono ?_
          rintro e w1 ⟨v1, rfl, rfl, hb1⟩
          rw [hwb.out] at hb1
          have HB1 := hidW hb1
          obtain ⟨i0, i1, i2, i3, hil⟩ := bx.out w1 hb1
          clear hb1 hUC
          go_wp2
          go_loopg [11, 12] (m + 1) (fun gk s11 s12 wr => ∃ j c : Nat, s12 = .int .i64 (j : Int) ∧ s11 = .int .i64 (c : Int) ∧ Hid (c = 1 + cnts (l.take j)) ∧ gk = m + 1 - j ∧ VLo u wb l dp left j wr)
          case atStart => exact ⟨0, 1, rfl, rfl, (by show 1 = 1 + cnts (l.take 0); rw [List.take_zero, cnts]), rfl, Nat.zero_le _, HB1.out, (by rw [List.take_zero]; exact ⟨rfl, fun h => absurd rfl h, by rw [cnts]; omega⟩)⟩
          case round =>
            obtain ⟨j, cj, rfl, rfl, hcj, hgk, L⟩ := hrel
            have hjm : j ≤ m := by rw [← hm.out]; exact L.hj
            obtain ⟨i0, i1, i2, i3, hil⟩ := bx.out wr L.bl
            by_cases hj : j < m
            · obtain ⟨i, hi⟩ : ∃ i, l[j]? = some i := ⟨_, List.getElem?_eq_getElem (by rw [hm.out]; exact hj)⟩
              obtain ⟨b, off, qd', dl', cd', ql', ml', cl', rfl, hbl, ⟨c0, c1, c2, c3⟩, hc⟩ := HE.out wr j L i hi
              have hjz : (j : Int) < (m : Int) := by omega
              have hix := fun w => idxI b off m cl j hj w
              obtain ⟨lf, hlfd⟩ : ∃ lf, Hid (left - (1 + cnts (l.take j)) = lf) := ⟨_, rfl⟩
              obtain ⟨dq, hdq⟩ : ∃ dq, Hid (dp + 1 = dq) := ⟨_, rfl⟩
              rw [hlfd.out, hdq.out] at hc
              have hs1 : (dp : Int) + 1 = (dq : Int) := by rw [← hdq.out]; omega
              have hs2 : (left : Int) - (cj : Int) = (lf : Int) := by
                have h3 := L.ok.2.2
                have h4 := hcj.out
                rw [← hlfd.out]; omega
              have hclf : cj ≤ left := by have h3 := L.ok.2.2; have h4 := hcj.out; omega
              have HL := hidW (And.intro L hi)
              clear L hi
              go_wp2_with fail
              refine hc.mono ?_
              rintro e w3 ⟨v3, rfl, hb3, hr3⟩
              rw [← hlfd.out, ← hdq.out] at hr3
              rcases hr3 with ⟨hv3, rfl⟩ | ⟨hv3, rfl⟩
              · obtain ⟨LN, hce⟩ := HL.out.1.next HL.out.2 hb3 hv3
                have HN := hidW LN
                obtain ⟨ci, hci⟩ : ∃ ci, Hid (cnt i = ci) := ⟨_, rfl⟩
                obtain ⟨cN, hcN⟩ : ∃ cN, Hid (cj + ci = cN) := ⟨_, rfl⟩
                have hcs : (cj : Int) + (ci : Int) = (cN : Int) := by rw [← hcN.out]; omega
                have hcb : cN ≤ 10000 := by
                  have h3 := LN.ok.2.2
                  have h4 := hcj.out
                  have h5 := hci.out
                  rw [← hcN.out]; omega
                rw [hci.out]
                clear LN hb3 hc hv3
                go_wp2
                go_roundg (m + 1 - (j + 1))
                case measure => omega
                case rel => exact ⟨j + 1, cN, rfl, rfl, (by show cN = _; rw [← hcN.out, ← hce, hcj.out, hci.out]), rfl, HN.out⟩
              · have HQ := hidW (hFL.out (HL.out.1.bad HL.out.2 hv3) w3 (HL.out.1.bl.trans (hb3.mono HL.out.1.bl.size)))
                clear hb3 hc hv3
                go_wp2
                go_ret2
                exact ⟨_, rfl, HQ.out⟩
            · have hjz : ¬ (j : Int) < (m : Int) := by omega
              obtain rfl : j = m := by omega
              have h4 := hcj.out
              rw [← hm.out, List.take_length] at h4
              have HQ0 := hTT.out (by simp [own, hdl.out, hr2.out]) wr L
              rw [← h4] at HQ0
              have HQ := hidW HQ0
              clear HQ0 h4
              clear L
              go_wp2
              go_ret2
              exact ⟨_, rfl, HQ.out⟩
        · obtain ⟨er, fr⟩ := ne0 r2 zr
          go_enter Tryd.func30, Tryd.ntmps30
          go_wp2_with fail
          rw [← hwb.out] at hUC
          refine hUC.mono ?_
          rintro e w1 ⟨v1, rfl, rfl, hb1⟩
          rw [hwb.out] at hb1
          have HB1 := hidW hb1
          obtain ⟨i0, i1, i2, i3, hil⟩ := bx.out w1 hb1
          clear hb1 hUC
          go_wp2
          go_ret2
          exact ⟨_, rfl, hFF.out (by simp [own, hdl.out, hr2.out, zr]) _ HB1.out⟩
    · obtain ⟨edl, fdl⟩ := ne0 dl zdl
      go_enter Tryd.func30, Tryd.ntmps30
      go_wp2_with fail
      rw [← hwb.out] at hUC
      refine hUC.mono ?_
      rintro e w1 ⟨v1, rfl, rfl, hb1⟩
      rw [hwb.out] at hb1
      have HB1 := hidW hb1
      obtain ⟨i0, i1, i2, i3, hil⟩ := bx.out w1 hb1
      clear hb1 hUC
      go_wp2
      go_ret2
      exact ⟨_, rfl, hFF.out (by simp [own, hdl.out, zdl]) _ HB1.out⟩
  · obtain ⟨en, fn⟩ := ne0 n zn
    go_enter Tryd.func30, Tryd.ntmps30
    go_wp2_with fail
    rw [← hwb.out] at hUC
    refine hUC.mono ?_
    rintro e w1 ⟨v1, rfl, rfl, hb1⟩
    rw [hwb.out] at hb1
    have HB1 := hidW hb1
    obtain ⟨i0, i1, i2, i3, hil⟩ := bx.out w1 hb1
    clear hb1 hUC
    go_wp2
    go_ret2
    exact ⟨_, rfl, hFF.out (by simp [own, zn]) _ HB1.out⟩
end WI
end Go.Proofs.YtfkgfcggcfkkiaaDoor
namespace Go.Proofs.YtfkgfcggcfkkiaaDoor
open Go.RowKit Go.Sort Go.Deep
namespace WI
variable {T : World → Prop} {u : List UInt8 → Bool}
set_option maxHeartbeats 1000000 in
set_option maxRecDepth 20000 in
theorem rv7 (hU : UV T u) (n : Nat) (d : List UInt8) (l : List Itm) (hI : ∀ i ∈ l, VSp T u i) (w : World) (qd : Option Addr) (cd : Nat) (ql : Option Addr) (cl : Nat) (dp left : Nat) (hT : T w) (hM : InM w w.heap.size (.mk 7 n d l) (.slice qd d.length cd) (.slice ql l.length cl)) (hdp : dp ≤ 16) (hlf : left ≤ 4096) (hl1 : 1 ≤ left) :
    Calls Tryd.prog 30 #[itv 7 n qd d.length cd ql l.length cl, .int .i64 (dp : Int), .int .i64 (left : Int)] w (RetW (VaR u w (.mk 7 n d l) dp left)) := by
  unfold itv
  have hM0 := hM
  rw [InM] at hM0
  obtain ⟨hn64, hd62, hl60, hpd, q', c', hq', hin⟩ := hM0
  obtain ⟨rfl, rfl⟩ : ql = q' ∧ cl = c' := by simpa using hq'
  have hdc : d.length ≤ cd := by
    obtain ⟨qq, cc, e, hcc, -⟩ := hpd
    obtain ⟨-, rfl⟩ : qd = qq ∧ cd = cc := by simpa using e
    exact hcc
  obtain ⟨wb, hwb⟩ : ∃ wb, Hid (w.alloc (.cells #[.int .i64 7, .int .u64 (n : Int), .slice qd d.length cd, .slice ql l.length cl] 27) = wb) := ⟨_, rfl⟩
  have hb0 : Hid (Below w.heap.size w wb) := by rw [← hwb.out]; exact alloc_below _ _
  have h2 := hU.2.1 w hT
  have hTb : T wb := hU.1 w _ hT (fun j hj => hb0.out.block j (by omega))
  have hUC := hU.2.2 wb qd d.length cd d hTb (hpd.pb.below hb0.out) hdc hd62
  have bx : Hid (∀ w1, Below wb.heap.size wb w1 → w1.cell? ⟨w.heap.size, 0, none⟩ = some (.int .i64 7) ∧ w1.cell? ⟨w.heap.size, 1, none⟩ = some (.int .u64 (n : Int)) ∧ w1.cell? ⟨w.heap.size, 2, none⟩ = some (.slice qd d.length cd) ∧ w1.cell? ⟨w.heap.size, 3, none⟩ = some (.slice ql l.length cl) ∧ w.heap.size < w1.heap.size) := fun w1 hb => by
    have hz : ∀ j v, ([.int .i64 7, .int .u64 (n : Int), .slice qd d.length cd, .slice ql l.length cl] : List Value)[j]? = some v → w1.cell? ⟨w.heap.size, j, none⟩ = some v := fun j v hj => by
      have := al_c w #[.int .i64 7, .int .u64 (n : Int), .slice qd d.length cd, .slice ql l.length cl] 27 _ j v rfl (by simpa using hj)
      rw [hwb.out] at this
      rw [hb.cell (p := ⟨w.heap.size, j, none⟩) (World.block_lt_of_cell? _ _ this)]
      exact this
    exact ⟨hz 0 _ rfl, hz 1 _ rfl, hz 2 _ rfl, hz 3 _ rfl, World.block_lt_of_cell? _ _ (hz 0 _ rfl)⟩
  have g1 : ¬ (left : Int) < 1 := by omega
  have g1b : decide ((left : Int) < 1) = false := decide_eq_false g1
  have g2 : ¬ (16 : Int) < (dp : Int) := by omega
  have g2b : decide ((16 : Int) < (dp : Int)) = false := decide_eq_false g2
  have hFF : Hid (own u 7 n d l.length = false → ∀ w', Below wb.heap.size wb w' → VaR u w (.mk 7 n d l) dp left (.tuple #[.int .i64 0, .bool false]) w') := fun ho w' hw' => ⟨hb0.out.trans (hw'.mono hb0.out.size), Or.inr ⟨(fun hv => by rw [((vok_mk u 7 n d l dp left).1 hv).1] at ho; cases ho), rfl⟩⟩
  have hFL : Hid (¬ voks u l (dp + 1) (left - 1) → ∀ w', Below wb.heap.size wb w' → VaR u w (.mk 7 n d l) dp left (.tuple #[.int .i64 0, .bool false]) w') := fun ho w' hw' => ⟨hb0.out.trans (hw'.mono hb0.out.size), Or.inr ⟨(fun hv => ho ((vok_mk u 7 n d l dp left).1 hv).2.2.2), rfl⟩⟩
  have hTT : Hid (own u 7 n d l.length = true → ∀ w', VLo u wb l dp left l.length w' → VaR u w (.mk 7 n d l) dp left (.tuple #[.int .i64 ((1 + cnts l : Nat) : Int), .bool true]) w') := fun ho w' L => by
    have h3 := L.ok
    rw [List.take_length] at h3
    refine ⟨hb0.out.trans (L.bl.mono hb0.out.size), Or.inl ⟨(vok_mk u 7 n d l dp left).2 ⟨ho, hdp, hl1, h3⟩, ?_⟩⟩
    rw [cnt, Nat.add_comm]
  have HE : Hid (∀ w1 j, VLo u wb l dp left j w1 → ∀ i, l[j]? = some i → ∃ b off qd' dl' cd' ql' ml' cl', ql = some ⟨b, off, none⟩ ∧ b < w1.heap.size ∧ CeI w1 b (off + j * 4) i (.slice qd' dl' cd') (.slice ql' ml' cl') ∧ Calls Tryd.prog 30 #[itv i.k i.n qd' dl' cd' ql' ml' cl', .int .i64 ((dp + 1 : Nat) : Int), .int .i64 ((left - (1 + cnts (l.take j)) : Nat) : Int)] w1 (RetW (VaR u w1 i (dp + 1) (left - (1 + cnts (l.take j)))))) := fun w1 j L i hi => by
    rcases hin with hn | ⟨b, off, rfl, hbb, hL⟩
    · rw [hn] at hi; cases hi
    · have hbw : Below w.heap.size w w1 := hb0.out.trans (L.bl.mono hb0.out.size)
      obtain ⟨vd, vl, hC, hM2⟩ := InL.get l off j i (InL.at (fun k hk => hbw.block k hk) l b off hbb hL) hi
      obtain ⟨qd', dl', cd', ql', ml', cl', rfl, rfl⟩ := hM2.form
      exact ⟨b, off, qd', dl', cd', ql', ml', cl', rfl, Nat.lt_of_lt_of_le hbb hbw.size, hC, hI i (List.mem_of_getElem? hi) w1 qd' dl' cd' ql' ml' cl' (dp + 1) _ (hU.1 wb _ hTb (fun k hk => L.bl.block k (by have := hb0.out.size; omega))) (InM.mono hbw.size i _ _ hM2) (by omega) (by omega)⟩
  obtain ⟨dl, hdl⟩ : ∃ dl, Hid (d.length = dl) := ⟨_, rfl⟩
  obtain ⟨m, hm⟩ : ∃ m, Hid (l.length = m) := ⟨_, rfl⟩
  have hm60 : m ≤ 1152921504606846976 := by rw [← hm.out]; exact hl60
  rw [hdl.out] at hUC bx hwb ⊢
  rw [hm.out] at bx hwb ⊢
  rw [hm.out] at hFF hTT
  obtain ⟨bt, hbt⟩ : ∃ bt, Hid (u d = bt) := ⟨_, rfl⟩
  rw [hbt.out] at hUC
  clear hT hM hpd hin hq' hTb h2 hdc hd62 hl60 hI
  by_cases zn : n = 0
  · subst zn
    by_cases zdl : dl = 0
    · subst zdl
      by_cases zm : m = 0
      · subst zm
        go_enter Tryd.func30, Tryd.ntmps30
        go_wp2_with fail
        rw [← hwb.out] at hUC
        refine hUC.mono ?_
        rintro e w1 ⟨v1, rfl, rfl, hb1⟩
        rw [hwb.out] at hb1
        have HB1 := hidW hb1
        obtain ⟨i0, i1, i2, i3, hil⟩ := bx.out w1 hb1
        clear hb1 hUC
        go_wp2
        go_ret2
        exact ⟨_, rfl, hFF.out (by simp [own, hdl.out]) _ HB1.out⟩
      · obtain ⟨em, fm⟩ := ne0 m zm
        go_enter Tryd.func30, Tryd.ntmps30
        go_wp2_with fail
        rw [← hwb.out] at hUC
        refine hUC.mono ?_
        rintro e w1 ⟨v1, rfl, rfl, hb1⟩
        rw [hwb.out] at hb1
        have HB1 := hidW hb1
        obtain ⟨i0, i1, i2, i3, hil⟩ := bx.out w1 hb1
        clear hb1 hUC
        go_wp2
        go_ret2
        exact ⟨_, rfl, hFF.out (by simp [own, zm]) _ HB1.out⟩
    · obtain ⟨edl, fdl⟩ := ne0 dl zdl
      go_enter Tryd.func30, Tryd.ntmps30
      go_wp2_with fail
      rw [← hwb.out] at hUC
      refine hUC.mono ?_
      rintro e w1 ⟨v1, rfl, rfl, hb1⟩
      rw [hwb.out] at hb1
      have HB1 := hidW hb1
      obtain ⟨i0, i1, i2, i3, hil⟩ := bx.out w1 hb1
      clear hb1 hUC
      go_wp2
      go_ret2
      exact ⟨_, rfl, hFF.out (by simp [own, hdl.out, zdl]) _ HB1.out⟩
  · obtain ⟨en, fn⟩ := ne0 n zn
    by_cases zdl : dl = 0
    · subst zdl
      by_cases zm : m = 0
      · subst zm
        by_cases c1 : n < 20
        · have c1z : (n : Int) < 20 := by omega
          go_enter Tryd.func30, Tryd.ntmps30
          go_wp2_with fail
          rw [← hwb.out] at hUC
          refine hUC.mono ?_
          rintro e w1 ⟨v1, rfl, rfl, hb1⟩
          rw [hwb.out] at hb1
          have HB1 := hidW hb1
          obtain ⟨i0, i1, i2, i3, hil⟩ := bx.out w1 hb1
          clear hb1 hUC
          go_wp2
          go_ret2
          exact ⟨_, rfl, hFF.out (by simp [own, hdl.out]; omega) _ HB1.out⟩
        · have c1z : ¬ (n : Int) < 20 := by omega
          have c1b : decide ((n : Int) < 20) = false := decide_eq_false c1z
          by_cases c2 : 22 < n
          · have c2z : (22 : Int) < (n : Int) := by omega
            go_enter Tryd.func30, Tryd.ntmps30
            go_wp2_with fail
            rw [← hwb.out] at hUC
            refine hUC.mono ?_
            rintro e w1 ⟨v1, rfl, rfl, hb1⟩
            rw [hwb.out] at hb1
            have HB1 := hidW hb1
            obtain ⟨i0, i1, i2, i3, hil⟩ := bx.out w1 hb1
            clear hb1 hUC
            go_wp2
            go_ret2
            exact ⟨_, rfl, hFF.out (by simp [own, hdl.out]; omega) _ HB1.out⟩
          · have c2z : ¬ (22 : Int) < (n : Int) := by omega
            have c2b : decide ((22 : Int) < (n : Int)) = false := decide_eq_false c2z
            go_enter Tryd.func30, Tryd.ntmps30
            go_wp2_with fail
            rw [← hwb.out] at hUC
            refine hUC.mono ?_
            rintro e w1 ⟨v1, rfl, rfl, hb1⟩
            rw [hwb.out] at hb1
            have HB1 := hidW hb1
            obtain ⟨i0, i1, i2, i3, hil⟩ := bx.out w1 hb1
            clear hb1 hUC
            go_wp2
            go_loopg [11, 12] 1 (fun gk s11 s12 wr => s12 = .int .i64 0 ∧ s11 = .int .i64 1 ∧ gk = 1 ∧ w1 = wr)
            case atStart => exact ⟨rfl, rfl, rfl, rfl⟩
            case round =>
              obtain ⟨rfl, rfl, rfl, rfl⟩ := hrel
              have hl0 : l = [] := List.length_eq_zero_iff.1 hm.out
              subst hl0
              have HQ0 := hTT.out (by simp [own, hdl.out]; omega) w1 ⟨Nat.le_refl _, HB1.out, ⟨rfl, fun h => absurd rfl h, by rw [List.take_nil, cnts]; omega⟩⟩
              rw [show 1 + cnts [] = 1 by rw [cnts]] at HQ0
              have HQ := hidW HQ0
              clear HQ0
              go_wp2
              go_ret2
              exact ⟨_, rfl, HQ.out⟩
      · obtain ⟨em, fm⟩ := ne0 m zm
        go_enter Tryd.func30, Tryd.ntmps30
        go_wp2_with fail
        rw [← hwb.out] at hUC
        refine hUC.mono ?_
        rintro e w1 ⟨v1, rfl, rfl, hb1⟩
        rw [hwb.out] at hb1
        have HB1 := hidW hb1
        obtain ⟨i0, i1, i2, i3, hil⟩ := bx.out w1 hb1
        clear hb1 hUC
        go_wp2
        go_ret2
        exact ⟨_, rfl, hFF.out (by simp [own, zm]) _ HB1.out⟩
    · obtain ⟨edl, fdl⟩ := ne0 dl zdl
      go_enter Tryd.func30, Tryd.ntmps30
      go_wp2_with fail
      rw [← hwb.out] at hUC
      refine hUC.mono ?_
      rintro e w1 ⟨v1, rfl, rfl, hb1⟩
      rw [hwb.out] at hb1
      have HB1 := hidW hb1
      obtain ⟨i0, i1, i2, i3, hil⟩ := bx.out w1 hb1
      clear hb1 hUC
      go_wp2
      go_ret2
      exact ⟨_, rfl, hFF.out (by simp [own, hdl.out, zdl]) _ HB1.out⟩
end WI
end Go.Proofs.YtfkgfcggcfkkiaaDoor
namespace Go.Proofs.YtfkgfcggcfkkiaaDoor
open Go.RowKit Go.Sort Go.Deep
namespace WI
variable {T : World → Prop} {u : List UInt8 → Bool}
theorem not_vok (k : Int) (n : Nat) (d : List UInt8) (l : List Itm) (dp left : Nat) (h : left = 0 ∨ 16 < dp ∨ own u k n d l.length = false) : ¬ vok u (.mk k n d l) dp left := fun hv => by
  obtain ⟨h1, h2, h3, -⟩ := (vok_mk u k n d l dp left).1 hv
  rcases h with h | h | h
  · omega
  · omega
  · rw [h1] at h; cases h
set_option maxRecDepth 20000 in
set_option maxHeartbeats 1000000 in
/-- Too deep, or too many: whatever it is. -/
theorem rv_few (i : Itm) (w : World) (qd : Option Addr) (dl cd : Nat) (ql : Option Addr) (m cl : Nat) (dp left : Nat) (h : left = 0 ∨ 16 < dp) : Calls Tryd.prog 30 #[itv i.k i.n qd dl cd ql m cl, .int .i64 (dp : Int), .int .i64 (left : Int)] w (RetW (VaR u w i dp left)) := by
  have hF : Hid (VaR u w i dp left (.tuple #[.int .i64 0, .bool false]) (w.alloc (.cells #[.int .i64 i.k, .int .u64 (i.n : Int), .slice qd dl cd, .slice ql m cl] 27))) := by
    cases i with
    | mk k n d l => exact ⟨alloc_below _ _, Or.inr ⟨not_vok k n d l dp left (by rcases h with h | h; exact Or.inl h; exact Or.inr (Or.inl h)), rfl⟩⟩
  unfold itv
  by_cases hl : left = 0
  · subst hl
    go_enter Tryd.func30, Tryd.ntmps30
    go_wp2
    go_ret2
    exact ⟨_, rfl, hF.out⟩
  · have g1 : ¬ (left : Int) < 1 := by omega
    have g1b : decide ((left : Int) < 1) = false := decide_eq_false g1
    have g2 : (16 : Int) < (dp : Int) := by omega
    go_enter Tryd.func30, Tryd.ntmps30
    go_wp2
    go_ret2
    exact ⟨_, rfl, hF.out⟩
set_option maxRecDepth 20000 in
set_option maxHeartbeats 1000000 in
/-- A kind that there is not. -/
theorem rv_kind (hU : UV T u) (i : Itm) (w : World) (qd : Option Addr) (dl cd : Nat) (ql : Option Addr) (m cl : Nat) (dp left : Nat) (hT : T w) (hM : InM w w.heap.size i (.slice qd dl cd) (.slice ql m cl)) (hdp : dp ≤ 16) (hl1 : 1 ≤ left) (hk : i.k < 0 ∨ 7 < i.k ∨ i.k = 6) : Calls Tryd.prog 30 #[itv i.k i.n qd dl cd ql m cl, .int .i64 (dp : Int), .int .i64 (left : Int)] w (RetW (VaR u w i dp left)) := by
  obtain ⟨k, hkd⟩ : ∃ k, Hid (i.k = k) := ⟨_, rfl⟩
  obtain ⟨wb, hwb⟩ : ∃ wb, Hid (w.alloc (.cells #[.int .i64 i.k, .int .u64 (i.n : Int), .slice qd dl cd, .slice ql m cl] 27) = wb) := ⟨_, rfl⟩
  have hb0 : Hid (Below w.heap.size w wb) := by rw [← hwb.out]; exact alloc_below _ _
  have h2 := hU.2.1 w hT
  have hTb : T wb := hU.1 w _ hT (fun j hj => hb0.out.block j (by omega))
  have hF : Hid (∀ w', Below wb.heap.size wb w' → VaR u w i dp left (.tuple #[.int .i64 0, .bool false]) w') := fun w' hw' => by
    refine ⟨hb0.out.trans (hw'.mono hb0.out.size), Or.inr ⟨?_, rfl⟩⟩
    cases i with
    | mk k' n d l =>
      refine not_vok k' n d l dp left (Or.inr (Or.inr ?_))
      cases ho : own u k' n d l.length with
      | false => rfl
      | true =>
        have h3 := own_kind u k' n d l.length ho
        have h4 : k' < 0 ∨ 7 < k' ∨ k' = 6 := hk
        omega
  obtain ⟨bt, hUC⟩ : ∃ bt, Calls Tryd.prog 46 #[.slice qd dl cd] wb (RetW (BoR wb bt)) := by
    cases i with
    | mk k' n d l =>
      rw [InM] at hM
      obtain ⟨-, hd62, -, hpd, -⟩ := hM
      have hdd := hpd
      obtain ⟨qq, cc, e, hcc, -⟩ := hdd
      obtain ⟨rfl, rfl, rfl⟩ : qd = qq ∧ dl = d.length ∧ cd = cc := by simpa using e
      exact ⟨_, hU.2.2 wb qd d.length cd d hTb (hpd.pb.below hb0.out) hcc hd62⟩
  have bx : Hid (∀ w1, Below wb.heap.size wb w1 → w1.cell? ⟨w.heap.size, 0, none⟩ = some (.int .i64 i.k)) := fun w1 hb => by
    have := al_c w #[.int .i64 i.k, .int .u64 (i.n : Int), .slice qd dl cd, .slice ql m cl] 27 _ 0 _ rfl rfl
    rw [hwb.out] at this
    rw [hb.cell (p := ⟨w.heap.size, 0, none⟩) (World.block_lt_of_cell? _ _ this)]
    exact this
  have g1 : ¬ (left : Int) < 1 := by omega
  have g1b : decide ((left : Int) < 1) = false := decide_eq_false g1
  have g2 : ¬ (16 : Int) < (dp : Int) := by omega
  have g2b : decide ((16 : Int) < (dp : Int)) = false := decide_eq_false g2
  rw [hkd.out] at bx hwb hk
  unfold itv
  rw [hkd.out]
  clear hT hM hTb h2
  have n2 : (k == 2) = false := by simp; omega
  have n3 : (k == 3) = false := by simp; omega
  have n4 : (k == 4) = false := by simp; omega
  have n5 : (k == 5) = false := by simp; omega
  by_cases c1 : k < 0
  · go_enter Tryd.func30, Tryd.ntmps30
    go_wp2_with fail
    rw [hwb.out]
    refine hUC.mono ?_
    rintro e w1 ⟨v1, rfl, rfl, hb1⟩
    have HB1 := hidW hb1
    have i0 := bx.out w1 hb1
    have hil := World.block_lt_of_cell? _ _ i0
    clear hb1 hUC
    go_wp2
    go_ret2
    exact ⟨_, rfl, hF.out _ HB1.out⟩
  · have c1b : decide (k < 0) = false := decide_eq_false c1
    by_cases c2 : 7 < k
    · go_enter Tryd.func30, Tryd.ntmps30
      go_wp2_with fail
      rw [hwb.out]
      refine hUC.mono ?_
      rintro e w1 ⟨v1, rfl, rfl, hb1⟩
      have HB1 := hidW hb1
      have i0 := bx.out w1 hb1
      have hil := World.block_lt_of_cell? _ _ i0
      clear hb1 hUC
      go_wp2
      go_ret2
      exact ⟨_, rfl, hF.out _ HB1.out⟩
    · obtain rfl : k = 6 := by omega
      go_enter Tryd.func30, Tryd.ntmps30
      go_wp2_with fail
      rw [hwb.out]
      refine hUC.mono ?_
      rintro e w1 ⟨v1, rfl, rfl, hb1⟩
      have HB1 := hidW hb1
      have i0 := bx.out w1 hb1
      have hil := World.block_lt_of_cell? _ _ i0
      clear hb1 hUC
      go_wp2
      go_ret2
      exact ⟨_, rfl, hF.out _ HB1.out⟩
/-- THE REFERENCE'S valid, of any item. -/
theorem rvalid_c (hU : UV T u) : ∀ (N : Nat) (i : Itm), cnt i ≤ N → VSp T u i
  | 0, i, hN => by have := cnt_pos i; omega
  | N + 1, .mk k nn dd l, hN => by
    have hI : ∀ i ∈ l, VSp T u i := fun i hi => rvalid_c hU N i (by have := cnts_mem l i hi; rw [cnt] at hN; omega)
    intro w qd dl cd ql m cl dp left hT hM hdp hlf
    by_cases hfew : left = 0 ∨ 16 < dp
    · exact rv_few _ w qd dl cd ql m cl dp left hfew
    have h16 : dp ≤ 16 := by omega
    have hl1 : 1 ≤ left := by omega
    have hM0 := hM
    rw [InM] at hM0
    obtain ⟨-, -, -, h4, q, c, h5, -⟩ := hM0
    obtain rfl : dl = dd.length := by
      obtain ⟨q', c', e, -⟩ := h4
      exact (by simpa using e : qd = q' ∧ dl = dd.length ∧ cd = c').2.1
    obtain rfl : m = l.length := (by simpa using h5 : ql = q ∧ m = l.length ∧ cl = c).2.1
    clear h5 h4
    by_cases hk : k < 0 ∨ 7 < k ∨ k = 6
    · exact rv_kind hU (.mk k nn dd l) w qd dd.length cd ql l.length cl dp left hT hM h16 hl1 hk
    obtain rfl | rfl | rfl | rfl | rfl | rfl | rfl : k = 0 ∨ k = 1 ∨ k = 2 ∨ k = 3 ∨ k = 4 ∨ k = 5 ∨ k = 7 := by omega
    · exact rv0 hU nn dd l hI w qd cd ql cl dp left hT hM h16 hlf hl1
    · exact rv1 hU nn dd l hI w qd cd ql cl dp left hT hM h16 hlf hl1
    · exact rv2 hU nn dd l hI w qd cd ql cl dp left hT hM h16 hlf hl1
    · exact rv3 hU nn dd l hI w qd cd ql cl dp left hT hM h16 hlf hl1
    · exact rv4 hU nn dd l hI w qd cd ql cl dp left hT hM h16 hlf hl1
    · exact rv5 hU nn dd l hI w qd cd ql cl dp left hT hM h16 hlf hl1
    · exact rv7 hU nn dd l hI w qd cd ql cl dp left hT hM h16 hlf hl1
end WI
end Go.Proofs.YtfkgfcggcfkkiaaDoor
namespace Go.Proofs.YtfkgfcggcfkkiaaDoor
open Go.RowKit Go.Sort Go.Deep
namespace WI
variable {T : World → Prop} {u : List UInt8 → Bool}
/-- THE REFERENCE'S write, of whatever is valid. -/
theorem rwrite_c (u : List UInt8 → Bool) : ∀ (N : Nat) (i : Itm), cnt i ≤ N → shv u i = true → RwS i
  | 0, i, hN, _ => by have := cnt_pos i; omega
  | N + 1, .mk k nn dd l, hN, hv => by
    rw [shv, Bool.and_eq_true] at hv
    obtain ⟨ho, hs⟩ := hv
    have hsm : ∀ (l : List Itm), shvs u l = true → ∀ i ∈ l, shv u i = true := fun l => by
      induction l with
      | nil => intro _ i hi; cases hi
      | cons a r ih =>
        intro h i hi
        rw [shvs, Bool.and_eq_true] at h
        rcases List.mem_cons.1 hi with rfl | hi
        · exact h.1
        · exact ih h.2 i hi
    have hI : ∀ i ∈ l, RwS i := fun i hi => rwrite_c u N i (by have := cnts_mem l i hi; rw [cnt] at hN; omega) (hsm l hs i hi)
    obtain rfl | rfl | rfl | rfl | rfl | rfl | rfl := own_kind u k nn dd l.length ho
    · exact rw0 nn dd l
    · exact rw1 nn dd l
    · exact rw2 nn dd l
    · exact rw3 nn dd l
    · exact rw4 nn dd l hI
    · exact rw5 nn dd l hI
    · exact rw7 nn dd l
/-- What the reference's Print answers. -/
def RpR (u : List UInt8 → Bool) (w : World) (i : Itm) (e : Value) (w' : World) : Prop := Below w.heap.size w w' ∧ ((wok u i 0 0 0 ∧ e = .tuple #[.string ⟨(byt i).toArray⟩, .bool true]) ∨ (¬ wok u i 0 0 0 ∧ e = .tuple #[.string ⟨#[]⟩, .bool false]))
set_option maxHeartbeats 1000000 in
set_option maxRecDepth 20000 in
theorem rPrint_c (hU : UV T u) (i : Itm) (w : World) (qd : Option Addr) (dl cd : Nat) (ql : Option Addr) (m cl : Nat) (hT : T w) (hM : InM w w.heap.size i (.slice qd dl cd) (.slice ql m cl)) : Calls Tryd.prog 17 #[itv i.k i.n qd dl cd ql m cl] w (RetW (RpR u w i)) := by
  have h2 := hU.2.1 w hT
  obtain ⟨it, hit⟩ : ∃ it, Hid (itv i.k i.n qd dl cd ql m cl = it) := ⟨_, rfl⟩
  obtain ⟨wb, hwb⟩ : ∃ wb, Hid (w.alloc (.cells #[.int .i64 i.k, .int .u64 (i.n : Int), .slice qd dl cd, .slice ql m cl] 27) = wb) := ⟨_, rfl⟩
  have hb0 : Hid (Below w.heap.size w wb) := by rw [← hwb.out]; exact alloc_below _ _
  have hTb : T wb := hU.1 w _ hT (fun j hj => hb0.out.block j (by omega))
  have hMX : Hid (∀ X, Below wb.heap.size wb X → InM X X.heap.size i (.slice qd dl cd) (.slice ql m cl)) := fun X hX => by
    have hbw : Below w.heap.size w X := hb0.out.trans (hX.mono hb0.out.size)
    exact InM.mono hbw.size i _ _ (InM.at (fun k hk => hbw.block k hk) i _ _ hM)
  have bx : Hid (∀ w1, Below wb.heap.size wb w1 → w1.cell? ⟨w.heap.size, 0, none⟩ = some (.int .i64 i.k) ∧ w1.cell? ⟨w.heap.size, 1, none⟩ = some (.int .u64 (i.n : Int)) ∧ w1.cell? ⟨w.heap.size, 2, none⟩ = some (.slice qd dl cd) ∧ w1.cell? ⟨w.heap.size, 3, none⟩ = some (.slice ql m cl) ∧ w.heap.size < w1.heap.size) := fun w1 hb => by
    have hz : ∀ j v, ([.int .i64 i.k, .int .u64 (i.n : Int), .slice qd dl cd, .slice ql m cl] : List Value)[j]? = some v → w1.cell? ⟨w.heap.size, j, none⟩ = some v := fun j v hj => by
      have := al_c w #[.int .i64 i.k, .int .u64 (i.n : Int), .slice qd dl cd, .slice ql m cl] 27 _ j v rfl (by simpa using hj)
      rw [hwb.out] at this
      rw [hb.cell (p := ⟨w.heap.size, j, none⟩) (World.block_lt_of_cell? _ _ this)]
      exact this
    exact ⟨hz 0 _ rfl, hz 1 _ rfl, hz 2 _ rfl, hz 3 _ rfl, World.block_lt_of_cell? _ _ (hz 0 _ rfl)⟩
  have hV : Calls Tryd.prog 30 #[itv i.k i.n qd dl cd ql m cl, .int .i64 1, .int .i64 4096] wb (RetW (VaR u wb i 1 4096)) := rvalid_c hU _ i (Nat.le_refl _) wb qd dl cd ql m cl 1 4096 hTb (hMX.out wb (Below.refl _ _)) (by decide) (by decide)
  have hW : Hid (∀ X, Below wb.heap.size wb X → vok u i 1 4096 → Calls Tryd.prog 31 #[itv i.k i.n qd dl cd ql m cl] X (RetW (RwR X i))) := fun X hX hv => rwrite_c u _ i (Nat.le_refl _) hv.1 X qd dl cd ql m cl (hMX.out X hX)
  have hF : Hid (∀ w', Below wb.heap.size wb w' → ¬ wok u i 0 0 0 → RpR u w i (.tuple #[.string ⟨#[]⟩, .bool false]) w') := fun w' h1 h2 => ⟨hb0.out.trans (h1.mono hb0.out.size), Or.inr ⟨h2, rfl⟩⟩
  have hS : Hid (∀ w', Below wb.heap.size wb w' → wok u i 0 0 0 → RpR u w i (.tuple #[.string ⟨(byt i).toArray⟩, .bool true]) w') := fun w' h1 h2 => ⟨hb0.out.trans (h1.mono hb0.out.size), Or.inl ⟨h2, rfl⟩⟩
  obtain ⟨k, hk⟩ : ∃ k, Hid (i.k = k) := ⟨_, rfl⟩
  obtain ⟨n, hn⟩ : ∃ n, Hid (i.n = n) := ⟨_, rfl⟩
  rw [hk.out, hn.out] at hV hW bx hwb ⊢
  clear hT hM hTb h2 hit
  unfold itv at hV hW ⊢
  obtain ⟨i0, i1, i2, i3, hil⟩ := bx.out wb (Below.refl _ _)
  go_enter Tryd.func17, Tryd.ntmps17
  go_wp2_with fail
  rw [hwb.out]
  refine hV.mono ?_
  rintro e w1 ⟨v1, rfl, hb1, hr1⟩
  have HB1 := hidW hb1
  clear i0 i1 i2 i3 hil hV
  obtain ⟨i0, i1, i2, i3, hil⟩ := bx.out w1 hb1
  clear hb1
  rcases hr1 with ⟨hv, rfl⟩ | ⟨hv, rfl⟩
  · have hc := hW.out w1 HB1.out hv
    have hv' := hidW hv
    obtain ⟨cN, hcN⟩ : ∃ c, Hid (cnt i = c) := ⟨_, rfl⟩
    rw [hcN.out]
    clear hv
    go_wp2_with fail
    refine hc.mono ?_
    rintro e w2 ⟨v2, rfl, hb2, hr2⟩
    have HB2 := hidW (HB1.out.trans (hb2.mono HB1.out.size))
    clear hb2 hc i0 i1 i2 i3 hil
    rcases hr2 with ⟨hw2, rfl⟩ | ⟨hw2, s2, rfl⟩
    · have HQ := hidW (hS.out w2 HB2.out ((wok_iff u i).2 ⟨hv'.out, hw2⟩))
      obtain ⟨S, hSd⟩ : ∃ S, Hid ((⟨(byt i).toArray⟩ : ByteArray) = S) := ⟨_, rfl⟩
      rw [hSd.out] at HQ ⊢
      clear hw2
      go_wp2
      go_ret2
      exact ⟨_, rfl, HQ.out⟩
    · have HQ := hidW (hF.out w2 HB2.out (fun h => by rw [((wok_iff u i).1 h).2] at hw2; cases hw2))
      clear hw2
      go_wp2
      go_ret2
      exact ⟨_, rfl, HQ.out⟩
  · have HQ := hidW (hF.out w1 HB1.out (fun h => hv ((wok_iff u i).1 h).1))
    clear hv
    go_wp2
    go_ret2
    exact ⟨_, rfl, HQ.out⟩
end WI
end Go.Proofs.YtfkgfcggcfkkiaaDoor
namespace Go.Proofs.YtfkgfcggcfkkiaaDoor
open Go.RowKit Go.Sort Go.Deep
namespace WI
variable {T : World → Prop} {u : List UInt8 → Bool}
/-- A step: kind, number, text, how many. -/
structure Nd where
  k : Int
  n : Nat
  s : ByteArray
  c : Int
/-- Steps in memory. -/
def NdL (w : World) (q : Option Addr) (L : List Nd) : Prop := L = [] ∨ ∃ b o, q = some ⟨b, o, none⟩ ∧ b < w.heap.size ∧ ∀ j x, L[j]? = some x → w.cell? ⟨b, o + j * 4, none⟩ = some (.int .i64 x.k) ∧ w.cell? ⟨b, o + j * 4 + 1, none⟩ = some (.int .u64 (x.n : Int)) ∧ w.cell? ⟨b, o + j * 4 + 2, none⟩ = some (.string x.s) ∧ w.cell? ⟨b, o + j * 4 + 3, none⟩ = some (.int .i64 x.c)
theorem NdL.below {w w' : World} {q : Option Addr} {L : List Nd} (h : NdL w q L) (hb : Below w.heap.size w w') : NdL w' q L := by
  rcases h with h | ⟨b, o, h1, h2, h3⟩
  · exact Or.inl h
  · refine Or.inr ⟨b, o, h1, Nat.lt_of_lt_of_le h2 hb.size, fun j x hj => ?_⟩
    obtain ⟨c0, c1, c2, c3⟩ := h3 j x hj
    exact ⟨by rw [hb.cell (p := ⟨b, _, none⟩) h2]; exact c0, by rw [hb.cell (p := ⟨b, _, none⟩) h2]; exact c1, by rw [hb.cell (p := ⟨b, _, none⟩) h2]; exact c2, by rw [hb.cell (p := ⟨b, _, none⟩) h2]; exact c3⟩
theorem idxN (g o m c i : Nat) (hi : i < m) (w : World) : (Instr.indexAt 39 (.slice (some ⟨g, o, none⟩) m c) (.int .i64 (i : Int))).run Tryd.prog w = .ok (.pointer (some ⟨g, o + i * 4, none⟩)) w := by
  have h1 : ¬ (i : Int) < 0 := by omega
  have h2 : (i : Int) < (m : Int) := by omega
  go_simp
def SmR (w : World) (L : List Nd) (e : Value) (w' : World) : Prop := w' = w ∧ ∃ b, e = .bool b ∧ (b = true → L.length ≤ 256)
set_option maxHeartbeats 1000000 in
set_option maxRecDepth 20000 in
theorem small_c (w : World) (q : Option Addr) (c : Nat) (L : List Nd) (h : NdL w q L) (hL : L.length ≤ 1152921504606846976) : Calls Tryd.prog 14 #[.slice q L.length c] w (RetW (SmR w L)) := by
  obtain ⟨m, hm⟩ : ∃ m, Hid (L.length = m) := ⟨_, rfl⟩
  rw [hm.out] at hL ⊢
  go_enter Tryd.func14, Tryd.ntmps14
  go_wp2
  go_loopg [3, 4] (m + 1) (fun gk s3 s4 wr => ∃ (j : Nat) (x : Int), s4 = .int .i64 (j : Int) ∧ s3 = .int .i64 x ∧ j ≤ m ∧ gk = m + 1 - j ∧ w = wr)
  case atStart => exact ⟨0, 0, rfl, rfl, Nat.zero_le _, rfl, rfl⟩
  case round =>
    obtain ⟨j, x, rfl, rfl, hjm, hgk, rfl⟩ := hrel
    by_cases hj : j < m
    · obtain ⟨nd, hnd⟩ : ∃ i, L[j]? = some i := ⟨_, List.getElem?_eq_getElem (by rw [hm.out]; exact hj)⟩
      rcases h with h | ⟨b, o, rfl, hb, h3⟩
      · rw [h] at hnd; cases hnd
      obtain ⟨c0, c1, c2, c3⟩ := h3 j nd hnd
      have hjz : (j : Int) < (m : Int) := by omega
      have hix := fun w => idxN b o m c j hj w
      obtain ⟨S, hS⟩ : ∃ S, Hid (nd.s = S) := ⟨_, rfl⟩
      rw [hS.out] at c2
      clear h3 hnd
      go_wp2
      go_roundg (m + 1 - (j + 1))
      case measure => omega
      case rel => exact ⟨j + 1, _, rfl, rfl, by omega, rfl, rfl⟩
    · have hjz : ¬ (j : Int) < (m : Int) := by omega
      obtain rfl : j = m := by omega
      by_cases g : (j : Int) ≤ 256
      · have gb : decide ((j : Int) ≤ 256) = true := decide_eq_true g
        have hg : Hid (L.length ≤ 256) := by show _ ≤ _; rw [hm.out]; omega
        go_wp2
        go_ret
        exact ⟨_, rfl, rfl, _, rfl, fun _ => hg.out⟩
      · have gb : decide ((j : Int) ≤ 256) = false := decide_eq_false g
        go_wp2
        go_ret
        exact ⟨_, rfl, rfl, _, rfl, fun h => by cases h⟩
/-- What built answers. -/
def BuR (i : Itm) (w : World) (e : Value) (w' : World) : Prop := Below w.heap.size w w' ∧ ∃ qd dl cd ql m cl, e = itv i.k i.n qd dl cd ql m cl ∧ InM w' w'.heap.size i (.slice qd dl cd) (.slice ql m cl)
def PrL (w : World) (e : Value) (w' : World) : Prop := e = .bool true ∧ Below w.heap.size w w'
set_option maxHeartbeats 1000000 in
set_option maxRecDepth 20000 in
/-- The law, whatever was built. -/
theorem prints_any (hU : UV T u) (i : Itm) (w : World) (hT : T w) (q : Option Addr) (c : Nat) (L : List Nd) (h : NdL w q L) (hL : L.length ≤ 1152921504606846976) (hB : L.length ≤ 256 → ∀ X, NdL X q L → Calls Tryd.prog 16 #[.slice q L.length c] X (RetW (BuR i X))) :
    Calls Tryd.prog 4 #[.slice q L.length c] w (RetW (PrL w)) := by
  have hs := small_c w q c L h hL
  have hB' := hidW hB
  have h' := hidW h
  have hT' := hidW hT
  have h2 := hU.2.1 w hT
  have HT : Hid (∀ X, Below w.heap.size w X → T X) := fun X hX => hU.1 w X hT (fun k hk => hX.block k (by omega))
  obtain ⟨m, hm⟩ : ∃ m, Hid (L.length = m) := ⟨_, rfl⟩
  rw [hm.out] at hs hB' ⊢
  clear hB h hT hL h2
  go_enter Tryd.func4, Tryd.ntmps4
  go_wp2_with fail
  refine hs.mono ?_
  rintro e w1 ⟨v1, rfl, rfl, bs, rfl, hbs⟩
  cases bs with
  | false =>
    clear hbs hs
    go_wp2
    go_ret
    exact ⟨_, rfl, rfl, Below.refl _ _⟩
  | true =>
    have hsm0 := hbs rfl
    rw [hm.out] at hsm0
    have hc1 := hB'.out hsm0 w1 h'.out
    have hsm := hidW hsm0
    clear hsm0
    clear hbs hs
    go_wp2_with fail
    refine hc1.mono ?_
    rintro e w2 ⟨v2, rfl, hb2, qd, dl, cd, ql, ml, cl, rfl, hM2⟩
    have HB2 := hidW hb2
    have hc2 := Print_c hU i qd dl cd ql ml cl w2 (HT.out w2 hb2) hM2
    clear hc1 hb2 hM2
    unfold itv at hc2 ⊢
    go_wp2_with fail
    refine hc2.mono ?_
    rintro e w3 ⟨v3, rfl, hb3, hr3⟩
    have HB3 := hidW (HB2.out.trans (hb3.mono HB2.out.size))
    have hc3 := hB'.out hsm.out w3 (h'.out.below HB3.out)
    have hr3' := hidW hr3
    clear hc2 hb3 hr3
    obtain ⟨y, q3, m3, c3, e3, rfl, hy3⟩ : ∃ y q3 m3 c3 e3, v3 = .tuple #[.slice q3 m3 c3, .int .i64 e3] ∧ Hid ((wok u i 0 0 0 ∧ y = true ∧ e3 = 0 ∧ w3.ownsRow w2.heap.size 5 1 (.slice q3 m3 c3) (byt i).length (Lib.byteCells (byt i))) ∨ (¬ wok u i 0 0 0 ∧ y = false ∧ e3 = 2 ∧ m3 = 0)) := by
      rcases hr3'.out with ⟨h1, rfl⟩ | ⟨h1, q3, m3, c3, rfl, h4⟩
      · exact ⟨false, _, _, _, _, rfl, Or.inr ⟨h1, rfl, rfl, rfl⟩⟩
      · exact ⟨true, _, _, _, _, rfl, Or.inl ⟨h1, rfl, rfl, h4⟩⟩
    clear hr3'
    go_wp2_with fail
    refine hc3.mono ?_
    rintro e w4 ⟨v4, rfl, hb4, qd', dl', cd', ql', ml', cl', rfl, hM4⟩
    have HB4 := hidW (HB3.out.trans (hb4.mono HB3.out.size))
    have Hb4 := hidW hb4
    have hc4 := rPrint_c hU i w4 qd' dl' cd' ql' ml' cl' (HT.out w4 HB4.out) hM4
    clear hc3 hb4 hM4
    unfold itv at hc4 ⊢
    go_wp2_with fail
    refine hc4.mono ?_
    rintro e w5 ⟨v5, rfl, hb5, hr5⟩
    have Hb5 := hidW (Hb4.out.trans (hb5.mono Hb4.out.size))
    clear hc4 hb5
    rcases hr5 with ⟨hk5, rfl⟩ | ⟨hk5, rfl⟩
    · rcases hy3.out with ⟨-, -, rfl, how⟩ | ⟨h, -⟩
      · have hcv := pb_conv ((own_pb how).below Hb5.out)
        obtain ⟨S, hS⟩ : ∃ S, Hid ((⟨(byt i).toArray⟩ : ByteArray) = S) := ⟨_, rfl⟩
        rw [hS.out] at hcv ⊢
        have hse : (S.toList == S.toList) = true := by simp
        clear hk5 how hy3
        go_wp2
        go_ret
        exact ⟨_, rfl, rfl, HB3.out.trans (Hb5.out.mono HB3.out.size)⟩
      · exact absurd hk5 h
    · rcases hy3.out with ⟨h, -⟩ | ⟨-, -, rfl, rfl⟩
      · exact absurd h hk5
      · clear hk5 hy3
        go_wp2
        go_ret
        exact ⟨_, rfl, rfl, HB3.out.trans (Hb5.out.mono HB3.out.size)⟩
end WI
end Go.Proofs.YtfkgfcggcfkkiaaDoor
