import Derived.Test.YtfkgfcggcfkkiaaDoorwt6
set_option linter.unusedVariables false
set_option linter.unusedSimpArgs false
namespace Go.Proofs.YtfkgfcggcfkkiaaDoor
open Go.RowKit Go.Sort Go.Deep
namespace WI
/-- What built's loop keeps. -/
structure BI (wb : World) (st : List Itm) (v : Value) (w : World) : Prop where
  bl : Below wb.heap.size wb w
  row : ∃ cs, w.ownsRow wb.heap.size 27 4 v st.length cs ∧ ICQ wb.heap.size w st cs
theorem BI.form {wb w : World} {st : List Itm} {v : Value} (h : BI wb st v w) : ∃ q c, v = .slice q st.length c := by
  obtain ⟨cs, h1, -⟩ := h.row
  rcases h1.2 with ⟨h2, h3⟩ | ⟨g, cap, cur, h2, -⟩
  · exact ⟨none, 0, by rw [h2, h3]⟩
  · exact ⟨_, _, h2⟩
theorem cn_neg (c : Int) (h : c < 0) : (-(c + 1)).tmod 9 = (cnS c : Int) := by
  unfold cnS
  rw [if_pos h]
  obtain ⟨k, hk⟩ : ∃ k : Nat, -(c + 1) = (k : Int) := ⟨(-(c + 1)).toNat, by omega⟩
  rw [hk]; rfl
theorem cn_pos (c : Int) (h : ¬ c < 0) : c.tmod 9 = (cnS c : Int) := by
  unfold cnS
  rw [if_neg h]
  obtain ⟨k, hk⟩ : ∃ k : Nat, c = (k : Int) := ⟨c.toNat, by omega⟩
  rw [hk]; rfl
set_option maxHeartbeats 1000000 in
set_option maxRecDepth 20000 in
theorem built_c (q : Option Addr) (c : Nat) (L : List Nd) (hL : L.length ≤ 256) (hw : ∀ x ∈ L, x.n < 18446744073709551616 ∧ -9223372036854775808 ≤ x.c ∧ x.c < 9223372036854775808 ∧ x.s.size ≤ 4611686018427387904) (w : World) (h : NdL w q L) : Calls Tryd.prog 16 #[.slice q L.length c] w (RetW (BuR (bld L) w)) := by
  obtain ⟨wb, hwb⟩ : ∃ wb, Hid (w.alloc (.cells #[.int .i64 0, .int .u64 0, .slice none 0 0, .slice none 0 0] 27) = wb) := ⟨_, rfl⟩
  have hb0 : Hid (Below w.heap.size w wb) := by rw [← hwb.out]; exact alloc_below _ _
  have hwz : Hid (wb.heap.size = w.heap.size + 1) := by show _ = _; rw [← hwb.out, World.size_alloc]
  have HN : Hid (∀ X, Below wb.heap.size wb X → NdL X q L) := fun X hX => (h.below hb0.out).below hX
  have hwH := hidW hw
  obtain ⟨m, hm⟩ : ∃ m, Hid (L.length = m) := ⟨_, rfl⟩
  have hm8 : m ≤ 256 := by rw [← hm.out]; exact hL
  rw [hm.out]
  clear h hw hL
  go_enter Tryd.func16, Tryd.ntmps16
  go_wp2
  rw [hwb.out]
  go_loopg [3, 4] (m + 1) (fun gk s3 s4 wr => ∃ j : Nat, s4 = .int .i64 (j : Int) ∧ j ≤ m ∧ gk = m + 1 - j ∧ Hid (BI wb (bst (L.take j)) s3 wr))
  case atStart => exact ⟨0, rfl, Nat.zero_le _, rfl, ⟨Below.refl _ _, [], ⟨rfl, Or.inl ⟨rfl, rfl⟩⟩, by rw [List.take_zero]; intro W _; show IC _ _ [] []; rw [IC]⟩⟩
  case round =>
    obtain ⟨j, rfl, hjm, hgk, HI⟩ := hrel
    obtain ⟨q3, c3, rfl⟩ := HI.out.form
    obtain ⟨st, hst⟩ : ∃ st, Hid (bst (L.take j) = st) := ⟨_, rfl⟩
    have hstj : Hid (st.length ≤ j) := by show _ ≤ _; rw [← hst.out]; exact bst_len L j
    rw [hst.out] at HI ⊢
    obtain ⟨n3, hn3⟩ : ∃ n3, Hid (st.length = n3) := ⟨_, rfl⟩
    rw [hn3.out] at HI hstj ⊢
    have hn8 : n3 ≤ 256 := Nat.le_trans hstj.out (by omega)
    by_cases hj : j < m
    · obtain ⟨x, hx⟩ : ∃ i, L[j]? = some i := ⟨_, List.getElem?_eq_getElem (by rw [hm.out]; exact hj)⟩
      obtain ⟨hxn, hxl, hxh, hxs⟩ := hwH.out x (List.mem_of_getElem? hx)
      obtain ⟨b, o0, rfl, hbl, c0, c1, c2, c3x⟩ : ∃ b o, q = some ⟨b, o, none⟩ ∧ b < wb.heap.size ∧ Hid (∀ X, Below wb.heap.size wb X → X.cell? ⟨b, o + j * 4, none⟩ = some (.int .i64 x.k)) ∧ Hid (∀ X, Below wb.heap.size wb X → X.cell? ⟨b, o + j * 4 + 1, none⟩ = some (.int .u64 (x.n : Int))) ∧ Hid (∀ X, Below wb.heap.size wb X → X.cell? ⟨b, o + j * 4 + 2, none⟩ = some (.string x.s)) ∧ Hid (∀ X, Below wb.heap.size wb X → X.cell? ⟨b, o + j * 4 + 3, none⟩ = some (.int .i64 x.c)) := by
        rcases HN.out wb (Below.refl _ _) with e | ⟨b, o, rfl, hb, hc⟩
        · rw [e] at hx; cases hx
        · obtain ⟨d0, d1, d2, d3⟩ := hc j x hx
          exact ⟨b, o, rfl, hb, fun X hX => by rw [hX.cell (p := ⟨b, _, none⟩) hb]; exact d0, fun X hX => by rw [hX.cell (p := ⟨b, _, none⟩) hb]; exact d1, fun X hX => by rw [hX.cell (p := ⟨b, _, none⟩) hb]; exact d2, fun X hX => by rw [hX.cell (p := ⟨b, _, none⟩) hb]; exact d3⟩
      have hjz : (j : Int) < (m : Int) := by omega
      have hix := fun w => idxN b o0 m c j hj w
      have e3 := c3x.out wr HI.out.bl
      have hbw : b < wr.heap.size := Nat.lt_of_lt_of_le hbl HI.out.bl.size
      obtain ⟨xc, hxc⟩ : ∃ xc, Hid (x.c = xc) := ⟨_, rfl⟩
      rw [hxc.out] at e3 hxl hxh
      obtain ⟨cn, hcn⟩ : ∃ cn, Hid (cnS xc = cn) := ⟨_, rfl⟩
      have hcn9 : cn < 9 := by rw [← hcn.out]; unfold cnS; omega
      have hx' := hidW hx
      have hxs' := hidW (And.intro hxn hxs)
      clear hx hxn hxs
      by_cases hneg : xc < 0
      · have hr := cn_neg xc hneg
        rw [hcn.out] at hr
        by_cases hgt : n3 < cn
        · have hgz : (n3 : Int) < (cn : Int) := by omega
          have hmm : Hid (min cn n3 = n3) := by show _ = _; omega
          go_upto_region 11 with fail
          refine RX.Gw.last (G11 (some ⟨b, o0, none⟩) m c j b (o0 + j * 4) x wr.heap.size wr) 18 (by kernel_rfl) (by kernel_rfl) (by kernel_rfl) ?_ (Below.refl _ wr).drew ?_
          · exact ⟨RX.gw_val fun a X hp => ⟨[(0, .slice (some ⟨b, o0, none⟩) m c)], .slice (some ⟨b, o0, none⟩) m c, X, ⟨hp.o 0 (by kernel_rfl), trivial⟩, by kernel_rfl, Below.refl _ _, rfl⟩,
              RX.gw_val fun a X hp => ⟨[(4, .int .i64 (j : Int))], .int .i64 (j : Int), X, ⟨hp.o 4 (by kernel_rfl), trivial⟩, by kernel_rfl, Below.refl _ _, rfl⟩,
              RX.gw_idxX 39 31 32 rfl fun a X hp => ⟨_, _, _, hp.n 0 31 (by kernel_rfl) (by kernel_rfl), hp.n 1 32 (by kernel_rfl) (by kernel_rfl), hix X, rfl⟩,
              RX.gw_val fun a X hp => ⟨[(33, .pointer (some ⟨b, o0 + j * 4, none⟩))], .pointer (some ⟨b, o0 + j * 4, none⟩), X, ⟨hp.n 2 33 (by kernel_rfl) (by kernel_rfl), trivial⟩, by kernel_rfl, Below.refl _ _, rfl⟩,
              RX.cf_ld1T 3 34 rfl (by kernel_rfl) fun a X hp => ⟨⟨b, o0 + j * 4, none⟩, .int .i64 x.k, hp.n 3 34 (by kernel_rfl) (by kernel_rfl) (by kernel_rfl), c0.out X (HI.out.bl.trans ((hp.b 0 (by kernel_rfl) : Below wr.heap.size wr X).mono HI.out.bl.size)), Below.refl _ _, rfl⟩,
              RX.gw_val fun a X hp => ⟨[(0, .slice (some ⟨b, o0, none⟩) m c)], .slice (some ⟨b, o0, none⟩) m c, X, ⟨hp.o 0 (by kernel_rfl), trivial⟩, by kernel_rfl, Below.refl _ _, rfl⟩,
              RX.gw_val fun a X hp => ⟨[(4, .int .i64 (j : Int))], .int .i64 (j : Int), X, ⟨hp.o 4 (by kernel_rfl), trivial⟩, by kernel_rfl, Below.refl _ _, rfl⟩,
              RX.gw_idxX 39 36 37 rfl fun a X hp => ⟨_, _, _, hp.n 5 36 (by kernel_rfl) (by kernel_rfl), hp.n 6 37 (by kernel_rfl) (by kernel_rfl), hix X, rfl⟩,
              RX.gw_val fun a X hp => ⟨[(38, .pointer (some ⟨b, o0 + j * 4, none⟩))], .pointer (some ⟨b, o0 + j * 4 + 1, none⟩), X, ⟨hp.n 7 38 (by kernel_rfl) (by kernel_rfl), trivial⟩, by kernel_rfl, Below.refl _ _, rfl⟩,
              RX.cf_ld1T 24 39 rfl (by kernel_rfl) fun a X hp => ⟨⟨b, o0 + j * 4 + 1, none⟩, .int .u64 (x.n : Int), hp.n 8 39 (by kernel_rfl) (by kernel_rfl) (by kernel_rfl), c1.out X (HI.out.bl.trans ((hp.b 0 (by kernel_rfl) : Below wr.heap.size wr X).mono HI.out.bl.size)), Below.refl _ _, rfl⟩,
              RX.gw_val fun a X hp => ⟨[(0, .slice (some ⟨b, o0, none⟩) m c)], .slice (some ⟨b, o0, none⟩) m c, X, ⟨hp.o 0 (by kernel_rfl), trivial⟩, by kernel_rfl, Below.refl _ _, rfl⟩,
              RX.gw_val fun a X hp => ⟨[(4, .int .i64 (j : Int))], .int .i64 (j : Int), X, ⟨hp.o 4 (by kernel_rfl), trivial⟩, by kernel_rfl, Below.refl _ _, rfl⟩,
              RX.gw_idxX 39 41 42 rfl fun a X hp => ⟨_, _, _, hp.n 10 41 (by kernel_rfl) (by kernel_rfl), hp.n 11 42 (by kernel_rfl) (by kernel_rfl), hix X, rfl⟩,
              RX.gw_val fun a X hp => ⟨[(43, .pointer (some ⟨b, o0 + j * 4, none⟩))], .pointer (some ⟨b, o0 + j * 4 + 2, none⟩), X, ⟨hp.n 12 43 (by kernel_rfl) (by kernel_rfl), trivial⟩, by kernel_rfl, Below.refl _ _, rfl⟩,
              RX.cf_ld1T 9 44 rfl (by kernel_rfl) fun a X hp => ⟨⟨b, o0 + j * 4 + 2, none⟩, .string x.s, hp.n 13 44 (by kernel_rfl) (by kernel_rfl) (by kernel_rfl), c2.out X (HI.out.bl.trans ((hp.b 0 (by kernel_rfl) : Below wr.heap.size wr X).mono HI.out.bl.size)), Below.refl _ _, rfl⟩,
              RX.gw_cnvM 9 22 45 rfl fun a X hp => by
                obtain ⟨v, w', h1, h2, h3⟩ := conv_DB x.s X wr.heap.size (hp.b : Below wr.heap.size wr X).size
                exact ⟨_, v, w', hp.n 14 45 (by kernel_rfl) (by kernel_rfl), h1, h3, h2⟩,
              RX.gw_val fun a X hp => by
                have h15 : DB X wr.heap.size _ x.s := hp.n 15 46 (by kernel_rfl) (by kernel_rfl)
                have h15' := h15
                obtain ⟨gd, capd, csd, fzd, hv, -⟩ := h15
                refine ⟨[(35, .int .i64 x.k), (40, .int .u64 (x.n : Int)), (46, .slice (some ⟨gd, 0, none⟩) x.s.size capd)], .agg #[.int .i64 x.k, .int .u64 (x.n : Int), .slice (some ⟨gd, 0, none⟩) x.s.size capd, .slice none 0 0], X, ⟨hp.n 4 35 (by kernel_rfl) (by kernel_rfl), hp.n 9 40 (by kernel_rfl) (by kernel_rfl), hv, trivial⟩, by kernel_rfl, Below.refl _ _, ?_⟩
                exact ⟨_, rfl, by rw [← hv]; exact h15'⟩,
              RX.gw_val fun a X hp => ⟨[], .pointer (some ⟨X.heap.size, 0, none⟩), X.alloc (.cells #[.int .i64 0, .int .u64 0, .slice none 0 0, .slice none 0 0] 27), trivial, by kernel_rfl, alloc_below _ _, ⟨X.heap.size, rfl, (hp.b : Below wr.heap.size wr X).size, Array.getElem?_push_size⟩⟩,
              trivial⟩
          · intro V wz hV hB
            obtain ⟨v16, e16, hD16⟩ : ∃ v', V 16 = .agg #[.int .i64 x.k, .int .u64 (x.n : Int), v', .slice none 0 0] ∧ DB wz wr.heap.size v' x.s := hV 16 (by omega)
            obtain ⟨gb, e17, hB17⟩ : ∃ g, V 17 = .pointer (some ⟨g, 0, none⟩) ∧ BXi wz wr.heap.size g [.int .i64 0, .int .u64 0, .slice none 0 0, .slice none 0 0] := hV 17 (by omega)
            dsimp only [RX.putV, Nat.reduceAdd, List.drop, List.take]
            simp only [Act.put, List.setIfInBounds_toArray, List.set_cons_succ, List.set_cons_zero]
            rw [e16, e17]
            have hne : ∀ gd cs fz, wz.heap[gd]? = some (.cells cs 5 fz) → gd ≠ gb := fun gd cs fz h e => by
              rw [e, hB17.2] at h
              have h := Option.some.inj h
              injection h with _ h _
              exact absurd h (by decide)
            have hth : wz.there gb 0 4 := fun j hj => by
              have e : ∀ k : Nat, k < 4 → (wz.cell? ⟨gb, 0 + k, none⟩).isSome = true ∧ wz.frozen? ⟨gb, 0 + k, none⟩ = false := fun k hk => by
                unfold World.cell? World.frozen?
                simp only [hB17.2, Nat.zero_add]
                obtain rfl | rfl | rfl | rfl : k = 0 ∨ k = 1 ∨ k = 2 ∨ k = 3 := by omega
                all_goals exact ⟨rfl, rfl⟩
              exact e j hj
            have hgbz : gb < wz.heap.size := (Array.getElem?_eq_some_iff.1 hB17.2).1
            obtain ⟨w11, hw11⟩ : ∃ w11, Hid (wz.setCells gb 0 [.int .i64 x.k, .int .u64 (x.n : Int), v16, .slice none 0 0] = w11) := ⟨_, rfl⟩
            have H11 : Hid (Below wr.heap.size wr w11 ∧ RowS w11 gb [.int .i64 x.k, .int .u64 (x.n : Int), v16, .slice none 0 0] ∧ DBn w11 wr.heap.size v16 x.s gb ∧ wr.heap.size ≤ gb) := by
              rw [← hw11.out]
              refine ⟨RG.below_setCells hB17.1 _ _ _ hB, ⟨sc_lt _ _ _ hgbz, World.rangeAt_setCells_same _ _ _ _ hth, World.there_setCells hth _ _ _⟩, ?_, hB17.1⟩
              obtain ⟨gd, capd, csd, fzd, h1, h2, h3, h4, h5⟩ := hD16
              exact ⟨gd, capd, csd, fzd, h1, h2, ⟨hne gd csd fzd h4, h3⟩, by rw [sc_other _ _ (hne gd csd fzd h4)]; exact h4, h5⟩
            obtain ⟨qd, dl, cd, rfl⟩ : ∃ qd dl cd, v16 = .slice qd dl cd := by obtain ⟨gd, capd, csd, fzd, h1, -⟩ := hD16; exact ⟨_, _, _, h1⟩
            refine wpList_store_mid rfl 27 _ _ rfl gb 0 #[.int .i64 x.k, .int .u64 (x.n : Int), .slice qd dl cd, .slice none 0 0] ?_ ?_ hth (by kernel_rfl) (four_one _ _ _ _ _ _ _ _) ?_
            · rfl
            · rfl
            show wpList _ _ _ _ _ (wz.setCells gb 0 [.int .i64 x.k, .int .u64 (x.n : Int), .slice qd dl cd, .slice none 0 0])
            rw [hw11.out]
            clear hV hB hD16 hB17 hne hth hgbz hw11
            dsimp only [Act.put]
            obtain ⟨cs, hrow, hic⟩ := HI.out.row
            rw [hn3.out] at hrow
            obtain ⟨d, hd⟩ : ∃ d, Hid (d + n3 = n3) := ⟨n3 - n3, by show _ = _; omega⟩
            obtain ⟨q7, c7, hlo, hlo2, hhi, hhi2⟩ := st_cut hrow hd.out
            have hsub : ∀ X : World, (binOp .sub 3 (.int .i64 (n3 : Int)) (.int .i64 (n3 : Int))).run Tryd.prog X = .ok (.int .i64 (d : Int)) X := fun X => by
              have e : (n3 : Int) - (n3 : Int) = (d : Int) := by have := hd.out; omega
              have e2 : IntKind.i64.wrap (d : Int) = (d : Int) := by rw [IntKind.wrap_i64]; have := hd.out; omega
              go_simp
              first | done | exact e2 | rw [e2] | rw [e, e2]
            have hcut := IC.cut d (hic wr fun _ _ _ => rfl)
            have hlen2 : Hid ((st.drop d).length = n3 ∧ (cs.drop (d * 4)).length = n3 * 4 ∧ (st.take d).length = d ∧ (cs.take (d * 4)).length = d * 4) := by
              have h1 := hcut.1.len
              have h2 := hcut.2.len
              have h3 := hn3.out
              have h4 := hd.out
              have h5 : (st.drop d).length = n3 := by rw [List.length_drop]; omega
              have h6 : (st.take d).length = d := by rw [List.length_take]; omega
              exact ⟨h5, by rw [h2, h5], h6, by rw [h1, h6]⟩
            have hd8 : Hid (d ≤ 256 ∧ n3 ≤ 256) := by have := hd.out; exact ⟨by omega, by omega⟩
            have HC : Hid (ICQ wb.heap.size wr (st.take d) (cs.take (d * 4)) ∧ ICQ wb.heap.size wr (st.drop d) (cs.drop (d * 4))) := ⟨fun W hW => (IC.cut d (hic W hW)).1, fun W hW => (IC.cut d (hic W hW)).2⟩
            have HLO : Hid (∀ X, Below wr.heap.size wr X → (n3 = 0 ∨ ∃ b o, q7 = some ⟨b, o, none⟩ ∧ ∀ j u, (cs.drop (d * 4))[j]? = some u → X.cell? ⟨b, o + j, none⟩ = some u)) := fun X hX => by
              rcases hlo2 with h | ⟨b, o, h1, h2, h3⟩
              · exact Or.inl h
              · exact Or.inr ⟨b, o, h1, fun j u hj => by rw [hX.cell (p := ⟨b, _, none⟩) h2]; exact h3 j u hj⟩
            have HHI : Hid (∀ X, Below wr.heap.size wr X → (d = 0 ∨ ∃ b o, q3 = some ⟨b, o, none⟩ ∧ ∀ j u, (cs.take (d * 4))[j]? = some u → X.cell? ⟨b, o + j, none⟩ = some u)) := fun X hX => by
              rcases hhi2 with h | ⟨b, o, h1, h2, h3⟩
              · exact Or.inl h
              · exact Or.inr ⟨b, o, h1, fun j u hj => by rw [hX.cell (p := ⟨b, _, none⟩) h2]; exact h3 j u hj⟩
            clear hcut hlo2 hhi2 hrow hic
            go_upto_region 12 with fail
            refine RX.Gw.last (G12 gb (.slice q3 n3 c3) n3 n3 d (.slice q7 n3 c7) (cs.drop (d * 4)) w11) 10 (by kernel_rfl) (by kernel_rfl) (by kernel_rfl) ?_ (Below.refl _ w11).drew ?_
            · exact ⟨RX.gw_val fun a X hp => ⟨[(6, .pointer (some ⟨gb, 0, none⟩))], .pointer (some ⟨gb, 3, none⟩), X, ⟨hp.o 6 (by kernel_rfl), trivial⟩, by kernel_rfl, Below.refl _ _, rfl⟩,
                RX.cf_ld1T 25 48 rfl (by kernel_rfl) fun a X hp => ⟨⟨gb, 3, none⟩, .slice none 0 0, hp.n 0 48 (by kernel_rfl) (by kernel_rfl) (by kernel_rfl), (H11.out.2.1.below (hp.b 0 (by kernel_rfl) : Below w11.heap.size w11 X)).cell 3 _ rfl, Below.refl _ _, rfl⟩,
                RX.gw_val fun a X hp => ⟨[(3, .slice q3 n3 c3)], .slice q3 n3 c3, X, ⟨hp.o 3 (by kernel_rfl), trivial⟩, by kernel_rfl, Below.refl _ _, rfl⟩,
                RX.gw_val fun a X hp => ⟨[(3, .slice q3 n3 c3)], .slice q3 n3 c3, X, ⟨hp.o 3 (by kernel_rfl), trivial⟩, by kernel_rfl, Below.refl _ _, rfl⟩,
                RX.gw_val fun a X hp => ⟨[(51, .slice q3 n3 c3)], .int .i64 (n3 : Int), X, ⟨hp.n 3 51 (by kernel_rfl) (by kernel_rfl), trivial⟩, by kernel_rfl, Below.refl _ _, rfl⟩,
                RX.gw_val fun a X hp => ⟨[(5, .int .i64 (n3 : Int))], .int .i64 (n3 : Int), X, ⟨hp.o 5 (by kernel_rfl), trivial⟩, by kernel_rfl, Below.refl _ _, rfl⟩,
                RX.gw_bin .sub 3 3 52 53 rfl fun a X hp => ⟨_, _, _, hp.n 4 52 (by kernel_rfl) (by kernel_rfl), hp.n 5 53 (by kernel_rfl) (by kernel_rfl), by kernel_rfl, hsub X, rfl⟩,
                RX.cf_sloX 25 50 54 rfl fun a X hp => ⟨_, _, _, hp.n 2 50 (by kernel_rfl) (by kernel_rfl) (by kernel_rfl), hp.n 6 54 (by kernel_rfl) (by kernel_rfl) (by kernel_rfl), hlo X, Below.refl _ _, rfl⟩,
                RX.cf_app 49 55 25 rfl fun a X hp => by
                  have hX : Below w11.heap.size w11 X := hp.b 0 (by kernel_rfl)
                  have e1 : a.eval (.tmp 49) = .slice none 0 0 := hp.n 1 49 (by kernel_rfl) (by kernel_rfl) (by kernel_rfl)
                  have e2 : a.eval (.tmp 55) = .slice q7 n3 c7 := hp.n 7 55 (by kernel_rfl) (by kernel_rfl) (by kernel_rfl)
                  obtain ⟨v', W', r1, r2, r3⟩ := it_app (base := w11.heap.size) (W := X) (v := .slice none 0 0) (n := 0) (c := c7) (xs := []) ⟨rfl, Or.inl ⟨rfl, rfl⟩⟩ hlen2.out.2.1 (HLO.out X (H11.out.1.trans (hX.mono H11.out.1.size))) (HC.out.2 wr fun _ _ _ => rfl).one (by have := hd8.out.2; omega) hX.size
                  rw [Nat.zero_add, List.nil_append] at r2
                  rw [e1, e2]
                  exact ⟨v', W', r1, ⟨r3.os, r3.tape, r3.output, r3.size, fun k hk => r3.block k hk (by simp [Value.ownBlock])⟩, r2⟩,
                RX.gw_val fun a X hp => ⟨[(6, .pointer (some ⟨gb, 0, none⟩))], .pointer (some ⟨gb, 3, none⟩), X, ⟨hp.o 6 (by kernel_rfl), trivial⟩, by kernel_rfl, Below.refl _ _, rfl⟩,
                trivial⟩
            · intro V2 wy hV2 hB2
              have h8 : wy.ownsRow w11.heap.size 27 4 (V2 8) n3 (cs.drop (d * 4)) := hV2 8 (by omega)
              have e9 : V2 9 = .pointer (some ⟨gb, 3, none⟩) := hV2 9 (by omega)
              have HB2 : Hid (Below w11.heap.size w11 wy) := hB2
              have HR2 := hidW (H11.out.2.1.below hB2)
              dsimp only [RX.putV, Nat.reduceAdd, List.drop, List.take]
              simp only [Act.put, List.setIfInBounds_toArray, List.set_cons_succ, List.set_cons_zero]
              rw [e9]
              obtain ⟨q8, c8, e8⟩ : ∃ q8 c8, V2 8 = .slice q8 n3 c8 := by
                rcases h8.2 with ⟨h2, h3⟩ | ⟨g, cap, cur, h2, -⟩
                · exact ⟨none, 0, by rw [h2, h3]⟩
                · exact ⟨_, _, h2⟩
              rw [e8] at h8 ⊢
              have H8 := hidW h8
              have r3 := HR2.out.cell 3 _ rfl
              have f3 := HR2.out.free 3 (Nat.lt_succ_self 3)
              have hgl := HR2.out.1
              clear hV2 hB2 h8 e8 e9
              obtain ⟨w12, hw12⟩ : ∃ w12, Hid (wy.setCell ⟨gb, 3, none⟩ (.slice q8 n3 c8) = w12) := ⟨_, rfl⟩
              have HB12 : Hid (Below wr.heap.size wr w12) := by
                rw [← hw12.out]
                exact (H11.out.1.trans (HB2.out.mono H11.out.1.size)).setCell (p := ⟨gb, 3, none⟩) H11.out.2.2.2 _
              have HR12 : Hid (RowS w12 gb [.int .i64 x.k, .int .u64 (x.n : Int), .slice qd dl cd, .slice q8 n3 c8]) := by
                rw [← hw12.out]
                exact HR2.out.set 3 (.slice q8 n3 c8) (Nat.lt_succ_self 3)
              have HM12 : Hid (IMQ wb.heap.size w12 (.mk x.k x.n x.s.data.toList (st.drop d)) (.slice qd dl cd) (.slice q8 n3 c8)) := by
                refine inm_step (gb := gb) (B := w11.heap.size) (B' := wr.heap.size) hxs'.out.1 hxs'.out.2 ?_ hlen2.out.1 hd8.out.2 HC.out.2 HB12.out ?_ (Nat.le_trans HI.out.bl.size H11.out.1.size) HI.out.bl.size
                · refine DBn.keep H11.out.2.2.1 fun k hk hne => ?_
                  rw [← hw12.out, blk_other _ _ _ _ hne, HB2.out.block k hk]
                · rw [← hw12.out]
                  rcases H8.out with ⟨h0, h1 | ⟨g, cap, cur, h1, h2, h3, h4⟩⟩
                  · exact ⟨h0, Or.inl h1⟩
                  · exact ⟨h0, Or.inr ⟨g, cap, cur, h1, h2, by rw [blk_other _ _ _ _ (show g ≠ gb by have := H11.out.2.1.1; omega)]; exact h3, h4⟩⟩
              go_upto_region 13 with fail
              rw [hw12.out]
              clear H11 HB2 HR2 H8 r3 f3 hgl hw12 hlo HLO
              obtain ⟨it, hit⟩ : ∃ it : List Value, Hid ([.int .i64 x.k, .int .u64 (x.n : Int), .slice qd dl cd, .slice q8 n3 c8] = it) := ⟨_, rfl⟩
              refine RX.flow_draws (F13 w12 [undef, .slice q3 n3 c3, .slice q3 n3 c3, .int .i64 (n3 : Int), .int .i64 (n3 : Int), .int .i64 (d : Int), .slice q3 d c3, undef, .agg #[.int .i64 x.k, .int .u64 (x.n : Int), .slice qd dl cd, .slice q8 n3 c8]] d (cs.take (d * 4)) [.int .i64 x.k, .int .u64 (x.n : Int), .slice qd dl cd, .slice q8 n3 c8]) (by kernel_rfl) (F13.reg (by kernel_rfl) (by kernel_rfl) (by kernel_rfl) ?_) (fun _ => (Below.refl _ w12).drew) ?_
              · exact ⟨RX.cf_manyT fun a X hp => ⟨[], .slice (some ⟨X.heap.size, 0, none⟩) 0 0, X.alloc (.cells #[] 27), trivial, by kernel_rfl, alloc_below _ _, ⟨X.heap.size, rfl, (hp.b 0 (by kernel_rfl) : Below w12.heap.size w12 X).size, Array.getElem?_push_size⟩⟩,
                  RX.cf_manyT fun a X hp => ⟨[(3, .slice q3 n3 c3)], .slice q3 n3 c3, X, ⟨hp.o 3 (by kernel_rfl), trivial⟩, by kernel_rfl, Below.refl _ _, rfl⟩,
                  RX.cf_manyT fun a X hp => ⟨[(3, .slice q3 n3 c3)], .slice q3 n3 c3, X, ⟨hp.o 3 (by kernel_rfl), trivial⟩, by kernel_rfl, Below.refl _ _, rfl⟩,
                  RX.cf_manyT fun a X hp => ⟨[(60, .slice q3 n3 c3)], .int .i64 (n3 : Int), X, ⟨hp.n 2 60 (by kernel_rfl) (by kernel_rfl) (by kernel_rfl), trivial⟩, by kernel_rfl, Below.refl _ _, rfl⟩,
                  RX.cf_manyT fun a X hp => ⟨[(5, .int .i64 (n3 : Int))], .int .i64 (n3 : Int), X, ⟨hp.o 5 (by kernel_rfl), trivial⟩, by kernel_rfl, Below.refl _ _, rfl⟩,
                  RX.cf_subX 3 3 61 62 rfl fun a X hp => ⟨_, _, _, hp.n 3 61 (by kernel_rfl) (by kernel_rfl) (by kernel_rfl), hp.n 4 62 (by kernel_rfl) (by kernel_rfl) (by kernel_rfl), hsub X, Below.refl _ _, rfl⟩,
                  RX.cf_shiX 25 59 63 rfl fun a X hp => ⟨_, _, _, hp.n 1 59 (by kernel_rfl) (by kernel_rfl) (by kernel_rfl), hp.n 5 63 (by kernel_rfl) (by kernel_rfl) (by kernel_rfl), hhi X, Below.refl _ _, rfl⟩,
                  RX.cf_app 58 64 25 rfl fun a X hp => by
                    have hX : Below w12.heap.size w12 X := hp.b 0 (by kernel_rfl)
                    obtain ⟨g0, e1, hg1, hg2⟩ : ∃ g, a.eval (.tmp 58) = .slice (some ⟨g, 0, none⟩) 0 0 ∧ w12.heap.size ≤ g ∧ X.heap[g]? = some (.cells #[] 27 (0, 0)) := hp.n 0 58 (by kernel_rfl) (by kernel_rfl) (by kernel_rfl)
                    have e2 : a.eval (.tmp 64) = .slice q3 d c3 := hp.n 6 64 (by kernel_rfl) (by kernel_rfl) (by kernel_rfl)
                    obtain ⟨v', W', r1, r2, r3⟩ := it_app0 (c := c3) hg1 hg2 hlen2.out.2.2.2 (HHI.out X (HB12.out.trans (hX.mono HB12.out.size))) (HC.out.1 wr fun _ _ _ => rfl).one (by have := hd8.out.1; omega) hX.size
                    rw [e1, e2]
                    exact ⟨v', W', r1, r3, r2⟩,
                  RX.cf_load 27 6 rfl (by kernel_rfl) fun a X hp => ⟨gb, 0, [.int .i64 x.k, .int .u64 (x.n : Int), .slice qd dl cd, .slice q8 n3 c8], hp.o 6 (by kernel_rfl), (HR12.out.below (hp.b 0 (by kernel_rfl) : Below w12.heap.size w12 X)).2.1, by kernel_rfl, Below.refl _ _, rfl⟩,
                  RX.cf_manyT fun a X hp => ⟨[(66, .agg #[.int .i64 x.k, .int .u64 (x.n : Int), .slice qd dl cd, .slice q8 n3 c8])], .slice (some ⟨X.heap.size, 0, none⟩) 1 1, X.alloc (.cells #[.int .i64 x.k, .int .u64 (x.n : Int), .slice qd dl cd, .slice q8 n3 c8] 27), ⟨hp.n 8 66 (by kernel_rfl) (by kernel_rfl) (by kernel_rfl), trivial⟩, by kernel_rfl, alloc_below _ _, ⟨X.heap.size, rfl, (hp.b 0 (by kernel_rfl) : Below w12.heap.size w12 X).size, Array.getElem?_push_size⟩⟩,
                  RX.cf_app 65 67 25 rfl fun a X hp => by
                    have hX : Below w12.heap.size w12 X := hp.b 0 (by kernel_rfl)
                    have h7 : X.ownsRow w12.heap.size 27 4 (a.eval (.tmp 65)) d (cs.take (d * 4)) := hp.n 7 65 (by kernel_rfl) (by kernel_rfl) (by kernel_rfl)
                    obtain ⟨g9, e9, hg9⟩ : ∃ g, a.eval (.tmp 67) = .slice (some ⟨g, 0, none⟩) 1 1 ∧ BXi X w12.heap.size g [.int .i64 x.k, .int .u64 (x.n : Int), .slice qd dl cd, .slice q8 n3 c8] := hp.n 9 67 (by kernel_rfl) (by kernel_rfl) (by kernel_rfl)
                    obtain ⟨v', W', r1, r2, r3⟩ := it_app (m := 1) (c := 1) (q := some ⟨g9, 0, none⟩) h7 (news := [.int .i64 x.k, .int .u64 (x.n : Int), .slice qd dl cd, .slice q8 n3 c8]) rfl (Or.inr ⟨g9, 0, rfl, fun j u hj => by
                      unfold World.cell?
                      simp only [hg9.2, Nat.zero_add]
                      simpa using hj⟩) (fun u hu => by
                        simp only [List.mem_cons, List.not_mem_nil, or_false] at hu
                        rcases hu with rfl | rfl | rfl | rfl <;> rfl) (by have := hd8.out.1; omega) hX.size
                    rw [e9]
                    refine ⟨v', W', r1, ⟨r3.os, r3.tape, r3.output, Nat.le_trans hX.size r3.size |> fun _ => r3.size, fun k hk => r3.block k (Nat.lt_of_lt_of_le hk hX.size) ?_⟩, r2⟩
                    rcases h7.2 with ⟨h0, -⟩ | ⟨g, cap, cur, h0, h1, -⟩
                    · rw [h0]; simp [Value.ownBlock]
                    · rw [h0]; simp only [Value.ownBlock, ne_eq, Option.some.injEq]; omega,
                  RX.cf_manyT fun a X hp => ⟨[(68, a.eval (.tmp 68))], a.eval (.tmp 68), X, ⟨rfl, trivial⟩, by kernel_rfl, Below.refl _ _, (hp.n 10 68 (by kernel_rfl) (by kernel_rfl) (by kernel_rfl) : R13 w12.heap.size d (cs.take (d * 4)) _ 10 _ X)⟩,
                  trivial⟩
              · intro V3 wf hV3 hB3
                have h11 : wf.ownsRow w12.heap.size 27 4 (V3 11) (d + 1) (cs.take (d * 4) ++ [.int .i64 x.k, .int .u64 (x.n : Int), .slice qd dl cd, .slice q8 n3 c8]) := hV3 11 (Nat.lt_of_succ_le (Nat.le_of_ble_eq_true (by kernel_rfl))) (by kernel_rfl)
                have hBf : Below w12.heap.size w12 wf := hB3 0 rfl
                have HBI : Hid (BI wb (bst (L.take (j + 1))) (V3 11) wf) := by
                  have hwf := HB12.out.trans (hBf.mono HB12.out.size)
                  have e1 : bst (L.take (j + 1)) = st.take d ++ [.mk x.k x.n x.s.data.toList (st.drop d)] := by
                    rw [bst_take L j x hx'.out, hst.out]
                    unfold stp
                    rw [hxc.out, hcn.out, hn3.out, hmm.out, show n3 - n3 = d by have := hd.out; omega]
                  refine ⟨HI.out.bl.trans (hwf.mono HI.out.bl.size), cs.take (d * 4) ++ [.int .i64 x.k, .int .u64 (x.n : Int), .slice qd dl cd, .slice q8 n3 c8], ?_, ?_⟩
                  · rw [e1, List.length_append, hlen2.out.2.2.1]
                    exact own_upI h11 (Nat.le_trans HI.out.bl.size HB12.out.size)
                  · rw [e1]
                    intro W hW
                    refine IC.app ?_ (HC.out.1.up hwf W hW)
                    rw [IC]
                    exact ⟨_, _, [], rfl, HM12.out.up hBf W hW, by rw [IC]⟩
                clear h11 hBf
                dsimp only [RX.putV, Nat.reduceAdd]
                simp only [Act.put, List.setIfInBounds_toArray, List.set_cons_succ, List.set_cons_zero]
                obtain ⟨v11, hv11⟩ : ∃ v, Hid (V3 11 = v) := ⟨_, rfl⟩
                rw [hv11.out] at HBI ⊢
                clear hV3 hB3
                go_wp2
                go_roundg (m + 1 - (j + 1))
                case measure => omega
                case rel => exact ⟨j + 1, rfl, by omega, rfl, HBI⟩
        · have hgz : ¬ (n3 : Int) < (cn : Int) := by omega
          have hmm : Hid (min cn n3 = cn) := by show _ = _; omega
          go_upto_region 11 with fail
          refine RX.Gw.last (G11 (some ⟨b, o0, none⟩) m c j b (o0 + j * 4) x wr.heap.size wr) 18 (by kernel_rfl) (by kernel_rfl) (by kernel_rfl) ?_ (Below.refl _ wr).drew ?_
          · exact ⟨RX.gw_val fun a X hp => ⟨[(0, .slice (some ⟨b, o0, none⟩) m c)], .slice (some ⟨b, o0, none⟩) m c, X, ⟨hp.o 0 (by kernel_rfl), trivial⟩, by kernel_rfl, Below.refl _ _, rfl⟩,
              RX.gw_val fun a X hp => ⟨[(4, .int .i64 (j : Int))], .int .i64 (j : Int), X, ⟨hp.o 4 (by kernel_rfl), trivial⟩, by kernel_rfl, Below.refl _ _, rfl⟩,
              RX.gw_idxX 39 31 32 rfl fun a X hp => ⟨_, _, _, hp.n 0 31 (by kernel_rfl) (by kernel_rfl), hp.n 1 32 (by kernel_rfl) (by kernel_rfl), hix X, rfl⟩,
              RX.gw_val fun a X hp => ⟨[(33, .pointer (some ⟨b, o0 + j * 4, none⟩))], .pointer (some ⟨b, o0 + j * 4, none⟩), X, ⟨hp.n 2 33 (by kernel_rfl) (by kernel_rfl), trivial⟩, by kernel_rfl, Below.refl _ _, rfl⟩,
              RX.cf_ld1T 3 34 rfl (by kernel_rfl) fun a X hp => ⟨⟨b, o0 + j * 4, none⟩, .int .i64 x.k, hp.n 3 34 (by kernel_rfl) (by kernel_rfl) (by kernel_rfl), c0.out X (HI.out.bl.trans ((hp.b 0 (by kernel_rfl) : Below wr.heap.size wr X).mono HI.out.bl.size)), Below.refl _ _, rfl⟩,
              RX.gw_val fun a X hp => ⟨[(0, .slice (some ⟨b, o0, none⟩) m c)], .slice (some ⟨b, o0, none⟩) m c, X, ⟨hp.o 0 (by kernel_rfl), trivial⟩, by kernel_rfl, Below.refl _ _, rfl⟩,
              RX.gw_val fun a X hp => ⟨[(4, .int .i64 (j : Int))], .int .i64 (j : Int), X, ⟨hp.o 4 (by kernel_rfl), trivial⟩, by kernel_rfl, Below.refl _ _, rfl⟩,
              RX.gw_idxX 39 36 37 rfl fun a X hp => ⟨_, _, _, hp.n 5 36 (by kernel_rfl) (by kernel_rfl), hp.n 6 37 (by kernel_rfl) (by kernel_rfl), hix X, rfl⟩,
              RX.gw_val fun a X hp => ⟨[(38, .pointer (some ⟨b, o0 + j * 4, none⟩))], .pointer (some ⟨b, o0 + j * 4 + 1, none⟩), X, ⟨hp.n 7 38 (by kernel_rfl) (by kernel_rfl), trivial⟩, by kernel_rfl, Below.refl _ _, rfl⟩,
              RX.cf_ld1T 24 39 rfl (by kernel_rfl) fun a X hp => ⟨⟨b, o0 + j * 4 + 1, none⟩, .int .u64 (x.n : Int), hp.n 8 39 (by kernel_rfl) (by kernel_rfl) (by kernel_rfl), c1.out X (HI.out.bl.trans ((hp.b 0 (by kernel_rfl) : Below wr.heap.size wr X).mono HI.out.bl.size)), Below.refl _ _, rfl⟩,
              RX.gw_val fun a X hp => ⟨[(0, .slice (some ⟨b, o0, none⟩) m c)], .slice (some ⟨b, o0, none⟩) m c, X, ⟨hp.o 0 (by kernel_rfl), trivial⟩, by kernel_rfl, Below.refl _ _, rfl⟩,
              RX.gw_val fun a X hp => ⟨[(4, .int .i64 (j : Int))], .int .i64 (j : Int), X, ⟨hp.o 4 (by kernel_rfl), trivial⟩, by kernel_rfl, Below.refl _ _, rfl⟩,
              RX.gw_idxX 39 41 42 rfl fun a X hp => ⟨_, _, _, hp.n 10 41 (by kernel_rfl) (by kernel_rfl), hp.n 11 42 (by kernel_rfl) (by kernel_rfl), hix X, rfl⟩,
              RX.gw_val fun a X hp => ⟨[(43, .pointer (some ⟨b, o0 + j * 4, none⟩))], .pointer (some ⟨b, o0 + j * 4 + 2, none⟩), X, ⟨hp.n 12 43 (by kernel_rfl) (by kernel_rfl), trivial⟩, by kernel_rfl, Below.refl _ _, rfl⟩,
              RX.cf_ld1T 9 44 rfl (by kernel_rfl) fun a X hp => ⟨⟨b, o0 + j * 4 + 2, none⟩, .string x.s, hp.n 13 44 (by kernel_rfl) (by kernel_rfl) (by kernel_rfl), c2.out X (HI.out.bl.trans ((hp.b 0 (by kernel_rfl) : Below wr.heap.size wr X).mono HI.out.bl.size)), Below.refl _ _, rfl⟩,
              RX.gw_cnvM 9 22 45 rfl fun a X hp => by
                obtain ⟨v, w', h1, h2, h3⟩ := conv_DB x.s X wr.heap.size (hp.b : Below wr.heap.size wr X).size
                exact ⟨_, v, w', hp.n 14 45 (by kernel_rfl) (by kernel_rfl), h1, h3, h2⟩,
              RX.gw_val fun a X hp => by
                have h15 : DB X wr.heap.size _ x.s := hp.n 15 46 (by kernel_rfl) (by kernel_rfl)
                have h15' := h15
                obtain ⟨gd, capd, csd, fzd, hv, -⟩ := h15
                refine ⟨[(35, .int .i64 x.k), (40, .int .u64 (x.n : Int)), (46, .slice (some ⟨gd, 0, none⟩) x.s.size capd)], .agg #[.int .i64 x.k, .int .u64 (x.n : Int), .slice (some ⟨gd, 0, none⟩) x.s.size capd, .slice none 0 0], X, ⟨hp.n 4 35 (by kernel_rfl) (by kernel_rfl), hp.n 9 40 (by kernel_rfl) (by kernel_rfl), hv, trivial⟩, by kernel_rfl, Below.refl _ _, ?_⟩
                exact ⟨_, rfl, by rw [← hv]; exact h15'⟩,
              RX.gw_val fun a X hp => ⟨[], .pointer (some ⟨X.heap.size, 0, none⟩), X.alloc (.cells #[.int .i64 0, .int .u64 0, .slice none 0 0, .slice none 0 0] 27), trivial, by kernel_rfl, alloc_below _ _, ⟨X.heap.size, rfl, (hp.b : Below wr.heap.size wr X).size, Array.getElem?_push_size⟩⟩,
              trivial⟩
          · intro V wz hV hB
            obtain ⟨v16, e16, hD16⟩ : ∃ v', V 16 = .agg #[.int .i64 x.k, .int .u64 (x.n : Int), v', .slice none 0 0] ∧ DB wz wr.heap.size v' x.s := hV 16 (by omega)
            obtain ⟨gb, e17, hB17⟩ : ∃ g, V 17 = .pointer (some ⟨g, 0, none⟩) ∧ BXi wz wr.heap.size g [.int .i64 0, .int .u64 0, .slice none 0 0, .slice none 0 0] := hV 17 (by omega)
            dsimp only [RX.putV, Nat.reduceAdd, List.drop, List.take]
            simp only [Act.put, List.setIfInBounds_toArray, List.set_cons_succ, List.set_cons_zero]
            rw [e16, e17]
            have hne : ∀ gd cs fz, wz.heap[gd]? = some (.cells cs 5 fz) → gd ≠ gb := fun gd cs fz h e => by
              rw [e, hB17.2] at h
              have h := Option.some.inj h
              injection h with _ h _
              exact absurd h (by decide)
            have hth : wz.there gb 0 4 := fun j hj => by
              have e : ∀ k : Nat, k < 4 → (wz.cell? ⟨gb, 0 + k, none⟩).isSome = true ∧ wz.frozen? ⟨gb, 0 + k, none⟩ = false := fun k hk => by
                unfold World.cell? World.frozen?
                simp only [hB17.2, Nat.zero_add]
                obtain rfl | rfl | rfl | rfl : k = 0 ∨ k = 1 ∨ k = 2 ∨ k = 3 := by omega
                all_goals exact ⟨rfl, rfl⟩
              exact e j hj
            have hgbz : gb < wz.heap.size := (Array.getElem?_eq_some_iff.1 hB17.2).1
            obtain ⟨w11, hw11⟩ : ∃ w11, Hid (wz.setCells gb 0 [.int .i64 x.k, .int .u64 (x.n : Int), v16, .slice none 0 0] = w11) := ⟨_, rfl⟩
            have H11 : Hid (Below wr.heap.size wr w11 ∧ RowS w11 gb [.int .i64 x.k, .int .u64 (x.n : Int), v16, .slice none 0 0] ∧ DBn w11 wr.heap.size v16 x.s gb ∧ wr.heap.size ≤ gb) := by
              rw [← hw11.out]
              refine ⟨RG.below_setCells hB17.1 _ _ _ hB, ⟨sc_lt _ _ _ hgbz, World.rangeAt_setCells_same _ _ _ _ hth, World.there_setCells hth _ _ _⟩, ?_, hB17.1⟩
              obtain ⟨gd, capd, csd, fzd, h1, h2, h3, h4, h5⟩ := hD16
              exact ⟨gd, capd, csd, fzd, h1, h2, ⟨hne gd csd fzd h4, h3⟩, by rw [sc_other _ _ (hne gd csd fzd h4)]; exact h4, h5⟩
            obtain ⟨qd, dl, cd, rfl⟩ : ∃ qd dl cd, v16 = .slice qd dl cd := by obtain ⟨gd, capd, csd, fzd, h1, -⟩ := hD16; exact ⟨_, _, _, h1⟩
            refine wpList_store_mid rfl 27 _ _ rfl gb 0 #[.int .i64 x.k, .int .u64 (x.n : Int), .slice qd dl cd, .slice none 0 0] ?_ ?_ hth (by kernel_rfl) (four_one _ _ _ _ _ _ _ _) ?_
            · rfl
            · rfl
            show wpList _ _ _ _ _ (wz.setCells gb 0 [.int .i64 x.k, .int .u64 (x.n : Int), .slice qd dl cd, .slice none 0 0])
            rw [hw11.out]
            clear hV hB hD16 hB17 hne hth hgbz hw11
            dsimp only [Act.put]
            obtain ⟨cs, hrow, hic⟩ := HI.out.row
            rw [hn3.out] at hrow
            obtain ⟨d, hd⟩ : ∃ d, Hid (d + cn = n3) := ⟨n3 - cn, by show _ = _; omega⟩
            obtain ⟨q7, c7, hlo, hlo2, hhi, hhi2⟩ := st_cut hrow hd.out
            have hsub : ∀ X : World, (binOp .sub 3 (.int .i64 (n3 : Int)) (.int .i64 (cn : Int))).run Tryd.prog X = .ok (.int .i64 (d : Int)) X := fun X => by
              have e : (n3 : Int) - (cn : Int) = (d : Int) := by have := hd.out; omega
              have e2 : IntKind.i64.wrap (d : Int) = (d : Int) := by rw [IntKind.wrap_i64]; have := hd.out; omega
              go_simp
              first | done | exact e2 | rw [e2] | rw [e, e2]
            have hcut := IC.cut d (hic wr fun _ _ _ => rfl)
            have hlen2 : Hid ((st.drop d).length = cn ∧ (cs.drop (d * 4)).length = cn * 4 ∧ (st.take d).length = d ∧ (cs.take (d * 4)).length = d * 4) := by
              have h1 := hcut.1.len
              have h2 := hcut.2.len
              have h3 := hn3.out
              have h4 := hd.out
              have h5 : (st.drop d).length = cn := by rw [List.length_drop]; omega
              have h6 : (st.take d).length = d := by rw [List.length_take]; omega
              exact ⟨h5, by rw [h2, h5], h6, by rw [h1, h6]⟩
            have hd8 : Hid (d ≤ 256 ∧ cn ≤ 256) := by have := hd.out; exact ⟨by omega, by omega⟩
            have HC : Hid (ICQ wb.heap.size wr (st.take d) (cs.take (d * 4)) ∧ ICQ wb.heap.size wr (st.drop d) (cs.drop (d * 4))) := ⟨fun W hW => (IC.cut d (hic W hW)).1, fun W hW => (IC.cut d (hic W hW)).2⟩
            have HLO : Hid (∀ X, Below wr.heap.size wr X → (cn = 0 ∨ ∃ b o, q7 = some ⟨b, o, none⟩ ∧ ∀ j u, (cs.drop (d * 4))[j]? = some u → X.cell? ⟨b, o + j, none⟩ = some u)) := fun X hX => by
              rcases hlo2 with h | ⟨b, o, h1, h2, h3⟩
              · exact Or.inl h
              · exact Or.inr ⟨b, o, h1, fun j u hj => by rw [hX.cell (p := ⟨b, _, none⟩) h2]; exact h3 j u hj⟩
            have HHI : Hid (∀ X, Below wr.heap.size wr X → (d = 0 ∨ ∃ b o, q3 = some ⟨b, o, none⟩ ∧ ∀ j u, (cs.take (d * 4))[j]? = some u → X.cell? ⟨b, o + j, none⟩ = some u)) := fun X hX => by
              rcases hhi2 with h | ⟨b, o, h1, h2, h3⟩
              · exact Or.inl h
              · exact Or.inr ⟨b, o, h1, fun j u hj => by rw [hX.cell (p := ⟨b, _, none⟩) h2]; exact h3 j u hj⟩
            clear hcut hlo2 hhi2 hrow hic
            go_upto_region 12 with fail
            refine RX.Gw.last (G12 gb (.slice q3 n3 c3) n3 cn d (.slice q7 cn c7) (cs.drop (d * 4)) w11) 10 (by kernel_rfl) (by kernel_rfl) (by kernel_rfl) ?_ (Below.refl _ w11).drew ?_
            · exact ⟨RX.gw_val fun a X hp => ⟨[(6, .pointer (some ⟨gb, 0, none⟩))], .pointer (some ⟨gb, 3, none⟩), X, ⟨hp.o 6 (by kernel_rfl), trivial⟩, by kernel_rfl, Below.refl _ _, rfl⟩,
                RX.cf_ld1T 25 48 rfl (by kernel_rfl) fun a X hp => ⟨⟨gb, 3, none⟩, .slice none 0 0, hp.n 0 48 (by kernel_rfl) (by kernel_rfl) (by kernel_rfl), (H11.out.2.1.below (hp.b 0 (by kernel_rfl) : Below w11.heap.size w11 X)).cell 3 _ rfl, Below.refl _ _, rfl⟩,
                RX.gw_val fun a X hp => ⟨[(3, .slice q3 n3 c3)], .slice q3 n3 c3, X, ⟨hp.o 3 (by kernel_rfl), trivial⟩, by kernel_rfl, Below.refl _ _, rfl⟩,
                RX.gw_val fun a X hp => ⟨[(3, .slice q3 n3 c3)], .slice q3 n3 c3, X, ⟨hp.o 3 (by kernel_rfl), trivial⟩, by kernel_rfl, Below.refl _ _, rfl⟩,
                RX.gw_val fun a X hp => ⟨[(51, .slice q3 n3 c3)], .int .i64 (n3 : Int), X, ⟨hp.n 3 51 (by kernel_rfl) (by kernel_rfl), trivial⟩, by kernel_rfl, Below.refl _ _, rfl⟩,
                RX.gw_val fun a X hp => ⟨[(5, .int .i64 (cn : Int))], .int .i64 (cn : Int), X, ⟨hp.o 5 (by kernel_rfl), trivial⟩, by kernel_rfl, Below.refl _ _, rfl⟩,
                RX.gw_bin .sub 3 3 52 53 rfl fun a X hp => ⟨_, _, _, hp.n 4 52 (by kernel_rfl) (by kernel_rfl), hp.n 5 53 (by kernel_rfl) (by kernel_rfl), by kernel_rfl, hsub X, rfl⟩,
                RX.cf_sloX 25 50 54 rfl fun a X hp => ⟨_, _, _, hp.n 2 50 (by kernel_rfl) (by kernel_rfl) (by kernel_rfl), hp.n 6 54 (by kernel_rfl) (by kernel_rfl) (by kernel_rfl), hlo X, Below.refl _ _, rfl⟩,
                RX.cf_app 49 55 25 rfl fun a X hp => by
                  have hX : Below w11.heap.size w11 X := hp.b 0 (by kernel_rfl)
                  have e1 : a.eval (.tmp 49) = .slice none 0 0 := hp.n 1 49 (by kernel_rfl) (by kernel_rfl) (by kernel_rfl)
                  have e2 : a.eval (.tmp 55) = .slice q7 cn c7 := hp.n 7 55 (by kernel_rfl) (by kernel_rfl) (by kernel_rfl)
                  obtain ⟨v', W', r1, r2, r3⟩ := it_app (base := w11.heap.size) (W := X) (v := .slice none 0 0) (n := 0) (c := c7) (xs := []) ⟨rfl, Or.inl ⟨rfl, rfl⟩⟩ hlen2.out.2.1 (HLO.out X (H11.out.1.trans (hX.mono H11.out.1.size))) (HC.out.2 wr fun _ _ _ => rfl).one (by have := hd8.out.2; omega) hX.size
                  rw [Nat.zero_add, List.nil_append] at r2
                  rw [e1, e2]
                  exact ⟨v', W', r1, ⟨r3.os, r3.tape, r3.output, r3.size, fun k hk => r3.block k hk (by simp [Value.ownBlock])⟩, r2⟩,
                RX.gw_val fun a X hp => ⟨[(6, .pointer (some ⟨gb, 0, none⟩))], .pointer (some ⟨gb, 3, none⟩), X, ⟨hp.o 6 (by kernel_rfl), trivial⟩, by kernel_rfl, Below.refl _ _, rfl⟩,
                trivial⟩
            · intro V2 wy hV2 hB2
              have h8 : wy.ownsRow w11.heap.size 27 4 (V2 8) cn (cs.drop (d * 4)) := hV2 8 (by omega)
              have e9 : V2 9 = .pointer (some ⟨gb, 3, none⟩) := hV2 9 (by omega)
              have HB2 : Hid (Below w11.heap.size w11 wy) := hB2
              have HR2 := hidW (H11.out.2.1.below hB2)
              dsimp only [RX.putV, Nat.reduceAdd, List.drop, List.take]
              simp only [Act.put, List.setIfInBounds_toArray, List.set_cons_succ, List.set_cons_zero]
              rw [e9]
              obtain ⟨q8, c8, e8⟩ : ∃ q8 c8, V2 8 = .slice q8 cn c8 := by
                rcases h8.2 with ⟨h2, h3⟩ | ⟨g, cap, cur, h2, -⟩
                · exact ⟨none, 0, by rw [h2, h3]⟩
                · exact ⟨_, _, h2⟩
              rw [e8] at h8 ⊢
              have H8 := hidW h8
              have r3 := HR2.out.cell 3 _ rfl
              have f3 := HR2.out.free 3 (Nat.lt_succ_self 3)
              have hgl := HR2.out.1
              clear hV2 hB2 h8 e8 e9
              obtain ⟨w12, hw12⟩ : ∃ w12, Hid (wy.setCell ⟨gb, 3, none⟩ (.slice q8 cn c8) = w12) := ⟨_, rfl⟩
              have HB12 : Hid (Below wr.heap.size wr w12) := by
                rw [← hw12.out]
                exact (H11.out.1.trans (HB2.out.mono H11.out.1.size)).setCell (p := ⟨gb, 3, none⟩) H11.out.2.2.2 _
              have HR12 : Hid (RowS w12 gb [.int .i64 x.k, .int .u64 (x.n : Int), .slice qd dl cd, .slice q8 cn c8]) := by
                rw [← hw12.out]
                exact HR2.out.set 3 (.slice q8 cn c8) (Nat.lt_succ_self 3)
              have HM12 : Hid (IMQ wb.heap.size w12 (.mk x.k x.n x.s.data.toList (st.drop d)) (.slice qd dl cd) (.slice q8 cn c8)) := by
                refine inm_step (gb := gb) (B := w11.heap.size) (B' := wr.heap.size) hxs'.out.1 hxs'.out.2 ?_ hlen2.out.1 hd8.out.2 HC.out.2 HB12.out ?_ (Nat.le_trans HI.out.bl.size H11.out.1.size) HI.out.bl.size
                · refine DBn.keep H11.out.2.2.1 fun k hk hne => ?_
                  rw [← hw12.out, blk_other _ _ _ _ hne, HB2.out.block k hk]
                · rw [← hw12.out]
                  rcases H8.out with ⟨h0, h1 | ⟨g, cap, cur, h1, h2, h3, h4⟩⟩
                  · exact ⟨h0, Or.inl h1⟩
                  · exact ⟨h0, Or.inr ⟨g, cap, cur, h1, h2, by rw [blk_other _ _ _ _ (show g ≠ gb by have := H11.out.2.1.1; omega)]; exact h3, h4⟩⟩
              go_upto_region 13 with fail
              rw [hw12.out]
              clear H11 HB2 HR2 H8 r3 f3 hgl hw12 hlo HLO
              obtain ⟨it, hit⟩ : ∃ it : List Value, Hid ([.int .i64 x.k, .int .u64 (x.n : Int), .slice qd dl cd, .slice q8 cn c8] = it) := ⟨_, rfl⟩
              refine RX.flow_draws (F13 w12 [undef, .slice q3 n3 c3, .slice q3 n3 c3, .int .i64 (n3 : Int), .int .i64 (cn : Int), .int .i64 (d : Int), .slice q3 d c3, undef, .agg #[.int .i64 x.k, .int .u64 (x.n : Int), .slice qd dl cd, .slice q8 cn c8]] d (cs.take (d * 4)) [.int .i64 x.k, .int .u64 (x.n : Int), .slice qd dl cd, .slice q8 cn c8]) (by kernel_rfl) (F13.reg (by kernel_rfl) (by kernel_rfl) (by kernel_rfl) ?_) (fun _ => (Below.refl _ w12).drew) ?_
              · exact ⟨RX.cf_manyT fun a X hp => ⟨[], .slice (some ⟨X.heap.size, 0, none⟩) 0 0, X.alloc (.cells #[] 27), trivial, by kernel_rfl, alloc_below _ _, ⟨X.heap.size, rfl, (hp.b 0 (by kernel_rfl) : Below w12.heap.size w12 X).size, Array.getElem?_push_size⟩⟩,
                  RX.cf_manyT fun a X hp => ⟨[(3, .slice q3 n3 c3)], .slice q3 n3 c3, X, ⟨hp.o 3 (by kernel_rfl), trivial⟩, by kernel_rfl, Below.refl _ _, rfl⟩,
                  RX.cf_manyT fun a X hp => ⟨[(3, .slice q3 n3 c3)], .slice q3 n3 c3, X, ⟨hp.o 3 (by kernel_rfl), trivial⟩, by kernel_rfl, Below.refl _ _, rfl⟩,
                  RX.cf_manyT fun a X hp => ⟨[(60, .slice q3 n3 c3)], .int .i64 (n3 : Int), X, ⟨hp.n 2 60 (by kernel_rfl) (by kernel_rfl) (by kernel_rfl), trivial⟩, by kernel_rfl, Below.refl _ _, rfl⟩,
                  RX.cf_manyT fun a X hp => ⟨[(5, .int .i64 (cn : Int))], .int .i64 (cn : Int), X, ⟨hp.o 5 (by kernel_rfl), trivial⟩, by kernel_rfl, Below.refl _ _, rfl⟩,
                  RX.cf_subX 3 3 61 62 rfl fun a X hp => ⟨_, _, _, hp.n 3 61 (by kernel_rfl) (by kernel_rfl) (by kernel_rfl), hp.n 4 62 (by kernel_rfl) (by kernel_rfl) (by kernel_rfl), hsub X, Below.refl _ _, rfl⟩,
                  RX.cf_shiX 25 59 63 rfl fun a X hp => ⟨_, _, _, hp.n 1 59 (by kernel_rfl) (by kernel_rfl) (by kernel_rfl), hp.n 5 63 (by kernel_rfl) (by kernel_rfl) (by kernel_rfl), hhi X, Below.refl _ _, rfl⟩,
                  RX.cf_app 58 64 25 rfl fun a X hp => by
                    have hX : Below w12.heap.size w12 X := hp.b 0 (by kernel_rfl)
                    obtain ⟨g0, e1, hg1, hg2⟩ : ∃ g, a.eval (.tmp 58) = .slice (some ⟨g, 0, none⟩) 0 0 ∧ w12.heap.size ≤ g ∧ X.heap[g]? = some (.cells #[] 27 (0, 0)) := hp.n 0 58 (by kernel_rfl) (by kernel_rfl) (by kernel_rfl)
                    have e2 : a.eval (.tmp 64) = .slice q3 d c3 := hp.n 6 64 (by kernel_rfl) (by kernel_rfl) (by kernel_rfl)
                    obtain ⟨v', W', r1, r2, r3⟩ := it_app0 (c := c3) hg1 hg2 hlen2.out.2.2.2 (HHI.out X (HB12.out.trans (hX.mono HB12.out.size))) (HC.out.1 wr fun _ _ _ => rfl).one (by have := hd8.out.1; omega) hX.size
                    rw [e1, e2]
                    exact ⟨v', W', r1, r3, r2⟩,
                  RX.cf_load 27 6 rfl (by kernel_rfl) fun a X hp => ⟨gb, 0, [.int .i64 x.k, .int .u64 (x.n : Int), .slice qd dl cd, .slice q8 cn c8], hp.o 6 (by kernel_rfl), (HR12.out.below (hp.b 0 (by kernel_rfl) : Below w12.heap.size w12 X)).2.1, by kernel_rfl, Below.refl _ _, rfl⟩,
                  RX.cf_manyT fun a X hp => ⟨[(66, .agg #[.int .i64 x.k, .int .u64 (x.n : Int), .slice qd dl cd, .slice q8 cn c8])], .slice (some ⟨X.heap.size, 0, none⟩) 1 1, X.alloc (.cells #[.int .i64 x.k, .int .u64 (x.n : Int), .slice qd dl cd, .slice q8 cn c8] 27), ⟨hp.n 8 66 (by kernel_rfl) (by kernel_rfl) (by kernel_rfl), trivial⟩, by kernel_rfl, alloc_below _ _, ⟨X.heap.size, rfl, (hp.b 0 (by kernel_rfl) : Below w12.heap.size w12 X).size, Array.getElem?_push_size⟩⟩,
                  RX.cf_app 65 67 25 rfl fun a X hp => by
                    have hX : Below w12.heap.size w12 X := hp.b 0 (by kernel_rfl)
                    have h7 : X.ownsRow w12.heap.size 27 4 (a.eval (.tmp 65)) d (cs.take (d * 4)) := hp.n 7 65 (by kernel_rfl) (by kernel_rfl) (by kernel_rfl)
                    obtain ⟨g9, e9, hg9⟩ : ∃ g, a.eval (.tmp 67) = .slice (some ⟨g, 0, none⟩) 1 1 ∧ BXi X w12.heap.size g [.int .i64 x.k, .int .u64 (x.n : Int), .slice qd dl cd, .slice q8 cn c8] := hp.n 9 67 (by kernel_rfl) (by kernel_rfl) (by kernel_rfl)
                    obtain ⟨v', W', r1, r2, r3⟩ := it_app (m := 1) (c := 1) (q := some ⟨g9, 0, none⟩) h7 (news := [.int .i64 x.k, .int .u64 (x.n : Int), .slice qd dl cd, .slice q8 cn c8]) rfl (Or.inr ⟨g9, 0, rfl, fun j u hj => by
                      unfold World.cell?
                      simp only [hg9.2, Nat.zero_add]
                      simpa using hj⟩) (fun u hu => by
                        simp only [List.mem_cons, List.not_mem_nil, or_false] at hu
                        rcases hu with rfl | rfl | rfl | rfl <;> rfl) (by have := hd8.out.1; omega) hX.size
                    rw [e9]
                    refine ⟨v', W', r1, ⟨r3.os, r3.tape, r3.output, Nat.le_trans hX.size r3.size |> fun _ => r3.size, fun k hk => r3.block k (Nat.lt_of_lt_of_le hk hX.size) ?_⟩, r2⟩
                    rcases h7.2 with ⟨h0, -⟩ | ⟨g, cap, cur, h0, h1, -⟩
                    · rw [h0]; simp [Value.ownBlock]
                    · rw [h0]; simp only [Value.ownBlock, ne_eq, Option.some.injEq]; omega,
                  RX.cf_manyT fun a X hp => ⟨[(68, a.eval (.tmp 68))], a.eval (.tmp 68), X, ⟨rfl, trivial⟩, by kernel_rfl, Below.refl _ _, (hp.n 10 68 (by kernel_rfl) (by kernel_rfl) (by kernel_rfl) : R13 w12.heap.size d (cs.take (d * 4)) _ 10 _ X)⟩,
                  trivial⟩
              · intro V3 wf hV3 hB3
                have h11 : wf.ownsRow w12.heap.size 27 4 (V3 11) (d + 1) (cs.take (d * 4) ++ [.int .i64 x.k, .int .u64 (x.n : Int), .slice qd dl cd, .slice q8 cn c8]) := hV3 11 (Nat.lt_of_succ_le (Nat.le_of_ble_eq_true (by kernel_rfl))) (by kernel_rfl)
                have hBf : Below w12.heap.size w12 wf := hB3 0 rfl
                have HBI : Hid (BI wb (bst (L.take (j + 1))) (V3 11) wf) := by
                  have hwf := HB12.out.trans (hBf.mono HB12.out.size)
                  have e1 : bst (L.take (j + 1)) = st.take d ++ [.mk x.k x.n x.s.data.toList (st.drop d)] := by
                    rw [bst_take L j x hx'.out, hst.out]
                    unfold stp
                    rw [hxc.out, hcn.out, hn3.out, hmm.out, show n3 - cn = d by have := hd.out; omega]
                  refine ⟨HI.out.bl.trans (hwf.mono HI.out.bl.size), cs.take (d * 4) ++ [.int .i64 x.k, .int .u64 (x.n : Int), .slice qd dl cd, .slice q8 cn c8], ?_, ?_⟩
                  · rw [e1, List.length_append, hlen2.out.2.2.1]
                    exact own_upI h11 (Nat.le_trans HI.out.bl.size HB12.out.size)
                  · rw [e1]
                    intro W hW
                    refine IC.app ?_ (HC.out.1.up hwf W hW)
                    rw [IC]
                    exact ⟨_, _, [], rfl, HM12.out.up hBf W hW, by rw [IC]⟩
                clear h11 hBf
                dsimp only [RX.putV, Nat.reduceAdd]
                simp only [Act.put, List.setIfInBounds_toArray, List.set_cons_succ, List.set_cons_zero]
                obtain ⟨v11, hv11⟩ : ∃ v, Hid (V3 11 = v) := ⟨_, rfl⟩
                rw [hv11.out] at HBI ⊢
                clear hV3 hB3
                go_wp2
                go_roundg (m + 1 - (j + 1))
                case measure => omega
                case rel => exact ⟨j + 1, rfl, by omega, rfl, HBI⟩
      · have hr := cn_pos xc hneg
        rw [hcn.out] at hr
        by_cases hgt : n3 < cn
        · have hgz : (n3 : Int) < (cn : Int) := by omega
          have hmm : Hid (min cn n3 = n3) := by show _ = _; omega
          go_upto_region 11 with fail
          refine RX.Gw.last (G11 (some ⟨b, o0, none⟩) m c j b (o0 + j * 4) x wr.heap.size wr) 18 (by kernel_rfl) (by kernel_rfl) (by kernel_rfl) ?_ (Below.refl _ wr).drew ?_
          · exact ⟨RX.gw_val fun a X hp => ⟨[(0, .slice (some ⟨b, o0, none⟩) m c)], .slice (some ⟨b, o0, none⟩) m c, X, ⟨hp.o 0 (by kernel_rfl), trivial⟩, by kernel_rfl, Below.refl _ _, rfl⟩,
              RX.gw_val fun a X hp => ⟨[(4, .int .i64 (j : Int))], .int .i64 (j : Int), X, ⟨hp.o 4 (by kernel_rfl), trivial⟩, by kernel_rfl, Below.refl _ _, rfl⟩,
              RX.gw_idxX 39 31 32 rfl fun a X hp => ⟨_, _, _, hp.n 0 31 (by kernel_rfl) (by kernel_rfl), hp.n 1 32 (by kernel_rfl) (by kernel_rfl), hix X, rfl⟩,
              RX.gw_val fun a X hp => ⟨[(33, .pointer (some ⟨b, o0 + j * 4, none⟩))], .pointer (some ⟨b, o0 + j * 4, none⟩), X, ⟨hp.n 2 33 (by kernel_rfl) (by kernel_rfl), trivial⟩, by kernel_rfl, Below.refl _ _, rfl⟩,
              RX.cf_ld1T 3 34 rfl (by kernel_rfl) fun a X hp => ⟨⟨b, o0 + j * 4, none⟩, .int .i64 x.k, hp.n 3 34 (by kernel_rfl) (by kernel_rfl) (by kernel_rfl), c0.out X (HI.out.bl.trans ((hp.b 0 (by kernel_rfl) : Below wr.heap.size wr X).mono HI.out.bl.size)), Below.refl _ _, rfl⟩,
              RX.gw_val fun a X hp => ⟨[(0, .slice (some ⟨b, o0, none⟩) m c)], .slice (some ⟨b, o0, none⟩) m c, X, ⟨hp.o 0 (by kernel_rfl), trivial⟩, by kernel_rfl, Below.refl _ _, rfl⟩,
              RX.gw_val fun a X hp => ⟨[(4, .int .i64 (j : Int))], .int .i64 (j : Int), X, ⟨hp.o 4 (by kernel_rfl), trivial⟩, by kernel_rfl, Below.refl _ _, rfl⟩,
              RX.gw_idxX 39 36 37 rfl fun a X hp => ⟨_, _, _, hp.n 5 36 (by kernel_rfl) (by kernel_rfl), hp.n 6 37 (by kernel_rfl) (by kernel_rfl), hix X, rfl⟩,
              RX.gw_val fun a X hp => ⟨[(38, .pointer (some ⟨b, o0 + j * 4, none⟩))], .pointer (some ⟨b, o0 + j * 4 + 1, none⟩), X, ⟨hp.n 7 38 (by kernel_rfl) (by kernel_rfl), trivial⟩, by kernel_rfl, Below.refl _ _, rfl⟩,
              RX.cf_ld1T 24 39 rfl (by kernel_rfl) fun a X hp => ⟨⟨b, o0 + j * 4 + 1, none⟩, .int .u64 (x.n : Int), hp.n 8 39 (by kernel_rfl) (by kernel_rfl) (by kernel_rfl), c1.out X (HI.out.bl.trans ((hp.b 0 (by kernel_rfl) : Below wr.heap.size wr X).mono HI.out.bl.size)), Below.refl _ _, rfl⟩,
              RX.gw_val fun a X hp => ⟨[(0, .slice (some ⟨b, o0, none⟩) m c)], .slice (some ⟨b, o0, none⟩) m c, X, ⟨hp.o 0 (by kernel_rfl), trivial⟩, by kernel_rfl, Below.refl _ _, rfl⟩,
              RX.gw_val fun a X hp => ⟨[(4, .int .i64 (j : Int))], .int .i64 (j : Int), X, ⟨hp.o 4 (by kernel_rfl), trivial⟩, by kernel_rfl, Below.refl _ _, rfl⟩,
              RX.gw_idxX 39 41 42 rfl fun a X hp => ⟨_, _, _, hp.n 10 41 (by kernel_rfl) (by kernel_rfl), hp.n 11 42 (by kernel_rfl) (by kernel_rfl), hix X, rfl⟩,
              RX.gw_val fun a X hp => ⟨[(43, .pointer (some ⟨b, o0 + j * 4, none⟩))], .pointer (some ⟨b, o0 + j * 4 + 2, none⟩), X, ⟨hp.n 12 43 (by kernel_rfl) (by kernel_rfl), trivial⟩, by kernel_rfl, Below.refl _ _, rfl⟩,
              RX.cf_ld1T 9 44 rfl (by kernel_rfl) fun a X hp => ⟨⟨b, o0 + j * 4 + 2, none⟩, .string x.s, hp.n 13 44 (by kernel_rfl) (by kernel_rfl) (by kernel_rfl), c2.out X (HI.out.bl.trans ((hp.b 0 (by kernel_rfl) : Below wr.heap.size wr X).mono HI.out.bl.size)), Below.refl _ _, rfl⟩,
              RX.gw_cnvM 9 22 45 rfl fun a X hp => by
                obtain ⟨v, w', h1, h2, h3⟩ := conv_DB x.s X wr.heap.size (hp.b : Below wr.heap.size wr X).size
                exact ⟨_, v, w', hp.n 14 45 (by kernel_rfl) (by kernel_rfl), h1, h3, h2⟩,
              RX.gw_val fun a X hp => by
                have h15 : DB X wr.heap.size _ x.s := hp.n 15 46 (by kernel_rfl) (by kernel_rfl)
                have h15' := h15
                obtain ⟨gd, capd, csd, fzd, hv, -⟩ := h15
                refine ⟨[(35, .int .i64 x.k), (40, .int .u64 (x.n : Int)), (46, .slice (some ⟨gd, 0, none⟩) x.s.size capd)], .agg #[.int .i64 x.k, .int .u64 (x.n : Int), .slice (some ⟨gd, 0, none⟩) x.s.size capd, .slice none 0 0], X, ⟨hp.n 4 35 (by kernel_rfl) (by kernel_rfl), hp.n 9 40 (by kernel_rfl) (by kernel_rfl), hv, trivial⟩, by kernel_rfl, Below.refl _ _, ?_⟩
                exact ⟨_, rfl, by rw [← hv]; exact h15'⟩,
              RX.gw_val fun a X hp => ⟨[], .pointer (some ⟨X.heap.size, 0, none⟩), X.alloc (.cells #[.int .i64 0, .int .u64 0, .slice none 0 0, .slice none 0 0] 27), trivial, by kernel_rfl, alloc_below _ _, ⟨X.heap.size, rfl, (hp.b : Below wr.heap.size wr X).size, Array.getElem?_push_size⟩⟩,
              trivial⟩
          · intro V wz hV hB
            obtain ⟨v16, e16, hD16⟩ : ∃ v', V 16 = .agg #[.int .i64 x.k, .int .u64 (x.n : Int), v', .slice none 0 0] ∧ DB wz wr.heap.size v' x.s := hV 16 (by omega)
            obtain ⟨gb, e17, hB17⟩ : ∃ g, V 17 = .pointer (some ⟨g, 0, none⟩) ∧ BXi wz wr.heap.size g [.int .i64 0, .int .u64 0, .slice none 0 0, .slice none 0 0] := hV 17 (by omega)
            dsimp only [RX.putV, Nat.reduceAdd, List.drop, List.take]
            simp only [Act.put, List.setIfInBounds_toArray, List.set_cons_succ, List.set_cons_zero]
            rw [e16, e17]
            have hne : ∀ gd cs fz, wz.heap[gd]? = some (.cells cs 5 fz) → gd ≠ gb := fun gd cs fz h e => by
              rw [e, hB17.2] at h
              have h := Option.some.inj h
              injection h with _ h _
              exact absurd h (by decide)
            have hth : wz.there gb 0 4 := fun j hj => by
              have e : ∀ k : Nat, k < 4 → (wz.cell? ⟨gb, 0 + k, none⟩).isSome = true ∧ wz.frozen? ⟨gb, 0 + k, none⟩ = false := fun k hk => by
                unfold World.cell? World.frozen?
                simp only [hB17.2, Nat.zero_add]
                obtain rfl | rfl | rfl | rfl : k = 0 ∨ k = 1 ∨ k = 2 ∨ k = 3 := by omega
                all_goals exact ⟨rfl, rfl⟩
              exact e j hj
            have hgbz : gb < wz.heap.size := (Array.getElem?_eq_some_iff.1 hB17.2).1
            obtain ⟨w11, hw11⟩ : ∃ w11, Hid (wz.setCells gb 0 [.int .i64 x.k, .int .u64 (x.n : Int), v16, .slice none 0 0] = w11) := ⟨_, rfl⟩
            have H11 : Hid (Below wr.heap.size wr w11 ∧ RowS w11 gb [.int .i64 x.k, .int .u64 (x.n : Int), v16, .slice none 0 0] ∧ DBn w11 wr.heap.size v16 x.s gb ∧ wr.heap.size ≤ gb) := by
              rw [← hw11.out]
              refine ⟨RG.below_setCells hB17.1 _ _ _ hB, ⟨sc_lt _ _ _ hgbz, World.rangeAt_setCells_same _ _ _ _ hth, World.there_setCells hth _ _ _⟩, ?_, hB17.1⟩
              obtain ⟨gd, capd, csd, fzd, h1, h2, h3, h4, h5⟩ := hD16
              exact ⟨gd, capd, csd, fzd, h1, h2, ⟨hne gd csd fzd h4, h3⟩, by rw [sc_other _ _ (hne gd csd fzd h4)]; exact h4, h5⟩
            obtain ⟨qd, dl, cd, rfl⟩ : ∃ qd dl cd, v16 = .slice qd dl cd := by obtain ⟨gd, capd, csd, fzd, h1, -⟩ := hD16; exact ⟨_, _, _, h1⟩
            refine wpList_store_mid rfl 27 _ _ rfl gb 0 #[.int .i64 x.k, .int .u64 (x.n : Int), .slice qd dl cd, .slice none 0 0] ?_ ?_ hth (by kernel_rfl) (four_one _ _ _ _ _ _ _ _) ?_
            · rfl
            · rfl
            show wpList _ _ _ _ _ (wz.setCells gb 0 [.int .i64 x.k, .int .u64 (x.n : Int), .slice qd dl cd, .slice none 0 0])
            rw [hw11.out]
            clear hV hB hD16 hB17 hne hth hgbz hw11
            dsimp only [Act.put]
            obtain ⟨cs, hrow, hic⟩ := HI.out.row
            rw [hn3.out] at hrow
            obtain ⟨d, hd⟩ : ∃ d, Hid (d + n3 = n3) := ⟨n3 - n3, by show _ = _; omega⟩
            obtain ⟨q7, c7, hlo, hlo2, hhi, hhi2⟩ := st_cut hrow hd.out
            have hsub : ∀ X : World, (binOp .sub 3 (.int .i64 (n3 : Int)) (.int .i64 (n3 : Int))).run Tryd.prog X = .ok (.int .i64 (d : Int)) X := fun X => by
              have e : (n3 : Int) - (n3 : Int) = (d : Int) := by have := hd.out; omega
              have e2 : IntKind.i64.wrap (d : Int) = (d : Int) := by rw [IntKind.wrap_i64]; have := hd.out; omega
              go_simp
              first | done | exact e2 | rw [e2] | rw [e, e2]
            have hcut := IC.cut d (hic wr fun _ _ _ => rfl)
            have hlen2 : Hid ((st.drop d).length = n3 ∧ (cs.drop (d * 4)).length = n3 * 4 ∧ (st.take d).length = d ∧ (cs.take (d * 4)).length = d * 4) := by
              have h1 := hcut.1.len
              have h2 := hcut.2.len
              have h3 := hn3.out
              have h4 := hd.out
              have h5 : (st.drop d).length = n3 := by rw [List.length_drop]; omega
              have h6 : (st.take d).length = d := by rw [List.length_take]; omega
              exact ⟨h5, by rw [h2, h5], h6, by rw [h1, h6]⟩
            have hd8 : Hid (d ≤ 256 ∧ n3 ≤ 256) := by have := hd.out; exact ⟨by omega, by omega⟩
            have HC : Hid (ICQ wb.heap.size wr (st.take d) (cs.take (d * 4)) ∧ ICQ wb.heap.size wr (st.drop d) (cs.drop (d * 4))) := ⟨fun W hW => (IC.cut d (hic W hW)).1, fun W hW => (IC.cut d (hic W hW)).2⟩
            have HLO : Hid (∀ X, Below wr.heap.size wr X → (n3 = 0 ∨ ∃ b o, q7 = some ⟨b, o, none⟩ ∧ ∀ j u, (cs.drop (d * 4))[j]? = some u → X.cell? ⟨b, o + j, none⟩ = some u)) := fun X hX => by
              rcases hlo2 with h | ⟨b, o, h1, h2, h3⟩
              · exact Or.inl h
              · exact Or.inr ⟨b, o, h1, fun j u hj => by rw [hX.cell (p := ⟨b, _, none⟩) h2]; exact h3 j u hj⟩
            have HHI : Hid (∀ X, Below wr.heap.size wr X → (d = 0 ∨ ∃ b o, q3 = some ⟨b, o, none⟩ ∧ ∀ j u, (cs.take (d * 4))[j]? = some u → X.cell? ⟨b, o + j, none⟩ = some u)) := fun X hX => by
              rcases hhi2 with h | ⟨b, o, h1, h2, h3⟩
              · exact Or.inl h
              · exact Or.inr ⟨b, o, h1, fun j u hj => by rw [hX.cell (p := ⟨b, _, none⟩) h2]; exact h3 j u hj⟩
            clear hcut hlo2 hhi2 hrow hic
            go_upto_region 12 with fail
            refine RX.Gw.last (G12 gb (.slice q3 n3 c3) n3 n3 d (.slice q7 n3 c7) (cs.drop (d * 4)) w11) 10 (by kernel_rfl) (by kernel_rfl) (by kernel_rfl) ?_ (Below.refl _ w11).drew ?_
            · exact ⟨RX.gw_val fun a X hp => ⟨[(6, .pointer (some ⟨gb, 0, none⟩))], .pointer (some ⟨gb, 3, none⟩), X, ⟨hp.o 6 (by kernel_rfl), trivial⟩, by kernel_rfl, Below.refl _ _, rfl⟩,
                RX.cf_ld1T 25 48 rfl (by kernel_rfl) fun a X hp => ⟨⟨gb, 3, none⟩, .slice none 0 0, hp.n 0 48 (by kernel_rfl) (by kernel_rfl) (by kernel_rfl), (H11.out.2.1.below (hp.b 0 (by kernel_rfl) : Below w11.heap.size w11 X)).cell 3 _ rfl, Below.refl _ _, rfl⟩,
                RX.gw_val fun a X hp => ⟨[(3, .slice q3 n3 c3)], .slice q3 n3 c3, X, ⟨hp.o 3 (by kernel_rfl), trivial⟩, by kernel_rfl, Below.refl _ _, rfl⟩,
                RX.gw_val fun a X hp => ⟨[(3, .slice q3 n3 c3)], .slice q3 n3 c3, X, ⟨hp.o 3 (by kernel_rfl), trivial⟩, by kernel_rfl, Below.refl _ _, rfl⟩,
                RX.gw_val fun a X hp => ⟨[(51, .slice q3 n3 c3)], .int .i64 (n3 : Int), X, ⟨hp.n 3 51 (by kernel_rfl) (by kernel_rfl), trivial⟩, by kernel_rfl, Below.refl _ _, rfl⟩,
                RX.gw_val fun a X hp => ⟨[(5, .int .i64 (n3 : Int))], .int .i64 (n3 : Int), X, ⟨hp.o 5 (by kernel_rfl), trivial⟩, by kernel_rfl, Below.refl _ _, rfl⟩,
                RX.gw_bin .sub 3 3 52 53 rfl fun a X hp => ⟨_, _, _, hp.n 4 52 (by kernel_rfl) (by kernel_rfl), hp.n 5 53 (by kernel_rfl) (by kernel_rfl), by kernel_rfl, hsub X, rfl⟩,
                RX.cf_sloX 25 50 54 rfl fun a X hp => ⟨_, _, _, hp.n 2 50 (by kernel_rfl) (by kernel_rfl) (by kernel_rfl), hp.n 6 54 (by kernel_rfl) (by kernel_rfl) (by kernel_rfl), hlo X, Below.refl _ _, rfl⟩,
                RX.cf_app 49 55 25 rfl fun a X hp => by
                  have hX : Below w11.heap.size w11 X := hp.b 0 (by kernel_rfl)
                  have e1 : a.eval (.tmp 49) = .slice none 0 0 := hp.n 1 49 (by kernel_rfl) (by kernel_rfl) (by kernel_rfl)
                  have e2 : a.eval (.tmp 55) = .slice q7 n3 c7 := hp.n 7 55 (by kernel_rfl) (by kernel_rfl) (by kernel_rfl)
                  obtain ⟨v', W', r1, r2, r3⟩ := it_app (base := w11.heap.size) (W := X) (v := .slice none 0 0) (n := 0) (c := c7) (xs := []) ⟨rfl, Or.inl ⟨rfl, rfl⟩⟩ hlen2.out.2.1 (HLO.out X (H11.out.1.trans (hX.mono H11.out.1.size))) (HC.out.2 wr fun _ _ _ => rfl).one (by have := hd8.out.2; omega) hX.size
                  rw [Nat.zero_add, List.nil_append] at r2
                  rw [e1, e2]
                  exact ⟨v', W', r1, ⟨r3.os, r3.tape, r3.output, r3.size, fun k hk => r3.block k hk (by simp [Value.ownBlock])⟩, r2⟩,
                RX.gw_val fun a X hp => ⟨[(6, .pointer (some ⟨gb, 0, none⟩))], .pointer (some ⟨gb, 3, none⟩), X, ⟨hp.o 6 (by kernel_rfl), trivial⟩, by kernel_rfl, Below.refl _ _, rfl⟩,
                trivial⟩
            · intro V2 wy hV2 hB2
              have h8 : wy.ownsRow w11.heap.size 27 4 (V2 8) n3 (cs.drop (d * 4)) := hV2 8 (by omega)
              have e9 : V2 9 = .pointer (some ⟨gb, 3, none⟩) := hV2 9 (by omega)
              have HB2 : Hid (Below w11.heap.size w11 wy) := hB2
              have HR2 := hidW (H11.out.2.1.below hB2)
              dsimp only [RX.putV, Nat.reduceAdd, List.drop, List.take]
              simp only [Act.put, List.setIfInBounds_toArray, List.set_cons_succ, List.set_cons_zero]
              rw [e9]
              obtain ⟨q8, c8, e8⟩ : ∃ q8 c8, V2 8 = .slice q8 n3 c8 := by
                rcases h8.2 with ⟨h2, h3⟩ | ⟨g, cap, cur, h2, -⟩
                · exact ⟨none, 0, by rw [h2, h3]⟩
                · exact ⟨_, _, h2⟩
              rw [e8] at h8 ⊢
              have H8 := hidW h8
              have r3 := HR2.out.cell 3 _ rfl
              have f3 := HR2.out.free 3 (Nat.lt_succ_self 3)
              have hgl := HR2.out.1
              clear hV2 hB2 h8 e8 e9
              obtain ⟨w12, hw12⟩ : ∃ w12, Hid (wy.setCell ⟨gb, 3, none⟩ (.slice q8 n3 c8) = w12) := ⟨_, rfl⟩
              have HB12 : Hid (Below wr.heap.size wr w12) := by
                rw [← hw12.out]
                exact (H11.out.1.trans (HB2.out.mono H11.out.1.size)).setCell (p := ⟨gb, 3, none⟩) H11.out.2.2.2 _
              have HR12 : Hid (RowS w12 gb [.int .i64 x.k, .int .u64 (x.n : Int), .slice qd dl cd, .slice q8 n3 c8]) := by
                rw [← hw12.out]
                exact HR2.out.set 3 (.slice q8 n3 c8) (Nat.lt_succ_self 3)
              have HM12 : Hid (IMQ wb.heap.size w12 (.mk x.k x.n x.s.data.toList (st.drop d)) (.slice qd dl cd) (.slice q8 n3 c8)) := by
                refine inm_step (gb := gb) (B := w11.heap.size) (B' := wr.heap.size) hxs'.out.1 hxs'.out.2 ?_ hlen2.out.1 hd8.out.2 HC.out.2 HB12.out ?_ (Nat.le_trans HI.out.bl.size H11.out.1.size) HI.out.bl.size
                · refine DBn.keep H11.out.2.2.1 fun k hk hne => ?_
                  rw [← hw12.out, blk_other _ _ _ _ hne, HB2.out.block k hk]
                · rw [← hw12.out]
                  rcases H8.out with ⟨h0, h1 | ⟨g, cap, cur, h1, h2, h3, h4⟩⟩
                  · exact ⟨h0, Or.inl h1⟩
                  · exact ⟨h0, Or.inr ⟨g, cap, cur, h1, h2, by rw [blk_other _ _ _ _ (show g ≠ gb by have := H11.out.2.1.1; omega)]; exact h3, h4⟩⟩
              go_upto_region 13 with fail
              rw [hw12.out]
              clear H11 HB2 HR2 H8 r3 f3 hgl hw12 hlo HLO
              obtain ⟨it, hit⟩ : ∃ it : List Value, Hid ([.int .i64 x.k, .int .u64 (x.n : Int), .slice qd dl cd, .slice q8 n3 c8] = it) := ⟨_, rfl⟩
              refine RX.flow_draws (F13 w12 [undef, .slice q3 n3 c3, .slice q3 n3 c3, .int .i64 (n3 : Int), .int .i64 (n3 : Int), .int .i64 (d : Int), .slice q3 d c3, undef, .agg #[.int .i64 x.k, .int .u64 (x.n : Int), .slice qd dl cd, .slice q8 n3 c8]] d (cs.take (d * 4)) [.int .i64 x.k, .int .u64 (x.n : Int), .slice qd dl cd, .slice q8 n3 c8]) (by kernel_rfl) (F13.reg (by kernel_rfl) (by kernel_rfl) (by kernel_rfl) ?_) (fun _ => (Below.refl _ w12).drew) ?_
              · exact ⟨RX.cf_manyT fun a X hp => ⟨[], .slice (some ⟨X.heap.size, 0, none⟩) 0 0, X.alloc (.cells #[] 27), trivial, by kernel_rfl, alloc_below _ _, ⟨X.heap.size, rfl, (hp.b 0 (by kernel_rfl) : Below w12.heap.size w12 X).size, Array.getElem?_push_size⟩⟩,
                  RX.cf_manyT fun a X hp => ⟨[(3, .slice q3 n3 c3)], .slice q3 n3 c3, X, ⟨hp.o 3 (by kernel_rfl), trivial⟩, by kernel_rfl, Below.refl _ _, rfl⟩,
                  RX.cf_manyT fun a X hp => ⟨[(3, .slice q3 n3 c3)], .slice q3 n3 c3, X, ⟨hp.o 3 (by kernel_rfl), trivial⟩, by kernel_rfl, Below.refl _ _, rfl⟩,
                  RX.cf_manyT fun a X hp => ⟨[(60, .slice q3 n3 c3)], .int .i64 (n3 : Int), X, ⟨hp.n 2 60 (by kernel_rfl) (by kernel_rfl) (by kernel_rfl), trivial⟩, by kernel_rfl, Below.refl _ _, rfl⟩,
                  RX.cf_manyT fun a X hp => ⟨[(5, .int .i64 (n3 : Int))], .int .i64 (n3 : Int), X, ⟨hp.o 5 (by kernel_rfl), trivial⟩, by kernel_rfl, Below.refl _ _, rfl⟩,
                  RX.cf_subX 3 3 61 62 rfl fun a X hp => ⟨_, _, _, hp.n 3 61 (by kernel_rfl) (by kernel_rfl) (by kernel_rfl), hp.n 4 62 (by kernel_rfl) (by kernel_rfl) (by kernel_rfl), hsub X, Below.refl _ _, rfl⟩,
                  RX.cf_shiX 25 59 63 rfl fun a X hp => ⟨_, _, _, hp.n 1 59 (by kernel_rfl) (by kernel_rfl) (by kernel_rfl), hp.n 5 63 (by kernel_rfl) (by kernel_rfl) (by kernel_rfl), hhi X, Below.refl _ _, rfl⟩,
                  RX.cf_app 58 64 25 rfl fun a X hp => by
                    have hX : Below w12.heap.size w12 X := hp.b 0 (by kernel_rfl)
                    obtain ⟨g0, e1, hg1, hg2⟩ : ∃ g, a.eval (.tmp 58) = .slice (some ⟨g, 0, none⟩) 0 0 ∧ w12.heap.size ≤ g ∧ X.heap[g]? = some (.cells #[] 27 (0, 0)) := hp.n 0 58 (by kernel_rfl) (by kernel_rfl) (by kernel_rfl)
                    have e2 : a.eval (.tmp 64) = .slice q3 d c3 := hp.n 6 64 (by kernel_rfl) (by kernel_rfl) (by kernel_rfl)
                    obtain ⟨v', W', r1, r2, r3⟩ := it_app0 (c := c3) hg1 hg2 hlen2.out.2.2.2 (HHI.out X (HB12.out.trans (hX.mono HB12.out.size))) (HC.out.1 wr fun _ _ _ => rfl).one (by have := hd8.out.1; omega) hX.size
                    rw [e1, e2]
                    exact ⟨v', W', r1, r3, r2⟩,
                  RX.cf_load 27 6 rfl (by kernel_rfl) fun a X hp => ⟨gb, 0, [.int .i64 x.k, .int .u64 (x.n : Int), .slice qd dl cd, .slice q8 n3 c8], hp.o 6 (by kernel_rfl), (HR12.out.below (hp.b 0 (by kernel_rfl) : Below w12.heap.size w12 X)).2.1, by kernel_rfl, Below.refl _ _, rfl⟩,
                  RX.cf_manyT fun a X hp => ⟨[(66, .agg #[.int .i64 x.k, .int .u64 (x.n : Int), .slice qd dl cd, .slice q8 n3 c8])], .slice (some ⟨X.heap.size, 0, none⟩) 1 1, X.alloc (.cells #[.int .i64 x.k, .int .u64 (x.n : Int), .slice qd dl cd, .slice q8 n3 c8] 27), ⟨hp.n 8 66 (by kernel_rfl) (by kernel_rfl) (by kernel_rfl), trivial⟩, by kernel_rfl, alloc_below _ _, ⟨X.heap.size, rfl, (hp.b 0 (by kernel_rfl) : Below w12.heap.size w12 X).size, Array.getElem?_push_size⟩⟩,
                  RX.cf_app 65 67 25 rfl fun a X hp => by
                    have hX : Below w12.heap.size w12 X := hp.b 0 (by kernel_rfl)
                    have h7 : X.ownsRow w12.heap.size 27 4 (a.eval (.tmp 65)) d (cs.take (d * 4)) := hp.n 7 65 (by kernel_rfl) (by kernel_rfl) (by kernel_rfl)
                    obtain ⟨g9, e9, hg9⟩ : ∃ g, a.eval (.tmp 67) = .slice (some ⟨g, 0, none⟩) 1 1 ∧ BXi X w12.heap.size g [.int .i64 x.k, .int .u64 (x.n : Int), .slice qd dl cd, .slice q8 n3 c8] := hp.n 9 67 (by kernel_rfl) (by kernel_rfl) (by kernel_rfl)
                    obtain ⟨v', W', r1, r2, r3⟩ := it_app (m := 1) (c := 1) (q := some ⟨g9, 0, none⟩) h7 (news := [.int .i64 x.k, .int .u64 (x.n : Int), .slice qd dl cd, .slice q8 n3 c8]) rfl (Or.inr ⟨g9, 0, rfl, fun j u hj => by
                      unfold World.cell?
                      simp only [hg9.2, Nat.zero_add]
                      simpa using hj⟩) (fun u hu => by
                        simp only [List.mem_cons, List.not_mem_nil, or_false] at hu
                        rcases hu with rfl | rfl | rfl | rfl <;> rfl) (by have := hd8.out.1; omega) hX.size
                    rw [e9]
                    refine ⟨v', W', r1, ⟨r3.os, r3.tape, r3.output, Nat.le_trans hX.size r3.size |> fun _ => r3.size, fun k hk => r3.block k (Nat.lt_of_lt_of_le hk hX.size) ?_⟩, r2⟩
                    rcases h7.2 with ⟨h0, -⟩ | ⟨g, cap, cur, h0, h1, -⟩
                    · rw [h0]; simp [Value.ownBlock]
                    · rw [h0]; simp only [Value.ownBlock, ne_eq, Option.some.injEq]; omega,
                  RX.cf_manyT fun a X hp => ⟨[(68, a.eval (.tmp 68))], a.eval (.tmp 68), X, ⟨rfl, trivial⟩, by kernel_rfl, Below.refl _ _, (hp.n 10 68 (by kernel_rfl) (by kernel_rfl) (by kernel_rfl) : R13 w12.heap.size d (cs.take (d * 4)) _ 10 _ X)⟩,
                  trivial⟩
              · intro V3 wf hV3 hB3
                have h11 : wf.ownsRow w12.heap.size 27 4 (V3 11) (d + 1) (cs.take (d * 4) ++ [.int .i64 x.k, .int .u64 (x.n : Int), .slice qd dl cd, .slice q8 n3 c8]) := hV3 11 (Nat.lt_of_succ_le (Nat.le_of_ble_eq_true (by kernel_rfl))) (by kernel_rfl)
                have hBf : Below w12.heap.size w12 wf := hB3 0 rfl
                have HBI : Hid (BI wb (bst (L.take (j + 1))) (V3 11) wf) := by
                  have hwf := HB12.out.trans (hBf.mono HB12.out.size)
                  have e1 : bst (L.take (j + 1)) = st.take d ++ [.mk x.k x.n x.s.data.toList (st.drop d)] := by
                    rw [bst_take L j x hx'.out, hst.out]
                    unfold stp
                    rw [hxc.out, hcn.out, hn3.out, hmm.out, show n3 - n3 = d by have := hd.out; omega]
                  refine ⟨HI.out.bl.trans (hwf.mono HI.out.bl.size), cs.take (d * 4) ++ [.int .i64 x.k, .int .u64 (x.n : Int), .slice qd dl cd, .slice q8 n3 c8], ?_, ?_⟩
                  · rw [e1, List.length_append, hlen2.out.2.2.1]
                    exact own_upI h11 (Nat.le_trans HI.out.bl.size HB12.out.size)
                  · rw [e1]
                    intro W hW
                    refine IC.app ?_ (HC.out.1.up hwf W hW)
                    rw [IC]
                    exact ⟨_, _, [], rfl, HM12.out.up hBf W hW, by rw [IC]⟩
                clear h11 hBf
                dsimp only [RX.putV, Nat.reduceAdd]
                simp only [Act.put, List.setIfInBounds_toArray, List.set_cons_succ, List.set_cons_zero]
                obtain ⟨v11, hv11⟩ : ∃ v, Hid (V3 11 = v) := ⟨_, rfl⟩
                rw [hv11.out] at HBI ⊢
                clear hV3 hB3
                go_wp2
                go_roundg (m + 1 - (j + 1))
                case measure => omega
                case rel => exact ⟨j + 1, rfl, by omega, rfl, HBI⟩
        · have hgz : ¬ (n3 : Int) < (cn : Int) := by omega
          have hmm : Hid (min cn n3 = cn) := by show _ = _; omega
          go_upto_region 11 with fail
          refine RX.Gw.last (G11 (some ⟨b, o0, none⟩) m c j b (o0 + j * 4) x wr.heap.size wr) 18 (by kernel_rfl) (by kernel_rfl) (by kernel_rfl) ?_ (Below.refl _ wr).drew ?_
          · exact ⟨RX.gw_val fun a X hp => ⟨[(0, .slice (some ⟨b, o0, none⟩) m c)], .slice (some ⟨b, o0, none⟩) m c, X, ⟨hp.o 0 (by kernel_rfl), trivial⟩, by kernel_rfl, Below.refl _ _, rfl⟩,
              RX.gw_val fun a X hp => ⟨[(4, .int .i64 (j : Int))], .int .i64 (j : Int), X, ⟨hp.o 4 (by kernel_rfl), trivial⟩, by kernel_rfl, Below.refl _ _, rfl⟩,
              RX.gw_idxX 39 31 32 rfl fun a X hp => ⟨_, _, _, hp.n 0 31 (by kernel_rfl) (by kernel_rfl), hp.n 1 32 (by kernel_rfl) (by kernel_rfl), hix X, rfl⟩,
              RX.gw_val fun a X hp => ⟨[(33, .pointer (some ⟨b, o0 + j * 4, none⟩))], .pointer (some ⟨b, o0 + j * 4, none⟩), X, ⟨hp.n 2 33 (by kernel_rfl) (by kernel_rfl), trivial⟩, by kernel_rfl, Below.refl _ _, rfl⟩,
              RX.cf_ld1T 3 34 rfl (by kernel_rfl) fun a X hp => ⟨⟨b, o0 + j * 4, none⟩, .int .i64 x.k, hp.n 3 34 (by kernel_rfl) (by kernel_rfl) (by kernel_rfl), c0.out X (HI.out.bl.trans ((hp.b 0 (by kernel_rfl) : Below wr.heap.size wr X).mono HI.out.bl.size)), Below.refl _ _, rfl⟩,
              RX.gw_val fun a X hp => ⟨[(0, .slice (some ⟨b, o0, none⟩) m c)], .slice (some ⟨b, o0, none⟩) m c, X, ⟨hp.o 0 (by kernel_rfl), trivial⟩, by kernel_rfl, Below.refl _ _, rfl⟩,
              RX.gw_val fun a X hp => ⟨[(4, .int .i64 (j : Int))], .int .i64 (j : Int), X, ⟨hp.o 4 (by kernel_rfl), trivial⟩, by kernel_rfl, Below.refl _ _, rfl⟩,
              RX.gw_idxX 39 36 37 rfl fun a X hp => ⟨_, _, _, hp.n 5 36 (by kernel_rfl) (by kernel_rfl), hp.n 6 37 (by kernel_rfl) (by kernel_rfl), hix X, rfl⟩,
              RX.gw_val fun a X hp => ⟨[(38, .pointer (some ⟨b, o0 + j * 4, none⟩))], .pointer (some ⟨b, o0 + j * 4 + 1, none⟩), X, ⟨hp.n 7 38 (by kernel_rfl) (by kernel_rfl), trivial⟩, by kernel_rfl, Below.refl _ _, rfl⟩,
              RX.cf_ld1T 24 39 rfl (by kernel_rfl) fun a X hp => ⟨⟨b, o0 + j * 4 + 1, none⟩, .int .u64 (x.n : Int), hp.n 8 39 (by kernel_rfl) (by kernel_rfl) (by kernel_rfl), c1.out X (HI.out.bl.trans ((hp.b 0 (by kernel_rfl) : Below wr.heap.size wr X).mono HI.out.bl.size)), Below.refl _ _, rfl⟩,
              RX.gw_val fun a X hp => ⟨[(0, .slice (some ⟨b, o0, none⟩) m c)], .slice (some ⟨b, o0, none⟩) m c, X, ⟨hp.o 0 (by kernel_rfl), trivial⟩, by kernel_rfl, Below.refl _ _, rfl⟩,
              RX.gw_val fun a X hp => ⟨[(4, .int .i64 (j : Int))], .int .i64 (j : Int), X, ⟨hp.o 4 (by kernel_rfl), trivial⟩, by kernel_rfl, Below.refl _ _, rfl⟩,
              RX.gw_idxX 39 41 42 rfl fun a X hp => ⟨_, _, _, hp.n 10 41 (by kernel_rfl) (by kernel_rfl), hp.n 11 42 (by kernel_rfl) (by kernel_rfl), hix X, rfl⟩,
              RX.gw_val fun a X hp => ⟨[(43, .pointer (some ⟨b, o0 + j * 4, none⟩))], .pointer (some ⟨b, o0 + j * 4 + 2, none⟩), X, ⟨hp.n 12 43 (by kernel_rfl) (by kernel_rfl), trivial⟩, by kernel_rfl, Below.refl _ _, rfl⟩,
              RX.cf_ld1T 9 44 rfl (by kernel_rfl) fun a X hp => ⟨⟨b, o0 + j * 4 + 2, none⟩, .string x.s, hp.n 13 44 (by kernel_rfl) (by kernel_rfl) (by kernel_rfl), c2.out X (HI.out.bl.trans ((hp.b 0 (by kernel_rfl) : Below wr.heap.size wr X).mono HI.out.bl.size)), Below.refl _ _, rfl⟩,
              RX.gw_cnvM 9 22 45 rfl fun a X hp => by
                obtain ⟨v, w', h1, h2, h3⟩ := conv_DB x.s X wr.heap.size (hp.b : Below wr.heap.size wr X).size
                exact ⟨_, v, w', hp.n 14 45 (by kernel_rfl) (by kernel_rfl), h1, h3, h2⟩,
              RX.gw_val fun a X hp => by
                have h15 : DB X wr.heap.size _ x.s := hp.n 15 46 (by kernel_rfl) (by kernel_rfl)
                have h15' := h15
                obtain ⟨gd, capd, csd, fzd, hv, -⟩ := h15
                refine ⟨[(35, .int .i64 x.k), (40, .int .u64 (x.n : Int)), (46, .slice (some ⟨gd, 0, none⟩) x.s.size capd)], .agg #[.int .i64 x.k, .int .u64 (x.n : Int), .slice (some ⟨gd, 0, none⟩) x.s.size capd, .slice none 0 0], X, ⟨hp.n 4 35 (by kernel_rfl) (by kernel_rfl), hp.n 9 40 (by kernel_rfl) (by kernel_rfl), hv, trivial⟩, by kernel_rfl, Below.refl _ _, ?_⟩
                exact ⟨_, rfl, by rw [← hv]; exact h15'⟩,
              RX.gw_val fun a X hp => ⟨[], .pointer (some ⟨X.heap.size, 0, none⟩), X.alloc (.cells #[.int .i64 0, .int .u64 0, .slice none 0 0, .slice none 0 0] 27), trivial, by kernel_rfl, alloc_below _ _, ⟨X.heap.size, rfl, (hp.b : Below wr.heap.size wr X).size, Array.getElem?_push_size⟩⟩,
              trivial⟩
          · intro V wz hV hB
            obtain ⟨v16, e16, hD16⟩ : ∃ v', V 16 = .agg #[.int .i64 x.k, .int .u64 (x.n : Int), v', .slice none 0 0] ∧ DB wz wr.heap.size v' x.s := hV 16 (by omega)
            obtain ⟨gb, e17, hB17⟩ : ∃ g, V 17 = .pointer (some ⟨g, 0, none⟩) ∧ BXi wz wr.heap.size g [.int .i64 0, .int .u64 0, .slice none 0 0, .slice none 0 0] := hV 17 (by omega)
            dsimp only [RX.putV, Nat.reduceAdd, List.drop, List.take]
            simp only [Act.put, List.setIfInBounds_toArray, List.set_cons_succ, List.set_cons_zero]
            rw [e16, e17]
            have hne : ∀ gd cs fz, wz.heap[gd]? = some (.cells cs 5 fz) → gd ≠ gb := fun gd cs fz h e => by
              rw [e, hB17.2] at h
              have h := Option.some.inj h
              injection h with _ h _
              exact absurd h (by decide)
            have hth : wz.there gb 0 4 := fun j hj => by
              have e : ∀ k : Nat, k < 4 → (wz.cell? ⟨gb, 0 + k, none⟩).isSome = true ∧ wz.frozen? ⟨gb, 0 + k, none⟩ = false := fun k hk => by
                unfold World.cell? World.frozen?
                simp only [hB17.2, Nat.zero_add]
                obtain rfl | rfl | rfl | rfl : k = 0 ∨ k = 1 ∨ k = 2 ∨ k = 3 := by omega
                all_goals exact ⟨rfl, rfl⟩
              exact e j hj
            have hgbz : gb < wz.heap.size := (Array.getElem?_eq_some_iff.1 hB17.2).1
            obtain ⟨w11, hw11⟩ : ∃ w11, Hid (wz.setCells gb 0 [.int .i64 x.k, .int .u64 (x.n : Int), v16, .slice none 0 0] = w11) := ⟨_, rfl⟩
            have H11 : Hid (Below wr.heap.size wr w11 ∧ RowS w11 gb [.int .i64 x.k, .int .u64 (x.n : Int), v16, .slice none 0 0] ∧ DBn w11 wr.heap.size v16 x.s gb ∧ wr.heap.size ≤ gb) := by
              rw [← hw11.out]
              refine ⟨RG.below_setCells hB17.1 _ _ _ hB, ⟨sc_lt _ _ _ hgbz, World.rangeAt_setCells_same _ _ _ _ hth, World.there_setCells hth _ _ _⟩, ?_, hB17.1⟩
              obtain ⟨gd, capd, csd, fzd, h1, h2, h3, h4, h5⟩ := hD16
              exact ⟨gd, capd, csd, fzd, h1, h2, ⟨hne gd csd fzd h4, h3⟩, by rw [sc_other _ _ (hne gd csd fzd h4)]; exact h4, h5⟩
            obtain ⟨qd, dl, cd, rfl⟩ : ∃ qd dl cd, v16 = .slice qd dl cd := by obtain ⟨gd, capd, csd, fzd, h1, -⟩ := hD16; exact ⟨_, _, _, h1⟩
            refine wpList_store_mid rfl 27 _ _ rfl gb 0 #[.int .i64 x.k, .int .u64 (x.n : Int), .slice qd dl cd, .slice none 0 0] ?_ ?_ hth (by kernel_rfl) (four_one _ _ _ _ _ _ _ _) ?_
            · rfl
            · rfl
            show wpList _ _ _ _ _ (wz.setCells gb 0 [.int .i64 x.k, .int .u64 (x.n : Int), .slice qd dl cd, .slice none 0 0])
            rw [hw11.out]
            clear hV hB hD16 hB17 hne hth hgbz hw11
            dsimp only [Act.put]
            obtain ⟨cs, hrow, hic⟩ := HI.out.row
            rw [hn3.out] at hrow
            obtain ⟨d, hd⟩ : ∃ d, Hid (d + cn = n3) := ⟨n3 - cn, by show _ = _; omega⟩
            obtain ⟨q7, c7, hlo, hlo2, hhi, hhi2⟩ := st_cut hrow hd.out
            have hsub : ∀ X : World, (binOp .sub 3 (.int .i64 (n3 : Int)) (.int .i64 (cn : Int))).run Tryd.prog X = .ok (.int .i64 (d : Int)) X := fun X => by
              have e : (n3 : Int) - (cn : Int) = (d : Int) := by have := hd.out; omega
              have e2 : IntKind.i64.wrap (d : Int) = (d : Int) := by rw [IntKind.wrap_i64]; have := hd.out; omega
              go_simp
              first | done | exact e2 | rw [e2] | rw [e, e2]
            have hcut := IC.cut d (hic wr fun _ _ _ => rfl)
            have hlen2 : Hid ((st.drop d).length = cn ∧ (cs.drop (d * 4)).length = cn * 4 ∧ (st.take d).length = d ∧ (cs.take (d * 4)).length = d * 4) := by
              have h1 := hcut.1.len
              have h2 := hcut.2.len
              have h3 := hn3.out
              have h4 := hd.out
              have h5 : (st.drop d).length = cn := by rw [List.length_drop]; omega
              have h6 : (st.take d).length = d := by rw [List.length_take]; omega
              exact ⟨h5, by rw [h2, h5], h6, by rw [h1, h6]⟩
            have hd8 : Hid (d ≤ 256 ∧ cn ≤ 256) := by have := hd.out; exact ⟨by omega, by omega⟩
            have HC : Hid (ICQ wb.heap.size wr (st.take d) (cs.take (d * 4)) ∧ ICQ wb.heap.size wr (st.drop d) (cs.drop (d * 4))) := ⟨fun W hW => (IC.cut d (hic W hW)).1, fun W hW => (IC.cut d (hic W hW)).2⟩
            have HLO : Hid (∀ X, Below wr.heap.size wr X → (cn = 0 ∨ ∃ b o, q7 = some ⟨b, o, none⟩ ∧ ∀ j u, (cs.drop (d * 4))[j]? = some u → X.cell? ⟨b, o + j, none⟩ = some u)) := fun X hX => by
              rcases hlo2 with h | ⟨b, o, h1, h2, h3⟩
              · exact Or.inl h
              · exact Or.inr ⟨b, o, h1, fun j u hj => by rw [hX.cell (p := ⟨b, _, none⟩) h2]; exact h3 j u hj⟩
            have HHI : Hid (∀ X, Below wr.heap.size wr X → (d = 0 ∨ ∃ b o, q3 = some ⟨b, o, none⟩ ∧ ∀ j u, (cs.take (d * 4))[j]? = some u → X.cell? ⟨b, o + j, none⟩ = some u)) := fun X hX => by
              rcases hhi2 with h | ⟨b, o, h1, h2, h3⟩
              · exact Or.inl h
              · exact Or.inr ⟨b, o, h1, fun j u hj => by rw [hX.cell (p := ⟨b, _, none⟩) h2]; exact h3 j u hj⟩
            clear hcut hlo2 hhi2 hrow hic
            go_upto_region 12 with fail
            refine RX.Gw.last (G12 gb (.slice q3 n3 c3) n3 cn d (.slice q7 cn c7) (cs.drop (d * 4)) w11) 10 (by kernel_rfl) (by kernel_rfl) (by kernel_rfl) ?_ (Below.refl _ w11).drew ?_
            · exact ⟨RX.gw_val fun a X hp => ⟨[(6, .pointer (some ⟨gb, 0, none⟩))], .pointer (some ⟨gb, 3, none⟩), X, ⟨hp.o 6 (by kernel_rfl), trivial⟩, by kernel_rfl, Below.refl _ _, rfl⟩,
                RX.cf_ld1T 25 48 rfl (by kernel_rfl) fun a X hp => ⟨⟨gb, 3, none⟩, .slice none 0 0, hp.n 0 48 (by kernel_rfl) (by kernel_rfl) (by kernel_rfl), (H11.out.2.1.below (hp.b 0 (by kernel_rfl) : Below w11.heap.size w11 X)).cell 3 _ rfl, Below.refl _ _, rfl⟩,
                RX.gw_val fun a X hp => ⟨[(3, .slice q3 n3 c3)], .slice q3 n3 c3, X, ⟨hp.o 3 (by kernel_rfl), trivial⟩, by kernel_rfl, Below.refl _ _, rfl⟩,
                RX.gw_val fun a X hp => ⟨[(3, .slice q3 n3 c3)], .slice q3 n3 c3, X, ⟨hp.o 3 (by kernel_rfl), trivial⟩, by kernel_rfl, Below.refl _ _, rfl⟩,
                RX.gw_val fun a X hp => ⟨[(51, .slice q3 n3 c3)], .int .i64 (n3 : Int), X, ⟨hp.n 3 51 (by kernel_rfl) (by kernel_rfl), trivial⟩, by kernel_rfl, Below.refl _ _, rfl⟩,
                RX.gw_val fun a X hp => ⟨[(5, .int .i64 (cn : Int))], .int .i64 (cn : Int), X, ⟨hp.o 5 (by kernel_rfl), trivial⟩, by kernel_rfl, Below.refl _ _, rfl⟩,
                RX.gw_bin .sub 3 3 52 53 rfl fun a X hp => ⟨_, _, _, hp.n 4 52 (by kernel_rfl) (by kernel_rfl), hp.n 5 53 (by kernel_rfl) (by kernel_rfl), by kernel_rfl, hsub X, rfl⟩,
                RX.cf_sloX 25 50 54 rfl fun a X hp => ⟨_, _, _, hp.n 2 50 (by kernel_rfl) (by kernel_rfl) (by kernel_rfl), hp.n 6 54 (by kernel_rfl) (by kernel_rfl) (by kernel_rfl), hlo X, Below.refl _ _, rfl⟩,
                RX.cf_app 49 55 25 rfl fun a X hp => by
                  have hX : Below w11.heap.size w11 X := hp.b 0 (by kernel_rfl)
                  have e1 : a.eval (.tmp 49) = .slice none 0 0 := hp.n 1 49 (by kernel_rfl) (by kernel_rfl) (by kernel_rfl)
                  have e2 : a.eval (.tmp 55) = .slice q7 cn c7 := hp.n 7 55 (by kernel_rfl) (by kernel_rfl) (by kernel_rfl)
                  obtain ⟨v', W', r1, r2, r3⟩ := it_app (base := w11.heap.size) (W := X) (v := .slice none 0 0) (n := 0) (c := c7) (xs := []) ⟨rfl, Or.inl ⟨rfl, rfl⟩⟩ hlen2.out.2.1 (HLO.out X (H11.out.1.trans (hX.mono H11.out.1.size))) (HC.out.2 wr fun _ _ _ => rfl).one (by have := hd8.out.2; omega) hX.size
                  rw [Nat.zero_add, List.nil_append] at r2
                  rw [e1, e2]
                  exact ⟨v', W', r1, ⟨r3.os, r3.tape, r3.output, r3.size, fun k hk => r3.block k hk (by simp [Value.ownBlock])⟩, r2⟩,
                RX.gw_val fun a X hp => ⟨[(6, .pointer (some ⟨gb, 0, none⟩))], .pointer (some ⟨gb, 3, none⟩), X, ⟨hp.o 6 (by kernel_rfl), trivial⟩, by kernel_rfl, Below.refl _ _, rfl⟩,
                trivial⟩
            · intro V2 wy hV2 hB2
              have h8 : wy.ownsRow w11.heap.size 27 4 (V2 8) cn (cs.drop (d * 4)) := hV2 8 (by omega)
              have e9 : V2 9 = .pointer (some ⟨gb, 3, none⟩) := hV2 9 (by omega)
              have HB2 : Hid (Below w11.heap.size w11 wy) := hB2
              have HR2 := hidW (H11.out.2.1.below hB2)
              dsimp only [RX.putV, Nat.reduceAdd, List.drop, List.take]
              simp only [Act.put, List.setIfInBounds_toArray, List.set_cons_succ, List.set_cons_zero]
              rw [e9]
              obtain ⟨q8, c8, e8⟩ : ∃ q8 c8, V2 8 = .slice q8 cn c8 := by
                rcases h8.2 with ⟨h2, h3⟩ | ⟨g, cap, cur, h2, -⟩
                · exact ⟨none, 0, by rw [h2, h3]⟩
                · exact ⟨_, _, h2⟩
              rw [e8] at h8 ⊢
              have H8 := hidW h8
              have r3 := HR2.out.cell 3 _ rfl
              have f3 := HR2.out.free 3 (Nat.lt_succ_self 3)
              have hgl := HR2.out.1
              clear hV2 hB2 h8 e8 e9
              obtain ⟨w12, hw12⟩ : ∃ w12, Hid (wy.setCell ⟨gb, 3, none⟩ (.slice q8 cn c8) = w12) := ⟨_, rfl⟩
              have HB12 : Hid (Below wr.heap.size wr w12) := by
                rw [← hw12.out]
                exact (H11.out.1.trans (HB2.out.mono H11.out.1.size)).setCell (p := ⟨gb, 3, none⟩) H11.out.2.2.2 _
              have HR12 : Hid (RowS w12 gb [.int .i64 x.k, .int .u64 (x.n : Int), .slice qd dl cd, .slice q8 cn c8]) := by
                rw [← hw12.out]
                exact HR2.out.set 3 (.slice q8 cn c8) (Nat.lt_succ_self 3)
              have HM12 : Hid (IMQ wb.heap.size w12 (.mk x.k x.n x.s.data.toList (st.drop d)) (.slice qd dl cd) (.slice q8 cn c8)) := by
                refine inm_step (gb := gb) (B := w11.heap.size) (B' := wr.heap.size) hxs'.out.1 hxs'.out.2 ?_ hlen2.out.1 hd8.out.2 HC.out.2 HB12.out ?_ (Nat.le_trans HI.out.bl.size H11.out.1.size) HI.out.bl.size
                · refine DBn.keep H11.out.2.2.1 fun k hk hne => ?_
                  rw [← hw12.out, blk_other _ _ _ _ hne, HB2.out.block k hk]
                · rw [← hw12.out]
                  rcases H8.out with ⟨h0, h1 | ⟨g, cap, cur, h1, h2, h3, h4⟩⟩
                  · exact ⟨h0, Or.inl h1⟩
                  · exact ⟨h0, Or.inr ⟨g, cap, cur, h1, h2, by rw [blk_other _ _ _ _ (show g ≠ gb by have := H11.out.2.1.1; omega)]; exact h3, h4⟩⟩
              go_upto_region 13 with fail
              rw [hw12.out]
              clear H11 HB2 HR2 H8 r3 f3 hgl hw12 hlo HLO
              obtain ⟨it, hit⟩ : ∃ it : List Value, Hid ([.int .i64 x.k, .int .u64 (x.n : Int), .slice qd dl cd, .slice q8 cn c8] = it) := ⟨_, rfl⟩
              refine RX.flow_draws (F13 w12 [undef, .slice q3 n3 c3, .slice q3 n3 c3, .int .i64 (n3 : Int), .int .i64 (cn : Int), .int .i64 (d : Int), .slice q3 d c3, undef, .agg #[.int .i64 x.k, .int .u64 (x.n : Int), .slice qd dl cd, .slice q8 cn c8]] d (cs.take (d * 4)) [.int .i64 x.k, .int .u64 (x.n : Int), .slice qd dl cd, .slice q8 cn c8]) (by kernel_rfl) (F13.reg (by kernel_rfl) (by kernel_rfl) (by kernel_rfl) ?_) (fun _ => (Below.refl _ w12).drew) ?_
              · exact ⟨RX.cf_manyT fun a X hp => ⟨[], .slice (some ⟨X.heap.size, 0, none⟩) 0 0, X.alloc (.cells #[] 27), trivial, by kernel_rfl, alloc_below _ _, ⟨X.heap.size, rfl, (hp.b 0 (by kernel_rfl) : Below w12.heap.size w12 X).size, Array.getElem?_push_size⟩⟩,
                  RX.cf_manyT fun a X hp => ⟨[(3, .slice q3 n3 c3)], .slice q3 n3 c3, X, ⟨hp.o 3 (by kernel_rfl), trivial⟩, by kernel_rfl, Below.refl _ _, rfl⟩,
                  RX.cf_manyT fun a X hp => ⟨[(3, .slice q3 n3 c3)], .slice q3 n3 c3, X, ⟨hp.o 3 (by kernel_rfl), trivial⟩, by kernel_rfl, Below.refl _ _, rfl⟩,
                  RX.cf_manyT fun a X hp => ⟨[(60, .slice q3 n3 c3)], .int .i64 (n3 : Int), X, ⟨hp.n 2 60 (by kernel_rfl) (by kernel_rfl) (by kernel_rfl), trivial⟩, by kernel_rfl, Below.refl _ _, rfl⟩,
                  RX.cf_manyT fun a X hp => ⟨[(5, .int .i64 (cn : Int))], .int .i64 (cn : Int), X, ⟨hp.o 5 (by kernel_rfl), trivial⟩, by kernel_rfl, Below.refl _ _, rfl⟩,
                  RX.cf_subX 3 3 61 62 rfl fun a X hp => ⟨_, _, _, hp.n 3 61 (by kernel_rfl) (by kernel_rfl) (by kernel_rfl), hp.n 4 62 (by kernel_rfl) (by kernel_rfl) (by kernel_rfl), hsub X, Below.refl _ _, rfl⟩,
                  RX.cf_shiX 25 59 63 rfl fun a X hp => ⟨_, _, _, hp.n 1 59 (by kernel_rfl) (by kernel_rfl) (by kernel_rfl), hp.n 5 63 (by kernel_rfl) (by kernel_rfl) (by kernel_rfl), hhi X, Below.refl _ _, rfl⟩,
                  RX.cf_app 58 64 25 rfl fun a X hp => by
                    have hX : Below w12.heap.size w12 X := hp.b 0 (by kernel_rfl)
                    obtain ⟨g0, e1, hg1, hg2⟩ : ∃ g, a.eval (.tmp 58) = .slice (some ⟨g, 0, none⟩) 0 0 ∧ w12.heap.size ≤ g ∧ X.heap[g]? = some (.cells #[] 27 (0, 0)) := hp.n 0 58 (by kernel_rfl) (by kernel_rfl) (by kernel_rfl)
                    have e2 : a.eval (.tmp 64) = .slice q3 d c3 := hp.n 6 64 (by kernel_rfl) (by kernel_rfl) (by kernel_rfl)
                    obtain ⟨v', W', r1, r2, r3⟩ := it_app0 (c := c3) hg1 hg2 hlen2.out.2.2.2 (HHI.out X (HB12.out.trans (hX.mono HB12.out.size))) (HC.out.1 wr fun _ _ _ => rfl).one (by have := hd8.out.1; omega) hX.size
                    rw [e1, e2]
                    exact ⟨v', W', r1, r3, r2⟩,
                  RX.cf_load 27 6 rfl (by kernel_rfl) fun a X hp => ⟨gb, 0, [.int .i64 x.k, .int .u64 (x.n : Int), .slice qd dl cd, .slice q8 cn c8], hp.o 6 (by kernel_rfl), (HR12.out.below (hp.b 0 (by kernel_rfl) : Below w12.heap.size w12 X)).2.1, by kernel_rfl, Below.refl _ _, rfl⟩,
                  RX.cf_manyT fun a X hp => ⟨[(66, .agg #[.int .i64 x.k, .int .u64 (x.n : Int), .slice qd dl cd, .slice q8 cn c8])], .slice (some ⟨X.heap.size, 0, none⟩) 1 1, X.alloc (.cells #[.int .i64 x.k, .int .u64 (x.n : Int), .slice qd dl cd, .slice q8 cn c8] 27), ⟨hp.n 8 66 (by kernel_rfl) (by kernel_rfl) (by kernel_rfl), trivial⟩, by kernel_rfl, alloc_below _ _, ⟨X.heap.size, rfl, (hp.b 0 (by kernel_rfl) : Below w12.heap.size w12 X).size, Array.getElem?_push_size⟩⟩,
                  RX.cf_app 65 67 25 rfl fun a X hp => by
                    have hX : Below w12.heap.size w12 X := hp.b 0 (by kernel_rfl)
                    have h7 : X.ownsRow w12.heap.size 27 4 (a.eval (.tmp 65)) d (cs.take (d * 4)) := hp.n 7 65 (by kernel_rfl) (by kernel_rfl) (by kernel_rfl)
                    obtain ⟨g9, e9, hg9⟩ : ∃ g, a.eval (.tmp 67) = .slice (some ⟨g, 0, none⟩) 1 1 ∧ BXi X w12.heap.size g [.int .i64 x.k, .int .u64 (x.n : Int), .slice qd dl cd, .slice q8 cn c8] := hp.n 9 67 (by kernel_rfl) (by kernel_rfl) (by kernel_rfl)
                    obtain ⟨v', W', r1, r2, r3⟩ := it_app (m := 1) (c := 1) (q := some ⟨g9, 0, none⟩) h7 (news := [.int .i64 x.k, .int .u64 (x.n : Int), .slice qd dl cd, .slice q8 cn c8]) rfl (Or.inr ⟨g9, 0, rfl, fun j u hj => by
                      unfold World.cell?
                      simp only [hg9.2, Nat.zero_add]
                      simpa using hj⟩) (fun u hu => by
                        simp only [List.mem_cons, List.not_mem_nil, or_false] at hu
                        rcases hu with rfl | rfl | rfl | rfl <;> rfl) (by have := hd8.out.1; omega) hX.size
                    rw [e9]
                    refine ⟨v', W', r1, ⟨r3.os, r3.tape, r3.output, Nat.le_trans hX.size r3.size |> fun _ => r3.size, fun k hk => r3.block k (Nat.lt_of_lt_of_le hk hX.size) ?_⟩, r2⟩
                    rcases h7.2 with ⟨h0, -⟩ | ⟨g, cap, cur, h0, h1, -⟩
                    · rw [h0]; simp [Value.ownBlock]
                    · rw [h0]; simp only [Value.ownBlock, ne_eq, Option.some.injEq]; omega,
                  RX.cf_manyT fun a X hp => ⟨[(68, a.eval (.tmp 68))], a.eval (.tmp 68), X, ⟨rfl, trivial⟩, by kernel_rfl, Below.refl _ _, (hp.n 10 68 (by kernel_rfl) (by kernel_rfl) (by kernel_rfl) : R13 w12.heap.size d (cs.take (d * 4)) _ 10 _ X)⟩,
                  trivial⟩
              · intro V3 wf hV3 hB3
                have h11 : wf.ownsRow w12.heap.size 27 4 (V3 11) (d + 1) (cs.take (d * 4) ++ [.int .i64 x.k, .int .u64 (x.n : Int), .slice qd dl cd, .slice q8 cn c8]) := hV3 11 (Nat.lt_of_succ_le (Nat.le_of_ble_eq_true (by kernel_rfl))) (by kernel_rfl)
                have hBf : Below w12.heap.size w12 wf := hB3 0 rfl
                have HBI : Hid (BI wb (bst (L.take (j + 1))) (V3 11) wf) := by
                  have hwf := HB12.out.trans (hBf.mono HB12.out.size)
                  have e1 : bst (L.take (j + 1)) = st.take d ++ [.mk x.k x.n x.s.data.toList (st.drop d)] := by
                    rw [bst_take L j x hx'.out, hst.out]
                    unfold stp
                    rw [hxc.out, hcn.out, hn3.out, hmm.out, show n3 - cn = d by have := hd.out; omega]
                  refine ⟨HI.out.bl.trans (hwf.mono HI.out.bl.size), cs.take (d * 4) ++ [.int .i64 x.k, .int .u64 (x.n : Int), .slice qd dl cd, .slice q8 cn c8], ?_, ?_⟩
                  · rw [e1, List.length_append, hlen2.out.2.2.1]
                    exact own_upI h11 (Nat.le_trans HI.out.bl.size HB12.out.size)
                  · rw [e1]
                    intro W hW
                    refine IC.app ?_ (HC.out.1.up hwf W hW)
                    rw [IC]
                    exact ⟨_, _, [], rfl, HM12.out.up hBf W hW, by rw [IC]⟩
                clear h11 hBf
                dsimp only [RX.putV, Nat.reduceAdd]
                simp only [Act.put, List.setIfInBounds_toArray, List.set_cons_succ, List.set_cons_zero]
                obtain ⟨v11, hv11⟩ : ∃ v, Hid (V3 11 = v) := ⟨_, rfl⟩
                rw [hv11.out] at HBI ⊢
                clear hV3 hB3
                go_wp2
                go_roundg (m + 1 - (j + 1))
                case measure => omega
                case rel => exact ⟨j + 1, rfl, by omega, rfl, HBI⟩
    · have hjz : ¬ (j : Int) < (m : Int) := by omega
      obtain rfl : j = m := by omega
      have hB := hidW (hb0.out.trans (HI.out.bl.mono hb0.out.size))
      have hRr : Hid (RowS wr w.heap.size [.int .i64 0, .int .u64 0, .slice none 0 0, .slice none 0 0]) := by
        refine RowS.below (W := wb) ?_ HI.out.bl
        rw [← hwb.out]
        have e : (w.alloc (.cells #[.int .i64 0, .int .u64 0, .slice none 0 0, .slice none 0 0] 27)).heap[w.heap.size]? = some (.cells #[.int .i64 0, .int .u64 0, .slice none 0 0, .slice none 0 0] 27 (0, 0)) := Array.getElem?_push_size
        refine ⟨(Array.getElem?_eq_some_iff.1 e).1, al_r w _ _ _ rfl, fun k hk => ?_⟩
        unfold World.cell? World.frozen?
        simp only [e, Nat.zero_add]
        obtain rfl | rfl | rfl | rfl : k = 0 ∨ k = 1 ∨ k = 2 ∨ k = 3 := by simp only [List.length_cons, List.length_nil] at hk; omega
        all_goals exact ⟨rfl, rfl⟩
      have hLt : Hid (L.take j = L) := by show _ = _; rw [← hm.out, List.take_length]
      by_cases hz : n3 = 0
      · have hbl : Hid (bld L = .mk 0 0 [] []) := by
          show _ = _
          unfold bld
          rw [hLt.out] at hst
          rw [hst.out, List.length_eq_zero_iff.1 (hn3.out.trans hz)]; rfl
        subst hz
        obtain ⟨w3, hw3⟩ : ∃ w3, Hid (wr.setCells w.heap.size 0 [.int .i64 0, .int .u64 0, .slice none 0 0, .slice none 0 0] = w3) := ⟨_, rfl⟩
        have K3 : Hid (RowS w3 w.heap.size [.int .i64 0, .int .u64 0, .slice none 0 0, .slice none 0 0] ∧ Below w.heap.size w w3) := by
          rw [← hw3.out]
          exact ⟨⟨sc_lt _ _ _ hRr.out.1, World.rangeAt_setCells_same _ _ _ _ hRr.out.2.2, World.there_setCells hRr.out.2.2 _ _ _⟩, RG.below_setCells (Nat.le_refl _) _ _ _ hB.out⟩
        go_wp2_with (first | (refine wpList_store_mid rfl 27 _ _ rfl w.heap.size 0 #[.int .i64 0, .int .u64 0, .slice none 0 0, .slice none 0 0] ?_ ?_ ?_ ?_ ?_ ?_; rfl; rfl; exact hRr.out.2.2; exact isz27; kernel_rfl; (show wpList _ _ _ _ _ (wr.setCells w.heap.size 0 [.int .i64 0, .int .u64 0, .slice none 0 0, .slice none 0 0])); rw [hw3.out]))
        refine bodyPost_ret (results_cellI 2 27 rfl K3.out.1 rfl urw27 isz27) rfl ?_
        refine ⟨_, rfl, K3.out.2, none, 0, 0, none, 0, 0, ?_, ?_⟩
        · rw [hbl.out]; rfl
        · rw [hbl.out, InM]
          exact ⟨by decide, Nat.zero_le _, Nat.zero_le _, ⟨none, 0, rfl, Nat.le_refl _, Or.inl rfl⟩, none, 0, rfl, Or.inl rfl⟩
      · obtain ⟨ez, fz⟩ := ne0 n3 hz
        obtain ⟨l, i, hli⟩ : ∃ l i, Hid (st = l ++ [i]) := by
          rcases List.eq_nil_or_concat st with h | ⟨l, i, h⟩
          · rw [h] at hn3; exact absurd hn3.out.symm hz
          · exact ⟨l, i, by show _ = _; rw [h, List.concat_eq_append]⟩
        have hbl : Hid (bld L = i) := by
          show _ = _
          unfold bld
          rw [hLt.out] at hst
          rw [hst.out, hli.out, List.getLast?_append]; rfl
        obtain ⟨ln, hln⟩ : ∃ ln, Hid (l.length = ln) := ⟨_, rfl⟩
        have hn1 : Hid (n3 = ln + 1) := by show _ = _; rw [← hn3.out, hli.out, List.length_append, hln.out]; rfl
        have hs1 : (n3 : Int) - 1 = (ln : Int) := by have := hn1.out; omega
        obtain ⟨cs, hrow, hic⟩ := HI.out.row
        rw [hli.out] at hic
        have hicQ := hidW hic
        obtain ⟨vd, vl, k0, k1, k2, k3, hM⟩ := (hic wr fun _ _ _ => rfl).last
        obtain ⟨qd, dl, cd, ql, ml, cl, rfl, rfl⟩ := hM.form
        rw [hn3.out] at hrow
        obtain ⟨g3, rfl, hg3, hrng⟩ : ∃ g3, q3 = some ⟨g3, 0, none⟩ ∧ g3 < wr.heap.size ∧ Hid (wr.rangeAt g3 (ln * 4) [.int .i64 i.k, .int .u64 (i.n : Int), .slice qd dl cd, .slice ql ml cl]) := by
          rcases own_cells hrow with ⟨h0, -⟩ | ⟨g, cap, h1, h2, h3, -, -, h6⟩
          · exact absurd h0 hz
          · injection h1 with e1 _ _
            rw [hln.out] at k0 k1 k2 k3
            refine ⟨g, e1, h3, fun t u ht => ?_⟩
            match t, ht with
            | 0, ht => obtain rfl := Option.some.inj ht; exact h6 _ _ k0
            | 1, ht => obtain rfl := Option.some.inj ht; exact h6 _ _ k1
            | 2, ht => obtain rfl := Option.some.inj ht; exact h6 _ _ k2
            | 3, ht => obtain rfl := Option.some.inj ht; exact h6 _ _ k3
            | t + 4, ht => cases ht
        have hix := fun w => idxI g3 0 n3 c3 ln (by have := hn1.out; omega) w
        simp only [Nat.zero_add] at hix
        have HM := hidW hM
        obtain ⟨dd, hdd⟩ := Option.map_eq_some_iff.1 urw27
        have HD := hidW hdd
        obtain ⟨ik, hik⟩ : ∃ k, Hid (i.k = k) := ⟨_, rfl⟩
        obtain ⟨inn, hin⟩ : ∃ k, Hid (i.n = k) := ⟨_, rfl⟩
        rw [hik.out, hin.out] at hrng
        obtain ⟨w3, hw3⟩ : ∃ w3, Hid (wr.setCells w.heap.size 0 [.int .i64 ik, .int .u64 (inn : Int), .slice qd dl cd, .slice ql ml cl] = w3) := ⟨_, rfl⟩
        have K3 : Hid (RowS w3 w.heap.size [.int .i64 ik, .int .u64 (inn : Int), .slice qd dl cd, .slice ql ml cl] ∧ Below w.heap.size w w3) := by
          rw [← hw3.out]
          exact ⟨⟨sc_lt _ _ _ hRr.out.1, World.rangeAt_setCells_same _ _ _ _ hRr.out.2.2, World.there_setCells hRr.out.2.2 _ _ _⟩, RG.below_setCells (Nat.le_refl _) _ _ _ hB.out⟩
        have KM : Hid (InM w3 w3.heap.size i (.slice qd dl cd) (.slice ql ml cl)) := by
          show InM w3 w3.heap.size i (.slice qd dl cd) (.slice ql ml cl)
          have hle : wr.heap.size ≤ w3.heap.size := by rw [← hw3.out]; exact (RG.below_setCells (B := 0) (Nat.zero_le _) _ 0 wr ⟨rfl, rfl, rfl, Nat.le_refl _, fun _ _ => rfl⟩).size
          obtain ⟨vd', vl', k0', k1', k2', k3', hM'⟩ := (hicQ.out w3 fun k hk1 hk2 => by rw [← hw3.out]; exact sc_other _ _ (by have := hwz.out; omega) _ _ _).last
          rw [k2] at k2'
          rw [k3] at k3'
          obtain rfl := Option.some.inj k2'
          obtain rfl := Option.some.inj k3'
          exact InM.mono hle i _ _ hM'
        clear hrow hic hicQ k0 k1 k2 k3 hM hdd
        go_wp2_with (first | (refine wpList_load_mid rfl 27 _ rfl g3 (ln * 4) ?_ [.int .i64 ik, .int .u64 (inn : Int), .slice qd dl cd, .slice ql ml cl] dd ?_ ?_ ?_ ?_ ?_; rfl; exact hrng.out; exact HD.out.1; exact HD.out.2; exact isz27) | (refine wpList_store_mid rfl 27 _ _ rfl w.heap.size 0 #[.int .i64 ik, .int .u64 (inn : Int), .slice qd dl cd, .slice ql ml cl] ?_ ?_ ?_ ?_ ?_ ?_; rfl; rfl; exact hRr.out.2.2; exact isz27; exact four_one _ _ _ _ _ _ _ _; (show wpList _ _ _ _ _ (wr.setCells w.heap.size 0 [.int .i64 ik, .int .u64 (inn : Int), .slice qd dl cd, .slice ql ml cl])); rw [hw3.out]))
        refine bodyPost_ret (results_cellI 2 27 rfl K3.out.1 rfl urw27 isz27) rfl ?_
        refine ⟨_, rfl, K3.out.2, qd, dl, cd, ql, ml, cl, ?_, ?_⟩
        · rw [hbl.out, hik.out, hin.out]; rfl
        · rw [hbl.out]; exact KM.out
end WI
end Go.Proofs.YtfkgfcggcfkkiaaDoor
namespace Go.Proofs.YtfkgfcggcfkkiaaDoor
open Go.RowKit Go.Sort Go.Deep
namespace WI
/-- The reader's rest: bytes, not in the reader's own block. -/
def PBq (w : World) (R : Nat) (q : Option Addr) (m c : Nat) (x : List UInt8) : Prop := m = x.length ∧ m ≤ c ∧ ((q = none ∧ c = 0) ∨ ∃ b o, q = some ⟨b, o, none⟩ ∧ b < R ∧ b < w.heap.size ∧ ∀ j u, x[j]? = some u → w.cell? ⟨b, o + j, none⟩ = some (.int .u8 (u.toNat : Int)))
theorem PBq.set {w : World} {R : Nat} {q : Option Addr} {m c : Nat} {x : List UInt8} (h : PBq w R q m c x) (j : Nat) (v : Value) : PBq (w.setCell ⟨R, j, none⟩ v) R q m c x := by
  obtain ⟨h1, h2, h3 | ⟨b, o, h3, h4, h5, h6⟩⟩ := h
  · exact ⟨h1, h2, Or.inl h3⟩
  · have e := blk_other w ⟨R, j, none⟩ v b (Nat.ne_of_lt h4)
    refine ⟨h1, h2, Or.inr ⟨b, o, h3, h4, ?_, fun j u hj => ?_⟩⟩
    · rw [World.size_setCell]; exact h5
    · rw [World.cell?_of_block (a := ⟨b, o + j, none⟩) e]; exact h6 j u hj
theorem sB_hi (b o n c k : Nat) (hk : k ≤ c) (w : World) : (Instr.sliceAt 22 (.slice (some ⟨b, o, none⟩) n c) none (some (.int .u64 (k : Int))) none).run Tryd.prog w = .ok (.slice (some ⟨b, o, none⟩) k c) w := by
  have h1 : (k : Int) ≤ c := by omega
  go_simp
theorem sB_lo (b o n c k : Nat) (hk : k ≤ n) (hc : n ≤ c) : ∃ o', (∀ w : World, (Instr.sliceAt 22 (.slice (some ⟨b, o, none⟩) n c) (some (.int .u64 (k : Int))) none none).run Tryd.prog w = .ok (.slice (some ⟨b, o', none⟩) (n - k) (c - k)) w) ∧ (k < n → o' = o + k) := by
  have h1 : ¬ (k : Int) < 0 := by omega
  have h2 : (k : Int) ≤ (n : Int) := by omega
  by_cases h : k = c
  · obtain rfl : n = k := by omega
    subst h
    exact ⟨o, fun w => by go_simp, fun h => by omega⟩
  · have h3 : ¬ c = k := fun e => h e.symm
    have e := addS0 b o (1 * k)
    rw [Nat.one_mul] at e
    exact ⟨o + k, fun w => by go_simp, fun _ => rfl⟩
/-- The rest, cut in two. -/
theorem PBq.cut {w : World} {R : Nat} {q : Option Addr} {m c : Nat} {x : List UInt8} (h : PBq w R q m c x) (k : Nat) (hk : k ≤ m) :
    ∃ q', (∀ X : World, (Instr.sliceAt 22 (.slice q m c) none (some (.int .u64 (k : Int))) none).run Tryd.prog X = .ok (.slice q k c) X) ∧ (∀ X : World, (Instr.sliceAt 22 (.slice q m c) (some (.int .u64 (k : Int))) none none).run Tryd.prog X = .ok (.slice q' (m - k) (c - k)) X) ∧ PBq w R q k c (x.take k) ∧ PBq w R q' (m - k) (c - k) (x.drop k) := by
  obtain ⟨h1, h2, ⟨rfl, rfl⟩ | ⟨b, o, rfl, h4, h5, h6⟩⟩ := h
  · obtain rfl : m = 0 := by omega
    obtain rfl : k = 0 := by omega
    obtain rfl : x = [] := List.length_eq_zero_iff.1 h1.symm
    exact ⟨none, fun X => by kernel_rfl, fun X => by kernel_rfl, ⟨rfl, Nat.le_refl _, Or.inl ⟨rfl, rfl⟩⟩, ⟨rfl, Nat.le_refl _, Or.inl ⟨rfl, rfl⟩⟩⟩
  · obtain ⟨o', h7, h8⟩ := sB_lo b o m c k hk h2
    refine ⟨some ⟨b, o', none⟩, fun X => sB_hi b o m c k (by omega) X, h7, ⟨by rw [List.length_take]; omega, by omega, Or.inr ⟨b, o, rfl, h4, h5, fun j u hj => ?_⟩⟩, ⟨by rw [List.length_drop, h1], by omega, Or.inr ⟨b, o', rfl, h4, h5, fun j u hj => ?_⟩⟩⟩
    · rw [List.getElem?_take] at hj
      split at hj
      · exact h6 j u hj
      · cases hj
    · have hlt := (List.getElem?_eq_some_iff.1 hj).1
      rw [List.length_drop] at hlt
      rw [List.getElem?_drop] at hj
      rw [h8 (by omega), Nat.add_assoc]
      exact h6 _ u hj
/-- What the reader's bytes does. -/
def RbR (w : World) (R h d n : Nat) (q : Option Addr) (m c : Nat) (x : List UInt8) (k : Nat) (e : Ending) (w' : World) : Prop :=
  (k ≤ x.length ∧ ∃ q', e = .returned (.slice q k c) ∧ w' = w.setCell ⟨R, 3, none⟩ (.slice q' (m - k) (c - k)) ∧ RowS w' R (wkc h d n (.slice q' (m - k) (c - k))) ∧ PBq w' R q k c (x.take k) ∧ PBq w' R q' (m - k) (c - k) (x.drop k)) ∨ (¬ k ≤ x.length ∧ e = thrown ∧ w' = w)
set_option maxHeartbeats 1000000 in
set_option maxRecDepth 20000 in
theorem rbytes_c (w : World) (R h d n : Nat) (q : Option Addr) (m c : Nat) (x : List UInt8) (k : Nat) (hk : k < 18446744073709551616) (hm : m ≤ 1099511627776) (hR : RowS w R (wkc h d n (.slice q m c))) (hP : PBq w R q m c x) :
    Calls Tryd.prog 89 #[.pointer (some ⟨R, 0, none⟩), .int .u64 (k : Int)] w (RbR w R h d n q m c x k) := by
  have c3 := hR.cell 3 _ rfl
  have f3 := hR.free 3 (Nat.lt_succ_self 3)
  have hlt := hR.1
  have hml : m = x.length := hP.1
  by_cases hkm : k ≤ m
  · obtain ⟨q', hhi, hlo, p1, p2⟩ := hP.cut k hkm
    have HQ : Hid (RbR w R h d n q m c x k (.returned (.slice q k c)) (w.setCell ⟨R, 3, none⟩ (.slice q' (m - k) (c - k)))) := Or.inl ⟨by omega, q', rfl, rfl, hR.set 3 _ (Nat.lt_succ_self 3), p1.set _ _, p2.set _ _⟩
    have hz : (k : Int) ≤ (m : Int) := by omega
    clear p1 p2 hP hR hml
    go_enter Tryd.func89, Tryd.ntmps89
    go_wp2_with fail
    refine (must_y _).mono ?_
    rintro e w1 ⟨rfl, rfl⟩
    go_wp2
    go_ret
    exact HQ.out
  · have HQ : Hid (RbR w R h d n q m c x k thrown w) := Or.inr ⟨by omega, rfl, rfl⟩
    have hz : ¬ (k : Int) ≤ (m : Int) := by omega
    clear hP hR hml
    go_enter Tryd.func89, Tryd.ntmps89
    go_wp2_with fail
    refine (must_n _).mono ?_
    rintro e w1 ⟨rfl, rfl⟩
    simp only [Exit.inBlock, Exit.then, bodyPost]
    exact ⟨trivial, HQ.out⟩
end WI
end Go.Proofs.YtfkgfcggcfkkiaaDoor
namespace Go.Proofs.YtfkgfcggcfkkiaaDoor
namespace WI
/-- The number of bytes, the highest first. -/
def ofBE : List UInt8 → Nat → Nat
  | [], a => a
  | x :: r, a => ofBE r (a * 256 + x.toNat)
theorem ofBE_beN (n : Nat) : ∀ s a, ofBE (beN s n) a = a * 256 ^ s + n % 256 ^ s
  | 0, a => by simp [beN, ofBE, Nat.mod_one]
  | s + 1, a => by
    rw [beN, ofBE, ofBE_beN n s]
    have h1 : (UInt8.ofNat (n / 256 ^ s)).toNat = n / 256 ^ s % 256 := by simp
    rw [h1, Nat.pow_succ]
    have h2 : n % (256 ^ s * 256) = n / 256 ^ s % 256 * 256 ^ s + n % 256 ^ s := by
      rw [Nat.mod_mul, Nat.mul_comm (256 ^ s) (n / 256 ^ s % 256)]; omega
    rw [h2, Nat.add_mul, Nat.mul_comm (256 ^ s) 256, ← Nat.mul_assoc]
    omega
/-- A head is read: its kind, its number, what is left. -/
def rdHead : List UInt8 → Option (Nat × Nat × List UInt8)
  | [] => none
  | f :: r =>
    if f.toNat % 32 < 24 then some (f.toNat / 32, f.toNat % 32, r)
    else if 27 < f.toNat % 32 then none
    else if r.length < 2 ^ (f.toNat % 32 - 24) then none
    else if hd (f.toNat / 32) (ofBE (r.take (2 ^ (f.toNat % 32 - 24))) 0) = f :: r.take (2 ^ (f.toNat % 32 - 24)) then some (f.toNat / 32, ofBE (r.take (2 ^ (f.toNat % 32 - 24))) 0, r.drop (2 ^ (f.toNat % 32 - 24))) else none
theorem hsz_hlo (n : Nat) : hsz n = 2 ^ (hlo n - 24) ∧ 24 ≤ hlo n ∧ hlo n ≤ 27 := by
  unfold hsz hlo
  split
  · decide
  · split
    · decide
    · split <;> decide
theorem hsz_lt (n : Nat) (h : n < 18446744073709551616) : n < 256 ^ hsz n := by
  unfold hsz
  split
  · omega
  · split
    · omega
    · split <;> omega
theorem rdHead_hd (k n : Nat) (hk : k < 8) (hn : n < 18446744073709551616) (r : List UInt8) : rdHead (hd k n ++ r) = some (k, n, r) := by
  by_cases h : n < 24
  · have e : (UInt8.ofNat (32 * k + n)).toNat = 32 * k + n := by simp; omega
    rw [hd, if_pos h, List.singleton_append, rdHead, e, if_pos (by omega)]
    rw [show (32 * k + n) / 32 = k by omega, show (32 * k + n) % 32 = n by omega]
  · obtain ⟨h1, h2, h3⟩ := hsz_hlo n
    have e : (UInt8.ofNat (32 * k + hlo n)).toNat = 32 * k + hlo n := by simp; omega
    have hd' : hd k n = UInt8.ofNat (32 * k + hlo n) :: beN (hsz n) n := by rw [hd, if_neg h]
    rw [hd', List.cons_append, rdHead, e, show (32 * k + hlo n) / 32 = k by omega, show (32 * k + hlo n) % 32 = hlo n by omega, ← h1, if_neg (by omega), if_neg (by omega), if_neg (by rw [List.length_append, beN_length]; omega)]
    have e1 : (beN (hsz n) n ++ r).take (hsz n) = beN (hsz n) n := by rw [List.take_append_of_le_length (by rw [beN_length]; omega), List.take_of_length_le (by rw [beN_length]; omega)]
    have e2 : (beN (hsz n) n ++ r).drop (hsz n) = r := by rw [List.drop_append_of_le_length (by rw [beN_length]; omega), List.drop_of_length_le (by rw [beN_length]; omega), List.nil_append]
    rw [e1, e2, ofBE_beN, Nat.zero_mul, Nat.zero_add, Nat.mod_eq_of_lt (hsz_lt n hn), if_pos hd']
theorem ofBE_lt : ∀ (l : List UInt8) (a : Nat), ofBE l a < (a + 1) * 256 ^ l.length
  | [], a => by simp [ofBE]
  | x :: r, a => by
    have h := ofBE_lt r (a * 256 + x.toNat)
    have hx := x.toNat_lt
    rw [ofBE, List.length_cons, Nat.pow_succ]
    have h1 : (a * 256 + x.toNat + 1) * 256 ^ r.length ≤ ((a + 1) * 256) * 256 ^ r.length := Nat.mul_le_mul_right _ (by omega)
    rw [show (a + 1) * (256 ^ r.length * 256) = ((a + 1) * 256) * 256 ^ r.length by rw [Nat.mul_assoc, Nat.mul_comm (256 ^ r.length) 256]]
    omega
theorem rdHead_some (b r : List UInt8) (k n : Nat) (h : rdHead b = some (k, n, r)) : b = hd k n ++ r ∧ k < 8 ∧ n < 18446744073709551616 := by
  cases b with
  | nil => cases h
  | cons f t =>
    have hf := f.toNat_lt
    rw [rdHead] at h
    split at h
    · rename_i h1
      simp only [Option.some.injEq, Prod.mk.injEq] at h
      obtain ⟨rfl, rfl, rfl⟩ := h
      refine ⟨?_, by omega, by omega⟩
      rw [hd, if_pos h1, show 32 * (f.toNat / 32) + f.toNat % 32 = f.toNat by omega]
      simp
    · split at h
      · cases h
      · split at h
        · cases h
        · split at h
          · rename_i h1 h2 h3 h4
            simp only [Option.some.injEq, Prod.mk.injEq] at h
            obtain ⟨rfl, rfl, rfl⟩ := h
            refine ⟨?_, by omega, ?_⟩
            · rw [h4, List.cons_append, List.take_append_drop]
            · have hl := ofBE_lt (t.take (2 ^ (f.toNat % 32 - 24))) 0
              rw [List.length_take, Nat.min_eq_left (by omega)] at hl
              have hm : 2 ^ (f.toNat % 32 - 24) ≤ 8 := Nat.pow_le_pow_right (n := 2) (by decide) (show f.toNat % 32 - 24 ≤ 3 by omega)
              have hp : 256 ^ 2 ^ (f.toNat % 32 - 24) ≤ 256 ^ 8 := Nat.pow_le_pow_right (by decide) hm
              have : (256 : Nat) ^ 8 = 18446744073709551616 := by decide
              omega
          · cases h
section
variable (u : List UInt8 → Bool)
/-- So many items are read, one behind the other. -/
def rdN (rd : Nat → List UInt8 → Option (Itm × Nat × List UInt8)) : Nat → Nat → List UInt8 → Option (List Itm × Nat × List UInt8)
  | 0, c, b => some ([], c, b)
  | n + 1, c, b => match rd c b with
    | none => none
    | some (i, c', b') => match rdN rd n c' b' with
      | none => none
      | some (l, c'', b'') => some (i :: l, c'', b'')
/-- An item is read: as deep as that, behind so many. -/
def rd : Nat → Nat → List UInt8 → Option (Itm × Nat × List UInt8)
  | 0, _, _ => none
  | f + 1, c, b => match rdHead b with
    | none => none
    | some (k, n, r) =>
      if 4096 < c + 1 then none
      else if k = 0 ∨ k = 1 ∨ k = 7 then (if own u k n [] 0 then some (.mk k n [] [], c + 1, r) else none)
      else if k = 2 ∨ k = 3 then (if n ≤ r.length then (if own u k 0 (r.take n) 0 then some (.mk k 0 (r.take n) [], c + 1, r.drop n) else none) else none)
      else if k = 4 then (match rdN (rd f) n (c + 1) r with
        | none => none
        | some (l, c', r') => some (.mk 4 0 [] l, c', r'))
      else if k = 5 then (match rdN (rd f) (2 * n) (c + 1) r with
        | none => none
        | some (l, c', r') => if rise [] (byts l) then some (.mk 5 0 [] l, c', r') else none)
      else none
end
end WI
end Go.Proofs.YtfkgfcggcfkkiaaDoor
