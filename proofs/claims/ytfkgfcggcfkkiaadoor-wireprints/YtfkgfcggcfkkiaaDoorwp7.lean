import Derived.Lib.Endian
import Derived.Lib.EndianBits
import Derived.Deep.Draws
import Derived.Deep.QuietTactic
import Derived.BigQuiet
import Derived.Lib.ValidAsc
import Derived.Laws.BitsAllLaws
import Derived.Test.YtfkgfcggcfkkiaaDoorwp6
set_option linter.unusedVariables false
set_option linter.unusedSimpArgs false
namespace Go.Proofs.YtfkgfcggcfkkiaaDoor
open Go.RowKit Go.Sort Go.Deep
namespace WI
/-- What built's loop keeps. -/
structure BI (wb : World) (st : List Itm) (v : Value) (w : World) : Prop where
  bl : Below wb.heap.size wb w
  row : ∃ cs, w.ownsRow wb.heap.size 27 4 v st.length cs ∧ ICQ wb.heap.size w st cs
theorem BI.form {wb w : World} {st : List Itm} {v : Value} (h : BI wb st v w) : ∃ q c, v = .slice q st.length c := by
  obtain ⟨cs, h1, -⟩ := h.row
  rcases h1.2 with ⟨h2, h3⟩ | ⟨g, cap, cur, h2, -⟩
  · exact ⟨none, 0, by rw [h2, h3]⟩
  · exact ⟨_, _, h2⟩
theorem cn_neg (c : Int) (h : c < 0) : (-(c + 1)).tmod 9 = (cnS c : Int) := by
  unfold cnS
  rw [if_pos h]
  obtain ⟨k, hk⟩ : ∃ k : Nat, -(c + 1) = (k : Int) := ⟨(-(c + 1)).toNat, by omega⟩
  rw [hk]; rfl
theorem cn_pos (c : Int) (h : ¬ c < 0) : c.tmod 9 = (cnS c : Int) := by
  unfold cnS
  rw [if_neg h]
  obtain ⟨k, hk⟩ : ∃ k : Nat, c = (k : Int) := ⟨c.toNat, by omega⟩
  rw [hk]; rfl
set_option maxHeartbeats 1000000 in
set_option maxRecDepth 20000 in
theorem built_c (q : Option Addr) (c : Nat) (L : List Nd) (hL : L.length ≤ 256) (hw : ∀ x ∈ L, x.n < 18446744073709551616 ∧ -9223372036854775808 ≤ x.c ∧ x.c < 9223372036854775808 ∧ x.s.size ≤ 4611686018427387904) (w : World) (h : NdL w q L) : Calls Tryd.prog 16 #[.slice q L.length c] w (RetW (BuR (bld L) w)) := by
  obtain ⟨wb, hwb⟩ : ∃ wb, Hid (w.alloc (.cells #[.int .i64 0, .int .u64 0, .slice none 0 0, .slice none 0 0] 27) = wb) := ⟨_, rfl⟩
  have hb0 : Hid (Below w.heap.size w wb) := by rw [← hwb.out]; exact alloc_below _ _
  have hwz : Hid (wb.heap.size = w.heap.size + 1) := by show _ = _; rw [← hwb.out, World.size_alloc]
  have HN : Hid (∀ X, Below wb.heap.size wb X → NdL X q L) := fun X hX => (h.below hb0.out).below hX
  have hwH := hidW hw
  obtain ⟨m, hm⟩ : ∃ m, Hid (L.length = m) := ⟨_, rfl⟩
  have hm8 : m ≤ 256 := by rw [← hm.out]; exact hL
  rw [hm.out]
  clear h hw hL
  go_enter Tryd.func16, Tryd.ntmps16
  go_wp2
  rw [hwb.out]
  go_loopg [3, 4] (m + 1) (fun gk s3 s4 wr => ∃ j : Nat, s4 = .int .i64 (j : Int) ∧ j ≤ m ∧ gk = m + 1 - j ∧ Hid (BI wb (bst (L.take j)) s3 wr))
  case atStart => exact ⟨0, rfl, Nat.zero_le _, rfl, ⟨Below.refl _ _, [], ⟨rfl, Or.inl ⟨rfl, rfl⟩⟩, by rw [List.take_zero]; intro W _; show IC _ _ [] []; rw [IC]⟩⟩
  case round =>
    obtain ⟨j, rfl, hjm, hgk, HI⟩ := hrel
    obtain ⟨q3, c3, rfl⟩ := HI.out.form
    obtain ⟨st, hst⟩ : ∃ st, Hid (bst (L.take j) = st) := ⟨_, rfl⟩
    have hstj : Hid (st.length ≤ j) := by show _ ≤ _; rw [← hst.out]; exact bst_len L j
    rw [hst.out] at HI ⊢
    obtain ⟨n3, hn3⟩ : ∃ n3, Hid (st.length = n3) := ⟨_, rfl⟩
    rw [hn3.out] at HI hstj ⊢
    have hn8 : n3 ≤ 256 := Nat.le_trans hstj.out (by omega)
    by_cases hj : j < m
    · obtain ⟨x, hx⟩ : ∃ i, L[j]? = some i := ⟨_, List.getElem?_eq_getElem (by rw [hm.out]; exact hj)⟩
      obtain ⟨hxn, hxl, hxh, hxs⟩ := hwH.out x (List.mem_of_getElem? hx)
      obtain ⟨b, o0, rfl, hbl, c0, c1, c2, c3x⟩ : ∃ b o, q = some ⟨b, o, none⟩ ∧ b < wb.heap.size ∧ Hid (∀ X, Below wb.heap.size wb X → X.cell? ⟨b, o + j * 4, none⟩ = some (.int .i64 x.k)) ∧ Hid (∀ X, Below wb.heap.size wb X → X.cell? ⟨b, o + j * 4 + 1, none⟩ = some (.int .u64 (x.n : Int))) ∧ Hid (∀ X, Below wb.heap.size wb X → X.cell? ⟨b, o + j * 4 + 2, none⟩ = some (.string x.s)) ∧ Hid (∀ X, Below wb.heap.size wb X → X.cell? ⟨b, o + j * 4 + 3, none⟩ = some (.int .i64 x.c)) := by
        rcases HN.out wb (Below.refl _ _) with e | ⟨b, o, rfl, hb, hc⟩
        · rw [e] at hx; cases hx
        · obtain ⟨d0, d1, d2, d3⟩ := hc j x hx
          exact ⟨b, o, rfl, hb, fun X hX => by rw [hX.cell (p := ⟨b, _, none⟩) hb]; exact d0, fun X hX => by rw [hX.cell (p := ⟨b, _, none⟩) hb]; exact d1, fun X hX => by rw [hX.cell (p := ⟨b, _, none⟩) hb]; exact d2, fun X hX => by rw [hX.cell (p := ⟨b, _, none⟩) hb]; exact d3⟩
      have hjz : (j : Int) < (m : Int) := by omega
      have hix := fun w => idxN b o0 m c j hj w
      have e3 := c3x.out wr HI.out.bl
      have hbw : b < wr.heap.size := Nat.lt_of_lt_of_le hbl HI.out.bl.size
      obtain ⟨xc, hxc⟩ : ∃ xc, Hid (x.c = xc) := ⟨_, rfl⟩
      rw [hxc.out] at e3 hxl hxh
      obtain ⟨cn, hcn⟩ : ∃ cn, Hid (cnS xc = cn) := ⟨_, rfl⟩
      have hcn9 : cn < 9 := by rw [← hcn.out]; unfold cnS; omega
      have hx' := hidW hx
      have hxs' := hidW (And.intro hxn hxs)
      clear hx hxn hxs
      by_cases hneg : xc < 0
      · have hr := cn_neg xc hneg
        rw [hcn.out] at hr
        by_cases hgt : n3 < cn
        · have hgz : (n3 : Int) < (cn : Int) := by omega
          have hmm : Hid (min cn n3 = n3) := by show _ = _; omega
          go_upto_region 11 with fail
          refine RX.Gw.last (G11 (some ⟨b, o0, none⟩) m c j b (o0 + j * 4) x wr.heap.size wr) 18 (by kernel_rfl) (by kernel_rfl) (by kernel_rfl) ?_ (Below.refl _ wr).drew ?_
          · exact ⟨RX.gw_val fun a X hp => ⟨[(0, .slice (some ⟨b, o0, none⟩) m c)], .slice (some ⟨b, o0, none⟩) m c, X, ⟨hp.o 0 (by kernel_rfl), trivial⟩, by kernel_rfl, Below.refl _ _, rfl⟩,
              RX.gw_val fun a X hp => ⟨[(4, .int .i64 (j : Int))], .int .i64 (j : Int), X, ⟨hp.o 4 (by kernel_rfl), trivial⟩, by kernel_rfl, Below.refl _ _, rfl⟩,
              RX.gw_idxX 39 31 32 rfl fun a X hp => ⟨_, _, _, hp.n 0 31 (by kernel_rfl) (by kernel_rfl), hp.n 1 32 (by kernel_rfl) (by kernel_rfl), hix X, rfl⟩,
              RX.gw_val fun a X hp => ⟨[(33, .pointer (some ⟨b, o0 + j * 4, none⟩))], .pointer (some ⟨b, o0 + j * 4, none⟩), X, ⟨hp.n 2 33 (by kernel_rfl) (by kernel_rfl), trivial⟩, by kernel_rfl, Below.refl _ _, rfl⟩,
              RX.cf_ld1T 3 34 rfl (by kernel_rfl) fun a X hp => ⟨⟨b, o0 + j * 4, none⟩, .int .i64 x.k, hp.n 3 34 (by kernel_rfl) (by kernel_rfl) (by kernel_rfl), c0.out X (HI.out.bl.trans ((hp.b 0 (by kernel_rfl) : Below wr.heap.size wr X).mono HI.out.bl.size)), Below.refl _ _, rfl⟩,
              RX.gw_val fun a X hp => ⟨[(0, .slice (some ⟨b, o0, none⟩) m c)], .slice (some ⟨b, o0, none⟩) m c, X, ⟨hp.o 0 (by kernel_rfl), trivial⟩, by kernel_rfl, Below.refl _ _, rfl⟩,
              RX.gw_val fun a X hp => ⟨[(4, .int .i64 (j : Int))], .int .i64 (j : Int), X, ⟨hp.o 4 (by kernel_rfl), trivial⟩, by kernel_rfl, Below.refl _ _, rfl⟩,
              RX.gw_idxX 39 36 37 rfl fun a X hp => ⟨_, _, _, hp.n 5 36 (by kernel_rfl) (by kernel_rfl), hp.n 6 37 (by kernel_rfl) (by kernel_rfl), hix X, rfl⟩,
              RX.gw_val fun a X hp => ⟨[(38, .pointer (some ⟨b, o0 + j * 4, none⟩))], .pointer (some ⟨b, o0 + j * 4 + 1, none⟩), X, ⟨hp.n 7 38 (by kernel_rfl) (by kernel_rfl), trivial⟩, by kernel_rfl, Below.refl _ _, rfl⟩,
              RX.cf_ld1T 24 39 rfl (by kernel_rfl) fun a X hp => ⟨⟨b, o0 + j * 4 + 1, none⟩, .int .u64 (x.n : Int), hp.n 8 39 (by kernel_rfl) (by kernel_rfl) (by kernel_rfl), c1.out X (HI.out.bl.trans ((hp.b 0 (by kernel_rfl) : Below wr.heap.size wr X).mono HI.out.bl.size)), Below.refl _ _, rfl⟩,
              RX.gw_val fun a X hp => ⟨[(0, .slice (some ⟨b, o0, none⟩) m c)], .slice (some ⟨b, o0, none⟩) m c, X, ⟨hp.o 0 (by kernel_rfl), trivial⟩, by kernel_rfl, Below.refl _ _, rfl⟩,
              RX.gw_val fun a X hp => ⟨[(4, .int .i64 (j : Int))], .int .i64 (j : Int), X, ⟨hp.o 4 (by kernel_rfl), trivial⟩, by kernel_rfl, Below.refl _ _, rfl⟩,
              RX.gw_idxX 39 41 42 rfl fun a X hp => ⟨_, _, _, hp.n 10 41 (by kernel_rfl) (by kernel_rfl), hp.n 11 42 (by kernel_rfl) (by kernel_rfl), hix X, rfl⟩,
              RX.gw_val fun a X hp => ⟨[(43, .pointer (some ⟨b, o0 + j * 4, none⟩))], .pointer (some ⟨b, o0 + j * 4 + 2, none⟩), X, ⟨hp.n 12 43 (by kernel_rfl) (by kernel_rfl), trivial⟩, by kernel_rfl, Below.refl _ _, rfl⟩,
              RX.cf_ld1T 9 44 rfl (by kernel_rfl) fun a X hp => ⟨⟨b, o0 + j * 4 + 2, none⟩, .string x.s, hp.n 13 44 (by kernel_rfl) (by kernel_rfl) (by kernel_rfl), c2.out X (HI.out.bl.trans ((hp.b 0 (by kernel_rfl) : Below wr.heap.size wr X).mono HI.out.bl.size)), Below.refl _ _, rfl⟩,
              RX.gw_cnvM 9 22 45 rfl fun a X hp => by
                obtain ⟨v, w', h1, h2, h3⟩ := conv_DB x.s X wr.heap.size (hp.b : Below wr.heap.size wr X).size
                exact ⟨_, v, w', hp.n 14 45 (by kernel_rfl) (by kernel_rfl), h1, h3, h2⟩,
              RX.gw_val fun a X hp => by
                have h15 : DB X wr.heap.size _ x.s := hp.n 15 46 (by kernel_rfl) (by kernel_rfl)
                have h15' := h15
                obtain ⟨gd, capd, csd, fzd, hv, -⟩ := h15
                refine ⟨[(35, .int .i64 x.k), (40, .int .u64 (x.n : Int)), (46, .slice (some ⟨gd, 0, none⟩) x.s.size capd)], .agg #[.int .i64 x.k, .int .u64 (x.n : Int), .slice (some ⟨gd, 0, none⟩) x.s.size capd, .slice none 0 0], X, ⟨hp.n 4 35 (by kernel_rfl) (by kernel_rfl), hp.n 9 40 (by kernel_rfl) (by kernel_rfl), hv, trivial⟩, by kernel_rfl, Below.refl _ _, ?_⟩
                exact ⟨_, rfl, by rw [← hv]; exact h15'⟩,
              RX.gw_val fun a X hp => ⟨[], .pointer (some ⟨X.heap.size, 0, none⟩), X.alloc (.cells #[.int .i64 0, .int .u64 0, .slice none 0 0, .slice none 0 0] 27), trivial, by kernel_rfl, alloc_below _ _, ⟨X.heap.size, rfl, (hp.b : Below wr.heap.size wr X).size, Array.getElem?_push_size⟩⟩,
              trivial⟩
          · intro V wz hV hB
            obtain ⟨v16, e16, hD16⟩ : ∃ v', V 16 = .agg #[.int .i64 x.k, .int .u64 (x.n : Int), v', .slice none 0 0] ∧ DB wz wr.heap.size v' x.s := hV 16 (by omega)
            obtain ⟨gb, e17, hB17⟩ : ∃ g, V 17 = .pointer (some ⟨g, 0, none⟩) ∧ BXi wz wr.heap.size g [.int .i64 0, .int .u64 0, .slice none 0 0, .slice none 0 0] := hV 17 (by omega)
            dsimp only [RX.putV, Nat.reduceAdd, List.drop, List.take]
            simp only [Act.put, List.setIfInBounds_toArray, List.set_cons_succ, List.set_cons_zero]
            rw [e16, e17]
            have hne : ∀ gd cs fz, wz.heap[gd]? = some (.cells cs 5 fz) → gd ≠ gb := fun gd cs fz h e => by
              rw [e, hB17.2] at h
              have h := Option.some.inj h
              injection h with _ h _
              exact absurd h (by decide)
            have hth : wz.there gb 0 4 := fun j hj => by
              have e : ∀ k : Nat, k < 4 → (wz.cell? ⟨gb, 0 + k, none⟩).isSome = true ∧ wz.frozen? ⟨gb, 0 + k, none⟩ = false := fun k hk => by
                unfold World.cell? World.frozen?
                simp only [hB17.2, Nat.zero_add]
                obtain rfl | rfl | rfl | rfl : k = 0 ∨ k = 1 ∨ k = 2 ∨ k = 3 := by omega
                all_goals exact ⟨rfl, rfl⟩
              exact e j hj
            have hgbz : gb < wz.heap.size := (Array.getElem?_eq_some_iff.1 hB17.2).1
            obtain ⟨w11, hw11⟩ : ∃ w11, Hid (wz.setCells gb 0 [.int .i64 x.k, .int .u64 (x.n : Int), v16, .slice none 0 0] = w11) := ⟨_, rfl⟩
            have H11 : Hid (Below wr.heap.size wr w11 ∧ RowS w11 gb [.int .i64 x.k, .int .u64 (x.n : Int), v16, .slice none 0 0] ∧ DBn w11 wr.heap.size v16 x.s gb ∧ wr.heap.size ≤ gb) := by
              rw [← hw11.out]
              refine ⟨RG.below_setCells hB17.1 _ _ _ hB, ⟨sc_lt _ _ _ hgbz, World.rangeAt_setCells_same _ _ _ _ hth, World.there_setCells hth _ _ _⟩, ?_, hB17.1⟩
              obtain ⟨gd, capd, csd, fzd, h1, h2, h3, h4, h5⟩ := hD16
              exact ⟨gd, capd, csd, fzd, h1, h2, ⟨hne gd csd fzd h4, h3⟩, by rw [sc_other _ _ (hne gd csd fzd h4)]; exact h4, h5⟩
            obtain ⟨qd, dl, cd, rfl⟩ : ∃ qd dl cd, v16 = .slice qd dl cd := by obtain ⟨gd, capd, csd, fzd, h1, -⟩ := hD16; exact ⟨_, _, _, h1⟩
            refine wpList_store_mid rfl 27 _ _ rfl gb 0 #[.int .i64 x.k, .int .u64 (x.n : Int), .slice qd dl cd, .slice none 0 0] ?_ ?_ hth (by kernel_rfl) (four_one _ _ _ _ _ _ _ _) ?_
            · rfl
            · rfl
            show wpList _ _ _ _ _ (wz.setCells gb 0 [.int .i64 x.k, .int .u64 (x.n : Int), .slice qd dl cd, .slice none 0 0])
            rw [hw11.out]
            clear hV hB hD16 hB17 hne hth hgbz hw11
            dsimp only [Act.put]
            obtain ⟨cs, hrow, hic⟩ := HI.out.row
            rw [hn3.out] at hrow
            obtain ⟨d, hd⟩ : ∃ d, Hid (d + n3 = n3) := ⟨n3 - n3, by show _ = _; omega⟩
            obtain ⟨q7, c7, hlo, hlo2, hhi, hhi2⟩ := st_cut hrow hd.out
            have hsub : ∀ X : World, (binOp .sub 3 (.int .i64 (n3 : Int)) (.int .i64 (n3 : Int))).run Tryd.prog X = .ok (.int .i64 (d : Int)) X := fun X => by
              have e : (n3 : Int) - (n3 : Int) = (d : Int) := by have := hd.out; omega
              have e2 : IntKind.i64.wrap (d : Int) = (d : Int) := by rw [IntKind.wrap_i64]; have := hd.out; omega
              go_simp
              first | done | exact e2 | rw [e2] | rw [e, e2]
            have hcut := IC.cut d (hic wr fun _ _ _ => rfl)
            have hlen2 : Hid ((st.drop d).length = n3 ∧ (cs.drop (d * 4)).length = n3 * 4 ∧ (st.take d).length = d ∧ (cs.take (d * 4)).length = d * 4) := by
              have h1 := hcut.1.len
              have h2 := hcut.2.len
              have h3 := hn3.out
              have h4 := hd.out
              have h5 : (st.drop d).length = n3 := by rw [List.length_drop]; omega
              have h6 : (st.take d).length = d := by rw [List.length_take]; omega
              exact ⟨h5, by rw [h2, h5], h6, by rw [h1, h6]⟩
            have hd8 : Hid (d ≤ 256 ∧ n3 ≤ 256) := by have := hd.out; exact ⟨by omega, by omega⟩
            have HC : Hid (ICQ wb.heap.size wr (st.take d) (cs.take (d * 4)) ∧ ICQ wb.heap.size wr (st.drop d) (cs.drop (d * 4))) := ⟨fun W hW => (IC.cut d (hic W hW)).1, fun W hW => (IC.cut d (hic W hW)).2⟩
            have HLO : Hid (∀ X, Below wr.heap.size wr X → (n3 = 0 ∨ ∃ b o, q7 = some ⟨b, o, none⟩ ∧ ∀ j u, (cs.drop (d * 4))[j]? = some u → X.cell? ⟨b, o + j, none⟩ = some u)) := fun X hX => by
              rcases hlo2 with h | ⟨b, o, h1, h2, h3⟩
              · exact Or.inl h
              · exact Or.inr ⟨b, o, h1, fun j u hj => by rw [hX.cell (p := ⟨b, _, none⟩) h2]; exact h3 j u hj⟩
            have HHI : Hid (∀ X, Below wr.heap.size wr X → (d = 0 ∨ ∃ b o, q3 = some ⟨b, o, none⟩ ∧ ∀ j u, (cs.take (d * 4))[j]? = some u → X.cell? ⟨b, o + j, none⟩ = some u)) := fun X hX => by
              rcases hhi2 with h | ⟨b, o, h1, h2, h3⟩
              · exact Or.inl h
              · exact Or.inr ⟨b, o, h1, fun j u hj => by rw [hX.cell (p := ⟨b, _, none⟩) h2]; exact h3 j u hj⟩
            clear hcut hlo2 hhi2 hrow hic
            go_upto_region 12 with fail
            refine RX.Gw.last (G12 gb (.slice q3 n3 c3) n3 n3 d (.slice q7 n3 c7) (cs.drop (d * 4)) w11) 10 (by kernel_rfl) (by kernel_rfl) (by kernel_rfl) ?_ (Below.refl _ w11).drew ?_
            · exact ⟨RX.gw_val fun a X hp => ⟨[(6, .pointer (some ⟨gb, 0, none⟩))], .pointer (some ⟨gb, 3, none⟩), X, ⟨hp.o 6 (by kernel_rfl), trivial⟩, by kernel_rfl, Below.refl _ _, rfl⟩,
                RX.cf_ld1T 25 48 rfl (by kernel_rfl) fun a X hp => ⟨⟨gb, 3, none⟩, .slice none 0 0, hp.n 0 48 (by kernel_rfl) (by kernel_rfl) (by kernel_rfl), (H11.out.2.1.below (hp.b 0 (by kernel_rfl) : Below w11.heap.size w11 X)).cell 3 _ rfl, Below.refl _ _, rfl⟩,
                RX.gw_val fun a X hp => ⟨[(3, .slice q3 n3 c3)], .slice q3 n3 c3, X, ⟨hp.o 3 (by kernel_rfl), trivial⟩, by kernel_rfl, Below.refl _ _, rfl⟩,
                RX.gw_val fun a X hp => ⟨[(3, .slice q3 n3 c3)], .slice q3 n3 c3, X, ⟨hp.o 3 (by kernel_rfl), trivial⟩, by kernel_rfl, Below.refl _ _, rfl⟩,
                RX.gw_val fun a X hp => ⟨[(51, .slice q3 n3 c3)], .int .i64 (n3 : Int), X, ⟨hp.n 3 51 (by kernel_rfl) (by kernel_rfl), trivial⟩, by kernel_rfl, Below.refl _ _, rfl⟩,
                RX.gw_val fun a X hp => ⟨[(5, .int .i64 (n3 : Int))], .int .i64 (n3 : Int), X, ⟨hp.o 5 (by kernel_rfl), trivial⟩, by kernel_rfl, Below.refl _ _, rfl⟩,
                RX.gw_bin .sub 3 3 52 53 rfl fun a X hp => ⟨_, _, _, hp.n 4 52 (by kernel_rfl) (by kernel_rfl), hp.n 5 53 (by kernel_rfl) (by kernel_rfl), by kernel_rfl, hsub X, rfl⟩,
                RX.cf_sloX 25 50 54 rfl fun a X hp => ⟨_, _, _, hp.n 2 50 (by kernel_rfl) (by kernel_rfl) (by kernel_rfl), hp.n 6 54 (by kernel_rfl) (by kernel_rfl) (by kernel_rfl), hlo X, Below.refl _ _, rfl⟩,
                RX.cf_app 49 55 25 rfl fun a X hp => by
                  have hX : Below w11.heap.size w11 X := hp.b 0 (by kernel_rfl)
                  have e1 : a.eval (.tmp 49) = .slice none 0 0 := hp.n 1 49 (by kernel_rfl) (by kernel_rfl) (by kernel_rfl)
                  have e2 : a.eval (.tmp 55) = .slice q7 n3 c7 := hp.n 7 55 (by kernel_rfl) (by kernel_rfl) (by kernel_rfl)
                  obtain ⟨v', W', r1, r2, r3⟩ := it_app (base := w11.heap.size) (W := X) (v := .slice none 0 0) (n := 0) (c := c7) (xs := []) ⟨rfl, Or.inl ⟨rfl, rfl⟩⟩ hlen2.out.2.1 (HLO.out X (H11.out.1.trans (hX.mono H11.out.1.size))) (HC.out.2 wr fun _ _ _ => rfl).one (by have := hd8.out.2; omega) hX.size
                  rw [Nat.zero_add, List.nil_append] at r2
                  rw [e1, e2]
                  exact ⟨v', W', r1, ⟨r3.os, r3.tape, r3.output, r3.size, fun k hk => r3.block k hk (by simp [Value.ownBlock])⟩, r2⟩,
                RX.gw_val fun a X hp => ⟨[(6, .pointer (some ⟨gb, 0, none⟩))], .pointer (some ⟨gb, 3, none⟩), X, ⟨hp.o 6 (by kernel_rfl), trivial⟩, by kernel_rfl, Below.refl _ _, rfl⟩,
                trivial⟩
            · intro V2 wy hV2 hB2
              have h8 : wy.ownsRow w11.heap.size 27 4 (V2 8) n3 (cs.drop (d * 4)) := hV2 8 (by omega)
              have e9 : V2 9 = .pointer (some ⟨gb, 3, none⟩) := hV2 9 (by omega)
              have HB2 : Hid (Below w11.heap.size w11 wy) := hB2
              have HR2 := hidW (H11.out.2.1.below hB2)
              dsimp only [RX.putV, Nat.reduceAdd, List.drop, List.take]
              simp only [Act.put, List.setIfInBounds_toArray, List.set_cons_succ, List.set_cons_zero]
              rw [e9]
              obtain ⟨q8, c8, e8⟩ : ∃ q8 c8, V2 8 = .slice q8 n3 c8 := by
                rcases h8.2 with ⟨h2, h3⟩ | ⟨g, cap, cur, h2, -⟩
                · exact ⟨none, 0, by rw [h2, h3]⟩
                · exact ⟨_, _, h2⟩
              rw [e8] at h8 ⊢
              have H8 := hidW h8
              have r3 := HR2.out.cell 3 _ rfl
              have f3 := HR2.out.free 3 (Nat.lt_succ_self 3)
              have hgl := HR2.out.1
              clear hV2 hB2 h8 e8 e9
              obtain ⟨w12, hw12⟩ : ∃ w12, Hid (wy.setCell ⟨gb, 3, none⟩ (.slice q8 n3 c8) = w12) := ⟨_, rfl⟩
              have HB12 : Hid (Below wr.heap.size wr w12) := by
                rw [← hw12.out]
                exact (H11.out.1.trans (HB2.out.mono H11.out.1.size)).setCell (p := ⟨gb, 3, none⟩) H11.out.2.2.2 _
              have HR12 : Hid (RowS w12 gb [.int .i64 x.k, .int .u64 (x.n : Int), .slice qd dl cd, .slice q8 n3 c8]) := by
                rw [← hw12.out]
                exact HR2.out.set 3 (.slice q8 n3 c8) (Nat.lt_succ_self 3)
              have HM12 : Hid (IMQ wb.heap.size w12 (.mk x.k x.n x.s.data.toList (st.drop d)) (.slice qd dl cd) (.slice q8 n3 c8)) := by
                refine inm_step (gb := gb) (B := w11.heap.size) (B' := wr.heap.size) hxs'.out.1 hxs'.out.2 ?_ hlen2.out.1 hd8.out.2 HC.out.2 HB12.out ?_ (Nat.le_trans HI.out.bl.size H11.out.1.size) HI.out.bl.size
                · refine DBn.keep H11.out.2.2.1 fun k hk hne => ?_
                  rw [← hw12.out, blk_other _ _ _ _ hne, HB2.out.block k hk]
                · rw [← hw12.out]
                  rcases H8.out with ⟨h0, h1 | ⟨g, cap, cur, h1, h2, h3, h4⟩⟩
                  · exact ⟨h0, Or.inl h1⟩
                  · exact ⟨h0, Or.inr ⟨g, cap, cur, h1, h2, by rw [blk_other _ _ _ _ (show g ≠ gb by have := H11.out.2.1.1; omega)]; exact h3, h4⟩⟩
              go_upto_region 13 with fail
              rw [hw12.out]
              clear H11 HB2 HR2 H8 r3 f3 hgl hw12 hlo HLO
              obtain ⟨it, hit⟩ : ∃ it : List Value, Hid ([.int .i64 x.k, .int .u64 (x.n : Int), .slice qd dl cd, .slice q8 n3 c8] = it) := ⟨_, rfl⟩
              refine RX.flow_draws (F13 w12 [undef, .slice q3 n3 c3, .slice q3 n3 c3, .int .i64 (n3 : Int), .int .i64 (n3 : Int), .int .i64 (d : Int), .slice q3 d c3, undef, .agg #[.int .i64 x.k, .int .u64 (x.n : Int), .slice qd dl cd, .slice q8 n3 c8]] d (cs.take (d * 4)) [.int .i64 x.k, .int .u64 (x.n : Int), .slice qd dl cd, .slice q8 n3 c8]) (by kernel_rfl) (F13.reg (by kernel_rfl) (by kernel_rfl) (by kernel_rfl) ?_) (fun _ => (Below.refl _ w12).drew) ?_
              · exact ⟨RX.cf_manyT fun a X hp => ⟨[], .slice (some ⟨X.heap.size, 0, none⟩) 0 0, X.alloc (.cells #[] 27), trivial, by kernel_rfl, alloc_below _ _, ⟨X.heap.size, rfl, (hp.b 0 (by kernel_rfl) : Below w12.heap.size w12 X).size, Array.getElem?_push_size⟩⟩,
                  RX.cf_manyT fun a X hp => ⟨[(3, .slice q3 n3 c3)], .slice q3 n3 c3, X, ⟨hp.o 3 (by kernel_rfl), trivial⟩, by kernel_rfl, Below.refl _ _, rfl⟩,
                  RX.cf_manyT fun a X hp => ⟨[(3, .slice q3 n3 c3)], .slice q3 n3 c3, X, ⟨hp.o 3 (by kernel_rfl), trivial⟩, by kernel_rfl, Below.refl _ _, rfl⟩,
                  RX.cf_manyT fun a X hp => ⟨[(60, .slice q3 n3 c3)], .int .i64 (n3 : Int), X, ⟨hp.n 2 60 (by kernel_rfl) (by kernel_rfl) (by kernel_rfl), trivial⟩, by kernel_rfl, Below.refl _ _, rfl⟩,
                  RX.cf_manyT fun a X hp => ⟨[(5, .int .i64 (n3 : Int))], .int .i64 (n3 : Int), X, ⟨hp.o 5 (by kernel_rfl), trivial⟩, by kernel_rfl, Below.refl _ _, rfl⟩,
                  RX.cf_subX 3 3 61 62 rfl fun a X hp => ⟨_, _, _, hp.n 3 61 (by kernel_rfl) (by kernel_rfl) (by kernel_rfl), hp.n 4 62 (by kernel_rfl) (by kernel_rfl) (by kernel_rfl), hsub X, Below.refl _ _, rfl⟩,
                  RX.cf_shiX 25 59 63 rfl fun a X hp => ⟨_, _, _, hp.n 1 59 (by kernel_rfl) (by kernel_rfl) (by kernel_rfl), hp.n 5 63 (by kernel_rfl) (by kernel_rfl) (by kernel_rfl), hhi X, Below.refl _ _, rfl⟩,
                  RX.cf_app 58 64 25 rfl fun a X hp => by
                    have hX : Below w12.heap.size w12 X := hp.b 0 (by kernel_rfl)
                    obtain ⟨g0, e1, hg1, hg2⟩ : ∃ g, a.eval (.tmp 58) = .slice (some ⟨g, 0, none⟩) 0 0 ∧ w12.heap.size ≤ g ∧ X.heap[g]? = some (.cells #[] 27 (0, 0)) := hp.n 0 58 (by kernel_rfl) (by kernel_rfl) (by kernel_rfl)
                    have e2 : a.eval (.tmp 64) = .slice q3 d c3 := hp.n 6 64 (by kernel_rfl) (by kernel_rfl) (by kernel_rfl)
                    obtain ⟨v', W', r1, r2, r3⟩ := it_app0 (c := c3) hg1 hg2 hlen2.out.2.2.2 (HHI.out X (HB12.out.trans (hX.mono HB12.out.size))) (HC.out.1 wr fun _ _ _ => rfl).one (by have := hd8.out.1; omega) hX.size
                    rw [e1, e2]
                    exact ⟨v', W', r1, r3, r2⟩,
                  RX.cf_load 27 6 rfl (by kernel_rfl) fun a X hp => ⟨gb, 0, [.int .i64 x.k, .int .u64 (x.n : Int), .slice qd dl cd, .slice q8 n3 c8], hp.o 6 (by kernel_rfl), (HR12.out.below (hp.b 0 (by kernel_rfl) : Below w12.heap.size w12 X)).2.1, by kernel_rfl, Below.refl _ _, rfl⟩,
                  RX.cf_manyT fun a X hp => ⟨[(66, .agg #[.int .i64 x.k, .int .u64 (x.n : Int), .slice qd dl cd, .slice q8 n3 c8])], .slice (some ⟨X.heap.size, 0, none⟩) 1 1, X.alloc (.cells #[.int .i64 x.k, .int .u64 (x.n : Int), .slice qd dl cd, .slice q8 n3 c8] 27), ⟨hp.n 8 66 (by kernel_rfl) (by kernel_rfl) (by kernel_rfl), trivial⟩, by kernel_rfl, alloc_below _ _, ⟨X.heap.size, rfl, (hp.b 0 (by kernel_rfl) : Below w12.heap.size w12 X).size, Array.getElem?_push_size⟩⟩,
                  RX.cf_app 65 67 25 rfl fun a X hp => by
                    have hX : Below w12.heap.size w12 X := hp.b 0 (by kernel_rfl)
                    have h7 : X.ownsRow w12.heap.size 27 4 (a.eval (.tmp 65)) d (cs.take (d * 4)) := hp.n 7 65 (by kernel_rfl) (by kernel_rfl) (by kernel_rfl)
                    obtain ⟨g9, e9, hg9⟩ : ∃ g, a.eval (.tmp 67) = .slice (some ⟨g, 0, none⟩) 1 1 ∧ BXi X w12.heap.size g [.int .i64 x.k, .int .u64 (x.n : Int), .slice qd dl cd, .slice q8 n3 c8] := hp.n 9 67 (by kernel_rfl) (by kernel_rfl) (by kernel_rfl)
                    obtain ⟨v', W', r1, r2, r3⟩ := it_app (m := 1) (c := 1) (q := some ⟨g9, 0, none⟩) h7 (news := [.int .i64 x.k, .int .u64 (x.n : Int), .slice qd dl cd, .slice q8 n3 c8]) rfl (Or.inr ⟨g9, 0, rfl, fun j u hj => by
                      unfold World.cell?
                      simp only [hg9.2, Nat.zero_add]
                      simpa using hj⟩) (fun u hu => by
                        simp only [List.mem_cons, List.not_mem_nil, or_false] at hu
                        rcases hu with rfl | rfl | rfl | rfl <;> rfl) (by have := hd8.out.1; omega) hX.size
                    rw [e9]
                    refine ⟨v', W', r1, ⟨r3.os, r3.tape, r3.output, Nat.le_trans hX.size r3.size |> fun _ => r3.size, fun k hk => r3.block k (Nat.lt_of_lt_of_le hk hX.size) ?_⟩, r2⟩
                    rcases h7.2 with ⟨h0, -⟩ | ⟨g, cap, cur, h0, h1, -⟩
                    · rw [h0]; simp [Value.ownBlock]
                    · rw [h0]; simp only [Value.ownBlock, ne_eq, Option.some.injEq]; omega,
                  RX.cf_manyT fun a X hp => ⟨[(68, a.eval (.tmp 68))], a.eval (.tmp 68), X, ⟨rfl, trivial⟩, by kernel_rfl, Below.refl _ _, (hp.n 10 68 (by kernel_rfl) (by kernel_rfl) (by kernel_rfl) : R13 w12.heap.size d (cs.take (d * 4)) _ 10 _ X)⟩,
                  trivial⟩
              · intro V3 wf hV3 hB3
                have h11 : wf.ownsRow w12.heap.size 27 4 (V3 11) (d + 1) (cs.take (d * 4) ++ [.int .i64 x.k, .int .u64 (x.n : Int), .slice qd dl cd, .slice q8 n3 c8]) := hV3 11 (Nat.lt_of_succ_le (Nat.le_of_ble_eq_true (by kernel_rfl))) (by kernel_rfl)
                have hBf : Below w12.heap.size w12 wf := hB3 0 rfl
                have HBI : Hid (BI wb (bst (L.take (j + 1))) (V3 11) wf) := by
                  have hwf := HB12.out.trans (hBf.mono HB12.out.size)
                  have e1 : bst (L.take (j + 1)) = st.take d ++ [.mk x.k x.n x.s.data.toList (st.drop d)] := by
                    rw [bst_take L j x hx'.out, hst.out]
                    unfold stp
                    rw [hxc.out, hcn.out, hn3.out, hmm.out, show n3 - n3 = d by have := hd.out; omega]
                  refine ⟨HI.out.bl.trans (hwf.mono HI.out.bl.size), cs.take (d * 4) ++ [.int .i64 x.k, .int .u64 (x.n : Int), .slice qd dl cd, .slice q8 n3 c8], ?_, ?_⟩
                  · rw [e1, List.length_append, hlen2.out.2.2.1]
                    exact own_upI h11 (Nat.le_trans HI.out.bl.size HB12.out.size)
                  · rw [e1]
                    intro W hW
                    refine IC.app ?_ (HC.out.1.up hwf W hW)
                    rw [IC]
                    exact ⟨_, _, [], rfl, HM12.out.up hBf W hW, by rw [IC]⟩
                clear h11 hBf
                dsimp only [RX.putV, Nat.reduceAdd]
                simp only [Act.put, List.setIfInBounds_toArray, List.set_cons_succ, List.set_cons_zero]
                obtain ⟨v11, hv11⟩ : ∃ v, Hid (V3 11 = v) := ⟨_, rfl⟩
                rw [hv11.out] at HBI ⊢
                clear hV3 hB3
                go_wp2
                go_roundg (m + 1 - (j + 1))
                case measure => omega
                case rel => exact ⟨j + 1, rfl, by omega, rfl, HBI⟩
        · have hgz : ¬ (n3 : Int) < (cn : Int) := by omega
          have hmm : Hid (min cn n3 = cn) := by show _ = _; omega
          go_upto_region 11 with fail
          refine RX.Gw.last (G11 (some ⟨b, o0, none⟩) m c j b (o0 + j * 4) x wr.heap.size wr) 18 (by kernel_rfl) (by kernel_rfl) (by kernel_rfl) ?_ (Below.refl _ wr).drew ?_
          · exact ⟨RX.gw_val fun a X hp => ⟨[(0, .slice (some ⟨b, o0, none⟩) m c)], .slice (some ⟨b, o0, none⟩) m c, X, ⟨hp.o 0 (by kernel_rfl), trivial⟩, by kernel_rfl, Below.refl _ _, rfl⟩,
              RX.gw_val fun a X hp => ⟨[(4, .int .i64 (j : Int))], .int .i64 (j : Int), X, ⟨hp.o 4 (by kernel_rfl), trivial⟩, by kernel_rfl, Below.refl _ _, rfl⟩,
              RX.gw_idxX 39 31 32 rfl fun a X hp => ⟨_, _, _, hp.n 0 31 (by kernel_rfl) (by kernel_rfl), hp.n 1 32 (by kernel_rfl) (by kernel_rfl), hix X, rfl⟩,
              RX.gw_val fun a X hp => ⟨[(33, .pointer (some ⟨b, o0 + j * 4, none⟩))], .pointer (some ⟨b, o0 + j * 4, none⟩), X, ⟨hp.n 2 33 (by kernel_rfl) (by kernel_rfl), trivial⟩, by kernel_rfl, Below.refl _ _, rfl⟩,
              RX.cf_ld1T 3 34 rfl (by kernel_rfl) fun a X hp => ⟨⟨b, o0 + j * 4, none⟩, .int .i64 x.k, hp.n 3 34 (by kernel_rfl) (by kernel_rfl) (by kernel_rfl), c0.out X (HI.out.bl.trans ((hp.b 0 (by kernel_rfl) : Below wr.heap.size wr X).mono HI.out.bl.size)), Below.refl _ _, rfl⟩,
              RX.gw_val fun a X hp => ⟨[(0, .slice (some ⟨b, o0, none⟩) m c)], .slice (some ⟨b, o0, none⟩) m c, X, ⟨hp.o 0 (by kernel_rfl), trivial⟩, by kernel_rfl, Below.refl _ _, rfl⟩,
              RX.gw_val fun a X hp => ⟨[(4, .int .i64 (j : Int))], .int .i64 (j : Int), X, ⟨hp.o 4 (by kernel_rfl), trivial⟩, by kernel_rfl, Below.refl _ _, rfl⟩,
              RX.gw_idxX 39 36 37 rfl fun a X hp => ⟨_, _, _, hp.n 5 36 (by kernel_rfl) (by kernel_rfl), hp.n 6 37 (by kernel_rfl) (by kernel_rfl), hix X, rfl⟩,
              RX.gw_val fun a X hp => ⟨[(38, .pointer (some ⟨b, o0 + j * 4, none⟩))], .pointer (some ⟨b, o0 + j * 4 + 1, none⟩), X, ⟨hp.n 7 38 (by kernel_rfl) (by kernel_rfl), trivial⟩, by kernel_rfl, Below.refl _ _, rfl⟩,
              RX.cf_ld1T 24 39 rfl (by kernel_rfl) fun a X hp => ⟨⟨b, o0 + j * 4 + 1, none⟩, .int .u64 (x.n : Int), hp.n 8 39 (by kernel_rfl) (by kernel_rfl) (by kernel_rfl), c1.out X (HI.out.bl.trans ((hp.b 0 (by kernel_rfl) : Below wr.heap.size wr X).mono HI.out.bl.size)), Below.refl _ _, rfl⟩,
              RX.gw_val fun a X hp => ⟨[(0, .slice (some ⟨b, o0, none⟩) m c)], .slice (some ⟨b, o0, none⟩) m c, X, ⟨hp.o 0 (by kernel_rfl), trivial⟩, by kernel_rfl, Below.refl _ _, rfl⟩,
              RX.gw_val fun a X hp => ⟨[(4, .int .i64 (j : Int))], .int .i64 (j : Int), X, ⟨hp.o 4 (by kernel_rfl), trivial⟩, by kernel_rfl, Below.refl _ _, rfl⟩,
              RX.gw_idxX 39 41 42 rfl fun a X hp => ⟨_, _, _, hp.n 10 41 (by kernel_rfl) (by kernel_rfl), hp.n 11 42 (by kernel_rfl) (by kernel_rfl), hix X, rfl⟩,
              RX.gw_val fun a X hp => ⟨[(43, .pointer (some ⟨b, o0 + j * 4, none⟩))], .pointer (some ⟨b, o0 + j * 4 + 2, none⟩), X, ⟨hp.n 12 43 (by kernel_rfl) (by kernel_rfl), trivial⟩, by kernel_rfl, Below.refl _ _, rfl⟩,
              RX.cf_ld1T 9 44 rfl (by kernel_rfl) fun a X hp => ⟨⟨b, o0 + j * 4 + 2, none⟩, .string x.s, hp.n 13 44 (by kernel_rfl) (by kernel_rfl) (by kernel_rfl), c2.out X (HI.out.bl.trans ((hp.b 0 (by kernel_rfl) : Below wr.heap.size wr X).mono HI.out.bl.size)), Below.refl _ _, rfl⟩,
              RX.gw_cnvM 9 22 45 rfl fun a X hp => by
                obtain ⟨v, w', h1, h2, h3⟩ := conv_DB x.s X wr.heap.size (hp.b : Below wr.heap.size wr X).size
                exact ⟨_, v, w', hp.n 14 45 (by kernel_rfl) (by kernel_rfl), h1, h3, h2⟩,
              RX.gw_val fun a X hp => by
                have h15 : DB X wr.heap.size _ x.s := hp.n 15 46 (by kernel_rfl) (by kernel_rfl)
                have h15' := h15
                obtain ⟨gd, capd, csd, fzd, hv, -⟩ := h15
                refine ⟨[(35, .int .i64 x.k), (40, .int .u64 (x.n : Int)), (46, .slice (some ⟨gd, 0, none⟩) x.s.size capd)], .agg #[.int .i64 x.k, .int .u64 (x.n : Int), .slice (some ⟨gd, 0, none⟩) x.s.size capd, .slice none 0 0], X, ⟨hp.n 4 35 (by kernel_rfl) (by kernel_rfl), hp.n 9 40 (by kernel_rfl) (by kernel_rfl), hv, trivial⟩, by kernel_rfl, Below.refl _ _, ?_⟩
                exact ⟨_, rfl, by rw [← hv]; exact h15'⟩,
              RX.gw_val fun a X hp => ⟨[], .pointer (some ⟨X.heap.size, 0, none⟩), X.alloc (.cells #[.int .i64 0, .int .u64 0, .slice none 0 0, .slice none 0 0] 27), trivial, by kernel_rfl, alloc_below _ _, ⟨X.heap.size, rfl, (hp.b : Below wr.heap.size wr X).size, Array.getElem?_push_size⟩⟩,
              trivial⟩
          · intro V wz hV hB
            obtain ⟨v16, e16, hD16⟩ : ∃ v', V 16 = .agg #[.int .i64 x.k, .int .u64 (x.n : Int), v', .slice none 0 0] ∧ DB wz wr.heap.size v' x.s := hV 16 (by omega)
            obtain ⟨gb, e17, hB17⟩ : ∃ g, V 17 = .pointer (some ⟨g, 0, none⟩) ∧ BXi wz wr.heap.size g [.int .i64 0, .int .u64 0, .slice none 0 0, .slice none 0 0] := hV 17 (by omega)
            dsimp only [RX.putV, Nat.reduceAdd, List.drop, List.take]
            simp only [Act.put, List.setIfInBounds_toArray, List.set_cons_succ, List.set_cons_zero]
            rw [e16, e17]
            have hne : ∀ gd cs fz, wz.heap[gd]? = some (.cells cs 5 fz) → gd ≠ gb := fun gd cs fz h e => by
              rw [e, hB17.2] at h
              have h := Option.some.inj h
              injection h with _ h _
              exact absurd h (by decide)
            have hth : wz.there gb 0 4 := fun j hj => by
              have e : ∀ k : Nat, k < 4 → (wz.cell? ⟨gb, 0 + k, none⟩).isSome = true ∧ wz.frozen? ⟨gb, 0 + k, none⟩ = false := fun k hk => by
                unfold World.cell? World.frozen?
                simp only [hB17.2, Nat.zero_add]
                obtain rfl | rfl | rfl | rfl : k = 0 ∨ k = 1 ∨ k = 2 ∨ k = 3 := by omega
                all_goals exact ⟨rfl, rfl⟩
              exact e j hj
            have hgbz : gb < wz.heap.size := (Array.getElem?_eq_some_iff.1 hB17.2).1
            obtain ⟨w11, hw11⟩ : ∃ w11, Hid (wz.setCells gb 0 [.int .i64 x.k, .int .u64 (x.n : Int), v16, .slice none 0 0] = w11) := ⟨_, rfl⟩
            have H11 : Hid (Below wr.heap.size wr w11 ∧ RowS w11 gb [.int .i64 x.k, .int .u64 (x.n : Int), v16, .slice none 0 0] ∧ DBn w11 wr.heap.size v16 x.s gb ∧ wr.heap.size ≤ gb) := by
              rw [← hw11.out]
              refine ⟨RG.below_setCells hB17.1 _ _ _ hB, ⟨sc_lt _ _ _ hgbz, World.rangeAt_setCells_same _ _ _ _ hth, World.there_setCells hth _ _ _⟩, ?_, hB17.1⟩
              obtain ⟨gd, capd, csd, fzd, h1, h2, h3, h4, h5⟩ := hD16
              exact ⟨gd, capd, csd, fzd, h1, h2, ⟨hne gd csd fzd h4, h3⟩, by rw [sc_other _ _ (hne gd csd fzd h4)]; exact h4, h5⟩
            obtain ⟨qd, dl, cd, rfl⟩ : ∃ qd dl cd, v16 = .slice qd dl cd := by obtain ⟨gd, capd, csd, fzd, h1, -⟩ := hD16; exact ⟨_, _, _, h1⟩
            refine wpList_store_mid rfl 27 _ _ rfl gb 0 #[.int .i64 x.k, .int .u64 (x.n : Int), .slice qd dl cd, .slice none 0 0] ?_ ?_ hth (by kernel_rfl) (four_one _ _ _ _ _ _ _ _) ?_
            · rfl
            · rfl
            show wpList _ _ _ _ _ (wz.setCells gb 0 [.int .i64 x.k, .int .u64 (x.n : Int), .slice qd dl cd, .slice none 0 0])
            rw [hw11.out]
            clear hV hB hD16 hB17 hne hth hgbz hw11
            dsimp only [Act.put]
            obtain ⟨cs, hrow, hic⟩ := HI.out.row
            rw [hn3.out] at hrow
            obtain ⟨d, hd⟩ : ∃ d, Hid (d + cn = n3) := ⟨n3 - cn, by show _ = _; omega⟩
            obtain ⟨q7, c7, hlo, hlo2, hhi, hhi2⟩ := st_cut hrow hd.out
            have hsub : ∀ X : World, (binOp .sub 3 (.int .i64 (n3 : Int)) (.int .i64 (cn : Int))).run Tryd.prog X = .ok (.int .i64 (d : Int)) X := fun X => by
              have e : (n3 : Int) - (cn : Int) = (d : Int) := by have := hd.out; omega
              have e2 : IntKind.i64.wrap (d : Int) = (d : Int) := by rw [IntKind.wrap_i64]; have := hd.out; omega
              go_simp
              first | done | exact e2 | rw [e2] | rw [e, e2]
            have hcut := IC.cut d (hic wr fun _ _ _ => rfl)
            have hlen2 : Hid ((st.drop d).length = cn ∧ (cs.drop (d * 4)).length = cn * 4 ∧ (st.take d).length = d ∧ (cs.take (d * 4)).length = d * 4) := by
              have h1 := hcut.1.len
              have h2 := hcut.2.len
              have h3 := hn3.out
              have h4 := hd.out
              have h5 : (st.drop d).length = cn := by rw [List.length_drop]; omega
              have h6 : (st.take d).length = d := by rw [List.length_take]; omega
              exact ⟨h5, by rw [h2, h5], h6, by rw [h1, h6]⟩
            have hd8 : Hid (d ≤ 256 ∧ cn ≤ 256) := by have := hd.out; exact ⟨by omega, by omega⟩
            have HC : Hid (ICQ wb.heap.size wr (st.take d) (cs.take (d * 4)) ∧ ICQ wb.heap.size wr (st.drop d) (cs.drop (d * 4))) := ⟨fun W hW => (IC.cut d (hic W hW)).1, fun W hW => (IC.cut d (hic W hW)).2⟩
            have HLO : Hid (∀ X, Below wr.heap.size wr X → (cn = 0 ∨ ∃ b o, q7 = some ⟨b, o, none⟩ ∧ ∀ j u, (cs.drop (d * 4))[j]? = some u → X.cell? ⟨b, o + j, none⟩ = some u)) := fun X hX => by
              rcases hlo2 with h | ⟨b, o, h1, h2, h3⟩
              · exact Or.inl h
              · exact Or.inr ⟨b, o, h1, fun j u hj => by rw [hX.cell (p := ⟨b, _, none⟩) h2]; exact h3 j u hj⟩
            have HHI : Hid (∀ X, Below wr.heap.size wr X → (d = 0 ∨ ∃ b o, q3 = some ⟨b, o, none⟩ ∧ ∀ j u, (cs.take (d * 4))[j]? = some u → X.cell? ⟨b, o + j, none⟩ = some u)) := fun X hX => by
              rcases hhi2 with h | ⟨b, o, h1, h2, h3⟩
              · exact Or.inl h
              · exact Or.inr ⟨b, o, h1, fun j u hj => by rw [hX.cell (p := ⟨b, _, none⟩) h2]; exact h3 j u hj⟩
            clear hcut hlo2 hhi2 hrow hic
            go_upto_region 12 with fail
            refine RX.Gw.last (G12 gb (.slice q3 n3 c3) n3 cn d (.slice q7 cn c7) (cs.drop (d * 4)) w11) 10 (by kernel_rfl) (by kernel_rfl) (by kernel_rfl) ?_ (Below.refl _ w11).drew ?_
            · exact ⟨RX.gw_val fun a X hp => ⟨[(6, .pointer (some ⟨gb, 0, none⟩))], .pointer (some ⟨gb, 3, none⟩), X, ⟨hp.o 6 (by kernel_rfl), trivial⟩, by kernel_rfl, Below.refl _ _, rfl⟩,
                RX.cf_ld1T 25 48 rfl (by kernel_rfl) fun a X hp => ⟨⟨gb, 3, none⟩, .slice none 0 0, hp.n 0 48 (by kernel_rfl) (by kernel_rfl) (by kernel_rfl), (H11.out.2.1.below (hp.b 0 (by kernel_rfl) : Below w11.heap.size w11 X)).cell 3 _ rfl, Below.refl _ _, rfl⟩,
                RX.gw_val fun a X hp => ⟨[(3, .slice q3 n3 c3)], .slice q3 n3 c3, X, ⟨hp.o 3 (by kernel_rfl), trivial⟩, by kernel_rfl, Below.refl _ _, rfl⟩,
                RX.gw_val fun a X hp => ⟨[(3, .slice q3 n3 c3)], .slice q3 n3 c3, X, ⟨hp.o 3 (by kernel_rfl), trivial⟩, by kernel_rfl, Below.refl _ _, rfl⟩,
                RX.gw_val fun a X hp => ⟨[(51, .slice q3 n3 c3)], .int .i64 (n3 : Int), X, ⟨hp.n 3 51 (by kernel_rfl) (by kernel_rfl), trivial⟩, by kernel_rfl, Below.refl _ _, rfl⟩,
                RX.gw_val fun a X hp => ⟨[(5, .int .i64 (cn : Int))], .int .i64 (cn : Int), X, ⟨hp.o 5 (by kernel_rfl), trivial⟩, by kernel_rfl, Below.refl _ _, rfl⟩,
                RX.gw_bin .sub 3 3 52 53 rfl fun a X hp => ⟨_, _, _, hp.n 4 52 (by kernel_rfl) (by kernel_rfl), hp.n 5 53 (by kernel_rfl) (by kernel_rfl), by kernel_rfl, hsub X, rfl⟩,
                RX.cf_sloX 25 50 54 rfl fun a X hp => ⟨_, _, _, hp.n 2 50 (by kernel_rfl) (by kernel_rfl) (by kernel_rfl), hp.n 6 54 (by kernel_rfl) (by kernel_rfl) (by kernel_rfl), hlo X, Below.refl _ _, rfl⟩,
                RX.cf_app 49 55 25 rfl fun a X hp => by
                  have hX : Below w11.heap.size w11 X := hp.b 0 (by kernel_rfl)
                  have e1 : a.eval (.tmp 49) = .slice none 0 0 := hp.n 1 49 (by kernel_rfl) (by kernel_rfl) (by kernel_rfl)
                  have e2 : a.eval (.tmp 55) = .slice q7 cn c7 := hp.n 7 55 (by kernel_rfl) (by kernel_rfl) (by kernel_rfl)
                  obtain ⟨v', W', r1, r2, r3⟩ := it_app (base := w11.heap.size) (W := X) (v := .slice none 0 0) (n := 0) (c := c7) (xs := []) ⟨rfl, Or.inl ⟨rfl, rfl⟩⟩ hlen2.out.2.1 (HLO.out X (H11.out.1.trans (hX.mono H11.out.1.size))) (HC.out.2 wr fun _ _ _ => rfl).one (by have := hd8.out.2; omega) hX.size
                  rw [Nat.zero_add, List.nil_append] at r2
                  rw [e1, e2]
                  exact ⟨v', W', r1, ⟨r3.os, r3.tape, r3.output, r3.size, fun k hk => r3.block k hk (by simp [Value.ownBlock])⟩, r2⟩,
                RX.gw_val fun a X hp => ⟨[(6, .pointer (some ⟨gb, 0, none⟩))], .pointer (some ⟨gb, 3, none⟩), X, ⟨hp.o 6 (by kernel_rfl), trivial⟩, by kernel_rfl, Below.refl _ _, rfl⟩,
                trivial⟩
            · intro V2 wy hV2 hB2
              have h8 : wy.ownsRow w11.heap.size 27 4 (V2 8) cn (cs.drop (d * 4)) := hV2 8 (by omega)
              have e9 : V2 9 = .pointer (some ⟨gb, 3, none⟩) := hV2 9 (by omega)
              have HB2 : Hid (Below w11.heap.size w11 wy) := hB2
              have HR2 := hidW (H11.out.2.1.below hB2)
              dsimp only [RX.putV, Nat.reduceAdd, List.drop, List.take]
              simp only [Act.put, List.setIfInBounds_toArray, List.set_cons_succ, List.set_cons_zero]
              rw [e9]
              obtain ⟨q8, c8, e8⟩ : ∃ q8 c8, V2 8 = .slice q8 cn c8 := by
                rcases h8.2 with ⟨h2, h3⟩ | ⟨g, cap, cur, h2, -⟩
                · exact ⟨none, 0, by rw [h2, h3]⟩
                · exact ⟨_, _, h2⟩
              rw [e8] at h8 ⊢
              have H8 := hidW h8
              have r3 := HR2.out.cell 3 _ rfl
              have f3 := HR2.out.free 3 (Nat.lt_succ_self 3)
              have hgl := HR2.out.1
              clear hV2 hB2 h8 e8 e9
              obtain ⟨w12, hw12⟩ : ∃ w12, Hid (wy.setCell ⟨gb, 3, none⟩ (.slice q8 cn c8) = w12) := ⟨_, rfl⟩
              have HB12 : Hid (Below wr.heap.size wr w12) := by
                rw [← hw12.out]
                exact (H11.out.1.trans (HB2.out.mono H11.out.1.size)).setCell (p := ⟨gb, 3, none⟩) H11.out.2.2.2 _
              have HR12 : Hid (RowS w12 gb [.int .i64 x.k, .int .u64 (x.n : Int), .slice qd dl cd, .slice q8 cn c8]) := by
                rw [← hw12.out]
                exact HR2.out.set 3 (.slice q8 cn c8) (Nat.lt_succ_self 3)
              have HM12 : Hid (IMQ wb.heap.size w12 (.mk x.k x.n x.s.data.toList (st.drop d)) (.slice qd dl cd) (.slice q8 cn c8)) := by
                refine inm_step (gb := gb) (B := w11.heap.size) (B' := wr.heap.size) hxs'.out.1 hxs'.out.2 ?_ hlen2.out.1 hd8.out.2 HC.out.2 HB12.out ?_ (Nat.le_trans HI.out.bl.size H11.out.1.size) HI.out.bl.size
                · refine DBn.keep H11.out.2.2.1 fun k hk hne => ?_
                  rw [← hw12.out, blk_other _ _ _ _ hne, HB2.out.block k hk]
                · rw [← hw12.out]
                  rcases H8.out with ⟨h0, h1 | ⟨g, cap, cur, h1, h2, h3, h4⟩⟩
                  · exact ⟨h0, Or.inl h1⟩
                  · exact ⟨h0, Or.inr ⟨g, cap, cur, h1, h2, by rw [blk_other _ _ _ _ (show g ≠ gb by have := H11.out.2.1.1; omega)]; exact h3, h4⟩⟩
              go_upto_region 13 with fail
              rw [hw12.out]
              clear H11 HB2 HR2 H8 r3 f3 hgl hw12 hlo HLO
              obtain ⟨it, hit⟩ : ∃ it : List Value, Hid ([.int .i64 x.k, .int .u64 (x.n : Int), .slice qd dl cd, .slice q8 cn c8] = it) := ⟨_, rfl⟩
              refine RX.flow_draws (F13 w12 [undef, .slice q3 n3 c3, .slice q3 n3 c3, .int .i64 (n3 : Int), .int .i64 (cn : Int), .int .i64 (d : Int), .slice q3 d c3, undef, .agg #[.int .i64 x.k, .int .u64 (x.n : Int), .slice qd dl cd, .slice q8 cn c8]] d (cs.take (d * 4)) [.int .i64 x.k, .int .u64 (x.n : Int), .slice qd dl cd, .slice q8 cn c8]) (by kernel_rfl) (F13.reg (by kernel_rfl) (by kernel_rfl) (by kernel_rfl) ?_) (fun _ => (Below.refl _ w12).drew) ?_
              · exact ⟨RX.cf_manyT fun a X hp => ⟨[], .slice (some ⟨X.heap.size, 0, none⟩) 0 0, X.alloc (.cells #[] 27), trivial, by kernel_rfl, alloc_below _ _, ⟨X.heap.size, rfl, (hp.b 0 (by kernel_rfl) : Below w12.heap.size w12 X).size, Array.getElem?_push_size⟩⟩,
                  RX.cf_manyT fun a X hp => ⟨[(3, .slice q3 n3 c3)], .slice q3 n3 c3, X, ⟨hp.o 3 (by kernel_rfl), trivial⟩, by kernel_rfl, Below.refl _ _, rfl⟩,
                  RX.cf_manyT fun a X hp => ⟨[(3, .slice q3 n3 c3)], .slice q3 n3 c3, X, ⟨hp.o 3 (by kernel_rfl), trivial⟩, by kernel_rfl, Below.refl _ _, rfl⟩,
                  RX.cf_manyT fun a X hp => ⟨[(60, .slice q3 n3 c3)], .int .i64 (n3 : Int), X, ⟨hp.n 2 60 (by kernel_rfl) (by kernel_rfl) (by kernel_rfl), trivial⟩, by kernel_rfl, Below.refl _ _, rfl⟩,
                  RX.cf_manyT fun a X hp => ⟨[(5, .int .i64 (cn : Int))], .int .i64 (cn : Int), X, ⟨hp.o 5 (by kernel_rfl), trivial⟩, by kernel_rfl, Below.refl _ _, rfl⟩,
                  RX.cf_subX 3 3 61 62 rfl fun a X hp => ⟨_, _, _, hp.n 3 61 (by kernel_rfl) (by kernel_rfl) (by kernel_rfl), hp.n 4 62 (by kernel_rfl) (by kernel_rfl) (by kernel_rfl), hsub X, Below.refl _ _, rfl⟩,
                  RX.cf_shiX 25 59 63 rfl fun a X hp => ⟨_, _, _, hp.n 1 59 (by kernel_rfl) (by kernel_rfl) (by kernel_rfl), hp.n 5 63 (by kernel_rfl) (by kernel_rfl) (by kernel_rfl), hhi X, Below.refl _ _, rfl⟩,
                  RX.cf_app 58 64 25 rfl fun a X hp => by
                    have hX : Below w12.heap.size w12 X := hp.b 0 (by kernel_rfl)
                    obtain ⟨g0, e1, hg1, hg2⟩ : ∃ g, a.eval (.tmp 58) = .slice (some ⟨g, 0, none⟩) 0 0 ∧ w12.heap.size ≤ g ∧ X.heap[g]? = some (.cells #[] 27 (0, 0)) := hp.n 0 58 (by kernel_rfl) (by kernel_rfl) (by kernel_rfl)
                    have e2 : a.eval (.tmp 64) = .slice q3 d c3 := hp.n 6 64 (by kernel_rfl) (by kernel_rfl) (by kernel_rfl)
                    obtain ⟨v', W', r1, r2, r3⟩ := it_app0 (c := c3) hg1 hg2 hlen2.out.2.2.2 (HHI.out X (HB12.out.trans (hX.mono HB12.out.size))) (HC.out.1 wr fun _ _ _ => rfl).one (by have := hd8.out.1; omega) hX.size
                    rw [e1, e2]
                    exact ⟨v', W', r1, r3, r2⟩,
                  RX.cf_load 27 6 rfl (by kernel_rfl) fun a X hp => ⟨gb, 0, [.int .i64 x.k, .int .u64 (x.n : Int), .slice qd dl cd, .slice q8 cn c8], hp.o 6 (by kernel_rfl), (HR12.out.below (hp.b 0 (by kernel_rfl) : Below w12.heap.size w12 X)).2.1, by kernel_rfl, Below.refl _ _, rfl⟩,
                  RX.cf_manyT fun a X hp => ⟨[(66, .agg #[.int .i64 x.k, .int .u64 (x.n : Int), .slice qd dl cd, .slice q8 cn c8])], .slice (some ⟨X.heap.size, 0, none⟩) 1 1, X.alloc (.cells #[.int .i64 x.k, .int .u64 (x.n : Int), .slice qd dl cd, .slice q8 cn c8] 27), ⟨hp.n 8 66 (by kernel_rfl) (by kernel_rfl) (by kernel_rfl), trivial⟩, by kernel_rfl, alloc_below _ _, ⟨X.heap.size, rfl, (hp.b 0 (by kernel_rfl) : Below w12.heap.size w12 X).size, Array.getElem?_push_size⟩⟩,
                  RX.cf_app 65 67 25 rfl fun a X hp => by
                    have hX : Below w12.heap.size w12 X := hp.b 0 (by kernel_rfl)
                    have h7 : X.ownsRow w12.heap.size 27 4 (a.eval (.tmp 65)) d (cs.take (d * 4)) := hp.n 7 65 (by kernel_rfl) (by kernel_rfl) (by kernel_rfl)
                    obtain ⟨g9, e9, hg9⟩ : ∃ g, a.eval (.tmp 67) = .slice (some ⟨g, 0, none⟩) 1 1 ∧ BXi X w12.heap.size g [.int .i64 x.k, .int .u64 (x.n : Int), .slice qd dl cd, .slice q8 cn c8] := hp.n 9 67 (by kernel_rfl) (by kernel_rfl) (by kernel_rfl)
                    obtain ⟨v', W', r1, r2, r3⟩ := it_app (m := 1) (c := 1) (q := some ⟨g9, 0, none⟩) h7 (news := [.int .i64 x.k, .int .u64 (x.n : Int), .slice qd dl cd, .slice q8 cn c8]) rfl (Or.inr ⟨g9, 0, rfl, fun j u hj => by
                      unfold World.cell?
                      simp only [hg9.2, Nat.zero_add]
                      simpa using hj⟩) (fun u hu => by
                        simp only [List.mem_cons, List.not_mem_nil, or_false] at hu
                        rcases hu with rfl | rfl | rfl | rfl <;> rfl) (by have := hd8.out.1; omega) hX.size
                    rw [e9]
                    refine ⟨v', W', r1, ⟨r3.os, r3.tape, r3.output, Nat.le_trans hX.size r3.size |> fun _ => r3.size, fun k hk => r3.block k (Nat.lt_of_lt_of_le hk hX.size) ?_⟩, r2⟩
                    rcases h7.2 with ⟨h0, -⟩ | ⟨g, cap, cur, h0, h1, -⟩
                    · rw [h0]; simp [Value.ownBlock]
                    · rw [h0]; simp only [Value.ownBlock, ne_eq, Option.some.injEq]; omega,
                  RX.cf_manyT fun a X hp => ⟨[(68, a.eval (.tmp 68))], a.eval (.tmp 68), X, ⟨rfl, trivial⟩, by kernel_rfl, Below.refl _ _, (hp.n 10 68 (by kernel_rfl) (by kernel_rfl) (by kernel_rfl) : R13 w12.heap.size d (cs.take (d * 4)) _ 10 _ X)⟩,
                  trivial⟩
              · intro V3 wf hV3 hB3
                have h11 : wf.ownsRow w12.heap.size 27 4 (V3 11) (d + 1) (cs.take (d * 4) ++ [.int .i64 x.k, .int .u64 (x.n : Int), .slice qd dl cd, .slice q8 cn c8]) := hV3 11 (Nat.lt_of_succ_le (Nat.le_of_ble_eq_true (by kernel_rfl))) (by kernel_rfl)
                have hBf : Below w12.heap.size w12 wf := hB3 0 rfl
                have HBI : Hid (BI wb (bst (L.take (j + 1))) (V3 11) wf) := by
                  have hwf := HB12.out.trans (hBf.mono HB12.out.size)
                  have e1 : bst (L.take (j + 1)) = st.take d ++ [.mk x.k x.n x.s.data.toList (st.drop d)] := by
                    rw [bst_take L j x hx'.out, hst.out]
                    unfold stp
                    rw [hxc.out, hcn.out, hn3.out, hmm.out, show n3 - cn = d by have := hd.out; omega]
                  refine ⟨HI.out.bl.trans (hwf.mono HI.out.bl.size), cs.take (d * 4) ++ [.int .i64 x.k, .int .u64 (x.n : Int), .slice qd dl cd, .slice q8 cn c8], ?_, ?_⟩
                  · rw [e1, List.length_append, hlen2.out.2.2.1]
                    exact own_upI h11 (Nat.le_trans HI.out.bl.size HB12.out.size)
                  · rw [e1]
                    intro W hW
                    refine IC.app ?_ (HC.out.1.up hwf W hW)
                    rw [IC]
                    exact ⟨_, _, [], rfl, HM12.out.up hBf W hW, by rw [IC]⟩
                clear h11 hBf
                dsimp only [RX.putV, Nat.reduceAdd]
                simp only [Act.put, List.setIfInBounds_toArray, List.set_cons_succ, List.set_cons_zero]
                obtain ⟨v11, hv11⟩ : ∃ v, Hid (V3 11 = v) := ⟨_, rfl⟩
                rw [hv11.out] at HBI ⊢
                clear hV3 hB3
                go_wp2
                go_roundg (m + 1 - (j + 1))
                case measure => omega
                case rel => exact ⟨j + 1, rfl, by omega, rfl, HBI⟩
      · have hr := cn_pos xc hneg
        rw [hcn.out] at hr
        by_cases hgt : n3 < cn
        · have hgz : (n3 : Int) < (cn : Int) := by omega
          have hmm : Hid (min cn n3 = n3) := by show _ = _; omega
          go_upto_region 11 with fail
          refine RX.Gw.last (G11 (some ⟨b, o0, none⟩) m c j b (o0 + j * 4) x wr.heap.size wr) 18 (by kernel_rfl) (by kernel_rfl) (by kernel_rfl) ?_ (Below.refl _ wr).drew ?_
          · exact ⟨RX.gw_val fun a X hp => ⟨[(0, .slice (some ⟨b, o0, none⟩) m c)], .slice (some ⟨b, o0, none⟩) m c, X, ⟨hp.o 0 (by kernel_rfl), trivial⟩, by kernel_rfl, Below.refl _ _, rfl⟩,
              RX.gw_val fun a X hp => ⟨[(4, .int .i64 (j : Int))], .int .i64 (j : Int), X, ⟨hp.o 4 (by kernel_rfl), trivial⟩, by kernel_rfl, Below.refl _ _, rfl⟩,
              RX.gw_idxX 39 31 32 rfl fun a X hp => ⟨_, _, _, hp.n 0 31 (by kernel_rfl) (by kernel_rfl), hp.n 1 32 (by kernel_rfl) (by kernel_rfl), hix X, rfl⟩,
              RX.gw_val fun a X hp => ⟨[(33, .pointer (some ⟨b, o0 + j * 4, none⟩))], .pointer (some ⟨b, o0 + j * 4, none⟩), X, ⟨hp.n 2 33 (by kernel_rfl) (by kernel_rfl), trivial⟩, by kernel_rfl, Below.refl _ _, rfl⟩,
              RX.cf_ld1T 3 34 rfl (by kernel_rfl) fun a X hp => ⟨⟨b, o0 + j * 4, none⟩, .int .i64 x.k, hp.n 3 34 (by kernel_rfl) (by kernel_rfl) (by kernel_rfl), c0.out X (HI.out.bl.trans ((hp.b 0 (by kernel_rfl) : Below wr.heap.size wr X).mono HI.out.bl.size)), Below.refl _ _, rfl⟩,
              RX.gw_val fun a X hp => ⟨[(0, .slice (some ⟨b, o0, none⟩) m c)], .slice (some ⟨b, o0, none⟩) m c, X, ⟨hp.o 0 (by kernel_rfl), trivial⟩, by kernel_rfl, Below.refl _ _, rfl⟩,
              RX.gw_val fun a X hp => ⟨[(4, .int .i64 (j : Int))], .int .i64 (j : Int), X, ⟨hp.o 4 (by kernel_rfl), trivial⟩, by kernel_rfl, Below.refl _ _, rfl⟩,
              RX.gw_idxX 39 36 37 rfl fun a X hp => ⟨_, _, _, hp.n 5 36 (by kernel_rfl) (by kernel_rfl), hp.n 6 37 (by kernel_rfl) (by kernel_rfl), hix X, rfl⟩,
              RX.gw_val fun a X hp => ⟨[(38, .pointer (some ⟨b, o0 + j * 4, none⟩))], .pointer (some ⟨b, o0 + j * 4 + 1, none⟩), X, ⟨hp.n 7 38 (by kernel_rfl) (by kernel_rfl), trivial⟩, by kernel_rfl, Below.refl _ _, rfl⟩,
              RX.cf_ld1T 24 39 rfl (by kernel_rfl) fun a X hp => ⟨⟨b, o0 + j * 4 + 1, none⟩, .int .u64 (x.n : Int), hp.n 8 39 (by kernel_rfl) (by kernel_rfl) (by kernel_rfl), c1.out X (HI.out.bl.trans ((hp.b 0 (by kernel_rfl) : Below wr.heap.size wr X).mono HI.out.bl.size)), Below.refl _ _, rfl⟩,
              RX.gw_val fun a X hp => ⟨[(0, .slice (some ⟨b, o0, none⟩) m c)], .slice (some ⟨b, o0, none⟩) m c, X, ⟨hp.o 0 (by kernel_rfl), trivial⟩, by kernel_rfl, Below.refl _ _, rfl⟩,
              RX.gw_val fun a X hp => ⟨[(4, .int .i64 (j : Int))], .int .i64 (j : Int), X, ⟨hp.o 4 (by kernel_rfl), trivial⟩, by kernel_rfl, Below.refl _ _, rfl⟩,
              RX.gw_idxX 39 41 42 rfl fun a X hp => ⟨_, _, _, hp.n 10 41 (by kernel_rfl) (by kernel_rfl), hp.n 11 42 (by kernel_rfl) (by kernel_rfl), hix X, rfl⟩,
              RX.gw_val fun a X hp => ⟨[(43, .pointer (some ⟨b, o0 + j * 4, none⟩))], .pointer (some ⟨b, o0 + j * 4 + 2, none⟩), X, ⟨hp.n 12 43 (by kernel_rfl) (by kernel_rfl), trivial⟩, by kernel_rfl, Below.refl _ _, rfl⟩,
              RX.cf_ld1T 9 44 rfl (by kernel_rfl) fun a X hp => ⟨⟨b, o0 + j * 4 + 2, none⟩, .string x.s, hp.n 13 44 (by kernel_rfl) (by kernel_rfl) (by kernel_rfl), c2.out X (HI.out.bl.trans ((hp.b 0 (by kernel_rfl) : Below wr.heap.size wr X).mono HI.out.bl.size)), Below.refl _ _, rfl⟩,
              RX.gw_cnvM 9 22 45 rfl fun a X hp => by
                obtain ⟨v, w', h1, h2, h3⟩ := conv_DB x.s X wr.heap.size (hp.b : Below wr.heap.size wr X).size
                exact ⟨_, v, w', hp.n 14 45 (by kernel_rfl) (by kernel_rfl), h1, h3, h2⟩,
              RX.gw_val fun a X hp => by
                have h15 : DB X wr.heap.size _ x.s := hp.n 15 46 (by kernel_rfl) (by kernel_rfl)
                have h15' := h15
                obtain ⟨gd, capd, csd, fzd, hv, -⟩ := h15
                refine ⟨[(35, .int .i64 x.k), (40, .int .u64 (x.n : Int)), (46, .slice (some ⟨gd, 0, none⟩) x.s.size capd)], .agg #[.int .i64 x.k, .int .u64 (x.n : Int), .slice (some ⟨gd, 0, none⟩) x.s.size capd, .slice none 0 0], X, ⟨hp.n 4 35 (by kernel_rfl) (by kernel_rfl), hp.n 9 40 (by kernel_rfl) (by kernel_rfl), hv, trivial⟩, by kernel_rfl, Below.refl _ _, ?_⟩
                exact ⟨_, rfl, by rw [← hv]; exact h15'⟩,
              RX.gw_val fun a X hp => ⟨[], .pointer (some ⟨X.heap.size, 0, none⟩), X.alloc (.cells #[.int .i64 0, .int .u64 0, .slice none 0 0, .slice none 0 0] 27), trivial, by kernel_rfl, alloc_below _ _, ⟨X.heap.size, rfl, (hp.b : Below wr.heap.size wr X).size, Array.getElem?_push_size⟩⟩,
              trivial⟩
          · intro V wz hV hB
            obtain ⟨v16, e16, hD16⟩ : ∃ v', V 16 = .agg #[.int .i64 x.k, .int .u64 (x.n : Int), v', .slice none 0 0] ∧ DB wz wr.heap.size v' x.s := hV 16 (by omega)
            obtain ⟨gb, e17, hB17⟩ : ∃ g, V 17 = .pointer (some ⟨g, 0, none⟩) ∧ BXi wz wr.heap.size g [.int .i64 0, .int .u64 0, .slice none 0 0, .slice none 0 0] := hV 17 (by omega)
            dsimp only [RX.putV, Nat.reduceAdd, List.drop, List.take]
            simp only [Act.put, List.setIfInBounds_toArray, List.set_cons_succ, List.set_cons_zero]
            rw [e16, e17]
            have hne : ∀ gd cs fz, wz.heap[gd]? = some (.cells cs 5 fz) → gd ≠ gb := fun gd cs fz h e => by
              rw [e, hB17.2] at h
              have h := Option.some.inj h
              injection h with _ h _
              exact absurd h (by decide)
            have hth : wz.there gb 0 4 := fun j hj => by
              have e : ∀ k : Nat, k < 4 → (wz.cell? ⟨gb, 0 + k, none⟩).isSome = true ∧ wz.frozen? ⟨gb, 0 + k, none⟩ = false := fun k hk => by
                unfold World.cell? World.frozen?
                simp only [hB17.2, Nat.zero_add]
                obtain rfl | rfl | rfl | rfl : k = 0 ∨ k = 1 ∨ k = 2 ∨ k = 3 := by omega
                all_goals exact ⟨rfl, rfl⟩
              exact e j hj
            have hgbz : gb < wz.heap.size := (Array.getElem?_eq_some_iff.1 hB17.2).1
            obtain ⟨w11, hw11⟩ : ∃ w11, Hid (wz.setCells gb 0 [.int .i64 x.k, .int .u64 (x.n : Int), v16, .slice none 0 0] = w11) := ⟨_, rfl⟩
            have H11 : Hid (Below wr.heap.size wr w11 ∧ RowS w11 gb [.int .i64 x.k, .int .u64 (x.n : Int), v16, .slice none 0 0] ∧ DBn w11 wr.heap.size v16 x.s gb ∧ wr.heap.size ≤ gb) := by
              rw [← hw11.out]
              refine ⟨RG.below_setCells hB17.1 _ _ _ hB, ⟨sc_lt _ _ _ hgbz, World.rangeAt_setCells_same _ _ _ _ hth, World.there_setCells hth _ _ _⟩, ?_, hB17.1⟩
              obtain ⟨gd, capd, csd, fzd, h1, h2, h3, h4, h5⟩ := hD16
              exact ⟨gd, capd, csd, fzd, h1, h2, ⟨hne gd csd fzd h4, h3⟩, by rw [sc_other _ _ (hne gd csd fzd h4)]; exact h4, h5⟩
            obtain ⟨qd, dl, cd, rfl⟩ : ∃ qd dl cd, v16 = .slice qd dl cd := by obtain ⟨gd, capd, csd, fzd, h1, -⟩ := hD16; exact ⟨_, _, _, h1⟩
            refine wpList_store_mid rfl 27 _ _ rfl gb 0 #[.int .i64 x.k, .int .u64 (x.n : Int), .slice qd dl cd, .slice none 0 0] ?_ ?_ hth (by kernel_rfl) (four_one _ _ _ _ _ _ _ _) ?_
            · rfl
            · rfl
            show wpList _ _ _ _ _ (wz.setCells gb 0 [.int .i64 x.k, .int .u64 (x.n : Int), .slice qd dl cd, .slice none 0 0])
            rw [hw11.out]
            clear hV hB hD16 hB17 hne hth hgbz hw11
            dsimp only [Act.put]
            obtain ⟨cs, hrow, hic⟩ := HI.out.row
            rw [hn3.out] at hrow
            obtain ⟨d, hd⟩ : ∃ d, Hid (d + n3 = n3) := ⟨n3 - n3, by show _ = _; omega⟩
            obtain ⟨q7, c7, hlo, hlo2, hhi, hhi2⟩ := st_cut hrow hd.out
            have hsub : ∀ X : World, (binOp .sub 3 (.int .i64 (n3 : Int)) (.int .i64 (n3 : Int))).run Tryd.prog X = .ok (.int .i64 (d : Int)) X := fun X => by
              have e : (n3 : Int) - (n3 : Int) = (d : Int) := by have := hd.out; omega
              have e2 : IntKind.i64.wrap (d : Int) = (d : Int) := by rw [IntKind.wrap_i64]; have := hd.out; omega
              go_simp
              first | done | exact e2 | rw [e2] | rw [e, e2]
            have hcut := IC.cut d (hic wr fun _ _ _ => rfl)
            have hlen2 : Hid ((st.drop d).length = n3 ∧ (cs.drop (d * 4)).length = n3 * 4 ∧ (st.take d).length = d ∧ (cs.take (d * 4)).length = d * 4) := by
              have h1 := hcut.1.len
              have h2 := hcut.2.len
              have h3 := hn3.out
              have h4 := hd.out
              have h5 : (st.drop d).length = n3 := by rw [List.length_drop]; omega
              have h6 : (st.take d).length = d := by rw [List.length_take]; omega
              exact ⟨h5, by rw [h2, h5], h6, by rw [h1, h6]⟩
            have hd8 : Hid (d ≤ 256 ∧ n3 ≤ 256) := by have := hd.out; exact ⟨by omega, by omega⟩
            have HC : Hid (ICQ wb.heap.size wr (st.take d) (cs.take (d * 4)) ∧ ICQ wb.heap.size wr (st.drop d) (cs.drop (d * 4))) := ⟨fun W hW => (IC.cut d (hic W hW)).1, fun W hW => (IC.cut d (hic W hW)).2⟩
            have HLO : Hid (∀ X, Below wr.heap.size wr X → (n3 = 0 ∨ ∃ b o, q7 = some ⟨b, o, none⟩ ∧ ∀ j u, (cs.drop (d * 4))[j]? = some u → X.cell? ⟨b, o + j, none⟩ = some u)) := fun X hX => by
              rcases hlo2 with h | ⟨b, o, h1, h2, h3⟩
              · exact Or.inl h
              · exact Or.inr ⟨b, o, h1, fun j u hj => by rw [hX.cell (p := ⟨b, _, none⟩) h2]; exact h3 j u hj⟩
            have HHI : Hid (∀ X, Below wr.heap.size wr X → (d = 0 ∨ ∃ b o, q3 = some ⟨b, o, none⟩ ∧ ∀ j u, (cs.take (d * 4))[j]? = some u → X.cell? ⟨b, o + j, none⟩ = some u)) := fun X hX => by
              rcases hhi2 with h | ⟨b, o, h1, h2, h3⟩
              · exact Or.inl h
              · exact Or.inr ⟨b, o, h1, fun j u hj => by rw [hX.cell (p := ⟨b, _, none⟩) h2]; exact h3 j u hj⟩
            clear hcut hlo2 hhi2 hrow hic
            go_upto_region 12 with fail
            refine RX.Gw.last (G12 gb (.slice q3 n3 c3) n3 n3 d (.slice q7 n3 c7) (cs.drop (d * 4)) w11) 10 (by kernel_rfl) (by kernel_rfl) (by kernel_rfl) ?_ (Below.refl _ w11).drew ?_
            · exact ⟨RX.gw_val fun a X hp => ⟨[(6, .pointer (some ⟨gb, 0, none⟩))], .pointer (some ⟨gb, 3, none⟩), X, ⟨hp.o 6 (by kernel_rfl), trivial⟩, by kernel_rfl, Below.refl _ _, rfl⟩,
                RX.cf_ld1T 25 48 rfl (by kernel_rfl) fun a X hp => ⟨⟨gb, 3, none⟩, .slice none 0 0, hp.n 0 48 (by kernel_rfl) (by kernel_rfl) (by kernel_rfl), (H11.out.2.1.below (hp.b 0 (by kernel_rfl) : Below w11.heap.size w11 X)).cell 3 _ rfl, Below.refl _ _, rfl⟩,
                RX.gw_val fun a X hp => ⟨[(3, .slice q3 n3 c3)], .slice q3 n3 c3, X, ⟨hp.o 3 (by kernel_rfl), trivial⟩, by kernel_rfl, Below.refl _ _, rfl⟩,
                RX.gw_val fun a X hp => ⟨[(3, .slice q3 n3 c3)], .slice q3 n3 c3, X, ⟨hp.o 3 (by kernel_rfl), trivial⟩, by kernel_rfl, Below.refl _ _, rfl⟩,
                RX.gw_val fun a X hp => ⟨[(51, .slice q3 n3 c3)], .int .i64 (n3 : Int), X, ⟨hp.n 3 51 (by kernel_rfl) (by kernel_rfl), trivial⟩, by kernel_rfl, Below.refl _ _, rfl⟩,
                RX.gw_val fun a X hp => ⟨[(5, .int .i64 (n3 : Int))], .int .i64 (n3 : Int), X, ⟨hp.o 5 (by kernel_rfl), trivial⟩, by kernel_rfl, Below.refl _ _, rfl⟩,
                RX.gw_bin .sub 3 3 52 53 rfl fun a X hp => ⟨_, _, _, hp.n 4 52 (by kernel_rfl) (by kernel_rfl), hp.n 5 53 (by kernel_rfl) (by kernel_rfl), by kernel_rfl, hsub X, rfl⟩,
                RX.cf_sloX 25 50 54 rfl fun a X hp => ⟨_, _, _, hp.n 2 50 (by kernel_rfl) (by kernel_rfl) (by kernel_rfl), hp.n 6 54 (by kernel_rfl) (by kernel_rfl) (by kernel_rfl), hlo X, Below.refl _ _, rfl⟩,
                RX.cf_app 49 55 25 rfl fun a X hp => by
                  have hX : Below w11.heap.size w11 X := hp.b 0 (by kernel_rfl)
                  have e1 : a.eval (.tmp 49) = .slice none 0 0 := hp.n 1 49 (by kernel_rfl) (by kernel_rfl) (by kernel_rfl)
                  have e2 : a.eval (.tmp 55) = .slice q7 n3 c7 := hp.n 7 55 (by kernel_rfl) (by kernel_rfl) (by kernel_rfl)
                  obtain ⟨v', W', r1, r2, r3⟩ := it_app (base := w11.heap.size) (W := X) (v := .slice none 0 0) (n := 0) (c := c7) (xs := []) ⟨rfl, Or.inl ⟨rfl, rfl⟩⟩ hlen2.out.2.1 (HLO.out X (H11.out.1.trans (hX.mono H11.out.1.size))) (HC.out.2 wr fun _ _ _ => rfl).one (by have := hd8.out.2; omega) hX.size
                  rw [Nat.zero_add, List.nil_append] at r2
                  rw [e1, e2]
                  exact ⟨v', W', r1, ⟨r3.os, r3.tape, r3.output, r3.size, fun k hk => r3.block k hk (by simp [Value.ownBlock])⟩, r2⟩,
                RX.gw_val fun a X hp => ⟨[(6, .pointer (some ⟨gb, 0, none⟩))], .pointer (some ⟨gb, 3, none⟩), X, ⟨hp.o 6 (by kernel_rfl), trivial⟩, by kernel_rfl, Below.refl _ _, rfl⟩,
                trivial⟩
            · intro V2 wy hV2 hB2
              have h8 : wy.ownsRow w11.heap.size 27 4 (V2 8) n3 (cs.drop (d * 4)) := hV2 8 (by omega)
              have e9 : V2 9 = .pointer (some ⟨gb, 3, none⟩) := hV2 9 (by omega)
              have HB2 : Hid (Below w11.heap.size w11 wy) := hB2
              have HR2 := hidW (H11.out.2.1.below hB2)
              dsimp only [RX.putV, Nat.reduceAdd, List.drop, List.take]
              simp only [Act.put, List.setIfInBounds_toArray, List.set_cons_succ, List.set_cons_zero]
              rw [e9]
              obtain ⟨q8, c8, e8⟩ : ∃ q8 c8, V2 8 = .slice q8 n3 c8 := by
                rcases h8.2 with ⟨h2, h3⟩ | ⟨g, cap, cur, h2, -⟩
                · exact ⟨none, 0, by rw [h2, h3]⟩
                · exact ⟨_, _, h2⟩
              rw [e8] at h8 ⊢
              have H8 := hidW h8
              have r3 := HR2.out.cell 3 _ rfl
              have f3 := HR2.out.free 3 (Nat.lt_succ_self 3)
              have hgl := HR2.out.1
              clear hV2 hB2 h8 e8 e9
              obtain ⟨w12, hw12⟩ : ∃ w12, Hid (wy.setCell ⟨gb, 3, none⟩ (.slice q8 n3 c8) = w12) := ⟨_, rfl⟩
              have HB12 : Hid (Below wr.heap.size wr w12) := by
                rw [← hw12.out]
                exact (H11.out.1.trans (HB2.out.mono H11.out.1.size)).setCell (p := ⟨gb, 3, none⟩) H11.out.2.2.2 _
              have HR12 : Hid (RowS w12 gb [.int .i64 x.k, .int .u64 (x.n : Int), .slice qd dl cd, .slice q8 n3 c8]) := by
                rw [← hw12.out]
                exact HR2.out.set 3 (.slice q8 n3 c8) (Nat.lt_succ_self 3)
              have HM12 : Hid (IMQ wb.heap.size w12 (.mk x.k x.n x.s.data.toList (st.drop d)) (.slice qd dl cd) (.slice q8 n3 c8)) := by
                refine inm_step (gb := gb) (B := w11.heap.size) (B' := wr.heap.size) hxs'.out.1 hxs'.out.2 ?_ hlen2.out.1 hd8.out.2 HC.out.2 HB12.out ?_ (Nat.le_trans HI.out.bl.size H11.out.1.size) HI.out.bl.size
                · refine DBn.keep H11.out.2.2.1 fun k hk hne => ?_
                  rw [← hw12.out, blk_other _ _ _ _ hne, HB2.out.block k hk]
                · rw [← hw12.out]
                  rcases H8.out with ⟨h0, h1 | ⟨g, cap, cur, h1, h2, h3, h4⟩⟩
                  · exact ⟨h0, Or.inl h1⟩
                  · exact ⟨h0, Or.inr ⟨g, cap, cur, h1, h2, by rw [blk_other _ _ _ _ (show g ≠ gb by have := H11.out.2.1.1; omega)]; exact h3, h4⟩⟩
              go_upto_region 13 with fail
              rw [hw12.out]
              clear H11 HB2 HR2 H8 r3 f3 hgl hw12 hlo HLO
              obtain ⟨it, hit⟩ : ∃ it : List Value, Hid ([.int .i64 x.k, .int .u64 (x.n : Int), .slice qd dl cd, .slice q8 n3 c8] = it) := ⟨_, rfl⟩
              refine RX.flow_draws (F13 w12 [undef, .slice q3 n3 c3, .slice q3 n3 c3, .int .i64 (n3 : Int), .int .i64 (n3 : Int), .int .i64 (d : Int), .slice q3 d c3, undef, .agg #[.int .i64 x.k, .int .u64 (x.n : Int), .slice qd dl cd, .slice q8 n3 c8]] d (cs.take (d * 4)) [.int .i64 x.k, .int .u64 (x.n : Int), .slice qd dl cd, .slice q8 n3 c8]) (by kernel_rfl) (F13.reg (by kernel_rfl) (by kernel_rfl) (by kernel_rfl) ?_) (fun _ => (Below.refl _ w12).drew) ?_
              · exact ⟨RX.cf_manyT fun a X hp => ⟨[], .slice (some ⟨X.heap.size, 0, none⟩) 0 0, X.alloc (.cells #[] 27), trivial, by kernel_rfl, alloc_below _ _, ⟨X.heap.size, rfl, (hp.b 0 (by kernel_rfl) : Below w12.heap.size w12 X).size, Array.getElem?_push_size⟩⟩,
                  RX.cf_manyT fun a X hp => ⟨[(3, .slice q3 n3 c3)], .slice q3 n3 c3, X, ⟨hp.o 3 (by kernel_rfl), trivial⟩, by kernel_rfl, Below.refl _ _, rfl⟩,
                  RX.cf_manyT fun a X hp => ⟨[(3, .slice q3 n3 c3)], .slice q3 n3 c3, X, ⟨hp.o 3 (by kernel_rfl), trivial⟩, by kernel_rfl, Below.refl _ _, rfl⟩,
                  RX.cf_manyT fun a X hp => ⟨[(60, .slice q3 n3 c3)], .int .i64 (n3 : Int), X, ⟨hp.n 2 60 (by kernel_rfl) (by kernel_rfl) (by kernel_rfl), trivial⟩, by kernel_rfl, Below.refl _ _, rfl⟩,
                  RX.cf_manyT fun a X hp => ⟨[(5, .int .i64 (n3 : Int))], .int .i64 (n3 : Int), X, ⟨hp.o 5 (by kernel_rfl), trivial⟩, by kernel_rfl, Below.refl _ _, rfl⟩,
                  RX.cf_subX 3 3 61 62 rfl fun a X hp => ⟨_, _, _, hp.n 3 61 (by kernel_rfl) (by kernel_rfl) (by kernel_rfl), hp.n 4 62 (by kernel_rfl) (by kernel_rfl) (by kernel_rfl), hsub X, Below.refl _ _, rfl⟩,
                  RX.cf_shiX 25 59 63 rfl fun a X hp => ⟨_, _, _, hp.n 1 59 (by kernel_rfl) (by kernel_rfl) (by kernel_rfl), hp.n 5 63 (by kernel_rfl) (by kernel_rfl) (by kernel_rfl), hhi X, Below.refl _ _, rfl⟩,
                  RX.cf_app 58 64 25 rfl fun a X hp => by
                    have hX : Below w12.heap.size w12 X := hp.b 0 (by kernel_rfl)
                    obtain ⟨g0, e1, hg1, hg2⟩ : ∃ g, a.eval (.tmp 58) = .slice (some ⟨g, 0, none⟩) 0 0 ∧ w12.heap.size ≤ g ∧ X.heap[g]? = some (.cells #[] 27 (0, 0)) := hp.n 0 58 (by kernel_rfl) (by kernel_rfl) (by kernel_rfl)
                    have e2 : a.eval (.tmp 64) = .slice q3 d c3 := hp.n 6 64 (by kernel_rfl) (by kernel_rfl) (by kernel_rfl)
                    obtain ⟨v', W', r1, r2, r3⟩ := it_app0 (c := c3) hg1 hg2 hlen2.out.2.2.2 (HHI.out X (HB12.out.trans (hX.mono HB12.out.size))) (HC.out.1 wr fun _ _ _ => rfl).one (by have := hd8.out.1; omega) hX.size
                    rw [e1, e2]
                    exact ⟨v', W', r1, r3, r2⟩,
                  RX.cf_load 27 6 rfl (by kernel_rfl) fun a X hp => ⟨gb, 0, [.int .i64 x.k, .int .u64 (x.n : Int), .slice qd dl cd, .slice q8 n3 c8], hp.o 6 (by kernel_rfl), (HR12.out.below (hp.b 0 (by kernel_rfl) : Below w12.heap.size w12 X)).2.1, by kernel_rfl, Below.refl _ _, rfl⟩,
                  RX.cf_manyT fun a X hp => ⟨[(66, .agg #[.int .i64 x.k, .int .u64 (x.n : Int), .slice qd dl cd, .slice q8 n3 c8])], .slice (some ⟨X.heap.size, 0, none⟩) 1 1, X.alloc (.cells #[.int .i64 x.k, .int .u64 (x.n : Int), .slice qd dl cd, .slice q8 n3 c8] 27), ⟨hp.n 8 66 (by kernel_rfl) (by kernel_rfl) (by kernel_rfl), trivial⟩, by kernel_rfl, alloc_below _ _, ⟨X.heap.size, rfl, (hp.b 0 (by kernel_rfl) : Below w12.heap.size w12 X).size, Array.getElem?_push_size⟩⟩,
                  RX.cf_app 65 67 25 rfl fun a X hp => by
                    have hX : Below w12.heap.size w12 X := hp.b 0 (by kernel_rfl)
                    have h7 : X.ownsRow w12.heap.size 27 4 (a.eval (.tmp 65)) d (cs.take (d * 4)) := hp.n 7 65 (by kernel_rfl) (by kernel_rfl) (by kernel_rfl)
                    obtain ⟨g9, e9, hg9⟩ : ∃ g, a.eval (.tmp 67) = .slice (some ⟨g, 0, none⟩) 1 1 ∧ BXi X w12.heap.size g [.int .i64 x.k, .int .u64 (x.n : Int), .slice qd dl cd, .slice q8 n3 c8] := hp.n 9 67 (by kernel_rfl) (by kernel_rfl) (by kernel_rfl)
                    obtain ⟨v', W', r1, r2, r3⟩ := it_app (m := 1) (c := 1) (q := some ⟨g9, 0, none⟩) h7 (news := [.int .i64 x.k, .int .u64 (x.n : Int), .slice qd dl cd, .slice q8 n3 c8]) rfl (Or.inr ⟨g9, 0, rfl, fun j u hj => by
                      unfold World.cell?
                      simp only [hg9.2, Nat.zero_add]
                      simpa using hj⟩) (fun u hu => by
                        simp only [List.mem_cons, List.not_mem_nil, or_false] at hu
                        rcases hu with rfl | rfl | rfl | rfl <;> rfl) (by have := hd8.out.1; omega) hX.size
                    rw [e9]
                    refine ⟨v', W', r1, ⟨r3.os, r3.tape, r3.output, Nat.le_trans hX.size r3.size |> fun _ => r3.size, fun k hk => r3.block k (Nat.lt_of_lt_of_le hk hX.size) ?_⟩, r2⟩
                    rcases h7.2 with ⟨h0, -⟩ | ⟨g, cap, cur, h0, h1, -⟩
                    · rw [h0]; simp [Value.ownBlock]
                    · rw [h0]; simp only [Value.ownBlock, ne_eq, Option.some.injEq]; omega,
                  RX.cf_manyT fun a X hp => ⟨[(68, a.eval (.tmp 68))], a.eval (.tmp 68), X, ⟨rfl, trivial⟩, by kernel_rfl, Below.refl _ _, (hp.n 10 68 (by kernel_rfl) (by kernel_rfl) (by kernel_rfl) : R13 w12.heap.size d (cs.take (d * 4)) _ 10 _ X)⟩,
                  trivial⟩
              · intro V3 wf hV3 hB3
                have h11 : wf.ownsRow w12.heap.size 27 4 (V3 11) (d + 1) (cs.take (d * 4) ++ [.int .i64 x.k, .int .u64 (x.n : Int), .slice qd dl cd, .slice q8 n3 c8]) := hV3 11 (Nat.lt_of_succ_le (Nat.le_of_ble_eq_true (by kernel_rfl))) (by kernel_rfl)
                have hBf : Below w12.heap.size w12 wf := hB3 0 rfl
                have HBI : Hid (BI wb (bst (L.take (j + 1))) (V3 11) wf) := by
                  have hwf := HB12.out.trans (hBf.mono HB12.out.size)
                  have e1 : bst (L.take (j + 1)) = st.take d ++ [.mk x.k x.n x.s.data.toList (st.drop d)] := by
                    rw [bst_take L j x hx'.out, hst.out]
                    unfold stp
                    rw [hxc.out, hcn.out, hn3.out, hmm.out, show n3 - n3 = d by have := hd.out; omega]
                  refine ⟨HI.out.bl.trans (hwf.mono HI.out.bl.size), cs.take (d * 4) ++ [.int .i64 x.k, .int .u64 (x.n : Int), .slice qd dl cd, .slice q8 n3 c8], ?_, ?_⟩
                  · rw [e1, List.length_append, hlen2.out.2.2.1]
                    exact own_upI h11 (Nat.le_trans HI.out.bl.size HB12.out.size)
                  · rw [e1]
                    intro W hW
                    refine IC.app ?_ (HC.out.1.up hwf W hW)
                    rw [IC]
                    exact ⟨_, _, [], rfl, HM12.out.up hBf W hW, by rw [IC]⟩
                clear h11 hBf
                dsimp only [RX.putV, Nat.reduceAdd]
                simp only [Act.put, List.setIfInBounds_toArray, List.set_cons_succ, List.set_cons_zero]
                obtain ⟨v11, hv11⟩ : ∃ v, Hid (V3 11 = v) := ⟨_, rfl⟩
                rw [hv11.out] at HBI ⊢
                clear hV3 hB3
                go_wp2
                go_roundg (m + 1 - (j + 1))
                case measure => omega
                case rel => exact ⟨j + 1, rfl, by omega, rfl, HBI⟩
        · have hgz : ¬ (n3 : Int) < (cn : Int) := by omega
          have hmm : Hid (min cn n3 = cn) := by show _ = _; omega
          go_upto_region 11 with fail
          refine RX.Gw.last (G11 (some ⟨b, o0, none⟩) m c j b (o0 + j * 4) x wr.heap.size wr) 18 (by kernel_rfl) (by kernel_rfl) (by kernel_rfl) ?_ (Below.refl _ wr).drew ?_
          · exact ⟨RX.gw_val fun a X hp => ⟨[(0, .slice (some ⟨b, o0, none⟩) m c)], .slice (some ⟨b, o0, none⟩) m c, X, ⟨hp.o 0 (by kernel_rfl), trivial⟩, by kernel_rfl, Below.refl _ _, rfl⟩,
              RX.gw_val fun a X hp => ⟨[(4, .int .i64 (j : Int))], .int .i64 (j : Int), X, ⟨hp.o 4 (by kernel_rfl), trivial⟩, by kernel_rfl, Below.refl _ _, rfl⟩,
              RX.gw_idxX 39 31 32 rfl fun a X hp => ⟨_, _, _, hp.n 0 31 (by kernel_rfl) (by kernel_rfl), hp.n 1 32 (by kernel_rfl) (by kernel_rfl), hix X, rfl⟩,
              RX.gw_val fun a X hp => ⟨[(33, .pointer (some ⟨b, o0 + j * 4, none⟩))], .pointer (some ⟨b, o0 + j * 4, none⟩), X, ⟨hp.n 2 33 (by kernel_rfl) (by kernel_rfl), trivial⟩, by kernel_rfl, Below.refl _ _, rfl⟩,
              RX.cf_ld1T 3 34 rfl (by kernel_rfl) fun a X hp => ⟨⟨b, o0 + j * 4, none⟩, .int .i64 x.k, hp.n 3 34 (by kernel_rfl) (by kernel_rfl) (by kernel_rfl), c0.out X (HI.out.bl.trans ((hp.b 0 (by kernel_rfl) : Below wr.heap.size wr X).mono HI.out.bl.size)), Below.refl _ _, rfl⟩,
              RX.gw_val fun a X hp => ⟨[(0, .slice (some ⟨b, o0, none⟩) m c)], .slice (some ⟨b, o0, none⟩) m c, X, ⟨hp.o 0 (by kernel_rfl), trivial⟩, by kernel_rfl, Below.refl _ _, rfl⟩,
              RX.gw_val fun a X hp => ⟨[(4, .int .i64 (j : Int))], .int .i64 (j : Int), X, ⟨hp.o 4 (by kernel_rfl), trivial⟩, by kernel_rfl, Below.refl _ _, rfl⟩,
              RX.gw_idxX 39 36 37 rfl fun a X hp => ⟨_, _, _, hp.n 5 36 (by kernel_rfl) (by kernel_rfl), hp.n 6 37 (by kernel_rfl) (by kernel_rfl), hix X, rfl⟩,
              RX.gw_val fun a X hp => ⟨[(38, .pointer (some ⟨b, o0 + j * 4, none⟩))], .pointer (some ⟨b, o0 + j * 4 + 1, none⟩), X, ⟨hp.n 7 38 (by kernel_rfl) (by kernel_rfl), trivial⟩, by kernel_rfl, Below.refl _ _, rfl⟩,
              RX.cf_ld1T 24 39 rfl (by kernel_rfl) fun a X hp => ⟨⟨b, o0 + j * 4 + 1, none⟩, .int .u64 (x.n : Int), hp.n 8 39 (by kernel_rfl) (by kernel_rfl) (by kernel_rfl), c1.out X (HI.out.bl.trans ((hp.b 0 (by kernel_rfl) : Below wr.heap.size wr X).mono HI.out.bl.size)), Below.refl _ _, rfl⟩,
              RX.gw_val fun a X hp => ⟨[(0, .slice (some ⟨b, o0, none⟩) m c)], .slice (some ⟨b, o0, none⟩) m c, X, ⟨hp.o 0 (by kernel_rfl), trivial⟩, by kernel_rfl, Below.refl _ _, rfl⟩,
              RX.gw_val fun a X hp => ⟨[(4, .int .i64 (j : Int))], .int .i64 (j : Int), X, ⟨hp.o 4 (by kernel_rfl), trivial⟩, by kernel_rfl, Below.refl _ _, rfl⟩,
              RX.gw_idxX 39 41 42 rfl fun a X hp => ⟨_, _, _, hp.n 10 41 (by kernel_rfl) (by kernel_rfl), hp.n 11 42 (by kernel_rfl) (by kernel_rfl), hix X, rfl⟩,
              RX.gw_val fun a X hp => ⟨[(43, .pointer (some ⟨b, o0 + j * 4, none⟩))], .pointer (some ⟨b, o0 + j * 4 + 2, none⟩), X, ⟨hp.n 12 43 (by kernel_rfl) (by kernel_rfl), trivial⟩, by kernel_rfl, Below.refl _ _, rfl⟩,
              RX.cf_ld1T 9 44 rfl (by kernel_rfl) fun a X hp => ⟨⟨b, o0 + j * 4 + 2, none⟩, .string x.s, hp.n 13 44 (by kernel_rfl) (by kernel_rfl) (by kernel_rfl), c2.out X (HI.out.bl.trans ((hp.b 0 (by kernel_rfl) : Below wr.heap.size wr X).mono HI.out.bl.size)), Below.refl _ _, rfl⟩,
              RX.gw_cnvM 9 22 45 rfl fun a X hp => by
                obtain ⟨v, w', h1, h2, h3⟩ := conv_DB x.s X wr.heap.size (hp.b : Below wr.heap.size wr X).size
                exact ⟨_, v, w', hp.n 14 45 (by kernel_rfl) (by kernel_rfl), h1, h3, h2⟩,
              RX.gw_val fun a X hp => by
                have h15 : DB X wr.heap.size _ x.s := hp.n 15 46 (by kernel_rfl) (by kernel_rfl)
                have h15' := h15
                obtain ⟨gd, capd, csd, fzd, hv, -⟩ := h15
                refine ⟨[(35, .int .i64 x.k), (40, .int .u64 (x.n : Int)), (46, .slice (some ⟨gd, 0, none⟩) x.s.size capd)], .agg #[.int .i64 x.k, .int .u64 (x.n : Int), .slice (some ⟨gd, 0, none⟩) x.s.size capd, .slice none 0 0], X, ⟨hp.n 4 35 (by kernel_rfl) (by kernel_rfl), hp.n 9 40 (by kernel_rfl) (by kernel_rfl), hv, trivial⟩, by kernel_rfl, Below.refl _ _, ?_⟩
                exact ⟨_, rfl, by rw [← hv]; exact h15'⟩,
              RX.gw_val fun a X hp => ⟨[], .pointer (some ⟨X.heap.size, 0, none⟩), X.alloc (.cells #[.int .i64 0, .int .u64 0, .slice none 0 0, .slice none 0 0] 27), trivial, by kernel_rfl, alloc_below _ _, ⟨X.heap.size, rfl, (hp.b : Below wr.heap.size wr X).size, Array.getElem?_push_size⟩⟩,
              trivial⟩
          · intro V wz hV hB
            obtain ⟨v16, e16, hD16⟩ : ∃ v', V 16 = .agg #[.int .i64 x.k, .int .u64 (x.n : Int), v', .slice none 0 0] ∧ DB wz wr.heap.size v' x.s := hV 16 (by omega)
            obtain ⟨gb, e17, hB17⟩ : ∃ g, V 17 = .pointer (some ⟨g, 0, none⟩) ∧ BXi wz wr.heap.size g [.int .i64 0, .int .u64 0, .slice none 0 0, .slice none 0 0] := hV 17 (by omega)
            dsimp only [RX.putV, Nat.reduceAdd, List.drop, List.take]
            simp only [Act.put, List.setIfInBounds_toArray, List.set_cons_succ, List.set_cons_zero]
            rw [e16, e17]
            have hne : ∀ gd cs fz, wz.heap[gd]? = some (.cells cs 5 fz) → gd ≠ gb := fun gd cs fz h e => by
              rw [e, hB17.2] at h
              have h := Option.some.inj h
              injection h with _ h _
              exact absurd h (by decide)
            have hth : wz.there gb 0 4 := fun j hj => by
              have e : ∀ k : Nat, k < 4 → (wz.cell? ⟨gb, 0 + k, none⟩).isSome = true ∧ wz.frozen? ⟨gb, 0 + k, none⟩ = false := fun k hk => by
                unfold World.cell? World.frozen?
                simp only [hB17.2, Nat.zero_add]
                obtain rfl | rfl | rfl | rfl : k = 0 ∨ k = 1 ∨ k = 2 ∨ k = 3 := by omega
                all_goals exact ⟨rfl, rfl⟩
              exact e j hj
            have hgbz : gb < wz.heap.size := (Array.getElem?_eq_some_iff.1 hB17.2).1
            obtain ⟨w11, hw11⟩ : ∃ w11, Hid (wz.setCells gb 0 [.int .i64 x.k, .int .u64 (x.n : Int), v16, .slice none 0 0] = w11) := ⟨_, rfl⟩
            have H11 : Hid (Below wr.heap.size wr w11 ∧ RowS w11 gb [.int .i64 x.k, .int .u64 (x.n : Int), v16, .slice none 0 0] ∧ DBn w11 wr.heap.size v16 x.s gb ∧ wr.heap.size ≤ gb) := by
              rw [← hw11.out]
              refine ⟨RG.below_setCells hB17.1 _ _ _ hB, ⟨sc_lt _ _ _ hgbz, World.rangeAt_setCells_same _ _ _ _ hth, World.there_setCells hth _ _ _⟩, ?_, hB17.1⟩
              obtain ⟨gd, capd, csd, fzd, h1, h2, h3, h4, h5⟩ := hD16
              exact ⟨gd, capd, csd, fzd, h1, h2, ⟨hne gd csd fzd h4, h3⟩, by rw [sc_other _ _ (hne gd csd fzd h4)]; exact h4, h5⟩
            obtain ⟨qd, dl, cd, rfl⟩ : ∃ qd dl cd, v16 = .slice qd dl cd := by obtain ⟨gd, capd, csd, fzd, h1, -⟩ := hD16; exact ⟨_, _, _, h1⟩
            refine wpList_store_mid rfl 27 _ _ rfl gb 0 #[.int .i64 x.k, .int .u64 (x.n : Int), .slice qd dl cd, .slice none 0 0] ?_ ?_ hth (by kernel_rfl) (four_one _ _ _ _ _ _ _ _) ?_
            · rfl
            · rfl
            show wpList _ _ _ _ _ (wz.setCells gb 0 [.int .i64 x.k, .int .u64 (x.n : Int), .slice qd dl cd, .slice none 0 0])
            rw [hw11.out]
            clear hV hB hD16 hB17 hne hth hgbz hw11
            dsimp only [Act.put]
            obtain ⟨cs, hrow, hic⟩ := HI.out.row
            rw [hn3.out] at hrow
            obtain ⟨d, hd⟩ : ∃ d, Hid (d + cn = n3) := ⟨n3 - cn, by show _ = _; omega⟩
            obtain ⟨q7, c7, hlo, hlo2, hhi, hhi2⟩ := st_cut hrow hd.out
            have hsub : ∀ X : World, (binOp .sub 3 (.int .i64 (n3 : Int)) (.int .i64 (cn : Int))).run Tryd.prog X = .ok (.int .i64 (d : Int)) X := fun X => by
              have e : (n3 : Int) - (cn : Int) = (d : Int) := by have := hd.out; omega
              have e2 : IntKind.i64.wrap (d : Int) = (d : Int) := by rw [IntKind.wrap_i64]; have := hd.out; omega
              go_simp
              first | done | exact e2 | rw [e2] | rw [e, e2]
            have hcut := IC.cut d (hic wr fun _ _ _ => rfl)
            have hlen2 : Hid ((st.drop d).length = cn ∧ (cs.drop (d * 4)).length = cn * 4 ∧ (st.take d).length = d ∧ (cs.take (d * 4)).length = d * 4) := by
              have h1 := hcut.1.len
              have h2 := hcut.2.len
              have h3 := hn3.out
              have h4 := hd.out
              have h5 : (st.drop d).length = cn := by rw [List.length_drop]; omega
              have h6 : (st.take d).length = d := by rw [List.length_take]; omega
              exact ⟨h5, by rw [h2, h5], h6, by rw [h1, h6]⟩
            have hd8 : Hid (d ≤ 256 ∧ cn ≤ 256) := by have := hd.out; exact ⟨by omega, by omega⟩
            have HC : Hid (ICQ wb.heap.size wr (st.take d) (cs.take (d * 4)) ∧ ICQ wb.heap.size wr (st.drop d) (cs.drop (d * 4))) := ⟨fun W hW => (IC.cut d (hic W hW)).1, fun W hW => (IC.cut d (hic W hW)).2⟩
            have HLO : Hid (∀ X, Below wr.heap.size wr X → (cn = 0 ∨ ∃ b o, q7 = some ⟨b, o, none⟩ ∧ ∀ j u, (cs.drop (d * 4))[j]? = some u → X.cell? ⟨b, o + j, none⟩ = some u)) := fun X hX => by
              rcases hlo2 with h | ⟨b, o, h1, h2, h3⟩
              · exact Or.inl h
              · exact Or.inr ⟨b, o, h1, fun j u hj => by rw [hX.cell (p := ⟨b, _, none⟩) h2]; exact h3 j u hj⟩
            have HHI : Hid (∀ X, Below wr.heap.size wr X → (d = 0 ∨ ∃ b o, q3 = some ⟨b, o, none⟩ ∧ ∀ j u, (cs.take (d * 4))[j]? = some u → X.cell? ⟨b, o + j, none⟩ = some u)) := fun X hX => by
              rcases hhi2 with h | ⟨b, o, h1, h2, h3⟩
              · exact Or.inl h
              · exact Or.inr ⟨b, o, h1, fun j u hj => by rw [hX.cell (p := ⟨b, _, none⟩) h2]; exact h3 j u hj⟩
            clear hcut hlo2 hhi2 hrow hic
            go_upto_region 12 with fail
            refine RX.Gw.last (G12 gb (.slice q3 n3 c3) n3 cn d (.slice q7 cn c7) (cs.drop (d * 4)) w11) 10 (by kernel_rfl) (by kernel_rfl) (by kernel_rfl) ?_ (Below.refl _ w11).drew ?_
            · exact ⟨RX.gw_val fun a X hp => ⟨[(6, .pointer (some ⟨gb, 0, none⟩))], .pointer (some ⟨gb, 3, none⟩), X, ⟨hp.o 6 (by kernel_rfl), trivial⟩, by kernel_rfl, Below.refl _ _, rfl⟩,
                RX.cf_ld1T 25 48 rfl (by kernel_rfl) fun a X hp => ⟨⟨gb, 3, none⟩, .slice none 0 0, hp.n 0 48 (by kernel_rfl) (by kernel_rfl) (by kernel_rfl), (H11.out.2.1.below (hp.b 0 (by kernel_rfl) : Below w11.heap.size w11 X)).cell 3 _ rfl, Below.refl _ _, rfl⟩,
                RX.gw_val fun a X hp => ⟨[(3, .slice q3 n3 c3)], .slice q3 n3 c3, X, ⟨hp.o 3 (by kernel_rfl), trivial⟩, by kernel_rfl, Below.refl _ _, rfl⟩,
                RX.gw_val fun a X hp => ⟨[(3, .slice q3 n3 c3)], .slice q3 n3 c3, X, ⟨hp.o 3 (by kernel_rfl), trivial⟩, by kernel_rfl, Below.refl _ _, rfl⟩,
                RX.gw_val fun a X hp => ⟨[(51, .slice q3 n3 c3)], .int .i64 (n3 : Int), X, ⟨hp.n 3 51 (by kernel_rfl) (by kernel_rfl), trivial⟩, by kernel_rfl, Below.refl _ _, rfl⟩,
                RX.gw_val fun a X hp => ⟨[(5, .int .i64 (cn : Int))], .int .i64 (cn : Int), X, ⟨hp.o 5 (by kernel_rfl), trivial⟩, by kernel_rfl, Below.refl _ _, rfl⟩,
                RX.gw_bin .sub 3 3 52 53 rfl fun a X hp => ⟨_, _, _, hp.n 4 52 (by kernel_rfl) (by kernel_rfl), hp.n 5 53 (by kernel_rfl) (by kernel_rfl), by kernel_rfl, hsub X, rfl⟩,
                RX.cf_sloX 25 50 54 rfl fun a X hp => ⟨_, _, _, hp.n 2 50 (by kernel_rfl) (by kernel_rfl) (by kernel_rfl), hp.n 6 54 (by kernel_rfl) (by kernel_rfl) (by kernel_rfl), hlo X, Below.refl _ _, rfl⟩,
                RX.cf_app 49 55 25 rfl fun a X hp => by
                  have hX : Below w11.heap.size w11 X := hp.b 0 (by kernel_rfl)
                  have e1 : a.eval (.tmp 49) = .slice none 0 0 := hp.n 1 49 (by kernel_rfl) (by kernel_rfl) (by kernel_rfl)
                  have e2 : a.eval (.tmp 55) = .slice q7 cn c7 := hp.n 7 55 (by kernel_rfl) (by kernel_rfl) (by kernel_rfl)
                  obtain ⟨v', W', r1, r2, r3⟩ := it_app (base := w11.heap.size) (W := X) (v := .slice none 0 0) (n := 0) (c := c7) (xs := []) ⟨rfl, Or.inl ⟨rfl, rfl⟩⟩ hlen2.out.2.1 (HLO.out X (H11.out.1.trans (hX.mono H11.out.1.size))) (HC.out.2 wr fun _ _ _ => rfl).one (by have := hd8.out.2; omega) hX.size
                  rw [Nat.zero_add, List.nil_append] at r2
                  rw [e1, e2]
                  exact ⟨v', W', r1, ⟨r3.os, r3.tape, r3.output, r3.size, fun k hk => r3.block k hk (by simp [Value.ownBlock])⟩, r2⟩,
                RX.gw_val fun a X hp => ⟨[(6, .pointer (some ⟨gb, 0, none⟩))], .pointer (some ⟨gb, 3, none⟩), X, ⟨hp.o 6 (by kernel_rfl), trivial⟩, by kernel_rfl, Below.refl _ _, rfl⟩,
                trivial⟩
            · intro V2 wy hV2 hB2
              have h8 : wy.ownsRow w11.heap.size 27 4 (V2 8) cn (cs.drop (d * 4)) := hV2 8 (by omega)
              have e9 : V2 9 = .pointer (some ⟨gb, 3, none⟩) := hV2 9 (by omega)
              have HB2 : Hid (Below w11.heap.size w11 wy) := hB2
              have HR2 := hidW (H11.out.2.1.below hB2)
              dsimp only [RX.putV, Nat.reduceAdd, List.drop, List.take]
              simp only [Act.put, List.setIfInBounds_toArray, List.set_cons_succ, List.set_cons_zero]
              rw [e9]
              obtain ⟨q8, c8, e8⟩ : ∃ q8 c8, V2 8 = .slice q8 cn c8 := by
                rcases h8.2 with ⟨h2, h3⟩ | ⟨g, cap, cur, h2, -⟩
                · exact ⟨none, 0, by rw [h2, h3]⟩
                · exact ⟨_, _, h2⟩
              rw [e8] at h8 ⊢
              have H8 := hidW h8
              have r3 := HR2.out.cell 3 _ rfl
              have f3 := HR2.out.free 3 (Nat.lt_succ_self 3)
              have hgl := HR2.out.1
              clear hV2 hB2 h8 e8 e9
              obtain ⟨w12, hw12⟩ : ∃ w12, Hid (wy.setCell ⟨gb, 3, none⟩ (.slice q8 cn c8) = w12) := ⟨_, rfl⟩
              have HB12 : Hid (Below wr.heap.size wr w12) := by
                rw [← hw12.out]
                exact (H11.out.1.trans (HB2.out.mono H11.out.1.size)).setCell (p := ⟨gb, 3, none⟩) H11.out.2.2.2 _
              have HR12 : Hid (RowS w12 gb [.int .i64 x.k, .int .u64 (x.n : Int), .slice qd dl cd, .slice q8 cn c8]) := by
                rw [← hw12.out]
                exact HR2.out.set 3 (.slice q8 cn c8) (Nat.lt_succ_self 3)
              have HM12 : Hid (IMQ wb.heap.size w12 (.mk x.k x.n x.s.data.toList (st.drop d)) (.slice qd dl cd) (.slice q8 cn c8)) := by
                refine inm_step (gb := gb) (B := w11.heap.size) (B' := wr.heap.size) hxs'.out.1 hxs'.out.2 ?_ hlen2.out.1 hd8.out.2 HC.out.2 HB12.out ?_ (Nat.le_trans HI.out.bl.size H11.out.1.size) HI.out.bl.size
                · refine DBn.keep H11.out.2.2.1 fun k hk hne => ?_
                  rw [← hw12.out, blk_other _ _ _ _ hne, HB2.out.block k hk]
                · rw [← hw12.out]
                  rcases H8.out with ⟨h0, h1 | ⟨g, cap, cur, h1, h2, h3, h4⟩⟩
                  · exact ⟨h0, Or.inl h1⟩
                  · exact ⟨h0, Or.inr ⟨g, cap, cur, h1, h2, by rw [blk_other _ _ _ _ (show g ≠ gb by have := H11.out.2.1.1; omega)]; exact h3, h4⟩⟩
              go_upto_region 13 with fail
              rw [hw12.out]
              clear H11 HB2 HR2 H8 r3 f3 hgl hw12 hlo HLO
              obtain ⟨it, hit⟩ : ∃ it : List Value, Hid ([.int .i64 x.k, .int .u64 (x.n : Int), .slice qd dl cd, .slice q8 cn c8] = it) := ⟨_, rfl⟩
              refine RX.flow_draws (F13 w12 [undef, .slice q3 n3 c3, .slice q3 n3 c3, .int .i64 (n3 : Int), .int .i64 (cn : Int), .int .i64 (d : Int), .slice q3 d c3, undef, .agg #[.int .i64 x.k, .int .u64 (x.n : Int), .slice qd dl cd, .slice q8 cn c8]] d (cs.take (d * 4)) [.int .i64 x.k, .int .u64 (x.n : Int), .slice qd dl cd, .slice q8 cn c8]) (by kernel_rfl) (F13.reg (by kernel_rfl) (by kernel_rfl) (by kernel_rfl) ?_) (fun _ => (Below.refl _ w12).drew) ?_
              · exact ⟨RX.cf_manyT fun a X hp => ⟨[], .slice (some ⟨X.heap.size, 0, none⟩) 0 0, X.alloc (.cells #[] 27), trivial, by kernel_rfl, alloc_below _ _, ⟨X.heap.size, rfl, (hp.b 0 (by kernel_rfl) : Below w12.heap.size w12 X).size, Array.getElem?_push_size⟩⟩,
                  RX.cf_manyT fun a X hp => ⟨[(3, .slice q3 n3 c3)], .slice q3 n3 c3, X, ⟨hp.o 3 (by kernel_rfl), trivial⟩, by kernel_rfl, Below.refl _ _, rfl⟩,
                  RX.cf_manyT fun a X hp => ⟨[(3, .slice q3 n3 c3)], .slice q3 n3 c3, X, ⟨hp.o 3 (by kernel_rfl), trivial⟩, by kernel_rfl, Below.refl _ _, rfl⟩,
                  RX.cf_manyT fun a X hp => ⟨[(60, .slice q3 n3 c3)], .int .i64 (n3 : Int), X, ⟨hp.n 2 60 (by kernel_rfl) (by kernel_rfl) (by kernel_rfl), trivial⟩, by kernel_rfl, Below.refl _ _, rfl⟩,
                  RX.cf_manyT fun a X hp => ⟨[(5, .int .i64 (cn : Int))], .int .i64 (cn : Int), X, ⟨hp.o 5 (by kernel_rfl), trivial⟩, by kernel_rfl, Below.refl _ _, rfl⟩,
                  RX.cf_subX 3 3 61 62 rfl fun a X hp => ⟨_, _, _, hp.n 3 61 (by kernel_rfl) (by kernel_rfl) (by kernel_rfl), hp.n 4 62 (by kernel_rfl) (by kernel_rfl) (by kernel_rfl), hsub X, Below.refl _ _, rfl⟩,
                  RX.cf_shiX 25 59 63 rfl fun a X hp => ⟨_, _, _, hp.n 1 59 (by kernel_rfl) (by kernel_rfl) (by kernel_rfl), hp.n 5 63 (by kernel_rfl) (by kernel_rfl) (by kernel_rfl), hhi X, Below.refl _ _, rfl⟩,
                  RX.cf_app 58 64 25 rfl fun a X hp => by
                    have hX : Below w12.heap.size w12 X := hp.b 0 (by kernel_rfl)
                    obtain ⟨g0, e1, hg1, hg2⟩ : ∃ g, a.eval (.tmp 58) = .slice (some ⟨g, 0, none⟩) 0 0 ∧ w12.heap.size ≤ g ∧ X.heap[g]? = some (.cells #[] 27 (0, 0)) := hp.n 0 58 (by kernel_rfl) (by kernel_rfl) (by kernel_rfl)
                    have e2 : a.eval (.tmp 64) = .slice q3 d c3 := hp.n 6 64 (by kernel_rfl) (by kernel_rfl) (by kernel_rfl)
                    obtain ⟨v', W', r1, r2, r3⟩ := it_app0 (c := c3) hg1 hg2 hlen2.out.2.2.2 (HHI.out X (HB12.out.trans (hX.mono HB12.out.size))) (HC.out.1 wr fun _ _ _ => rfl).one (by have := hd8.out.1; omega) hX.size
                    rw [e1, e2]
                    exact ⟨v', W', r1, r3, r2⟩,
                  RX.cf_load 27 6 rfl (by kernel_rfl) fun a X hp => ⟨gb, 0, [.int .i64 x.k, .int .u64 (x.n : Int), .slice qd dl cd, .slice q8 cn c8], hp.o 6 (by kernel_rfl), (HR12.out.below (hp.b 0 (by kernel_rfl) : Below w12.heap.size w12 X)).2.1, by kernel_rfl, Below.refl _ _, rfl⟩,
                  RX.cf_manyT fun a X hp => ⟨[(66, .agg #[.int .i64 x.k, .int .u64 (x.n : Int), .slice qd dl cd, .slice q8 cn c8])], .slice (some ⟨X.heap.size, 0, none⟩) 1 1, X.alloc (.cells #[.int .i64 x.k, .int .u64 (x.n : Int), .slice qd dl cd, .slice q8 cn c8] 27), ⟨hp.n 8 66 (by kernel_rfl) (by kernel_rfl) (by kernel_rfl), trivial⟩, by kernel_rfl, alloc_below _ _, ⟨X.heap.size, rfl, (hp.b 0 (by kernel_rfl) : Below w12.heap.size w12 X).size, Array.getElem?_push_size⟩⟩,
                  RX.cf_app 65 67 25 rfl fun a X hp => by
                    have hX : Below w12.heap.size w12 X := hp.b 0 (by kernel_rfl)
                    have h7 : X.ownsRow w12.heap.size 27 4 (a.eval (.tmp 65)) d (cs.take (d * 4)) := hp.n 7 65 (by kernel_rfl) (by kernel_rfl) (by kernel_rfl)
                    obtain ⟨g9, e9, hg9⟩ : ∃ g, a.eval (.tmp 67) = .slice (some ⟨g, 0, none⟩) 1 1 ∧ BXi X w12.heap.size g [.int .i64 x.k, .int .u64 (x.n : Int), .slice qd dl cd, .slice q8 cn c8] := hp.n 9 67 (by kernel_rfl) (by kernel_rfl) (by kernel_rfl)
                    obtain ⟨v', W', r1, r2, r3⟩ := it_app (m := 1) (c := 1) (q := some ⟨g9, 0, none⟩) h7 (news := [.int .i64 x.k, .int .u64 (x.n : Int), .slice qd dl cd, .slice q8 cn c8]) rfl (Or.inr ⟨g9, 0, rfl, fun j u hj => by
                      unfold World.cell?
                      simp only [hg9.2, Nat.zero_add]
                      simpa using hj⟩) (fun u hu => by
                        simp only [List.mem_cons, List.not_mem_nil, or_false] at hu
                        rcases hu with rfl | rfl | rfl | rfl <;> rfl) (by have := hd8.out.1; omega) hX.size
                    rw [e9]
                    refine ⟨v', W', r1, ⟨r3.os, r3.tape, r3.output, Nat.le_trans hX.size r3.size |> fun _ => r3.size, fun k hk => r3.block k (Nat.lt_of_lt_of_le hk hX.size) ?_⟩, r2⟩
                    rcases h7.2 with ⟨h0, -⟩ | ⟨g, cap, cur, h0, h1, -⟩
                    · rw [h0]; simp [Value.ownBlock]
                    · rw [h0]; simp only [Value.ownBlock, ne_eq, Option.some.injEq]; omega,
                  RX.cf_manyT fun a X hp => ⟨[(68, a.eval (.tmp 68))], a.eval (.tmp 68), X, ⟨rfl, trivial⟩, by kernel_rfl, Below.refl _ _, (hp.n 10 68 (by kernel_rfl) (by kernel_rfl) (by kernel_rfl) : R13 w12.heap.size d (cs.take (d * 4)) _ 10 _ X)⟩,
                  trivial⟩
              · intro V3 wf hV3 hB3
                have h11 : wf.ownsRow w12.heap.size 27 4 (V3 11) (d + 1) (cs.take (d * 4) ++ [.int .i64 x.k, .int .u64 (x.n : Int), .slice qd dl cd, .slice q8 cn c8]) := hV3 11 (Nat.lt_of_succ_le (Nat.le_of_ble_eq_true (by kernel_rfl))) (by kernel_rfl)
                have hBf : Below w12.heap.size w12 wf := hB3 0 rfl
                have HBI : Hid (BI wb (bst (L.take (j + 1))) (V3 11) wf) := by
                  have hwf := HB12.out.trans (hBf.mono HB12.out.size)
                  have e1 : bst (L.take (j + 1)) = st.take d ++ [.mk x.k x.n x.s.data.toList (st.drop d)] := by
                    rw [bst_take L j x hx'.out, hst.out]
                    unfold stp
                    rw [hxc.out, hcn.out, hn3.out, hmm.out, show n3 - cn = d by have := hd.out; omega]
                  refine ⟨HI.out.bl.trans (hwf.mono HI.out.bl.size), cs.take (d * 4) ++ [.int .i64 x.k, .int .u64 (x.n : Int), .slice qd dl cd, .slice q8 cn c8], ?_, ?_⟩
                  · rw [e1, List.length_append, hlen2.out.2.2.1]
                    exact own_upI h11 (Nat.le_trans HI.out.bl.size HB12.out.size)
                  · rw [e1]
                    intro W hW
                    refine IC.app ?_ (HC.out.1.up hwf W hW)
                    rw [IC]
                    exact ⟨_, _, [], rfl, HM12.out.up hBf W hW, by rw [IC]⟩
                clear h11 hBf
                dsimp only [RX.putV, Nat.reduceAdd]
                simp only [Act.put, List.setIfInBounds_toArray, List.set_cons_succ, List.set_cons_zero]
                obtain ⟨v11, hv11⟩ : ∃ v, Hid (V3 11 = v) := ⟨_, rfl⟩
                rw [hv11.out] at HBI ⊢
                clear hV3 hB3
                go_wp2
                go_roundg (m + 1 - (j + 1))
                case measure => omega
                case rel => exact ⟨j + 1, rfl, by omega, rfl, HBI⟩
    · have hjz : ¬ (j : Int) < (m : Int) := by omega
      obtain rfl : j = m := by omega
      have hB := hidW (hb0.out.trans (HI.out.bl.mono hb0.out.size))
      have hRr : Hid (RowS wr w.heap.size [.int .i64 0, .int .u64 0, .slice none 0 0, .slice none 0 0]) := by
        refine RowS.below (W := wb) ?_ HI.out.bl
        rw [← hwb.out]
        have e : (w.alloc (.cells #[.int .i64 0, .int .u64 0, .slice none 0 0, .slice none 0 0] 27)).heap[w.heap.size]? = some (.cells #[.int .i64 0, .int .u64 0, .slice none 0 0, .slice none 0 0] 27 (0, 0)) := Array.getElem?_push_size
        refine ⟨(Array.getElem?_eq_some_iff.1 e).1, al_r w _ _ _ rfl, fun k hk => ?_⟩
        unfold World.cell? World.frozen?
        simp only [e, Nat.zero_add]
        obtain rfl | rfl | rfl | rfl : k = 0 ∨ k = 1 ∨ k = 2 ∨ k = 3 := by simp only [List.length_cons, List.length_nil] at hk; omega
        all_goals exact ⟨rfl, rfl⟩
      have hLt : Hid (L.take j = L) := by show _ = _; rw [← hm.out, List.take_length]
      by_cases hz : n3 = 0
      · have hbl : Hid (bld L = .mk 0 0 [] []) := by
          show _ = _
          unfold bld
          rw [hLt.out] at hst
          rw [hst.out, List.length_eq_zero_iff.1 (hn3.out.trans hz)]; rfl
        subst hz
        obtain ⟨w3, hw3⟩ : ∃ w3, Hid (wr.setCells w.heap.size 0 [.int .i64 0, .int .u64 0, .slice none 0 0, .slice none 0 0] = w3) := ⟨_, rfl⟩
        have K3 : Hid (RowS w3 w.heap.size [.int .i64 0, .int .u64 0, .slice none 0 0, .slice none 0 0] ∧ Below w.heap.size w w3) := by
          rw [← hw3.out]
          exact ⟨⟨sc_lt _ _ _ hRr.out.1, World.rangeAt_setCells_same _ _ _ _ hRr.out.2.2, World.there_setCells hRr.out.2.2 _ _ _⟩, RG.below_setCells (Nat.le_refl _) _ _ _ hB.out⟩
        go_wp2_with (first | (refine wpList_store_mid rfl 27 _ _ rfl w.heap.size 0 #[.int .i64 0, .int .u64 0, .slice none 0 0, .slice none 0 0] ?_ ?_ ?_ ?_ ?_ ?_; rfl; rfl; exact hRr.out.2.2; exact isz27; kernel_rfl; (show wpList _ _ _ _ _ (wr.setCells w.heap.size 0 [.int .i64 0, .int .u64 0, .slice none 0 0, .slice none 0 0])); rw [hw3.out]))
        refine bodyPost_ret (results_cellI 2 27 rfl K3.out.1 rfl urw27 isz27) rfl ?_
        refine ⟨_, rfl, K3.out.2, none, 0, 0, none, 0, 0, ?_, ?_⟩
        · rw [hbl.out]; rfl
        · rw [hbl.out, InM]
          exact ⟨by decide, Nat.zero_le _, Nat.zero_le _, ⟨none, 0, rfl, Nat.le_refl _, Or.inl rfl⟩, none, 0, rfl, Or.inl rfl⟩
      · obtain ⟨ez, fz⟩ := ne0 n3 hz
        obtain ⟨l, i, hli⟩ : ∃ l i, Hid (st = l ++ [i]) := by
          rcases List.eq_nil_or_concat st with h | ⟨l, i, h⟩
          · rw [h] at hn3; exact absurd hn3.out.symm hz
          · exact ⟨l, i, by show _ = _; rw [h, List.concat_eq_append]⟩
        have hbl : Hid (bld L = i) := by
          show _ = _
          unfold bld
          rw [hLt.out] at hst
          rw [hst.out, hli.out, List.getLast?_append]; rfl
        obtain ⟨ln, hln⟩ : ∃ ln, Hid (l.length = ln) := ⟨_, rfl⟩
        have hn1 : Hid (n3 = ln + 1) := by show _ = _; rw [← hn3.out, hli.out, List.length_append, hln.out]; rfl
        have hs1 : (n3 : Int) - 1 = (ln : Int) := by have := hn1.out; omega
        obtain ⟨cs, hrow, hic⟩ := HI.out.row
        rw [hli.out] at hic
        have hicQ := hidW hic
        obtain ⟨vd, vl, k0, k1, k2, k3, hM⟩ := (hic wr fun _ _ _ => rfl).last
        obtain ⟨qd, dl, cd, ql, ml, cl, rfl, rfl⟩ := hM.form
        rw [hn3.out] at hrow
        obtain ⟨g3, rfl, hg3, hrng⟩ : ∃ g3, q3 = some ⟨g3, 0, none⟩ ∧ g3 < wr.heap.size ∧ Hid (wr.rangeAt g3 (ln * 4) [.int .i64 i.k, .int .u64 (i.n : Int), .slice qd dl cd, .slice ql ml cl]) := by
          rcases own_cells hrow with ⟨h0, -⟩ | ⟨g, cap, h1, h2, h3, -, -, h6⟩
          · exact absurd h0 hz
          · injection h1 with e1 _ _
            rw [hln.out] at k0 k1 k2 k3
            refine ⟨g, e1, h3, fun t u ht => ?_⟩
            match t, ht with
            | 0, ht => obtain rfl := Option.some.inj ht; exact h6 _ _ k0
            | 1, ht => obtain rfl := Option.some.inj ht; exact h6 _ _ k1
            | 2, ht => obtain rfl := Option.some.inj ht; exact h6 _ _ k2
            | 3, ht => obtain rfl := Option.some.inj ht; exact h6 _ _ k3
            | t + 4, ht => cases ht
        have hix := fun w => idxI g3 0 n3 c3 ln (by have := hn1.out; omega) w
        simp only [Nat.zero_add] at hix
        have HM := hidW hM
        obtain ⟨dd, hdd⟩ := Option.map_eq_some_iff.1 urw27
        have HD := hidW hdd
        obtain ⟨ik, hik⟩ : ∃ k, Hid (i.k = k) := ⟨_, rfl⟩
        obtain ⟨inn, hin⟩ : ∃ k, Hid (i.n = k) := ⟨_, rfl⟩
        rw [hik.out, hin.out] at hrng
        obtain ⟨w3, hw3⟩ : ∃ w3, Hid (wr.setCells w.heap.size 0 [.int .i64 ik, .int .u64 (inn : Int), .slice qd dl cd, .slice ql ml cl] = w3) := ⟨_, rfl⟩
        have K3 : Hid (RowS w3 w.heap.size [.int .i64 ik, .int .u64 (inn : Int), .slice qd dl cd, .slice ql ml cl] ∧ Below w.heap.size w w3) := by
          rw [← hw3.out]
          exact ⟨⟨sc_lt _ _ _ hRr.out.1, World.rangeAt_setCells_same _ _ _ _ hRr.out.2.2, World.there_setCells hRr.out.2.2 _ _ _⟩, RG.below_setCells (Nat.le_refl _) _ _ _ hB.out⟩
        have KM : Hid (InM w3 w3.heap.size i (.slice qd dl cd) (.slice ql ml cl)) := by
          show InM w3 w3.heap.size i (.slice qd dl cd) (.slice ql ml cl)
          have hle : wr.heap.size ≤ w3.heap.size := by rw [← hw3.out]; exact (RG.below_setCells (B := 0) (Nat.zero_le _) _ 0 wr ⟨rfl, rfl, rfl, Nat.le_refl _, fun _ _ => rfl⟩).size
          obtain ⟨vd', vl', k0', k1', k2', k3', hM'⟩ := (hicQ.out w3 fun k hk1 hk2 => by rw [← hw3.out]; exact sc_other _ _ (by have := hwz.out; omega) _ _ _).last
          rw [k2] at k2'
          rw [k3] at k3'
          obtain rfl := Option.some.inj k2'
          obtain rfl := Option.some.inj k3'
          exact InM.mono hle i _ _ hM'
        clear hrow hic hicQ k0 k1 k2 k3 hM hdd
        go_wp2_with (first | (refine wpList_load_mid rfl 27 _ rfl g3 (ln * 4) ?_ [.int .i64 ik, .int .u64 (inn : Int), .slice qd dl cd, .slice ql ml cl] dd ?_ ?_ ?_ ?_ ?_; rfl; exact hrng.out; exact HD.out.1; exact HD.out.2; exact isz27) | (refine wpList_store_mid rfl 27 _ _ rfl w.heap.size 0 #[.int .i64 ik, .int .u64 (inn : Int), .slice qd dl cd, .slice ql ml cl] ?_ ?_ ?_ ?_ ?_ ?_; rfl; rfl; exact hRr.out.2.2; exact isz27; exact four_one _ _ _ _ _ _ _ _; (show wpList _ _ _ _ _ (wr.setCells w.heap.size 0 [.int .i64 ik, .int .u64 (inn : Int), .slice qd dl cd, .slice ql ml cl])); rw [hw3.out]))
        refine bodyPost_ret (results_cellI 2 27 rfl K3.out.1 rfl urw27 isz27) rfl ?_
        refine ⟨_, rfl, K3.out.2, qd, dl, cd, ql, ml, cl, ?_, ?_⟩
        · rw [hbl.out, hik.out, hin.out]; rfl
        · rw [hbl.out]; exact KM.out
end WI
end Go.Proofs.YtfkgfcggcfkkiaaDoor
namespace Go.Proofs.YtfkgfcggcfkkiaaDoor
open Go.RowKit Go.Sort Go.Deep
namespace WI
set_option maxHeartbeats 4000000 in
set_option maxRecDepth 100000 in
theorem word_c (g o m c : Nat) (x0 x1 x2 x3 x4 x5 x6 x7 : UInt8) (w : World) (hm : 8 ≤ m) (c0 : w.cell? ⟨g, o, none⟩ = some (.int .u8 (x0.toNat : Int))) (c1 : w.cell? ⟨g, o + 1, none⟩ = some (.int .u8 (x1.toNat : Int))) (c2 : w.cell? ⟨g, o + 2, none⟩ = some (.int .u8 (x2.toNat : Int))) (c3 : w.cell? ⟨g, o + 3, none⟩ = some (.int .u8 (x3.toNat : Int))) (c4 : w.cell? ⟨g, o + 4, none⟩ = some (.int .u8 (x4.toNat : Int))) (c5 : w.cell? ⟨g, o + 5, none⟩ = some (.int .u8 (x5.toNat : Int))) (c6 : w.cell? ⟨g, o + 6, none⟩ = some (.int .u8 (x6.toNat : Int))) (c7 : w.cell? ⟨g, o + 7, none⟩ = some (.int .u8 (x7.toNat : Int))) :
    Calls Tryd.prog 74 #[.slice (some ⟨g, o, none⟩) m c] w fun e w' => e = .returned (.int .u64 ((Lib.leNat [x0, x1, x2, x3, x4, x5, x6, x7] : Nat) : Int)) ∧ ∃ q, w' = w.drewN q := by
  have h0 : x0.toNat < 256 := x0.toNat_lt
  have h1 : x1.toNat < 256 := x1.toNat_lt
  have h2 : x2.toNat < 256 := x2.toNat_lt
  have h3 : x3.toNat < 256 := x3.toNat_lt
  have h4 : x4.toNat < 256 := x4.toNat_lt
  have h5 : x5.toNat < 256 := x5.toNat_lt
  have h6 : x6.toNat < 256 := x6.toNat_lt
  have h7 : x7.toNat < 256 := x7.toNat_lt
  have hv : ((Lib.leNat [x0, x1, x2, x3, x4, x5, x6, x7] : Nat) : Int) = (x0.toNat : Int) + (x1.toNat : Int) * 256 + (x2.toNat : Int) * 65536 + (x3.toNat : Int) * 16777216 + (x4.toNat : Int) * 4294967296 + (x5.toNat : Int) * 1099511627776 + (x6.toNat : Int) * 281474976710656 + (x7.toNat : Int) * 72057594037927936 := by
    simp only [Lib.leNat]
    omega
  have q0 : (0 : Int) < (m : Int) := by omega
  have q1 : (1 : Int) < (m : Int) := by omega
  have q2 : (2 : Int) < (m : Int) := by omega
  have q3 : (3 : Int) < (m : Int) := by omega
  have q4 : (4 : Int) < (m : Int) := by omega
  have q5 : (5 : Int) < (m : Int) := by omega
  have q6 : (6 : Int) < (m : Int) := by omega
  have q7 : (7 : Int) < (m : Int) := by omega
  have mixed : Tryd.prog.follows .mixedOrders = true := by kernel_rfl
  go_enter Tryd.func74, Tryd.ntmps74
  go_wp2
  go_quiet (fail)
  go_wp2
  go_ret
  refine ⟨?_, _, rfl⟩
  simp (disch := omega) only [u64_wrap_id, u64_or8, u64_or16, u64_or24, u64_or32, u64_or40, u64_or48, u64_or56]
  rw [hv]
  rfl
end WI
end Go.Proofs.YtfkgfcggcfkkiaaDoor
namespace Go.Proofs.YtfkgfcggcfkkiaaDoor
open Go.RowKit Go.Sort Go.Deep
namespace WI
section
variable (F lo hi : Nat → Nat)
/-- What utf8.Valid says of bytes, by its tables. -/
def uv : List UInt8 → Bool
  | [] => true
  | b :: r => if b.toNat < 128 then uv r else
    if F b.toNat % 8 = 2 then (match r with
      | b1 :: r' => !(decide (b1.toNat < lo (F b.toNat / 16)) || decide (hi (F b.toNat / 16) < b1.toNat)) && uv r'
      | _ => false)
    else if F b.toNat % 8 = 3 then (match r with
      | b1 :: b2 :: r' => !(decide (b1.toNat < lo (F b.toNat / 16)) || decide (hi (F b.toNat / 16) < b1.toNat) || decide (b2.toNat < 128) || decide (191 < b2.toNat)) && uv r'
      | _ => false)
    else if F b.toNat % 8 = 4 then (match r with
      | b1 :: b2 :: b3 :: r' => !(decide (b1.toNat < lo (F b.toNat / 16)) || decide (hi (F b.toNat / 16) < b1.toNat) || decide (b2.toNat < 128) || decide (191 < b2.toNat) || decide (b3.toNat < 128) || decide (191 < b3.toNat)) && uv r'
      | _ => false)
    else false
theorem uv_cons (b : UInt8) (r : List UInt8) : uv F lo hi (b :: r) = (if b.toNat < 128 then uv F lo hi r else
    if F b.toNat % 8 = 2 then (match r with
      | b1 :: r' => !(decide (b1.toNat < lo (F b.toNat / 16)) || decide (hi (F b.toNat / 16) < b1.toNat)) && uv F lo hi r'
      | _ => false)
    else if F b.toNat % 8 = 3 then (match r with
      | b1 :: b2 :: r' => !(decide (b1.toNat < lo (F b.toNat / 16)) || decide (hi (F b.toNat / 16) < b1.toNat) || decide (b2.toNat < 128) || decide (191 < b2.toNat)) && uv F lo hi r'
      | _ => false)
    else if F b.toNat % 8 = 4 then (match r with
      | b1 :: b2 :: b3 :: r' => !(decide (b1.toNat < lo (F b.toNat / 16)) || decide (hi (F b.toNat / 16) < b1.toNat) || decide (b2.toNat < 128) || decide (191 < b2.toNat) || decide (b3.toNat < 128) || decide (191 < b3.toNat)) && uv F lo hi r'
      | _ => false)
    else false) := by
  conv => lhs; unfold uv
theorem uv_asc (r : List UInt8) : ∀ l : List UInt8, (∀ b ∈ l, b.toNat < 128) → uv F lo hi (l ++ r) = uv F lo hi r
  | [], _ => rfl
  | b :: l, h => by
    rw [List.cons_append, uv_cons, if_pos (h b (by simp)), uv_asc r l (fun x hx => h x (by simp [hx]))]
/-- The tables, as they are laid. -/
def TabV (w : World) : Prop := 2 ≤ w.heap.size ∧ (∀ i, i < 256 → w.cell? ⟨0, i, none⟩ = some (.int .u8 (F i : Int))) ∧ ∀ j, j < 16 → w.cell? ⟨1, j * 2, none⟩ = some (.int .u8 (lo j : Int)) ∧ w.cell? ⟨1, j * 2 + 1, none⟩ = some (.int .u8 (hi j : Int))
theorem TabV.at {w w' : World} (h : TabV F lo hi w) (hs : 2 ≤ w'.heap.size) (hb : ∀ k, k < 2 → w'.heap[k]? = w.heap[k]?) : TabV F lo hi w' := by
  refine ⟨hs, fun i hi => ?_, fun j hj => ?_⟩
  · rw [World.cell?_of_block (a := ⟨0, i, none⟩) (hb 0 (by omega))]; exact h.2.1 i hi
  · rw [World.cell?_of_block (a := ⟨1, j * 2, none⟩) (hb 1 (by omega)), World.cell?_of_block (a := ⟨1, j * 2 + 1, none⟩) (hb 1 (by omega))]; exact h.2.2 j hj
end
theorem eight (x0 x1 x2 x3 x4 x5 x6 x7 : UInt8) : (Lib.leNat [x0, x1, x2, x3, x4, x5, x6, x7] &&& 9259542123273814144 = 0) → ∀ b ∈ [x0, x1, x2, x3, x4, x5, x6, x7], b.toNat < 128 := fun h => by
  have := (Lib.word_asc ⟨#[x0, x1, x2, x3, x4, x5, x6, x7]⟩ (Nat.le_refl 8)).1 h
  exact this
theorem leNat_lt (x0 x1 x2 x3 x4 x5 x6 x7 : UInt8) : Lib.leNat [x0, x1, x2, x3, x4, x5, x6, x7] < 18446744073709551616 := Lib.word_lt ⟨#[x0, x1, x2, x3, x4, x5, x6, x7]⟩
theorem split8 (r : List UInt8) (h : 8 ≤ r.length) : ∃ x0 x1 x2 x3 x4 x5 x6 x7 s, r = x0 :: x1 :: x2 :: x3 :: x4 :: x5 :: x6 :: x7 :: s := by
  match r, h with
  | x0 :: x1 :: x2 :: x3 :: x4 :: x5 :: x6 :: x7 :: s, _ => exact ⟨x0, x1, x2, x3, x4, x5, x6, x7, s, rfl⟩
/-- Bytes of a slice that is full. -/
def PC (w : World) (q : Option Addr) (y : List UInt8) : Prop := y = [] ∨ ∃ g o, q = some ⟨g, o, none⟩ ∧ ∀ j x, y[j]? = some x → w.cell? ⟨g, o + j, none⟩ = some (.int .u8 (x.toNat : Int))
theorem PC.below {w w' : World} {q : Option Addr} {y : List UInt8} (h : PC w q y) (hb : Below w.heap.size w w') : PC w' q y := by
  rcases h with h | ⟨g, o, h1, h2⟩
  · exact Or.inl h
  · refine Or.inr ⟨g, o, h1, fun j x hj => ?_⟩
    have := h2 j x hj
    rw [hb.cell (p := ⟨g, o + j, none⟩) (World.block_lt_of_cell? _ _ this)]
    exact this
theorem sl_pc {w : World} {g o : Nat} {y : List UInt8} (n k m : Nat) (z : Int) (hz : (k : Int) = z) (hn : y.length = n) (hk : k ≤ n) (hm : n - k = m) (h : ∀ j x, y[j]? = some x → w.cell? ⟨g, o + j, none⟩ = some (.int .u8 (x.toNat : Int))) :
    ∃ q', (∀ w', (Instr.sliceAt 22 (.slice (some ⟨g, o, none⟩) n n) (some (.int .i64 z)) none none).run Tryd.prog w' = .ok (.slice q' m m) w') ∧ PC w q' (y.drop k) := by
  subst hm
  subst hz
  by_cases hkn : k = n
  · subst hkn
    refine ⟨some ⟨g, o, none⟩, fun w' => ?_, Or.inl (List.drop_of_length_le (by omega))⟩
    have h1 : ¬ (k : Int) < 0 := by omega
    go_simp
  · refine ⟨some ⟨g, o + k, none⟩, fun w' => ?_, Or.inr ⟨g, o + k, rfl, fun j x hj => ?_⟩⟩
    · have h1 : ¬ (k : Int) < 0 := by omega
      have h2 : (k : Int) ≤ n := by omega
      have h3 : ¬ n = k := by omega
      have h4 : ¬ n - k = 0 := by omega
      go_simp
    · rw [List.getElem?_drop] at hj
      rw [Nat.add_assoc]
      exact h _ x hj
theorem drewN_add (w : World) (a b : Nat) : (w.drewN a).drewN b = w.drewN (a + b) := by
  simp [World.drewN, Nat.add_assoc]
/-- The first eight, read as one. -/
theorem word_pc {w : World} {q : Option Addr} {x0 x1 x2 x3 x4 x5 x6 x7 : UInt8} {s : List UInt8} (n : Nat) (hn : s.length + 8 = n) (h : PC w q (x0 :: x1 :: x2 :: x3 :: x4 :: x5 :: x6 :: x7 :: s)) :
    ∀ z, Calls Tryd.prog 74 #[.slice q n n] (w.drewN z) fun e w' => e = .returned (.int .u64 ((Lib.leNat [x0, x1, x2, x3, x4, x5, x6, x7] : Nat) : Int)) ∧ ∃ q, w' = w.drewN q := fun z => by
  rcases h with h | ⟨g, o, rfl, h⟩
  · cases h
  · have hc : ∀ j x, (x0 :: x1 :: x2 :: x3 :: x4 :: x5 :: x6 :: x7 :: s)[j]? = some x → (w.drewN z).cell? ⟨g, o + j, none⟩ = some (.int .u8 (x.toNat : Int)) := fun j x hj => by
      rw [World.cell?_drewN]; exact h j x hj
    refine (word_c g o n n x0 x1 x2 x3 x4 x5 x6 x7 _ (by omega) (hc 0 _ rfl) (hc 1 _ rfl) (hc 2 _ rfl) (hc 3 _ rfl) (hc 4 _ rfl) (hc 5 _ rfl) (hc 6 _ rfl) (hc 7 _ rfl)).mono ?_
    rintro e w' ⟨rfl, q, rfl⟩
    exact ⟨rfl, z + q, drewN_add w z q⟩
set_option maxRecDepth 100000 in
theorem and7u : ∀ X : Fin 256, bits .and .u8 ((X.val : Nat) : Int) 7 = ((X.val % 8 : Nat) : Int) := by decide
end WI
end Go.Proofs.YtfkgfcggcfkkiaaDoor
namespace Go.Proofs.YtfkgfcggcfkkiaaDoor
open Go.RowKit Go.Sort Go.Deep
namespace WI
theorem sl3s (g o n c : Nat) (hc : n ≤ c) (w : World) : (Instr.sliceAt 22 (.slice (some ⟨g, o, none⟩) n c) none (some (.int .i64 (n : Int))) (some (.int .i64 (n : Int)))).run Tryd.prog w = .ok (.slice (some ⟨g, o, none⟩) n n) w := by
  have h1 : (n : Int) ≤ c := by omega
  have h2 : ¬ (n : Int) < 0 := by omega
  go_simp
theorem sl3a (a : Addr) (c : Nat) (w : World) : (Instr.sliceAt 22 (.slice (some a) 0 c) none (some (.int .i64 0)) (some (.int .i64 0))).run Tryd.prog w = .ok (.slice (some a) 0 0) w := by
  have h1 : (0 : Int) ≤ c := by omega
  go_simp
theorem sl3n (c : Nat) (w : World) : (Instr.sliceAt 22 (.slice none 0 c) none (some (.int .i64 0)) (some (.int .i64 0))).run Tryd.prog w = .ok (.slice none 0 0) w := by
  have h1 : (0 : Int) ≤ c := by omega
  go_simp
end WI
end Go.Proofs.YtfkgfcggcfkkiaaDoor
