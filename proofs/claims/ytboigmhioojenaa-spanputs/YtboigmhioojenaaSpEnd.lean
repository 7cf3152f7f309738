import Derived.ChangeSlices
import Derived.Deep.Slices
import Derived.Lib.SmallJoins
import Derived.ChangeOld
import Derived.Below
import Derived.WalkKit
import Derived.ProofKit
import Derived.OpenShut
import Derived.ShutString
import Derived.SliceStrings
import Derived.SizedLaws
import Derived.Test.YtboigmhioojenaaSp3
set_option linter.unusedVariables false
set_option linter.unusedSimpArgs false
namespace Go.Proofs.Ytboigmhioojenaa
open Go.RowKit Go.Sort Go.Deep
/-- A row of eleven cells in a new block. -/
theorem row_new {W : World} {cs : List Value} (hl : cs.length = 11) : (W.alloc (.cells zR.toArray 27)).there W.heap.size 0 cs.toArray.size ∧ ((W.alloc (.cells zR.toArray 27)).setCells W.heap.size 0 cs).rangeAt W.heap.size 0 cs ∧ Below W.heap.size W ((W.alloc (.cells zR.toArray 27)).setCells W.heap.size 0 cs) ∧ W.heap.size < ((W.alloc (.cells zR.toArray 27)).setCells W.heap.size 0 cs).heap.size := by
  have hb : (W.alloc (.cells zR.toArray 27)).heap[W.heap.size]? = some (.cells zR.toArray 27 (0, 0)) := Array.getElem?_push_size
  obtain ⟨p1, p2, p3, p4, p5⟩ := put11b (w := W) hb hl (alloc_below W _) (Nat.le_refl _)
  refine ⟨p1, p2, p3, ?_⟩
  have : (W.alloc (.cells zR.toArray 27)).heap.size = W.heap.size + 1 := World.size_alloc _ _
  omega
theorem lent_holds {W : World} {k : Nat} {s : ByteArray} (h : Holds SP.encB W k 0 (SP.lent s)) : Holds SP.encB W k 0 s.data := SP.holds_text s h
theorem cs_one (q : Rg) : ∀ v ∈ q.cs, v.oneCell' = true := fun v hv => by
  simp only [Rg.cs, rgC, List.mem_cons, List.not_mem_nil, or_false] at hv
  rcases hv with rfl | rfl | rfl | rfl | rfl | rfl | rfl | rfl | rfl | rfl | rfl <;> rfl
theorem vl_q {W : World} {s : Sv} {ys : List Value} (h : VL W s.q s.n ys) : ∃ b o, s.n = 0 ∨ s.q = some ⟨b, o, none⟩ := by
  rcases h.cells with rfl | ⟨b, o, h1, -⟩
  · exact ⟨0, 0, Or.inl h.len.symm⟩
  · exact ⟨b, o, Or.inr h1⟩
set_option maxHeartbeats 8000000 in
set_option maxRecDepth 100000 in
theorem putsL (p : Rg) {ys1 ys2 : List Value} {BB : List SP.Bs} (s : ByteArray) (w : World) (hL : VL w p.l.q p.l.n ys1) (hR : VL w p.r.q p.r.n ys2) (hS : ∀ u ∈ ys1 ++ ys2, ∃ s : Sv, u = s.v) (hB : PtL w (ordV p ys1 ys2) BB) :
    Calls Try.prog 3 #[.agg p.cs.toArray, .string s] w fun e W => e = .returned (.bool true) ∧ Below w.heap.size w W := by
  obtain ⟨bl, ol, hl⟩ := vl_q hL
  obtain ⟨br, or, hr⟩ := vl_q hR
  obtain ⟨cs, hcs⟩ : ∃ cs : List Value, Hid (p.cs = cs) := ⟨_, rfl⟩
  obtain ⟨w1, hw1⟩ : ∃ w1, Hid (w.alloc (.cells cs.toArray 27) = w1) := ⟨_, rfl⟩
  have b1 : Below w.heap.size w w1 := by rw [← hw1.out]; exact alloc_below _ _
  have z1 : w1.heap.size = w.heap.size + 1 := by rw [← hw1.out, World.size_alloc]
  have r1 : w1.rangeAt w.heap.size 0 cs := by rw [← hw1.out]; exact alloc_range w cs _
  have HR : Hid (∀ w', Below w1.heap.size w1 w' → w'.rangeAt w.heap.size 0 cs) := fun w' hb => range_below r1 hb (by omega)
  have lcs : Hid (cs.length = 11) := by rw [← hcs.out]; rfl
  have hCl : Hid (Calls Try.prog 4 #[.agg cs.toArray] w1 (ClR w1 p.l.n p.r.n (p.all ys1 ys2))) := by
    rw [← hcs.out]
    exact claimed_c p.a p.b p.c p.d p.e p.f p.g p.l p.r p.x p.y w1 (hL.below b1) (hR.below b1) hS
  have hPut : Hid (∀ w', Below w1.heap.size w1 w' → p.l.n ≤ 10 → p.r.n ≤ 10 → Calls Try.prog 5 #[.agg cs.toArray] w' (PutR w' p.l.n p.r.n BB)) := fun w' hb h1 h2 => by
    rw [← hcs.out]
    exact sPut_c p w' ((hL.below b1).below hb) ((hR.below b1).below hb) hl hr ((hB.below b1).below hb) (by omega) (by omega)
  have hRPut : Hid (∀ w', Below w1.heap.size w1 w' → p.l.n ≤ 10 → p.r.n ≤ 10 → Calls Try.prog 6 #[.agg cs.toArray] w' (RPutR w' p.l.n p.r.n BB)) := fun w' hb h1 h2 => by
    rw [← hcs.out]
    exact rPut_c p w' ((hL.below b1).below hb) ((hR.below b1).below hb) hl hr ((hB.below b1).below hb) hS (by omega) (by omega)
  have HB1 := Hid.mkP b1
  have HR1 := Hid.mkP r1
  obtain ⟨dR, huR, hrR⟩ := Option.map_eq_some_iff.1 uRg
  rw [hcs.out]
  clear b1 z1 r1 hL hR hS hB hl hr
  go_enter Try.func3, Try.ntmps3
  go_wp2_with (first | (refine wpList_opP (v := .pointer (some ⟨w.heap.size, 0, none⟩)) (w' := w1) rfl (.box 27 (.tmp 0)) rfl ?_ ?_; (rw [← hw1.out, ← hcs.out]; kernel_rfl)) | (refine wpList_load_mid rfl 27 _ rfl w.heap.size 0 ?_ cs dR ?_ ?_ ?_ ?_ ?_; rfl; exact HR1.out; exact huR; exact hrR; (rw [lcs.out]; exact iRg); skip) | fail)
  refine hCl.out.mono ?_
  rintro e w2 ⟨hb2, t, rfl, ht⟩
  have HB2 := Hid.mkP hb2
  have Ht := Hid.mkP ht
  clear hb2 ht hCl HR1
  cases t with
  | false =>
    go_wp2
    go_ret
    exact ⟨rfl, HB1.out.trans (HB2.out.mono HB1.out.size)⟩
  | true =>
    by_cases hs : s.size ≤ 4096
    · have hs' : ¬ (4096 : Int) < (s.size : Int) := by omega
      obtain ⟨n1, n2, -⟩ := Ht.out rfl
      have HR2 := Hid.mkP (HR.out w2 HB2.out)
      have hP2 := Hid.mkP (hPut.out w2 HB2.out n1 n2)
      have hRP : Hid (∀ w', Below w1.heap.size w1 w' → Calls Try.prog 6 #[.agg cs.toArray] w' (RPutR w' p.l.n p.r.n BB)) := fun w' hb => hRPut.out w' hb n1 n2
      clear n1 n2 hPut hRPut Ht
      go_wp2_with (first | (refine wpList_load_mid rfl 27 _ rfl w.heap.size 0 ?_ cs dR ?_ ?_ ?_ ?_ ?_; rfl; exact HR2.out; exact huR; exact hrR; (rw [lcs.out]; exact iRg); skip) | fail)
      refine hP2.out.mono ?_
      intro e w3 h3
      obtain ⟨hb3, qb, cb, rfl, hp3⟩ := put_u h3
      have HB3 : Hid (Below w1.heap.size w1 w3) := HB2.out.trans (hb3.mono HB2.out.size)
      have HR3 := Hid.mkP (HR.out w3 HB3.out)
      have hP3 := Hid.mkP (hRP.out w3 HB3.out)
      have HP3 := Hid.mkP hp3
      clear h3 hb3 hp3 hP2 HR2 hRP
      generalize hX : xP p.l.n p.r.n BB = X at HP3 ⊢
      generalize hE : erP p.l.n p.r.n BB = er
      have HX := Hid.mkP (And.intro hX hE)
      clear hX hE
      obtain ⟨nX, hnX⟩ : ∃ nX, Hid (Array.size X = nX) := ⟨_, rfl⟩
      rw [hnX.out] at HP3 ⊢
      go_wp2_with (first | (refine wpList_load_mid rfl 27 _ rfl w.heap.size 0 ?_ cs dR ?_ ?_ ?_ ?_ ?_; rfl; exact HR3.out; exact huR; exact hrR; (rw [lcs.out]; exact iRg); skip) | fail)
      refine hP3.out.mono ?_
      intro e w4 h4
      obtain ⟨hb4, rfl⟩ := rput_u h4
      rw [HX.out.1, HX.out.2]
      have hcv := (HP3.out.below hb4).conv
      have HB4 : Hid (Below w.heap.size w w4) := HB1.out.trans ((HB3.out.trans (hb4.mono HB3.out.size)).mono HB1.out.size)
      clear h4 hb4 hP3 HR3 HP3 HB3 HX hnX HR HB1 HB2 hw1 lcs hcs
      go_wp2_with fail
      obtain ⟨gi, hgi⟩ : ∃ gi, Hid (w4.heap.size = gi) := ⟨_, rfl⟩
      obtain ⟨n, hn⟩ : ∃ n, Hid (s.size + 160 = n) := ⟨_, rfl⟩
      have hLt := Hid.mkP (SP.LentJ s w4 (by omega))
      rw [hgi.out, hn.out] at hLt
      refine hLt.out.mono ?_
      rintro e w5 ⟨rfl, hb5, hH5⟩
      have hl5 := SP.Holds.lt hH5 (by rw [SP.lent_size]; omega)
      have hSr := Hid.mkP (sRead_c s.data gi n (by show s.size ≤ _; omega) (by show s.size < n; have := hn.out; omega) w5 hl5 (lent_holds hH5))
      have K5 : Hid (Below w.heap.size w w5 ∧ Holds SP.encB w5 gi 0 (SP.lent s) ∧ gi < w5.heap.size ∧ w.heap.size ≤ gi) := by
        have h4 := HB4.out.size
        have := hgi.out
        rw [← hgi.out] at hb5
        exact ⟨HB4.out.trans (hb5.mono HB4.out.size), hH5, hl5, by omega⟩
      have hsl := slB_hiP gi 0 n n s.size (by have := hn.out; omega)
      have hnb : Hid (n ≤ 5000) := by show _ ≤ _; have := hn.out; omega
      clear hb5 hH5 hl5 hLt hcv
      go_wp2_with fail
      refine hSr.out.mono ?_
      intro e w6 h6
      obtain ⟨hb6, q, l1, l2, B, rfl, U6⟩ := rdu h6
      obtain ⟨qs, hqs⟩ : ∃ qs : List Value, Hid (q.cs = qs) := ⟨_, rfl⟩
      obtain ⟨es, hes⟩ : ∃ es, Hid (eS s.data = es) := ⟨_, rfl⟩
      have lqs : Hid (qs.length = 11) := by rw [← hqs.out]; rfl
      have oqs : Hid (∀ v ∈ qs, v.oneCell' = true) := by rw [← hqs.out]; exact cs_one q
      obtain ⟨w7, hw7⟩ : ∃ w7, Hid (w6.alloc (.cells zR.toArray 27) = w7) := ⟨_, rfl⟩
      obtain ⟨w8, hw8⟩ : ∃ w8, Hid (w7.setCells w6.heap.size 0 qs = w8) := ⟨_, rfl⟩
      have RN := Hid.mkP (row_new (W := w6) lqs.out)
      rw [hw7.out, hw8.out] at RN
      obtain ⟨gq, hgq⟩ : ∃ gq, Hid (w6.heap.size = gq) := ⟨_, rfl⟩
      have K8 : Hid (Below w.heap.size w w8 ∧ Holds SP.encB w8 gi 0 (SP.lent s) ∧ gi < w8.heap.size ∧ w.heap.size ≤ gi ∧ gi < w5.heap.size ∧ RdU w5.heap.size B w8 s.data q l1 l2 ∧ w8.rangeAt gq 0 qs ∧ gi < gq ∧ gq < w8.heap.size) := by
        obtain ⟨k1, k2, k3, k4⟩ := K5.out
        have b68 := RN.out.2.2.1
        have b58 := hb6.trans (b68.mono hb6.size)
        have s1 := hb6.size
        have s2 := b68.size
        have s3 := RN.out.2.2.2
        have s4 := hgq.out
        refine ⟨k1.trans (b58.mono k1.size), SP.Holds.below k2 b58 k3, by omega, k4, k3, U6.below b68, ?_, by omega, by omega⟩
        rw [← hgq.out]
        exact RN.out.2.1
      rw [hqs.out, hes.out]
      rw [hgq.out] at RN hw8
      clear h6 hb6 U6 hSr hsl K5
      go_wp2_with (first | (refine wpList_opP (v := .pointer (some ⟨gq, 0, none⟩)) (w' := w7) (w := w6) rfl (.alloc 27) rfl ?_ ?_; (rw [← hw7.out, ← hgq.out]; kernel_rfl)) | (refine wpList_store_mid rfl 27 _ _ rfl gq 0 qs.toArray ?_ ?_ ?_ ?_ ?_ ?_; rfl; rfl; exact RN.out.1; (rw [List.size_toArray, lqs.out]; exact iRg); exact Go.all_oneCell_toArray oqs.out; rw [show qs.toArray.toList = qs from rfl, hw8.out]) | fail)
      have hSt := Hid.mkP (SP.StillJ gi _ s w8 (by omega) K8.out.2.1 rfl)
      rw [hn.out] at hSt
      refine hSt.out.mono ?_
      rintro e w9 ⟨rfl, hb9⟩
      have K9 : Hid (Below w.heap.size w w9 ∧ Ex1 w9 w9 gi n ∧ w.heap.size ≤ gi ∧ gi < w5.heap.size ∧ RdU w5.heap.size B w9 s.data q l1 l2 ∧ w9.rangeAt gq 0 qs ∧ gi < gq ∧ gq < w9.heap.size) := by
        obtain ⟨k1, k2, k3, k4, k5, k6, k7, k8, k9⟩ := K8.out
        refine ⟨k1.trans (hb9.mono k1.size), ⟨rfl, rfl, rfl, rfl, fun _ _ => rfl, fun j hj => ?_⟩, k4, k5, k6.below hb9, range_below k7 hb9 k9, k8, Nat.lt_of_lt_of_le k9 hb9.size⟩
        have := SP.Holds.below k2 hb9 k3 j (by rw [SP.lent_size]; have := hn.out; omega)
        rw [Nat.zero_add] at this
        exact ⟨⟨_, this.1⟩, this.2⟩
      clear hb9 hSt K8 RN hw7 hw8 hgi HB4 hgq
      go_wp2_with fail
      go_loopg [13] n (fun gk s13 wr => ∃ i : Nat, i + gk = n ∧ s13 = .int .i64 (i : Int) ∧ Hid (Ex1 w9 wr gi n))
      case atStart => exact ⟨0, by omega, rfl, K9.out.2.1⟩
      case round =>
        obtain ⟨i, hi, rfl, X1⟩ := hrel
        by_cases him : i < n
        · have him' : (i : Int) < (n : Int) := by omega
          obtain ⟨⟨u, hu⟩, hf⟩ := X1.out.th i him
          have X2 : Hid (Ex1 w9 (wr.setCell ⟨gi, i, none⟩ (.int .u8 7)) gi n) := X1.out.set i _
          have hni : n ≤ 5000 := hnb.out
          clear X1
          go_wp2
          go_roundg (gk - 1)
          case measure => omega
          case rel => exact ⟨i + 1, by omega, rfl, X2⟩
        · have him' : ¬ (i : Int) < (n : Int) := by omega
          go_wp2_with fail
          have K10 : Hid (Below w.heap.size w wr ∧ RdU w5.heap.size B wr s.data q l1 l2 ∧ wr.rangeAt gq 0 qs ∧ gq < wr.heap.size ∧ w.heap.size ≤ B) := by
            obtain ⟨k1, -, k3, k4, k5, k6, k7, k8⟩ := K9.out
            have hN := k5.NB
            refine ⟨X1.out.below k1 k3, k5.keep (fun b h1 _ => X1.out.bl b (by omega)) (by rw [X1.out.size]; exact Nat.le_refl _), fun j u hj => ?_, by rw [X1.out.size]; exact k8, by omega⟩
            rw [(cell_blk (X1.out.bl gq (by omega)) (0 + j)).1]
            exact k6 j u hj
          clear K9 X1
          refine (rfu s (by omega) wr).mono ?_
          rintro e w11 ⟨hb11, v, m1, m2, rfl, U11⟩
          rw [hes.out]
          obtain ⟨vs, hvs⟩ : ∃ vs : List Value, Hid (v.cs = vs) := ⟨_, rfl⟩
          have lvs : Hid (vs.length = 11) := by rw [← hvs.out]; rfl
          have ovs : Hid (∀ v ∈ vs, v.oneCell' = true) := by rw [← hvs.out]; exact cs_one v
          obtain ⟨w12, hw12⟩ : ∃ w12, Hid (w11.alloc (.cells zR.toArray 27) = w12) := ⟨_, rfl⟩
          obtain ⟨w13, hw13⟩ : ∃ w13, Hid (w12.setCells w11.heap.size 0 vs = w13) := ⟨_, rfl⟩
          have RN := Hid.mkP (row_new (W := w11) lvs.out)
          rw [hw12.out, hw13.out] at RN
          obtain ⟨gv, hgv⟩ : ∃ gv, Hid (w11.heap.size = gv) := ⟨_, rfl⟩
          have K13 : Hid (Below w.heap.size w w13 ∧ RdU w5.heap.size B w13 s.data q l1 l2 ∧ RfU w13 s.data v m1 m2 ∧ w13.rangeAt gq 0 qs ∧ w13.rangeAt gv 0 vs ∧ gq < w13.heap.size ∧ w.heap.size ≤ B) := by
            obtain ⟨k1, k2, k3, k4, k5⟩ := K10.out
            have b2 := RN.out.2.2.1
            have b3 := hb11.trans (b2.mono hb11.size)
            refine ⟨k1.trans (b3.mono k1.size), k2.below b3, U11.below b2, range_below k3 b3 k4, by rw [← hgv.out]; exact RN.out.2.1, Nat.lt_of_lt_of_le k4 b3.size, k5⟩
          rw [hvs.out]
          rw [hgv.out] at RN hw13
          clear hb11 U11 K10
          have hSm : Hid (Calls Try.prog 11 #[.agg qs.toArray, .agg vs.toArray] w13 fun e' w' => e' = .returned (.bool true) ∧ Below w13.heap.size w13 w') := by
            rw [← hqs.out, ← hvs.out]
            exact same_u K13.out.2.1 K13.out.2.2.1
          go_wp2_with (first | (refine wpList_opP (v := .pointer (some ⟨gv, 0, none⟩)) (w' := w12) (w := w11) rfl (.alloc 27) rfl ?_ ?_; (rw [← hw12.out, ← hgv.out]; kernel_rfl)) | (refine wpList_store_mid rfl 27 _ _ rfl gv 0 vs.toArray ?_ ?_ ?_ ?_ ?_ ?_; rfl; rfl; exact RN.out.1; (rw [List.size_toArray, lvs.out]; exact iRg); exact Go.all_oneCell_toArray ovs.out; rw [show vs.toArray.toList = vs from rfl, hw13.out]) | (refine wpList_load_mid rfl 27 _ rfl gq 0 ?_ qs dR ?_ ?_ ?_ ?_ ?_; rfl; exact K13.out.2.2.2.1; exact huR; exact hrR; (rw [lqs.out]; exact iRg); skip) | (refine wpList_load_mid rfl 27 _ rfl gv 0 ?_ vs dR ?_ ?_ ?_ ?_ ?_; rfl; exact K13.out.2.2.2.2.1; exact huR; exact hrR; (rw [lvs.out]; exact iRg); skip) | fail)
          refine hSm.out.mono ?_
          rintro e w14 ⟨rfl, hb14⟩
          have K14 : Hid (Below w.heap.size w w14 ∧ RdU w5.heap.size B w14 s.data q l1 l2 ∧ w14.rangeAt gq 0 qs ∧ w.heap.size ≤ B) := by
            obtain ⟨k1, k2, -, k3, -, k4, k5⟩ := K13.out
            exact ⟨k1.trans (hb14.mono k1.size), k2.below hb14, range_below k3 hb14 k4, k5⟩
          have hAl : Hid (Calls Try.prog 13 #[.agg qs.toArray] w14 fun e' w' => ∃ v, e' = .returned v ∧ GLs w14 w' v (q.all l1 l2)) := by
            rw [← hqs.out]
            exact all_u K14.out.2.1
          clear hb14 K13 hSm RN hw12 hw13 hgv
          go_wp2_with (first | (refine wpList_load_mid rfl 27 _ rfl gq 0 ?_ qs dR ?_ ?_ ?_ ?_ ?_; rfl; exact K14.out.2.2.1; exact huR; exact hrR; (rw [lqs.out]; exact iRg); skip) | fail)
          refine hAl.out.mono ?_
          rintro e w15 ⟨v15, rfl, g15⟩
          have hAp := Hid.mkP (apart_u K14.out.2.1 (by show s.size ≤ _; omega) g15)
          have K15 : Hid (Below w.heap.size w w15 ∧ w.heap.size ≤ B) := ⟨K14.out.1.trans (g15.bl.mono K14.out.1.size), K14.out.2.2.2⟩
          clear g15 hAl K14
          go_wp2_with fail
          refine hAp.out.mono ?_
          rintro e w16 ⟨rfl, hb16⟩
          have K16 : Hid (Below w.heap.size w w16) := K15.out.1.trans (hb16.mono K15.out.2)
          clear hb16 hAp K15
          go_wp2
          go_ret
          exact ⟨rfl, K16.out⟩
    · have hs' : (4096 : Int) < (s.size : Int) := by omega
      go_wp2
      go_ret
      exact ⟨rfl, HB1.out.trans (HB2.out.mono HB1.out.size)⟩
end Go.Proofs.Ytboigmhioojenaa
namespace Go.Proofs.Ytboigmhioojenaa
open Go.RowKit Go.Sort Go.Deep Go.ChangeShapes Go.WideShapes Go.ChangeAt
theorem cells5B : Try.prog.cellsOf 5 = 1 := by kernel_rfl
theorem cellsSl : Try.prog.cellsOf 22 = 1 := by kernel_rfl
theorem cellsLs : Try.prog.cellsOf 23 = 1 := by kernel_rfl
theorem cellsIn : Try.prog.cellsOf 25 = 4 := by kernel_rfl
theorem cellsRg : Try.prog.cellsOf 27 = 11 := by kernel_rfl
theorem range8B {n : Int} (h : (Lit.int .u8 n).wf = true) : 0 ≤ n ∧ n ≤ 255 := by
  simp only [Lit.wf, Bool.and_eq_true, decide_eq_true_eq] at h
  exact h
section
variable {H : Type} {enc : TypeId × Value → H} {W : World}
/-- Bytes that are handed in. -/
theorem bytes_of {n : Nat} {v : Value} {x : DataW H × List MemPlace} (hf : DataW.trod enc Try.prog W 0 (fun _ => true) true n 22 [v] = some x) (hz : W.noneFrozen x.2) : ∃ b : SP.Bs, Pt W v b := by
  rcases open_ints Try.underlying22 Try.underlying5 cells5B hf with ⟨hcs, hx⟩ | ⟨a, l, c, zs, hcs, _, hl, hm, hzl, hx, hcell, hws⟩
  · simp only [List.cons.injEq, and_true] at hcs
    subst hcs
    exact ⟨#[], none, 0, rfl, Or.inl rfl⟩
  · simp only [List.cons.injEq, and_true] at hcs
    subst hcs
    simp only [if_true] at hzl
    subst hx
    have hr : ∀ j, j < l → 0 ≤ zs.getD j 0 ∧ zs.getD j 0 ≤ 255 := fun j hj => by
      refine range8B (hws _ ?_)
      rw [List.getD_eq_getElem?_getD, List.getElem?_eq_getElem (by omega)]
      exact List.getElem_mem _
    have hsz : ((List.range l).map fun j => UInt8.ofNat (zs.getD j 0).toNat).toArray.size = l := by simp
    refine ⟨((List.range l).map fun j => UInt8.ofNat (zs.getD j 0).toNat).toArray, some a, c, by rw [hsz], ?_⟩
    rw [hsz]
    by_cases h0 : l = 0
    · exact Or.inl h0
    · right
      obtain ⟨b, off, spot⟩ := a
      have hspot : spot = none := by simpa [Addr.add] using World.cell?_spot (hcell 0 (by omega))
      subst hspot
      have hP : ∀ j, j < l → W.cell? ⟨b, off + j, none⟩ = some (.int .u8 (zs.getD j 0)) := fun j hj => by
        rw [← hcell j (by omega)]
        congr 1
        unfold Addr.add
        by_cases hj0 : j = 0
        · subst hj0; rfl
        · rw [if_neg hj0]
      refine ⟨b, off, rfl, World.block_lt_of_cell? _ _ (hP 0 (by omega)), fun j hj => ?_⟩
      rw [hsz] at hj
      refine ⟨?_, hz b (off + j) (MemPlace.mem_row.2 ⟨j, by omega, rfl⟩)⟩
      rw [hP j hj]
      have h1 : ((List.range l).map fun j => UInt8.ofNat (zs.getD j 0).toNat).toArray[j]! = UInt8.ofNat (zs.getD j 0).toNat := by
        rw [getElem!_pos _ j (by rw [hsz]; exact hj)]
        simp
      rw [h1]
      obtain ⟨y1, y2⟩ := hr j hj
      show _ = some (Value.int .u8 (((UInt8.ofNat (zs.getD j 0).toNat).toNat : Nat) : Int))
      rw [UInt8.toNat_ofNat', Nat.mod_eq_of_lt (by omega), Int.toNat_of_nonneg y1]
theorem Pt.sv {u : Value} {b : SP.Bs} (h : Pt W u b) : ∃ s : Sv, u = s.v := by
  obtain ⟨q, c, rfl, -⟩ := h
  exact ⟨⟨_, _, _⟩, rfl⟩
/-- A list of bytes that is handed in. -/
theorem list_of {n : Nat} {v : Value} {x : DataW H × List MemPlace} (hf : DataW.trod enc Try.prog W 0 (fun _ => true) true n 23 [v] = some x) (hz : W.noneFrozen x.2) : ∃ (s : Sv) (ys : List Value), v = s.v ∧ VL W s.q s.n ys ∧ ∀ u ∈ ys, ∃ b, Pt W u b := by
  rcases open_slice1 Try.underlying23 cellsSl hf with ⟨hcs, hx⟩ | ⟨a, l, c, m, n', V, D, Pl, hcs, _, hl, hm, hmm, hx, hV⟩
  · simp only [List.cons.injEq, and_true] at hcs
    subst hcs
    exact ⟨⟨none, 0, 0⟩, [], rfl, ⟨rfl, fun _ => rfl, Or.inl rfl, fun u hu => by cases hu⟩, fun u hu => by cases hu⟩
  · simp only [List.cons.injEq, and_true] at hcs
    subst hcs
    simp only [if_true] at hmm
    subst hmm
    subst hx
    have hp : ∀ u ∈ (List.range l).map V, ∃ b, Pt W u b := fun u hu => by
      obtain ⟨j, hj, rfl⟩ := List.mem_map.1 hu
      have hj' : j < l := List.mem_range.1 hj
      refine bytes_of (hV j (by omega)).2 (fun b off hm' => hz b off (List.mem_append_right _ (List.mem_flatMap.2 ⟨j, List.mem_range.2 (by omega), hm'⟩)))
    refine ⟨⟨some a, l, m⟩, (List.range l).map V, rfl, ⟨by simp, fun e => (by cases e), ?_, fun u hu => ?_⟩, hp⟩
    · by_cases h0 : l = 0
      · subst h0; exact Or.inl rfl
      · obtain ⟨b, off, spot⟩ := a
        have hspot : spot = none := by simpa [Addr.add] using World.cell?_spot (hV 0 (by omega)).1
        subst hspot
        have hP : ∀ j, j < l → W.cell? ⟨b, off + j, none⟩ = some (V j) := fun j hj => by
          rw [← (hV j (by omega)).1, addP0]
        refine Or.inr ⟨b, off, rfl, World.block_lt_of_cell? _ _ (hP 0 (by omega)), fun j u hj => ?_⟩
        have hj' : j < l := by
          have := (List.getElem?_eq_some_iff.1 hj).1
          simpa using this
        rw [hP j hj', ← hj, List.getElem?_map, List.getElem?_range hj']
        rfl
    · obtain ⟨b, hb⟩ := hp u hu
      obtain ⟨s, rfl⟩ := hb.sv
      rfl
theorem choose_bs : ∀ (us : List Value), (∀ u ∈ us, ∃ b : SP.Bs, Pt W u b) → ∃ BB, PtL W us BB
  | [], _ => ⟨[], rfl, fun j u b h => by simp at h⟩
  | u :: r, h => by
    obtain ⟨b, hb⟩ := h u List.mem_cons_self
    obtain ⟨BB, h1, h2⟩ := choose_bs r (fun x hx => h x (List.mem_cons_of_mem _ hx))
    refine ⟨b :: BB, by rw [List.length_cons, List.length_cons, h1], fun j x y hx hy => ?_⟩
    match j, hx, hy with
    | 0, hx, hy =>
      obtain rfl := Option.some.inj hx
      obtain rfl := Option.some.inj hy
      exact hb
    | j + 1, hx, hy => exact h2 j x y hx hy
/-- A proof that is handed in. -/
theorem range_of {n : Nat} {cs : List Value} {x : DataW H × List MemPlace} (hf : DataW.trod enc Try.prog W 0 (fun _ => true) true n 27 cs = some x) (hz : W.noneFrozen x.2) :
    ∃ (p : Rg) (ys1 ys2 : List Value) (BB : List SP.Bs), cs = p.cs ∧ VL W p.l.q p.l.n ys1 ∧ VL W p.r.q p.r.n ys2 ∧ (∀ u ∈ ys1 ++ ys2, ∃ s : Sv, u = s.v) ∧ PtL W (ordV p ys1 ys2) BB := by
  obtain ⟨xs, n1, -, rfl, hl, hlen, hfs⟩ := DataW.trod_struct Try.underlying27 hf
  rw [cellsRg] at hl
  obtain ⟨z0, z1, z2, z3, z4, z5, z6, z7, z8, z9, z10, rfl⟩ := len11 cs hl
  have hfz : ∀ (j : Nat) (y : DataW H × List MemPlace), xs[j]? = some y → W.noneFrozen y.2 := fun j y hy b off hm => hz b off (List.mem_flatMap.2 ⟨y, List.mem_of_getElem? hy, hm⟩)
  have hx8 : xs.length = 8 := hlen
  have part : ∀ (j : Nat) (v : Value), j < 8 → List.take 1 (List.drop j [z0, z1, z2, z3, z4, z5, z6, z7, z8, z9, z10]) = [v] → DataW.trod enc Try.prog W 0 (fun _ => true) true n1 22 (List.take (Try.prog.cellsOf 22) (List.drop j [z0, z1, z2, z3, z4, z5, z6, z7, z8, z9, z10])) = xs[j]? → ∃ b : SP.Bs, Pt W v b := fun j v hj hv he => by
    rw [cellsSl, hv] at he
    obtain ⟨y, hy⟩ : ∃ y, xs[j]? = some y := ⟨_, List.getElem?_eq_getElem (by omega)⟩
    rw [hy] at he
    exact bytes_of he (hfz j y hy)
  have q0 := part 0 z0 (by omega) rfl (hfs 0 _ rfl)
  have q1 := part 1 z1 (by omega) rfl (hfs 1 _ rfl)
  have q2 := part 2 z2 (by omega) rfl (hfs 2 _ rfl)
  have q3 := part 3 z3 (by omega) rfl (hfs 3 _ rfl)
  have q4 := part 4 z4 (by omega) rfl (hfs 4 _ rfl)
  have q5 := part 5 z5 (by omega) rfl (hfs 5 _ rfl)
  have q6 := part 6 z6 (by omega) rfl (hfs 6 _ rfl)
  obtain ⟨y7, hy7⟩ : ∃ y, xs[7]? = some y := ⟨_, List.getElem?_eq_getElem (by omega)⟩
  have hI : DataW.trod enc Try.prog W 0 (fun _ => true) true n1 25 [z7, z8, z9, z10] = some y7 := by
    have h7 : DataW.trod enc Try.prog W 0 (fun _ => true) true n1 25 (List.take (Try.prog.cellsOf 25) (List.drop 7 [z0, z1, z2, z3, z4, z5, z6, z7, z8, z9, z10])) = xs[7]? := hfs 7 _ rfl
    rw [cellsIn, hy7] at h7
    exact h7
  have hfI := hfz 7 y7 hy7
  obtain ⟨w0, w1, w2, w3, n2, rfl, -, i0, i1, i2, i3⟩ := Joins.trod_struct4 Try.underlying25 hI
  simp only [cellsLs] at i0 i1
  simp only [cellsSl] at i2 i3
  obtain ⟨l, ys1, e7, vl, p7⟩ := list_of (v := z7) i0 (fun b off hm => hfI b off (List.mem_append_left _ hm))
  obtain ⟨r, ys2, e8, vr, p8⟩ := list_of (v := z8) i1 (fun b off hm => hfI b off (List.mem_append_right _ (List.mem_append_left _ hm)))
  have q9 := bytes_of (v := z9) i2 (fun b off hm => hfI b off (List.mem_append_right _ (List.mem_append_right _ (List.mem_append_left _ hm))))
  have q10 := bytes_of (v := z10) i3 (fun b off hm => hfI b off (List.mem_append_right _ (List.mem_append_right _ (List.mem_append_right _ hm))))
  have all : ∀ u ∈ [z0, z1, z2, z3, z4, z5, z6] ++ ys1 ++ ys2 ++ [z9, z10], ∃ b : SP.Bs, Pt W u b := fun u hu => by
    simp only [List.mem_append, List.mem_cons, List.not_mem_nil, or_false] at hu
    rcases hu with (((rfl | rfl | rfl | rfl | rfl | rfl | rfl) | hu) | hu) | (rfl | rfl)
    · exact q0
    · exact q1
    · exact q2
    · exact q3
    · exact q4
    · exact q5
    · exact q6
    · exact p7 u hu
    · exact p8 u hu
    · exact q9
    · exact q10
  obtain ⟨BB, hBB⟩ := choose_bs _ all
  obtain ⟨b0, k0⟩ := q0; obtain ⟨b1, k1⟩ := q1; obtain ⟨b2, k2⟩ := q2; obtain ⟨b3, k3⟩ := q3; obtain ⟨b4, k4⟩ := q4; obtain ⟨b5, k5⟩ := q5; obtain ⟨b6, k6⟩ := q6; obtain ⟨b9, k9⟩ := q9; obtain ⟨b10, k10⟩ := q10
  obtain ⟨s0, rfl⟩ := k0.sv; obtain ⟨s1, rfl⟩ := k1.sv; obtain ⟨s2, rfl⟩ := k2.sv; obtain ⟨s3, rfl⟩ := k3.sv; obtain ⟨s4, rfl⟩ := k4.sv; obtain ⟨s5, rfl⟩ := k5.sv; obtain ⟨s6, rfl⟩ := k6.sv; obtain ⟨s9, rfl⟩ := k9.sv; obtain ⟨s10, rfl⟩ := k10.sv
  subst e7 e8
  refine ⟨⟨s0, s1, s2, s3, s4, s5, s6, l, r, s9, s10⟩, ys1, ys2, BB, rfl, vl, vr, fun u hu => ?_, hBB⟩
  rcases List.mem_append.1 hu with h | h
  · obtain ⟨b, hb⟩ := p7 u h
    exact hb.sv
  · obtain ⟨b, hb⟩ := p8 u h
    exact hb.sv
end
end Go.Proofs.Ytboigmhioojenaa
/-
  THE ROW OF 'SpanPuts' round its walk: a struct of slices, a text.
-/
namespace Go.Proofs.Ytboigmhioojenaa.spanPuts
open Go.ChangeShapes Go.WideShapes Go.ChangeAt Go.RowKit
open Go.ChangeMaps (open_string shut_string)
theorem own : ownKnob Try.prog.godebug = none := by kernel_rfl
theorem laidOut : laidOutB Try.prog = true := by kernel_rfl
theorem cells9 : Try.prog.cellsOf 9 = 1 := by kernel_rfl
theorem bytes9 : Try.prog.bytesOf 9 = 16 := by kernel_rfl
set_option maxRecDepth 100000 in
theorem lifted (os : Os) (started : os.Started) (H : Type) (enc : TypeId × Value → H) :
    ReturnsInHanded {} Try.checked os 3 .any (Rows.spanPutsSpec.pre6 enc Try.prog Try.f3 Rows.spanPutsRow.domain false) (Rows.spanPutsSpec.post enc Try.prog Try.f3 false true false false) := by
  refine returnsInHanded_of_change_sized (C := Try.checked) own started (by kernel_rfl) Try.func3
    (ChangeSpec.witness6 (enc := enc) (C := Try.checked) false ⟨#[], #[.agg zR.toArray, .string ByteArray.empty], []⟩ 8 (by kernel_rfl) (by kernel_rfl) (by kernel_rfl) (by kernel_rfl)) ?_
  intro W base args ds gs before hval0 hW _ hsz0 _
  have hsz : (DataW.weightsEach Try.prog (Try.f3.params.toList ++ Rows.spanPutsSpec.plain.varTypes Try.prog) (ds ++ gs)).all (· ≤ reachBytes) = true := hsz0
  clear hsz0
  have hval : ∀ (j : Nat) t v, Try.f3.params[j]? = some t → args[j]? = some v → Value.okWide Try.prog W .any base t v := hval0
  have hW' := hW
  obtain ⟨p, q, hA0, hV, rfl, hfz, hnd⟩ := hW
  have hA : DataW.TrodAll enc Try.prog W 0 (fun _ => true) true Try.f3.params.toList args.toList ds p := hA0
  rw [Try.params3] at hA hval hsz
  obtain ⟨v0, vs0, d0, ds0, p0, q0, hargs, rfl, rfl, h0, r0⟩ := trodAll_cons hA
  obtain ⟨v1, vs1, d1, ds1, p1, q1, rfl, rfl, rfl, h1, r1⟩ := trodAll_cons r0
  obtain ⟨rfl, rfl, rfl⟩ := trodAll_nil r1
  obtain rfl : args = #[v0, v1] := by cases args; simp_all
  obtain ⟨rfl, rfl⟩ := trodVars_none hV
  have k0 := h0
  have lt0 : ∀ x ∈ p0, x.block < W.heap.size := by obtain ⟨m, hm⟩ := k0; exact DataW.trod_lt m _ _ _ hm
  obtain ⟨cs0, rfl, hsz0⟩ := okWide_struct Try.underlying27 (hval 0 27 v0 rfl rfl)
  obtain ⟨a1, rfl, rfl, rfl, w1⟩ := open_string Try.underlying9 (hval 1 9 v1 rfl rfl) h1
  obtain ⟨fuel, hf⟩ := h0
  obtain ⟨l0⟩ := cs0
  obtain ⟨pp, ys1, ys2, BB, e0, hL, hR, hS, hB⟩ := range_of (cs := l0) (by simpa [Value.cells] using hf) (fun b off hm => hfz b off (by simp only [List.mem_append]; exact Or.inl (Or.inl hm)))
  subst e0
  refine (putsL pp a1 W hL hR hS hB).mono fun e W' ⟨he, bel⟩ => ?_
  subst he
  exact ⟨_, rfl, _, _, _, [], _, [], hW', trodAll_mk1 (shut_bool Try.underlying4 _), (trodAll_cons_mk (Below.trod laidOut (by kernel_rfl) (of_decide_eq_true (by kernel_rfl)) k0 bel lt0) (trodAll_cons_mk (shut_string Try.underlying9 w1) trodAll_mk0)), rfl, bel.frame _, fun h => by cases h⟩
theorem over : Rows.spanPutsRow.holds Try.pinned (OpenSpec.ofChange Rows.spanPutsSpec) :=
  OpenClaim.holds_of_wide 3 Try.f3 rfl rfl rfl rfl rfl rfl rfl ⟨rfl, rfl, rfl, rfl, rfl⟩ rfl rfl rfl rfl rfl (by kernel_rfl) Try.func3 (by kernel_rfl)
    (of_decide_eq_true (by kernel_rfl)) (by unfold Func.isWrapper; first | (rw [if_pos (by decide +kernel)]; kernel_rfl) | (rw [if_neg (by decide +kernel)]; exact ⟨rfl, rfl⟩))
    (fun os started H enc _ => lifted os started H enc)
theorem proved : Rows.SpanPutsSaid :=
  over
end Go.Proofs.Ytboigmhioojenaa.spanPuts
namespace Go.Proofs.Ytboigmhioojenaa
/-- THE STATEMENT. -/
theorem spanPuts_holds : Rows.SpanPutsSaid := spanPuts.proved
#print axioms spanPuts_holds
end Go.Proofs.Ytboigmhioojenaa
