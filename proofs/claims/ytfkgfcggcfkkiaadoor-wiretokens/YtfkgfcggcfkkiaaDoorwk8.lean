import Derived.Deep.DeepCutAuto
import Derived.Deep.Cut
import Derived.Test.YtfkgfcggcfkkiaaDoorwk7
set_option linter.unusedVariables false
set_option linter.unusedSimpArgs false
namespace Go.Proofs.YtfkgfcggcfkkiaaDoor
open Go.RowKit Go.Sort Go.Deep
namespace WI
variable {T : World → Prop} {u : List UInt8 → Bool}
def ofL : Option (List Itm × Nat × List UInt8) → Option (Nat × List UInt8 × List Itm × Nat × List UInt8)
  | none => none
  | some (l, n', r') => some (0, [], l, n', r')
set_option maxHeartbeats 1000000 in
set_option maxRecDepth 20000 in
/-- A list is read. -/
theorem rLst_c (hU : UV T u) (fr : FuncId) (E : ∀ args w, (callFunc fr args).run Tryd.prog w = .ok (.enter fr args) w) (w : World) (R h d n : Nat) (q : Option Addr) (m c : Nat) (x : List UInt8) (N b : Nat) (rl : Option (List Itm × Nat × List UInt8)) (S : RSt T w R h d n q m c x) (hb : w.cell? ⟨b, 0, none⟩ = some (fnv fr))
    (C : ∀ w1, RSt T w1 R h d n q m c x → Calls Tryd.prog fr #[.pointer (some ⟨R, 0, none⟩), .int .u64 (N : Int)] w1 (RlR w1 R h d rl)) (rr : Option (Nat × List UInt8 × List Itm × Nat × List UInt8)) (hrr : Hid (rr = ofL rl)) :
    Calls Tryd.prog 93 #[.pointer (some ⟨R, 0, none⟩), .int .u64 (N : Int), .pointer (some ⟨b, 0, none⟩)] w (RkR w R h d rr) := by
  obtain ⟨wb, hwb⟩ : ∃ wb, Hid (w.alloc (.cells #[.int .i64 0, .int .u64 0, .slice none 0 0, .slice none 0 0] 27) = wb) := ⟨_, rfl⟩
  have hRr : Hid (RowS wb w.heap.size [.int .i64 0, .int .u64 0, .slice none 0 0, .slice none 0 0]) := by rw [← hwb.out]; exact zrow w
  have hB : Hid (Below w.heap.size w wb) := by rw [← hwb.out]; exact alloc_below _ _
  have hRw := S.row.1
  have hc := C wb (S.below hU hB.out)
  have hlt := World.block_lt_of_cell? _ _ hb
  have hb1 : wb.cell? ⟨b, 0, none⟩ = some (fnv fr) := by rw [hB.out.cell (p := ⟨b, 0, none⟩) hlt]; exact hb
  have hlt1 := World.block_lt_of_cell? _ _ hb1
  clear S hb
  go_enter Tryd.func93, Tryd.ntmps93
  go_upto_region 1 with fail
  rw [hwb.out]
  go_wp2_with fail
  refine hc.mono ?_
  rintro e w2 ⟨hF2, ⟨l, n', r, q', c', ql, cl, hrl, rfl, hrow, hrest, him⟩ | ⟨hrl, rfl⟩⟩
  · have hRr2 : Hid (RowS w2 w.heap.size [.int .i64 0, .int .u64 0, .slice none 0 0, .slice none 0 0]) := hRr.out.at hF2.size (hF2.block _ hRr.out.1 (by omega))
    obtain ⟨w3, hw3⟩ : ∃ w3, Hid (w2.setCells w.heap.size 0 [.int .i64 0, .int .u64 0, .slice none 0 0, .slice ql l.length cl] = w3) := ⟨_, rfl⟩
    have K3 : Hid (RowS w3 w.heap.size [.int .i64 0, .int .u64 0, .slice none 0 0, .slice ql l.length cl] ∧ RkR w R h d rr (.returned (itv 0 0 none 0 0 ql l.length cl)) w3) := by
      have hs1 : w.heap.size < wb.heap.size := hRr.out.1
      rw [← hw3.out]
      refine ⟨hRr2.out.scs _ rfl, ?_, Or.inl ⟨0, [], l, n', r, q', c', none, 0, ql, cl, by rw [hrr.out, hrl]; rfl, rfl, hrow.sc (by omega) _, hrest.sc (by omega) _, fun k' => ?_⟩⟩
      · exact ((FrX.of (X := (· = R)) hB.out).trans hF2 (fun _ hk => Or.inl hk)).sc (Nat.le_refl _) _
      · exact ((him k').at (sc_below _ _ _).size (fun g h1 h2 => sc_other _ _ (by omega) _ _ _)).dn (by omega)
    clear hF2 hrow hrest him hc hrl
    go_wp2_with (first | (refine wpList_store_mid rfl 27 _ _ rfl w.heap.size 0 #[.int .i64 0, .int .u64 0, .slice none 0 0, .slice ql l.length cl] ?_ ?_ ?_ ?_ ?_ ?_; rfl; rfl; exact hRr2.out.2.2; exact isz27; exact four_one _ 0 _ _ _ _ _ _; (show wpList _ _ _ _ _ (w2.setCells w.heap.size 0 [.int .i64 0, .int .u64 0, .slice none 0 0, .slice ql l.length cl])); rw [hw3.out]))
    refine bodyPost_ret (results_cellI 5 27 rfl K3.out.1 rfl urw27 isz27) rfl ?_
    exact K3.out.2
  · have KR : Hid (RkR w R h d rr thrown w2) := ⟨(FrX.of (X := (· = R)) hB.out).trans hF2 (fun _ hk => Or.inl hk), Or.inr ⟨by rw [hrr.out, hrl]; rfl, rfl⟩⟩
    clear hc hF2 hrl
    simp only [thrown, Exit.inBlock, Exit.then, bodyPost]
    exact ⟨trivial, KR.out⟩
theorem InM.pb {w : World} {B : Nat} {k : Int} {n : Nat} {dd : List UInt8} {l : List Itm} {qd : Option Addr} {dl cd : Nat} {vl : Value} (h : InM w B (.mk k n dd l) (.slice qd dl cd) vl) : PB w (.slice qd dl cd) dd ∧ dl ≤ cd ∧ dd.length ≤ 4611686018427387904 ∧ l.length ≤ 1152921504606846976 := by
  rw [InM] at h
  obtain ⟨h1, h2, h3, h4, -⟩ := h
  refine ⟨h4.pb, ?_, h2, h3⟩
  obtain ⟨q, c, e, hc, -⟩ := h4
  obtain ⟨-, rfl, rfl⟩ : qd = q ∧ dl = dd.length ∧ cd = c := by simpa using e
  exact hc
theorem ofL_bnd {f N n : Nat} {x : List UInt8} (hn : n ≤ 4096) (hx : x.length ≤ 65536) {rl : Option (List Itm × Nat × List UInt8)} (hrl : ∀ l c' r', rl = some (l, c', r') → rdN (rd u f) N n x = some (l, c', r')) : ∀ nn dd l n' r', ofL rl = some (nn, dd, l, n', r') → n' ≤ 4096 ∧ r'.length ≤ 65536 := by
  intro nn dd l n' r' h
  cases rl with
  | none => cases h
  | some y =>
    obtain ⟨l1, c1, r1⟩ := y
    simp only [ofL, Option.some.injEq, Prod.mk.injEq] at h
    obtain ⟨-, -, rfl, rfl, rfl⟩ := h
    obtain ⟨h1, h2, h3, h4, h5, h6, h7⟩ := rdN_some u (fun c b i c' b' h => rd_some u f c b i c' b' h) N n x l1 c1 r1 hn (hrl _ _ _ rfl)
    refine ⟨h6, ?_⟩
    have := congrArg List.length h1
    rw [List.length_append] at this
    omega
theorem en4 : ∀ args w, (callFunc 83 args).run Tryd.prog w = .ok (.enter 83 args) w := enters_of Tryd.func83 (by kernel_rfl) rfl
theorem ed4 : ∀ args w, (callFunc 87 args).run Tryd.prog w = .ok (.enter 87 args) w := enters_of Tryd.func87 (by kernel_rfl) rfl
theorem el4 : ∀ args w, (callFunc 93 args).run Tryd.prog w = .ok (.enter 93 args) w := enters_of Tryd.func93 (by kernel_rfl) rfl
theorem eri : ∀ args w, (callFunc 65 args).run Tryd.prog w = .ok (.enter 65 args) w := enters_of Tryd.func65 (by kernel_rfl) rfl
theorem erp : ∀ args w, (callFunc 67 args).run Tryd.prog w = .ok (.enter 67 args) w := enters_of Tryd.func67 (by kernel_rfl) rfl
section
variable (hU : UV T u) {F : Nat} {w : World} {R h d n : Nat} {q : Option Addr} {m c : Nat} {x : List UInt8} {k N : Nat} {r0 : List UInt8} {jj b : Nat} (hh : rdHead x = some (k, N, r0)) (S : RSt T w R h d n q m c x) (hd1 : d + 1 ≤ 16) (hn1 : n + 1 ≤ 4096)
include hU hh S hd1 hn1
theorem ritem_num (bw : Nat → Bool) (hkat : kAt h (k : Int) = some (jj, kNum b)) (hown : ∀ nn, own u k nn [] 0 = bw nn) (hval : ∀ w1 nn qd cd ql cl, KS w1 h → Calls Tryd.prog 80 #[itv k nn qd 0 cd ql 0 cl, .pointer (some ⟨b, 0, none⟩)] w1 (RetW (BoR w1 (bw nn)))) (hfit : rd u F n x = fit u k (some (N, [], [], n + 1, r0))) : Calls Tryd.prog 42 #[.pointer (some ⟨R, 0, none⟩)] w (RtR u F w R h d n x) := by
  obtain ⟨hlr, hk8, hN⟩ := rdHead_len hh
  have hx : x.length ≤ 65536 := by have h1 := S.hm; rw [S.rest.1] at h1; exact h1
  refine ritem_g hU F 80 81 82 83 #[.pointer (some ⟨b, 0, none⟩)] #[] #[] #[] w R h d n q m c x k N r0 jj _ (hidW hh) (hidW hkat) S en1 en4 (fun w1 qq cc S1 => ?_) (fun w1 nn dd l n' r' qd cd ql cl hr hKS hT hM => ?_) (fun nn dd l n' r' hr => ?_) hd1 (fun h' => absurd hn1 h') (fun _ => hfit)
  · refine (rNum_c w1 R N).mono ?_
    rintro e w2 ⟨v, rfl, hb, rfl⟩
    refine ⟨FrX.of hb, Or.inl ⟨N, [], [], n + 1, r0, qq, cc, none, 0, none, 0, rfl, rfl, S1.row.below hb, S1.rest.at (FrX.of hb), fun k' => imq_num hb.size k' N hN⟩⟩
  · simp only [Option.some.injEq, Prod.mk.injEq] at hr
    obtain ⟨rfl, rfl, rfl, rfl, rfl⟩ := hr
    have := hval w1 N qd cd ql cl hKS
    rw [← hown N] at this
    exact this
  · simp only [Option.some.injEq, Prod.mk.injEq] at hr
    obtain ⟨rfl, rfl, rfl, rfl, rfl⟩ := hr
    exact ⟨hn1, by omega⟩
theorem ritem_dat (bw : List UInt8 → Bool) (hkat : kAt h (k : Int) = some (jj, kDat b)) (hown : ∀ dd, own u k 0 dd 0 = bw dd) (hval : ∀ w1 dd qd cd ql cl, KS w1 h → T w1 → PB w1 (.slice qd dd.length cd) dd → dd.length ≤ cd → dd.length ≤ 4611686018427387904 → Calls Tryd.prog 84 #[itv k 0 qd dd.length cd ql 0 cl, .pointer (some ⟨b, 0, none⟩)] w1 (RetW (BoR w1 (bw dd)))) (hfit : rd u F n x = fit u k (if N ≤ r0.length then some (0, r0.take N, [], n + 1, r0.drop N) else none)) : Calls Tryd.prog 42 #[.pointer (some ⟨R, 0, none⟩)] w (RtR u F w R h d n x) := by
  obtain ⟨hlr, hk8, hN⟩ := rdHead_len hh
  have hx : x.length ≤ 65536 := by have h1 := S.hm; rw [S.rest.1] at h1; exact h1
  refine ritem_g hU F 84 85 86 87 #[.pointer (some ⟨b, 0, none⟩)] #[] #[] #[] w R h d n q m c x k N r0 jj _ (hidW hh) (hidW hkat) S ed1 ed4 (fun w1 qq cc S1 => ?_) (fun w1 nn dd l n' r' qd cd ql cl hr hKS hT hM => ?_) (fun nn dd l n' r' hr => ?_) hd1 (fun h' => absurd hn1 h') (fun _ => hfit)
  · exact rDat_c w1 R h (d + 1) (n + 1) qq r0.length cc r0 N hN S1.hm S1.row S1.rest _ (hidW rfl)
  · split at hr
    · simp only [Option.some.injEq, Prod.mk.injEq] at hr
      obtain ⟨rfl, rfl, rfl, rfl, rfl⟩ := hr
      obtain ⟨p1, p2, p3, -⟩ := hM.pb
      have := hval w1 _ qd cd ql cl hKS hT p1 p2 p3
      rw [← hown] at this
      exact this
    · cases hr
  · split at hr
    · simp only [Option.some.injEq, Prod.mk.injEq] at hr
      obtain ⟨rfl, rfl, rfl, rfl, rfl⟩ := hr
      exact ⟨hn1, by rw [List.length_drop]; omega⟩
    · cases hr
theorem ritem_lst (by' : Nat) (hby : by' = 1 ∨ by' = 2) (fr : FuncId) (E : ∀ args w, (callFunc fr args).run Tryd.prog w = .ok (.enter fr args) w) (rl : Option (List Itm × Nat × List UInt8)) (hkat : kAt h (k : Int) = some (jj, kLst b)) (hown : ∀ (l : List Itm), own u k 0 [] l.length = (l.length % by' == 0)) (hc0 : ∀ w1, KS w1 h → w1.cell? ⟨b, 0, none⟩ = some (.int .i64 (by' : Int)) ∧ w1.cell? ⟨b + 2, 0, none⟩ = some (fnv fr)) (C : ∀ w1 qq cc, RSt T w1 R h (d + 1) (n + 1) qq r0.length cc r0 → Calls Tryd.prog fr #[.pointer (some ⟨R, 0, none⟩), .int .u64 (N : Int)] w1 (RlR w1 R h (d + 1) rl)) (hbnd : ∀ nn dd l n' r', ofL rl = some (nn, dd, l, n', r') → n' ≤ 4096 ∧ r'.length ≤ 65536) (hfit : rd u F n x = fit u k (ofL rl)) : Calls Tryd.prog 42 #[.pointer (some ⟨R, 0, none⟩)] w (RtR u F w R h d n x) := by
  refine ritem_g hU F 90 91 92 93 #[.pointer (some ⟨b, 0, none⟩)] #[.pointer (some ⟨b, 0, none⟩)] #[.pointer (some ⟨b + 1, 0, none⟩)] #[.pointer (some ⟨b + 2, 0, none⟩)] w R h d n q m c x k N r0 jj _ (hidW hh) (hidW hkat) S el1 el4 (fun w1 qq cc S1 => ?_) (fun w1 nn dd l n' r' qd cd ql cl hr hKS hT hM => ?_) hbnd hd1 (fun h' => absurd hn1 h') (fun _ => hfit)
  · exact rLst_c hU fr E w1 R h (d + 1) (n + 1) qq r0.length cc r0 N (b + 2) rl S1 (hc0 w1 S1.ks).2 (fun w2 S2 => C w2 qq cc S2) _ (hidW rfl)
  · cases rl with
    | none => cases hr
    | some y =>
      obtain ⟨l1, c1, r1⟩ := y
      simp only [ofL, Option.some.injEq, Prod.mk.injEq] at hr
      obtain ⟨rfl, rfl, rfl, rfl, rfl⟩ := hr
      obtain ⟨-, -, -, p4⟩ := hM.pb
      have := vLst_c by' hby k 0 qd 0 cd ql l1.length cl b w1 (hc0 w1 hKS).1 (by omega)
      rw [show ((0 : Nat) == 0 && (0 : Nat) == 0 && l1.length % by' == 0) = own u k 0 [] l1.length by rw [hown]; simp] at this
      exact this
end
/-- THE PROGRAM'S reader: item, of any bytes. -/
theorem ritem_c (hU : UV T u) : ∀ f : Nat, RSp T u f
  | 0 => by
    intro w R h d n q m c x S hdf
    cases hh : rdHead x with
    | none => exact ritem_h hU 0 w R h d n q m c x S hh
    | some y =>
      obtain ⟨k, N, r0⟩ := y
      exact ritem_n hU 0 w R h d n q m c x S k N r0 hh (Or.inr (Or.inl (by omega))) rfl
  | f + 1 => by
    have ih := ritem_c hU f
    intro w R h d n q m c x S hdf
    cases hh : rdHead x with
    | none => exact ritem_h hU _ w R h d n q m c x S hh
    | some y =>
      obtain ⟨k, N, r0⟩ := y
      obtain ⟨hlr, hk8, hN⟩ := rdHead_len hh
      have hx : x.length ≤ 65536 := by have h1 := S.hm; rw [S.rest.1] at h1; exact h1
      have hpay := rd_pay u f n x k N r0 hh
      by_cases hn1 : n + 1 ≤ 4096
      · rw [if_neg (by omega)] at hpay
        have hfit : rd u (f + 1) n x = fit u k (pay u f k N (n + 1) r0) := by
          rw [hpay]
          cases pay u f k N (n + 1) r0 with
          | none => rfl
          | some y => rfl
        clear hpay
        have hd1 : d + 1 ≤ 16 := by omega
        obtain rfl | rfl | rfl | rfl | rfl | rfl | rfl | rfl : k = 0 ∨ k = 1 ∨ k = 2 ∨ k = 3 ∨ k = 4 ∨ k = 5 ∨ k = 6 ∨ k = 7 := by omega
        · exact ritem_num (jj := 0) (b := h + 1) hU hh S hd1 hn1 (fun _ => true) rfl (fun nn => by simp [own]) (fun w1 nn qd cd ql cl K => vNumA_c 0 nn qd 0 cd ql 0 cl (h + 1) w1 K.c0) hfit
        · exact ritem_num (jj := 1) (b := h + 3) hU hh S hd1 hn1 (fun _ => true) rfl (fun nn => by simp [own]) (fun w1 nn qd cd ql cl K => vNumA_c 1 nn qd 0 cd ql 0 cl (h + 3) w1 K.c1) hfit
        · exact ritem_dat (jj := 2) (b := h + 5) hU hh S hd1 hn1 (fun _ => true) rfl (fun dd => by simp [own]) (fun w1 dd qd cd ql cl K _ _ _ _ => vDatA_c 2 0 qd dd.length cd ql 0 cl (h + 5) w1 K.c2) hfit
        · refine ritem_dat (jj := 3) (b := h + 7) hU hh S hd1 hn1 (fun dd => u dd) rfl (fun dd => by simp [own]) (fun w1 dd qd cd ql cl K hT p1 p2 p3 => ?_) hfit
          have := vDatU_c T u 3 0 qd dd.length cd ql 0 cl (h + 7) w1 K.c3 hU hT dd p1 p2 p3
          rw [show ((0 : Nat) == 0 && (0 : Nat) == 0 && u dd) = u dd by simp] at this
          exact this
        · refine ritem_lst (jj := 4) (b := h + 9) hU hh S hd1 hn1 1 (Or.inl rfl) 65 eri (rdN (rd u f) N (n + 1) r0) rfl (fun l => by simp [own, Nat.mod_one]) (fun w1 K => ⟨K.c4, K.c4r⟩) (fun w1 qq cc S1 => ritems_c hU f ih w1 R h (d + 1) (n + 1) qq r0.length cc r0 S1 (by omega) N hN _ (hidW rfl)) (ofL_bnd (u := u) (f := f) (N := N) (x := r0) hn1 (by omega) (fun l c' r' h => h)) ?_
          rw [hfit, pay, if_neg (by omega), if_neg (by omega), if_pos rfl]
          cases rdN (rd u f) N (n + 1) r0 <;> rfl
        · refine ritem_lst (jj := 5) (b := h + 13) hU hh S hd1 hn1 2 (Or.inr rfl) 67 erp (rdP (rd u f) N (n + 1) r0) rfl (fun l => by simp [own]) (fun w1 K => ⟨K.c5, K.c5r⟩) (fun w1 qq cc S1 => rpairs_c hU f ih w1 R h (d + 1) (n + 1) qq r0.length cc r0 S1 (by omega) N hN _ (hidW rfl)) (ofL_bnd (u := u) (f := f) (N := 2 * N) (x := r0) hn1 (by omega) (fun l c' r' h => ?_)) ?_
          · unfold rdP at h
            cases hz : rdN (rd u f) (2 * N) (n + 1) r0 with
            | none => rw [hz] at h; cases h
            | some y =>
              obtain ⟨l1, c1, r1⟩ := y
              rw [hz] at h
              simp only at h
              split at h
              · exact h
              · cases h
          · rw [hfit, pay, if_neg (by omega), if_neg (by omega), if_neg (by omega), if_pos rfl]
            cases rdP (rd u f) N (n + 1) r0 <;> rfl
        · refine ritem_n hU _ w R h d n q m c x S 6 N r0 hh (Or.inl rfl) ?_
          rw [hfit, pay, if_neg (by omega), if_neg (by omega), if_neg (by omega), if_neg (by omega)]
          rfl
        · refine ritem_num (jj := 6) (b := h + 17) hU hh S hd1 hn1 (fun nn => nn == 20 || nn == 21 || nn == 22) rfl (fun nn => by simp [own]) (fun w1 nn qd cd ql cl K => ?_) hfit
          have := vNum7_c 7 nn qd 0 cd ql 0 cl (h + 17) w1 K.c7
          rw [show ((0 : Nat) == 0 && (0 : Nat) == 0 && (nn == 20 || nn == 21 || nn == 22)) = (nn == 20 || nn == 21 || nn == 22) by simp] at this
          exact this
      · rw [if_pos (by omega)] at hpay
        exact ritem_n hU _ w R h d n q m c x S k N r0 hh (Or.inr (Or.inr hn1)) hpay
end WI
end Go.Proofs.YtfkgfcggcfkkiaaDoor
namespace Go.Proofs.YtfkgfcggcfkkiaaDoor
open Go.RowKit Go.Sort Go.Deep
namespace WI
variable {T : World → Prop} {u : List UInt8 → Bool}
theorem arow (w : World) (T : TypeId) (a b c d : Value) : RowS (w.alloc (.cells #[a, b, c, d] T)) w.heap.size [a, b, c, d] := by
  have e : (w.alloc (.cells #[a, b, c, d] T)).heap[w.heap.size]? = some (.cells #[a, b, c, d] T (0, 0)) := Array.getElem?_push_size
  refine ⟨(Array.getElem?_eq_some_iff.1 e).1, al_r w [a, b, c, d] _ _ rfl, fun k hk => ?_⟩
  unfold World.cell? World.frozen?
  simp only [e, Nat.zero_add]
  obtain rfl | rfl | rfl | rfl : k = 0 ∨ k = 1 ∨ k = 2 ∨ k = 3 := by simp only [List.length_cons, List.length_nil] at hk; omega
  all_goals exact ⟨rfl, rfl⟩
/-- All the bytes are one item. -/
def whole : Option (Itm × Nat × List UInt8) → Option Itm
  | some (i, _, []) => some i
  | _ => none
def rdAll (u : List UInt8 → Bool) (x : List UInt8) : Option Itm := whole (rd u 16 0 x)
theorem rdAll_y {u : List UInt8 → Bool} {x : List UInt8} {i : Itm} {n F : Nat} (hF : Hid (F = 16)) (h : rd u F 0 x = some (i, n, [])) : rdAll u x = some i := by
  rw [rdAll, ← hF.out, h, whole]
theorem rdAll_c {u : List UInt8 → Bool} {x : List UInt8} {i : Itm} {n F : Nat} {y : UInt8} {r : List UInt8} (hF : Hid (F = 16)) (h : rd u F 0 x = some (i, n, y :: r)) : rdAll u x = none := by
  rw [rdAll, ← hF.out, h]; rfl
theorem rdAll_n {u : List UInt8 → Bool} {x : List UInt8} {F : Nat} (hF : Hid (F = 16)) (h : rd u F 0 x = none) : rdAll u x = none := by
  rw [rdAll, ← hF.out, h]; rfl
theorem PBq.up {w : World} {R R' : Nat} {q : Option Addr} {m c : Nat} {x : List UInt8} (h : PBq w R q m c x) (hR : R ≤ R') : PBq w R' q m c x := by
  obtain ⟨h1, h2, h3 | ⟨b, o, h3, h4, h5⟩⟩ := h
  · exact ⟨h1, h2, Or.inl h3⟩
  · exact ⟨h1, h2, Or.inr ⟨b, o, h3, by omega, h5⟩⟩
theorem PBq.bel {w w' : World} {R : Nat} {q : Option Addr} {m c : Nat} {x : List UInt8} (h : PBq w R q m c x) (hb : Below w.heap.size w w') : PBq w' R q m c x := h.at (FrX.of hb)
/-- What read gives. -/
def RgR (u : List UInt8 → Bool) (w : World) (x : List UInt8) (e : Ending) (w' : World) : Prop := Below w.heap.size w w' ∧ ((∃ i qd dl cd ql ml cl, rdAll u x = some i ∧ e = .returned (itv i.k i.n qd dl cd ql ml cl) ∧ IMO w.heap.size w' i (.slice qd dl cd) (.slice ql ml cl)) ∨ (rdAll u x = none ∧ e = thrown))
set_option maxHeartbeats 1000000 in
set_option maxRecDepth 20000 in
theorem read_c (hU : UV T u) (w : World) (q : Option Addr) (m c : Nat) (x : List UInt8) (hT : T w) (hm : m ≤ 65536) (hP : PBq w w.heap.size q m c x) : Calls Tryd.prog 25 #[.slice q m c] w (RgR u w x) := by
  obtain ⟨w0, hw0⟩ : ∃ wb, Hid (w.alloc (.cells #[.int .i64 0, .int .u64 0, .slice none 0 0, .slice none 0 0] 27) = wb) := ⟨_, rfl⟩
  have hB0 : Hid (Below w.heap.size w w0) := by rw [← hw0.out]; exact alloc_below _ _
  have hz0 : Hid (RowS w0 w.heap.size [.int .i64 0, .int .u64 0, .slice none 0 0, .slice none 0 0]) := by rw [← hw0.out]; exact zrow w
  have hK := kinds_c w0
  have H := hidW (And.intro hT hP)
  clear hT hP
  go_enter Tryd.func25, Tryd.ntmps25
  go_upto_region 1 with fail
  rw [hw0.out]
  go_wp2_with fail
  refine hK.mono ?_
  rintro e w1 ⟨v1, rfl, rfl, hb1, hs1, K1⟩
  have hn1 := arow w1 86 (.map (some w0.heap.size)) (.int .i64 0) (.int .i64 0) (.slice q m c)
  obtain ⟨w2, hw2⟩ : ∃ w2, Hid (w1.alloc (.cells #[.map (some w0.heap.size), .int .i64 0, .int .i64 0, .slice q m c] 86) = w2) := ⟨_, rfl⟩
  have hb2 : Below w1.heap.size w1 w2 := by rw [← hw2.out]; exact alloc_below w1 _
  have r2 : RowS w2 w1.heap.size [.map (some w0.heap.size), .int .i64 0, .int .i64 0, .slice q m c] := by rw [← hw2.out]; exact hn1
  have hw0l : w.heap.size < w0.heap.size := hz0.out.1
  have hbT : Below w.heap.size w w2 := (hB0.out.trans (hb1.mono (by omega))).trans (hb2.mono (by omega))
  have h2s := hU.2.1 w H.out.1
  have S2 : Hid (RSt T w2 w1.heap.size w0.heap.size 0 0 q m c x) := ⟨K1.at hb2.size (fun k h1 h2 => hb2.block k (by have := K1.lt; omega)), r2, (H.out.2.bel hbT).up (by omega), hU.1 w _ H.out.1 (fun k hk => hbT.block k (by omega)), by omega, by omega, by omega, by omega, hm⟩
  have z2 : Hid (RowS w2 w.heap.size [.int .i64 0, .int .u64 0, .slice none 0 0, .slice none 0 0]) := (hz0.out.below hb1).below hb2
  have HB := hidW hbT
  have hs12 := hb2.size
  have hR2 := r2.1
  obtain ⟨F, h16⟩ : ∃ F, Hid (F = 16) := ⟨16, rfl⟩
  have hc := ritem_c hU F w2 w1.heap.size w0.heap.size 0 0 q m c x S2.out (by rw [h16.out])
  clear hK hb1 K1 hn1 hb2 r2 hbT hz0
  have hs1' : w0.heap.size ≤ w1.heap.size := by omega
  clear hs1
  go_upto_region 2 with fail
  rw [hw2.out]
  clear hw2
  go_wp2_with fail
  refine hc.mono ?_
  rintro e w3 ⟨hF3, ⟨i, n', r, q', c', qd, dl, cd, ql, ml, cl, hrd, rfl, hIM, hrow, hrest⟩ | ⟨hrd, rfl⟩⟩
  · unfold itv
    have hza := zrow w3
    obtain ⟨w4, hw4⟩ : ∃ w4, Hid ((w3.alloc (.cells #[.int .i64 0, .int .u64 0, .slice none 0 0, .slice none 0 0] 27)).setCells w3.heap.size 0 [.int .i64 i.k, .int .u64 (i.n : Int), .slice qd dl cd, .slice ql ml cl] = w4) := ⟨_, rfl⟩
    have hb4 : Below w3.heap.size w3 w4 := by rw [← hw4.out]; exact (alloc_below w3 _).trans (sc_below _ _ _)
    have i4 : Hid (RowS w4 w3.heap.size [.int .i64 i.k, .int .u64 (i.n : Int), .slice qd dl cd, .slice ql ml cl]) := by rw [← hw4.out]; exact hza.scs _ rfl
    have hs23 := hF3.size
    have B4 : Hid (Below w.heap.size w w4) := (HB.out.trans (hF3.below (B := w.heap.size) (fun k hk => by have : k = w1.heap.size := hk; omega) (by omega))).trans (hb4.mono (by omega))
    have z4 : Hid (RowS w4 w.heap.size [.int .i64 0, .int .u64 0, .slice none 0 0, .slice none 0 0]) := (z2.out.at hF3.size (hF3.block _ z2.out.1 (by omega))).below hb4
    have m4 : Hid (IMO w2.heap.size w4 i (.slice qd dl cd) (.slice ql ml cl)) := hIM.up hb4
    have row4 := hrow.below hb4
    have cR := row4.cell 3 _ rfl
    have hRl := row4.1
    have hth4 := hidW hza.2.2
    have HR := hidW hrd
    have hs34 := i4.out.1
    clear hF3 hrd hIM hrow hrest hza hb4 row4 hc z2 S2 HB
    go_upto_region 3 with (first | (refine wpList_store_mid rfl 27 _ _ rfl w3.heap.size 0 #[.int .i64 i.k, .int .u64 (i.n : Int), .slice qd dl cd, .slice ql ml cl] ?_ ?_ ?_ ?_ ?_ ?_; rfl; rfl; exact hth4.out; exact isz27; exact four_one _ _ _ _ _ _ _ _; (show wpList _ _ _ _ _ ((w3.alloc (.cells #[.int .i64 0, .int .u64 0, .slice none 0 0, .slice none 0 0] 27)).setCells w3.heap.size 0 [.int .i64 i.k, .int .u64 (i.n : Int), .slice qd dl cd, .slice ql ml cl])); rw [hw4.out]) | fail)
    clear hth4 hw4
    cases r with
    | nil =>
      go_wp2_with fail
      refine (must_y _).mono ?_
      rintro e w5 ⟨rfl, rfl⟩
      obtain ⟨wA, hwA⟩ : ∃ wA, Hid (w5.setCells w.heap.size 0 [.int .i64 i.k, .int .u64 (i.n : Int), .slice qd dl cd, .slice ql ml cl] = wA) := ⟨_, rfl⟩
      have KA : Hid (RowS wA w.heap.size [.int .i64 i.k, .int .u64 (i.n : Int), .slice qd dl cd, .slice ql ml cl] ∧ RgR u w x (.returned (itv i.k i.n qd dl cd ql ml cl)) wA) := by
        rw [← hwA.out]
        refine ⟨z4.out.scs _ rfl, B4.out.trans (sc_below _ _ _), Or.inl ⟨i, qd, dl, cd, ql, ml, cl, rdAll_y h16 HR.out, rfl, ?_⟩⟩
        exact (m4.out.at (sc_below _ _ _).size (fun g h1 h2 => sc_other _ _ (by omega) _ _ _)).dn (by omega)
      have a0 := i4.out.cell 0 _ rfl
      have a1 := i4.out.cell 1 _ rfl
      have a2 := i4.out.cell 2 _ rfl
      have a3 := i4.out.cell 3 _ rfl
      go_wp2_with (first | (refine wpList_store_mid rfl 27 _ _ rfl w.heap.size 0 #[.int .i64 i.k, .int .u64 (i.n : Int), .slice qd dl cd, .slice ql ml cl] ?_ ?_ ?_ ?_ ?_ ?_; rfl; rfl; exact z4.out.2.2; exact isz27; exact four_one _ _ _ _ _ _ _ _; (show wpList _ _ _ _ _ (w5.setCells w.heap.size 0 [.int .i64 i.k, .int .u64 (i.n : Int), .slice qd dl cd, .slice ql ml cl])); rw [hwA.out]) | fail)
      refine bodyPost_ret (results_cellI 2 27 rfl KA.out.1 rfl urw27 isz27) rfl ?_
      exact KA.out.2
    | cons y r =>
      have hne : (((y :: r).length : Int) == 0) = false := by rw [List.length_cons]; simp; omega
      have KR : Hid (RgR u w x thrown w4) := ⟨B4.out, Or.inr ⟨rdAll_c h16 HR.out, rfl⟩⟩
      obtain ⟨ln, hln⟩ : ∃ ln, Hid ((y :: r).length = ln) := ⟨_, rfl⟩
      rw [hln.out] at cR hne
      go_wp2_with fail
      refine (must_n _).mono ?_
      rintro e w5 ⟨rfl, rfl⟩
      simp only [Exit.inBlock, Exit.then, bodyPost]
      exact ⟨trivial, KR.out⟩
  · have KR : Hid (RgR u w x thrown w3) := ⟨HB.out.trans (hF3.below (B := w.heap.size) (fun k hk => by have : k = w1.heap.size := hk; omega) (by omega)), Or.inr ⟨rdAll_n h16 hrd, rfl⟩⟩
    clear hF3 hc hrd
    simp only [thrown, Exit.inBlock, Exit.then, bodyPost]
    exact ⟨trivial, KR.out⟩
end WI
end Go.Proofs.YtfkgfcggcfkkiaaDoor
namespace Go.Proofs.YtfkgfcggcfkkiaaDoor
open Go.RowKit Go.Sort Go.Deep
namespace WI
variable {T : World → Prop} {u : List UInt8 → Bool}
theorem catch_pI (p : Addr) (x : Int) (u : TypeId) (pv : Value) (older : List PanicEntry) (w : World) (hc : w.cell? p = some (.int .i64 x)) (hz : w.frozen? p = false) :
    CallsD Tryd.prog 40 #[.pointer (some p)] (.panicking ({ v := .iface u pv, recovered := false } :: older)) w fun e u' w' =>
      e = .returned (.tuple #[]) ∧ u' = .panicking ({ v := .iface u pv, recovered := true } :: older) ∧ w' = w.setCell p (.int .i64 2) := by
  refine callsD_of_wpS Tryd.func40 rfl fun c₀ cs hu => ?_
  apply wpS_seq
  apply wpS_region
  simp [wpOpsS, go_sem, recoverD, hu, Tryd.ntmps40, Exit.thenS]
  refine wpS_cond (t := true) (by simp [Act.eval, Array.replicate]) ?_
  simp only [if_true]
  apply wpS_region
  simp [wpOpsS, go_sem, hc, hz, bodyPostS, results, Tryd.results40]
theorem catch_iI (p : Addr) (w : World) :
    CallsD Tryd.prog 40 #[.pointer (some p)] .returning w fun e u' w' => e = .returned (.tuple #[]) ∧ u' = .returning ∧ w' = w := by
  refine callsD_of_wpS Tryd.func40 rfl fun c₀ cs hu => ?_
  apply wpS_seq
  apply wpS_region
  simp [wpOpsS, go_sem, recoverD, hu, Tryd.ntmps40, Exit.thenS]
  refine wpS_cond (t := false) (by simp [Act.eval, Array.replicate]) ?_
  simp only [Bool.false_eq_true, if_false]
  refine wpS_of_wp (wp_skip ?_)
  cases c₀
  simp_all [bodyPostS, results, Tryd.results40]
set_option maxHeartbeats 400000 in
set_option maxRecDepth 20000 in
theorem parse1_c (hU : UV T u) (w : World) (q : Option Addr) (m c bx : Nat) (x : List UInt8) (hT : T w) (hm : m ≤ 65536) (hP : PBq w w.heap.size q m c x) (hbx : w.cell? ⟨bx, 0, none⟩ = some (.slice q m c)) : Calls Tryd.prog 24 #[.pointer (some ⟨bx, 0, none⟩)] w (RgR u w x) := by
  obtain ⟨w0, hw0⟩ : ∃ wb, Hid (w.alloc (.cells #[.int .i64 0, .int .u64 0, .slice none 0 0, .slice none 0 0] 27) = wb) := ⟨_, rfl⟩
  have hB0 : Hid (Below w.heap.size w w0) := by rw [← hw0.out]; exact alloc_below _ _
  have hz0 : Hid (RowS w0 w.heap.size [.int .i64 0, .int .u64 0, .slice none 0 0, .slice none 0 0]) := by rw [← hw0.out]; exact zrow w
  have hlt := World.block_lt_of_cell? _ _ hbx
  have h2s := hU.2.1 w hT
  have hw0l := hz0.out.1
  have hc := read_c hU w0 q m c x (hU.1 w _ hT (fun k hk => hB0.out.block k (by omega))) hm ((hP.bel hB0.out).up (by omega))
  have hb1 : w0.cell? ⟨bx, 0, none⟩ = some (.slice q m c) := by rw [hB0.out.cell (p := ⟨bx, 0, none⟩) hlt]; exact hbx
  have hlt1 := World.block_lt_of_cell? _ _ hb1
  clear hT hP hbx
  go_enter Tryd.func24, Tryd.ntmps24
  go_upto_region 1 with fail
  rw [hw0.out]
  go_wp2_with fail
  refine hc.mono ?_
  rintro e w1 ⟨hb, ⟨i, qd, dl, cd, ql, ml, cl, hr, rfl, hI⟩ | ⟨hr, rfl⟩⟩
  · unfold itv
    have z1 : Hid (RowS w1 w.heap.size [.int .i64 0, .int .u64 0, .slice none 0 0, .slice none 0 0]) := hz0.out.below hb
    obtain ⟨wA, hwA⟩ : ∃ wA, Hid (w1.setCells w.heap.size 0 [.int .i64 i.k, .int .u64 (i.n : Int), .slice qd dl cd, .slice ql ml cl] = wA) := ⟨_, rfl⟩
    have KA : Hid (RowS wA w.heap.size [.int .i64 i.k, .int .u64 (i.n : Int), .slice qd dl cd, .slice ql ml cl] ∧ RgR u w x (.returned (itv i.k i.n qd dl cd ql ml cl)) wA) := by
      rw [← hwA.out]
      refine ⟨z1.out.scs _ rfl, (hB0.out.trans (hb.mono (by omega))).trans (sc_below _ _ _), Or.inl ⟨i, qd, dl, cd, ql, ml, cl, hr, rfl, ?_⟩⟩
      exact (hI.at (sc_below _ _ _).size (fun g h1 h2 => sc_other _ _ (by omega) _ _ _)).dn (by omega)
    clear hb hr hI hc
    go_wp2_with (first | (refine wpList_store_mid rfl 27 _ _ rfl w.heap.size 0 #[.int .i64 i.k, .int .u64 (i.n : Int), .slice qd dl cd, .slice ql ml cl] ?_ ?_ ?_ ?_ ?_ ?_; rfl; rfl; exact z1.out.2.2; exact isz27; exact four_one _ _ _ _ _ _ _ _; (show wpList _ _ _ _ _ (w1.setCells w.heap.size 0 [.int .i64 i.k, .int .u64 (i.n : Int), .slice qd dl cd, .slice ql ml cl])); rw [hwA.out]) | fail)
    refine bodyPost_ret (results_cellI 1 27 rfl KA.out.1 rfl urw27 isz27) rfl ?_
    exact KA.out.2
  · have KR : Hid (RgR u w x thrown w1) := ⟨hB0.out.trans (hb.mono (by omega)), Or.inr ⟨hr, rfl⟩⟩
    clear hb hr hc
    simp only [thrown, Exit.inBlock, Exit.then, bodyPost]
    exact ⟨trivial, KR.out⟩
/-- What Parse answers, of bytes that are not too long. -/
def PaR (u : List UInt8 → Bool) (w : World) (x : List UInt8) (e : Value) (w' : World) : Prop := Below w.heap.size w w' ∧ ((∃ i qd dl cd ql ml cl, rdAll u x = some i ∧ e = .tuple #[itv i.k i.n qd dl cd ql ml cl, .int .i64 0] ∧ IMO w.heap.size w' i (.slice qd dl cd) (.slice ql ml cl)) ∨ (rdAll u x = none ∧ e = .tuple #[itv 0 0 none 0 0 none 0 0, .int .i64 2]))
set_option maxHeartbeats 1000000 in
set_option maxRecDepth 20000 in
theorem caughtI_c (hU : UV T u) (w : World) (q : Option Addr) (m c bx : Nat) (x : List UInt8) (hT : T w) (hm : m ≤ 65536) (hP : PBq w w.heap.size q m c x) (hbx : w.cell? ⟨bx, 0, none⟩ = some (.slice q m c)) : Calls Tryd.prog 23 #[.func (.func 24) #[] #[.pointer (some ⟨bx, 0, none⟩)]] w (RetW (PaR u w x)) := by
  have hmf : ∀ (fn : Fn) (first cap : Array Value) (w : World), (Instr.makeFunc fn first cap).run Tryd.prog w = .ok (.func fn first cap) w := fun _ _ _ _ => rfl
  obtain ⟨w0, hw0⟩ : ∃ wb, Hid ((w.alloc (.cells #[.int .i64 0, .int .u64 0, .slice none 0 0, .slice none 0 0] 27)).alloc (.cells #[.int .i64 0] 28) = wb) := ⟨_, rfl⟩
  have hs0 : w0.heap.size = w.heap.size + 2 := by rw [← hw0.out, World.size_alloc, World.size_alloc]
  have hB0 : Hid (Below w.heap.size w w0) := by rw [← hw0.out]; exact (alloc_below _ _).trans ((alloc_below _ _).mono (by rw [World.size_alloc]; omega))
  have hz0 : Hid (RowS w0 w.heap.size [.int .i64 0, .int .u64 0, .slice none 0 0, .slice none 0 0]) := by rw [← hw0.out]; exact (zrow w).below (alloc_below _ _)
  have c0 : w0.cell? ⟨w.heap.size + 1, 0, none⟩ = some (.int .i64 0) := by
    rw [← hw0.out]
    exact al_c _ _ _ _ 0 _ (World.size_alloc _ _) rfl
  have f0 : w0.frozen? ⟨w.heap.size + 1, 0, none⟩ = false := by
    rw [← hw0.out]
    exact al_z _ _ _ _ _ (World.size_alloc _ _)
  have hlt := World.block_lt_of_cell? _ _ hbx
  have h2s := hU.2.1 w hT
  have hF := parse1_c hU w0 q m c bx x (hU.1 w _ hT (fun k hk => hB0.out.block k (by omega))) hm ((hP.bel hB0.out).up (by omega)) (by rw [hB0.out.cell (p := ⟨bx, 0, none⟩) hlt]; exact hbx)
  have HS := hidW hs0
  have HC := hidW (And.intro c0 f0)
  clear hT hP hbx hs0 c0 f0
  go_enter_defers Tryd.func23, Tryd.ntmps23
  go_upto_region 2 with fail
  rw [hw0.out]
  go_wp2_with fail
  refine hF.mono ?_
  rintro e w2 ⟨hb, hw⟩
  have hlt1 : w.heap.size + 1 < w0.heap.size := by have := HS.out; omega
  have c2 : w2.cell? ⟨w.heap.size + 1, 0, none⟩ = some (.int .i64 0) := by rw [hb.cell (p := ⟨w.heap.size + 1, 0, none⟩) hlt1]; exact HC.out.1
  have z2 : w2.frozen? ⟨w.heap.size + 1, 0, none⟩ = false := by rw [World.frozen?_of_block (a := ⟨w.heap.size + 1, 0, none⟩) (hb.block (w.heap.size + 1) hlt1)]; exact HC.out.2
  have r2 := hz0.out.below hb
  have hs2 := hb.size
  rcases hw with ⟨i, qd, dl, cd, ql, ml, cl, hr, rfl, hI⟩ | ⟨hr, rfl⟩
  · obtain ⟨w3, hw3⟩ : ∃ w3, Hid (w2.setCells w.heap.size 0 [.int .i64 i.k, .int .u64 (i.n : Int), .slice qd dl cd, .slice ql ml cl] = w3) := ⟨_, rfl⟩
    have r3 : RowS w3 w.heap.size [.int .i64 i.k, .int .u64 (i.n : Int), .slice qd dl cd, .slice ql ml cl] := by rw [← hw3.out]; exact r2.scs _ rfl
    have e3 : w3.heap[w.heap.size + 1]? = w2.heap[w.heap.size + 1]? := by rw [← hw3.out]; exact sc_other _ _ (by omega) _ _ _
    have c3 : w3.cell? ⟨w.heap.size + 1, 0, none⟩ = some (.int .i64 0) := by rw [World.cell?_of_block (a := ⟨w.heap.size + 1, 0, none⟩) e3]; exact c2
    have z3 : w3.frozen? ⟨w.heap.size + 1, 0, none⟩ = false := by rw [World.frozen?_of_block (a := ⟨w.heap.size + 1, 0, none⟩) e3]; exact z2
    obtain ⟨w4, hw4⟩ : ∃ w4, Hid (w3.setCell ⟨w.heap.size + 1, 0, none⟩ (.int .i64 0) = w4) := ⟨_, rfl⟩
    have r4 : RowS w4 w.heap.size [.int .i64 i.k, .int .u64 (i.n : Int), .slice qd dl cd, .slice ql ml cl] := by
      rw [← hw4.out]
      exact r3.at (by rw [World.size_setCell]; exact Nat.le_refl _) (blk_other _ _ _ _ (by show w.heap.size ≠ w.heap.size + 1; omega))
    have c4 : w4.cell? ⟨w.heap.size + 1, 0, none⟩ = some (.int .i64 0) := by rw [← hw4.out]; exact World.cell?_setCell_same _ _ _ c3
    have KF : Hid (PaR u w x (.tuple #[itv i.k i.n qd dl cd ql ml cl, .int .i64 0]) w4) := by
      have hs3 : w3.heap.size = w2.heap.size := by rw [← hw3.out]; exact RG.setCells_size _ _ _ _
      rw [← hw4.out]
      refine ⟨?_, Or.inl ⟨i, qd, dl, cd, ql, ml, cl, hr, rfl, ?_⟩⟩
      · refine Below.setCell (p := ⟨w.heap.size + 1, 0, none⟩) ?_ (by show w.heap.size ≤ w.heap.size + 1; omega) _
        rw [← hw3.out]
        exact (hB0.out.trans (hb.mono (by omega))).trans (sc_below _ _ _)
      · refine (hI.at (w' := w3.setCell ⟨w.heap.size + 1, 0, none⟩ (.int .i64 0)) (by rw [World.size_setCell]; omega) (fun g h1 h2 => ?_)).dn (by omega)
        rw [blk_other _ _ _ _ (by show g ≠ w.heap.size + 1; omega), ← hw3.out]
        exact sc_other _ _ (by omega) _ _ _
    have hth := hidW r2.2.2
    have hl3 := r3.1
    have a0 := r4.cell 0 _ rfl
    have a1 := r4.cell 1 _ rfl
    have a2 := r4.cell 2 _ rfl
    have a3 := r4.cell 3 _ rfl
    have hlt3 := World.block_lt_of_cell? _ _ c3
    unfold itv
    clear hF hb hr hI r2 r3 r4 c2 z2 e3 HC hz0 hB0
    go_wp2_with (first | (refine wpList_store_mid rfl 27 _ _ rfl w.heap.size 0 #[.int .i64 i.k, .int .u64 (i.n : Int), .slice qd dl cd, .slice ql ml cl] ?_ ?_ ?_ ?_ ?_ ?_; rfl; rfl; exact hth.out; exact isz27; exact four_one _ _ _ _ _ _ _ _; (show wpList _ _ _ _ _ (w2.setCells w.heap.size 0 [.int .i64 i.k, .int .u64 (i.n : Int), .slice qd dl cd, .slice ql ml cl])); rw [hw3.out]) | fail)
    rw [hw4.out]
    refine leaves_cons (f := 40) (args := #[.pointer (some ⟨w.heap.size + 1, 0, none⟩)]) (by simp) (by simp [go_sem]) ?_
    refine (catch_iI ⟨w.heap.size + 1, 0, none⟩ _).mono ?_
    rintro e u' w'' ⟨rfl, rfl, rfl⟩
    simp [Leaves, settle, results, Tryd.results23, go_sem, c4, a0, a1, a2, a3]
    exact ⟨_, rfl, KF.out⟩
  · obtain ⟨w3, hw3⟩ : ∃ w3, Hid (w2.setCell ⟨w.heap.size + 1, 0, none⟩ (.int .i64 2) = w3) := ⟨_, rfl⟩
    have KF : Hid (PaR u w x (.tuple #[itv 0 0 none 0 0 none 0 0, .int .i64 2]) w3) := by
      rw [← hw3.out]
      exact ⟨(hB0.out.trans (hb.mono (by omega))).setCell (p := ⟨w.heap.size + 1, 0, none⟩) (by show w.heap.size ≤ w.heap.size + 1; omega) _, Or.inr ⟨hr, rfl⟩⟩
    have c3 : w3.cell? ⟨w.heap.size + 1, 0, none⟩ = some (.int .i64 2) := by rw [← hw3.out]; exact World.cell?_setCell_same _ _ _ c2
    have r3 : RowS w3 w.heap.size [.int .i64 0, .int .u64 0, .slice none 0 0, .slice none 0 0] := by
      rw [← hw3.out]
      exact r2.at (by rw [World.size_setCell]; exact Nat.le_refl _) (blk_other _ _ _ _ (by show w.heap.size ≠ w.heap.size + 1; omega))
    have a0 := r3.cell 0 _ rfl
    have a1 := r3.cell 1 _ rfl
    have a2 := r3.cell 2 _ rfl
    have a3 := r3.cell 3 _ rfl
    clear hF hb hr r2 r3 HC hz0 hB0
    show bodyPostD _ _ _ _ _ _
    refine leaves_cons (f := 40) (args := #[.pointer (some ⟨w.heap.size + 1, 0, none⟩)]) (by simp) (by simp [go_sem]) ?_
    refine (catch_pI ⟨w.heap.size + 1, 0, none⟩ 0 28 _ [] _ c2 z2).mono ?_
    rintro e u' w'' ⟨rfl, rfl, rfl⟩
    rw [hw3.out]
    simp [Leaves, settle, results, Tryd.results23, go_sem, c3, a0, a1, a2, a3]
    exact ⟨_, rfl, KF.out⟩
end WI
end Go.Proofs.YtfkgfcggcfkkiaaDoor
namespace Go.Proofs.YtfkgfcggcfkkiaaDoor
open Go.RowKit Go.Sort Go.Deep
namespace WI
variable {T : World → Prop} {u : List UInt8 → Bool}
theorem results_ti {P : Program} {fn : Func} {tmps : Array Value} {W : World} {k : Nat} {vs : List Value} (t : Tmp) (T : TypeId) (s : Tmp) (v : Value) (hr : fn.results = #[.cell t T, .tmp s]) (h : RowS W k vs) (ht : tmps[t]? = some (.pointer (some ⟨k, 0, none⟩))) (hs : tmps[s]? = some v)
    (hu : (P.underlying T).map (·.isRow) = some true) (hi : (P.info? T).map (·.size) = some vs.length) : (results fn tmps).run P W = .ok (.tuple #[.agg vs.toArray, v]) W := by
  obtain ⟨d, hu, hd⟩ := Option.map_eq_some_iff.1 hu
  have h1 := run_loadVar_mid (P := P) W k 0 T vs d h.2.1 hu hd hi
  have h2 : tmps.getD t undef = .pointer (some ⟨k, 0, none⟩) := by rw [Array.getD_eq_getD_getElem?, ht]; rfl
  have h3 : tmps.getD s undef = v := by rw [Array.getD_eq_getD_getElem?, hs]; rfl
  unfold results
  rw [hr]
  simp only [Array.mapM_eq_mapM_toList, List.mapM_cons, List.mapM_nil, h2, h3, asAddr]
  simp [Sem.run_bind, h1]
set_option maxHeartbeats 1000000 in
set_option maxRecDepth 20000 in
/-- THE PROGRAM'S Parse. -/
theorem Parse_c (hU : UV T u) (w : World) (q : Option Addr) (m c : Nat) (x : List UInt8) (hT : T w) (hm : m ≤ 65536) (hP : PBq w w.heap.size q m c x) : Calls Tryd.prog 8 #[.slice q m c] w (RetW (PaR u w x)) := by
  have hmf : ∀ (fn : Fn) (first cap : Array Value) (w : World), (Instr.makeFunc fn first cap).run Tryd.prog w = .ok (.func fn first cap) w := fun _ _ _ _ => rfl
  obtain ⟨w0, hw0⟩ : ∃ wb, Hid ((w.alloc (.cells #[.slice q m c] 22)).alloc (.cells #[.int .i64 0, .int .u64 0, .slice none 0 0, .slice none 0 0] 27) = wb) := ⟨_, rfl⟩
  have hs0 : Hid (w0.heap.size = w.heap.size + 2) := by rw [← hw0.out]; exact (World.size_alloc _ _).trans (by rw [World.size_alloc])
  have hB0 : Hid (Below w.heap.size w w0) := by rw [← hw0.out]; exact (alloc_below _ _).trans ((alloc_below _ _).mono (by rw [World.size_alloc]; omega))
  have hz0 : Hid (RowS w0 (w.heap.size + 1) [.int .i64 0, .int .u64 0, .slice none 0 0, .slice none 0 0]) := by
    have := zrow (w.alloc (.cells #[.slice q m c] 22))
    rw [World.size_alloc, hw0.out] at this
    exact this
  have c0 : w0.cell? ⟨w.heap.size, 0, none⟩ = some (.slice q m c) := by
    rw [← hw0.out]
    exact al_old _ _ _ _ (al_c w _ _ _ 0 _ rfl rfl)
  have hlt := World.block_lt_of_cell? _ _ c0
  have h2s := hU.2.1 w hT
  have hF := caughtI_c hU w0 q m c w.heap.size x (hU.1 w _ hT (fun k hk => hB0.out.block k (by omega))) hm ((hP.bel hB0.out).up (by have := hs0.out; omega)) c0
  have g : ¬ (65536 : Int) < (m : Int) := by omega
  clear hT hP
  go_enter Tryd.func8, Tryd.ntmps8
  go_upto_region 1 with fail
  rw [hw0.out]
  go_wp2_with fail
  refine hF.mono ?_
  rintro e w2 ⟨v, rfl, hb, hv⟩
  have r2 := hz0.out.below hb
  have hth := hidW r2.2.2
  have hB2 := hidW (hB0.out.trans (hb.mono (by have := hs0.out; omega)))
  rcases hv with ⟨i, qd, dl, cd, ql, ml, cl, hr, rfl, hI⟩ | ⟨hr, rfl⟩
  · obtain ⟨w3, hw3⟩ : ∃ w3, Hid (w2.setCells (w.heap.size + 1) 0 [.int .i64 i.k, .int .u64 (i.n : Int), .slice qd dl cd, .slice ql ml cl] = w3) := ⟨_, rfl⟩
    have K3 : Hid (RowS w3 (w.heap.size + 1) [.int .i64 i.k, .int .u64 (i.n : Int), .slice qd dl cd, .slice ql ml cl] ∧ PaR u w x (.tuple #[itv i.k i.n qd dl cd ql ml cl, .int .i64 0]) w3) := by
      have h0 := hs0.out
      rw [← hw3.out]
      refine ⟨r2.scs _ rfl, hB2.out.trans ((sc_below _ _ _).mono (by omega)), Or.inl ⟨i, qd, dl, cd, ql, ml, cl, hr, rfl, ?_⟩⟩
      exact (hI.at (sc_below _ _ _).size (fun g h1 h2 => sc_other _ _ (by omega) _ _ _)).dn (by omega)
    unfold itv
    clear hF hb hr hI r2
    go_wp2_with (first | (refine wpList_store_mid rfl 27 _ _ rfl (w.heap.size + 1) 0 #[.int .i64 i.k, .int .u64 (i.n : Int), .slice qd dl cd, .slice ql ml cl] ?_ ?_ ?_ ?_ ?_ ?_; rfl; rfl; exact hth.out; exact isz27; exact four_one _ _ _ _ _ _ _ _; (show wpList _ _ _ _ _ (w2.setCells (w.heap.size + 1) 0 [.int .i64 i.k, .int .u64 (i.n : Int), .slice qd dl cd, .slice ql ml cl])); rw [hw3.out]) | fail)
    refine bodyPost_ret (results_ti 2 27 3 (.int .i64 0) rfl K3.out.1 rfl rfl urw27 isz27) rfl ?_
    exact ⟨_, rfl, K3.out.2⟩
  · obtain ⟨w3, hw3⟩ : ∃ w3, Hid (w2.setCells (w.heap.size + 1) 0 [.int .i64 0, .int .u64 ((0 : Nat) : Int), .slice none 0 0, .slice none 0 0] = w3) := ⟨_, rfl⟩
    have K3 : Hid (RowS w3 (w.heap.size + 1) [.int .i64 0, .int .u64 ((0 : Nat) : Int), .slice none 0 0, .slice none 0 0] ∧ PaR u w x (.tuple #[itv 0 0 none 0 0 none 0 0, .int .i64 2]) w3) := by
      have h0 := hs0.out
      rw [← hw3.out]
      exact ⟨r2.scs _ rfl, hB2.out.trans ((sc_below _ _ _).mono (by omega)), Or.inr ⟨hr, rfl⟩⟩
    unfold itv
    clear hF hb hr r2
    go_wp2_with (first | (refine wpList_store_mid rfl 27 _ _ rfl (w.heap.size + 1) 0 #[.int .i64 0, .int .u64 ((0 : Nat) : Int), .slice none 0 0, .slice none 0 0] ?_ ?_ ?_ ?_ ?_ ?_; rfl; rfl; exact hth.out; exact isz27; exact four_one _ _ _ _ _ _ _ _; (show wpList _ _ _ _ _ (w2.setCells (w.heap.size + 1) 0 [.int .i64 0, .int .u64 ((0 : Nat) : Int), .slice none 0 0, .slice none 0 0])); rw [hw3.out]) | fail)
    refine bodyPost_ret (results_ti 2 27 3 (.int .i64 2) rfl K3.out.1 rfl rfl urw27 isz27) rfl ?_
    exact ⟨_, rfl, K3.out.2⟩
/-- Of bytes that are too long. -/
theorem Parse_l (w : World) (q : Option Addr) (m c : Nat) (hm : 65536 < m) : Calls Tryd.prog 8 #[.slice q m c] w (RetW fun e w' => Below w.heap.size w w' ∧ e = .tuple #[itv 0 0 none 0 0 none 0 0, .int .i64 1]) := by
  obtain ⟨w0, hw0⟩ : ∃ wb, Hid ((w.alloc (.cells #[.slice q m c] 22)).alloc (.cells #[.int .i64 0, .int .u64 0, .slice none 0 0, .slice none 0 0] 27) = wb) := ⟨_, rfl⟩
  have hB0 : Hid (Below w.heap.size w w0) := by rw [← hw0.out]; exact (alloc_below _ _).trans ((alloc_below _ _).mono (by rw [World.size_alloc]; omega))
  have hz0 : Hid (RowS w0 (w.heap.size + 1) [.int .i64 0, .int .u64 0, .slice none 0 0, .slice none 0 0]) := by
    have := zrow (w.alloc (.cells #[.slice q m c] 22))
    rw [World.size_alloc, hw0.out] at this
    exact this
  have c0 : w0.cell? ⟨w.heap.size, 0, none⟩ = some (.slice q m c) := by
    rw [← hw0.out]
    exact al_old _ _ _ _ (al_c w _ _ _ 0 _ rfl rfl)
  have hlt := World.block_lt_of_cell? _ _ c0
  have g : (65536 : Int) < (m : Int) := by omega
  obtain ⟨w3, hw3⟩ : ∃ w3, Hid (w0.setCells (w.heap.size + 1) 0 [.int .i64 0, .int .u64 ((0 : Nat) : Int), .slice none 0 0, .slice none 0 0] = w3) := ⟨_, rfl⟩
  have K3 : Hid (RowS w3 (w.heap.size + 1) [.int .i64 0, .int .u64 ((0 : Nat) : Int), .slice none 0 0, .slice none 0 0] ∧ Below w.heap.size w w3) := by
    rw [← hw3.out]
    exact ⟨hz0.out.scs _ rfl, hB0.out.trans ((sc_below _ _ _).mono (by omega))⟩
  go_enter Tryd.func8, Tryd.ntmps8
  go_upto_region 1 with fail
  rw [hw0.out]
  go_wp2_with (first | (refine wpList_store_mid rfl 27 _ _ rfl (w.heap.size + 1) 0 #[.int .i64 0, .int .u64 ((0 : Nat) : Int), .slice none 0 0, .slice none 0 0] ?_ ?_ ?_ ?_ ?_ ?_; rfl; rfl; exact hz0.out.2.2; exact isz27; exact four_one _ _ _ _ _ _ _ _; (show wpList _ _ _ _ _ (w0.setCells (w.heap.size + 1) 0 [.int .i64 0, .int .u64 ((0 : Nat) : Int), .slice none 0 0, .slice none 0 0])); rw [hw3.out]) | fail)
  refine bodyPost_ret (results_ti 2 27 3 (.int .i64 1) rfl K3.out.1 rfl rfl urw27 isz27) rfl ?_
  exact ⟨_, rfl, K3.out.2, rfl⟩
end WI
end Go.Proofs.YtfkgfcggcfkkiaaDoor
namespace Go.Proofs.YtfkgfcggcfkkiaaDoor
open Go.RowKit Go.Sort Go.Deep
namespace WI
/-- The values of Same's region 6. -/
def GS6 (i1 i2 j : Nat) (v1 v2 p1 p2 a1 a2 : Value) (w0 : World) : RX.Gw where
  R i v _ := v = ([.pointer (some ⟨i1, 3, none⟩), v1, .int .i64 (j : Int), p1, a1, .pointer (some ⟨i2, 3, none⟩), v2, .int .i64 (j : Int), p2, a2, .bool true, .bool true] : List Value).getD i undef
  B w := Below w0.heap.size w0 w
  sR i v w w' hb h := h
  sB w w' hb h := h.trans (hb.mono h.size)
def SaR (w : World) (e : Value) (w' : World) : Prop := Below w.heap.size w w' ∧ e = .bool true
def SaS (i : Itm) : Prop := ∀ (w : World) (qd : Option Addr) (dl cd : Nat) (ql : Option Addr) (m cl : Nat) (qd' : Option Addr) (dl' cd' : Nat) (ql' : Option Addr) (m' cl' : Nat), InM w w.heap.size i (.slice qd dl cd) (.slice ql m cl) → InM w w.heap.size i (.slice qd' dl' cd') (.slice ql' m' cl') → Calls Tryd.prog 11 #[itv i.k i.n qd dl cd ql m cl, itv i.k i.n qd' dl' cd' ql' m' cl'] w (RetW (SaR w))
theorem bx_at {w wb : World} {k : Int} {n : Nat} {v1 v2 : Value} (hwb : Hid (w.alloc (.cells #[.int .i64 k, .int .u64 (n : Int), v1, v2] 27) = wb)) : ∀ w1, Below wb.heap.size wb w1 → w1.cell? ⟨w.heap.size, 0, none⟩ = some (.int .i64 k) ∧ w1.cell? ⟨w.heap.size, 1, none⟩ = some (.int .u64 (n : Int)) ∧ w1.cell? ⟨w.heap.size, 2, none⟩ = some v1 ∧ w1.cell? ⟨w.heap.size, 3, none⟩ = some v2 ∧ w.heap.size < w1.heap.size := fun w1 hb => by
  have hz : ∀ j v, ([.int .i64 k, .int .u64 (n : Int), v1, v2] : List Value)[j]? = some v → w1.cell? ⟨w.heap.size, j, none⟩ = some v := fun j v hj => by
    have := al_c w #[.int .i64 k, .int .u64 (n : Int), v1, v2] 27 _ j v rfl (by simpa using hj)
    rw [hwb.out] at this
    rw [hb.cell (p := ⟨w.heap.size, j, none⟩) (World.block_lt_of_cell? _ _ this)]
    exact this
  exact ⟨hz 0 _ rfl, hz 1 _ rfl, hz 2 _ rfl, hz 3 _ rfl, World.block_lt_of_cell? _ _ (hz 0 _ rfl)⟩
theorem ce_range {w : World} {b o : Nat} {i : Itm} {vd vl : Value} (h : CeI w b o i vd vl) : w.rangeAt b o [.int .i64 i.k, .int .u64 (i.n : Int), vd, vl] := fun t u ht => by
  match t, ht with
  | 0, ht => obtain rfl := Option.some.inj ht; exact h.1
  | 1, ht => obtain rfl := Option.some.inj ht; exact h.2.1
  | 2, ht => obtain rfl := Option.some.inj ht; exact h.2.2.1
  | 3, ht => obtain rfl := Option.some.inj ht; exact h.2.2.2
  | t + 4, ht => cases ht
set_option maxHeartbeats 1000000 in
set_option maxRecDepth 20000 in
theorem same_step (k : Int) (n : Nat) (d : List UInt8) (l : List Itm) (hI : ∀ i ∈ l, SaS i) : SaS (.mk k n d l) := by
  intro w qd dl cd ql m cl qd' dl' cd' ql' m' cl' hM hM'
  show Calls Tryd.prog 11 #[itv k n qd dl cd ql m cl, itv k n qd' dl' cd' ql' m' cl'] w _
  unfold itv
  rw [InM] at hM hM'
  obtain ⟨hn64, hd62, hl60, hpd, q1, c1, hq1, hin⟩ := hM
  obtain ⟨-, -, -, hpd', q2, c2, hq2, hin'⟩ := hM'
  obtain ⟨rfl, rfl, rfl⟩ : ql = q1 ∧ m = l.length ∧ cl = c1 := by simpa using hq1
  obtain ⟨rfl, rfl, rfl⟩ : ql' = q2 ∧ m' = l.length ∧ cl' = c2 := by simpa using hq2
  obtain ⟨wa, hwa⟩ : ∃ wb, Hid (w.alloc (.cells #[.int .i64 k, .int .u64 (n : Int), .slice qd dl cd, .slice ql l.length cl] 27) = wb) := ⟨_, rfl⟩
  obtain ⟨wb, hwb⟩ : ∃ wb, Hid (wa.alloc (.cells #[.int .i64 k, .int .u64 (n : Int), .slice qd' dl' cd', .slice ql' l.length cl'] 27) = wb) := ⟨_, rfl⟩
  have hba : Hid (Below w.heap.size w wa) := by rw [← hwa.out]; exact alloc_below _ _
  have hbb : Hid (Below wa.heap.size wa wb) := by rw [← hwb.out]; exact alloc_below _ _
  have hb0 : Hid (Below w.heap.size w wb) := hba.out.trans (hbb.out.mono hba.out.size)
  have bx1 : Hid (∀ w1, Below wb.heap.size wb w1 → _) := fun w1 h => bx_at hwa w1 (hbb.out.trans (h.mono hbb.out.size))
  have bx2 : Hid (∀ w1, Below wb.heap.size wb w1 → _) := bx_at hwb
  have hcv : Hid (∀ X, Below wb.heap.size wb X → (convert 22 9 (.slice qd dl cd)).run Tryd.prog X = .ok (.string ⟨d.toArray⟩) X) := fun X hX => pb_conv ((hpd.pb.below hb0.out).below hX)
  have hcv' : Hid (∀ X, Below wb.heap.size wb X → (convert 22 9 (.slice qd' dl' cd')).run Tryd.prog X = .ok (.string ⟨d.toArray⟩) X) := fun X hX => pb_conv ((hpd'.pb.below hb0.out).below hX)
  obtain ⟨S, hS⟩ : ∃ S, Hid ((⟨d.toArray⟩ : ByteArray) = S) := ⟨_, rfl⟩
  rw [hS.out] at hcv hcv'
  have hse : (S.toList == S.toList) = true := by simp
  have HE : Hid (∀ X, Below wb.heap.size wb X → ∀ j i, l[j]? = some i → ∃ b off b' off' qd1 dl1 cd1 ql1 ml1 cl1 qd2 dl2 cd2 ql2 ml2 cl2, ql = some ⟨b, off, none⟩ ∧ ql' = some ⟨b', off', none⟩ ∧ (∀ Y, Below X.heap.size X Y → Y.rangeAt b (off + j * 4) [.int .i64 i.k, .int .u64 (i.n : Int), .slice qd1 dl1 cd1, .slice ql1 ml1 cl1] ∧ Y.rangeAt b' (off' + j * 4) [.int .i64 i.k, .int .u64 (i.n : Int), .slice qd2 dl2 cd2, .slice ql2 ml2 cl2] ∧ Calls Tryd.prog 11 #[itv i.k i.n qd1 dl1 cd1 ql1 ml1 cl1, itv i.k i.n qd2 dl2 cd2 ql2 ml2 cl2] Y (RetW (SaR Y)))) := fun X hX j i hi => by
    rcases hin with h | ⟨b, off, rfl, hb, hL⟩
    · rw [h] at hi; cases hi
    rcases hin' with h | ⟨b', off', rfl, hb', hL'⟩
    · rw [h] at hi; cases hi
    obtain ⟨vd, vl, hC, hM⟩ := InL.get l off j i hL hi
    obtain ⟨vd', vl', hC', hM'⟩ := InL.get l off' j i hL' hi
    obtain ⟨qd1, dl1, cd1, ql1, ml1, cl1, rfl, rfl⟩ := hM.form
    obtain ⟨qd2, dl2, cd2, ql2, ml2, cl2, rfl, rfl⟩ := hM'.form
    refine ⟨b, off, b', off', qd1, dl1, cd1, ql1, ml1, cl1, qd2, dl2, cd2, ql2, ml2, cl2, rfl, rfl, fun Y hY => ?_⟩
    have hbw : Below w.heap.size w Y := hb0.out.trans ((hX.trans (hY.mono hX.size)).mono hb0.out.size)
    refine ⟨fun t u ht => ?_, fun t u ht => ?_, hI i (List.mem_of_getElem? hi) Y _ _ _ _ _ _ _ _ _ _ _ _ (InM.mono hbw.size i _ _ (InM.at (fun k hk => hbw.block k hk) i _ _ hM)) (InM.mono hbw.size i _ _ (InM.at (fun k hk => hbw.block k hk) i _ _ hM'))⟩
    · rw [hbw.cell (p := ⟨b, _, none⟩) hb]; exact ce_range hC t u ht
    · rw [hbw.cell (p := ⟨b', _, none⟩) hb']; exact ce_range hC' t u ht
  have hR : Hid (∀ w', Below wb.heap.size wb w' → SaR w (.bool true) w') := fun w' h => ⟨hb0.out.trans (h.mono hb0.out.size), rfl⟩
  obtain ⟨mm, hm⟩ : ∃ m, Hid (l.length = m) := ⟨_, rfl⟩
  have hm60 : mm ≤ 1152921504606846976 := by rw [← hm.out]; exact hl60
  rw [hm.out] at bx1 bx2 hwa hwb ⊢
  have hcw := hcv.out wb (Below.refl _ _)
  have hcw' := hcv'.out wb (Below.refl _ _)
  rw [← hwb.out, ← hwa.out] at hcw hcw'
  have hwz : Hid (wa.heap.size = w.heap.size + 1) := by show _ = _; rw [← hwa.out, World.size_alloc]
  rw [hwz.out] at bx2
  clear hpd hpd' hin hin' hq1 hq2 hd62 hl60 hI
  go_enter Tryd.func11, Tryd.ntmps11
  go_upto_region 3 with fail
  clear hcw hcw'
  rw [hwa.out, hwb.out]
  go_wp2
  go_loopg [5] (mm + 1) (fun gk s5 wr => ∃ j : Nat, s5 = .int .i64 (j : Int) ∧ j ≤ mm ∧ gk = mm + 1 - j ∧ Below wb.heap.size wb wr)
  case atStart => exact ⟨0, rfl, Nat.zero_le _, rfl, Below.refl _ _⟩
  case round =>
    obtain ⟨j, rfl, hjm, hgk, hB⟩ := hrel
    obtain ⟨i0, i1, i2, i3, hil⟩ := bx1.out wr hB
    obtain ⟨j0, j1, j2, j3, hjl⟩ := bx2.out wr hB
    have HB := hidW hB
    by_cases hj : j < mm
    · have hjz : (j : Int) < (mm : Int) := by omega
      obtain ⟨i, hi⟩ : ∃ i, l[j]? = some i := ⟨_, List.getElem?_eq_getElem (by rw [hm.out]; exact hj)⟩
      obtain ⟨b, off, b', off', qd1, dl1, cd1, ql1, ml1, cl1, qd2, dl2, cd2, ql2, ml2, cl2, rfl, rfl, hY⟩ := HE.out wr hB j i hi
      have HY := hidW hY
      have hix := fun w => idxI b off mm cl j hj w
      have hix' := fun w => idxI b' off' mm cl' j hj w
      clear hB hY hi
      go_upto_region 6 with fail
      refine RX.Gw.draws (GS6 w.heap.size (w.heap.size + 1) j (.slice (some ⟨b, off, none⟩) mm cl) (.slice (some ⟨b', off', none⟩) mm cl') (.pointer (some ⟨b, off + j * 4, none⟩)) (.pointer (some ⟨b', off' + j * 4, none⟩)) (itv i.k i.n qd1 dl1 cd1 ql1 ml1 cl1) (itv i.k i.n qd2 dl2 cd2 ql2 ml2 cl2) wr) (by kernel_rfl) (by kernel_rfl) ?_ (Below.refl _ wr).drew ?_
      · exact ⟨RX.gw_val fun a X hp => ⟨[(2, .pointer (some ⟨w.heap.size, 0, none⟩))], .pointer (some ⟨w.heap.size, 3, none⟩), X, ⟨hp.o 2 (by kernel_rfl), trivial⟩, by kernel_rfl, Below.refl _ _, rfl⟩,
          RX.cf_ld1T 25 44 rfl (by kernel_rfl) fun a X hp => ⟨⟨w.heap.size, 3, none⟩, .slice (some ⟨b, off, none⟩) mm cl, hp.n 0 44 (by kernel_rfl) (by kernel_rfl) (by kernel_rfl), (bx1.out X (HB.out.trans ((hp.b 0 (by kernel_rfl) : Below wr.heap.size wr X).mono HB.out.size))).2.2.2.1, Below.refl _ _, rfl⟩,
          RX.gw_val fun a X hp => ⟨[(5, .int .i64 (j : Int))], .int .i64 (j : Int), X, ⟨hp.o 5 (by kernel_rfl), trivial⟩, by kernel_rfl, Below.refl _ _, rfl⟩,
          RX.gw_idxX 25 45 46 rfl fun a X hp => ⟨_, _, _, hp.n 1 45 (by kernel_rfl) (by kernel_rfl), hp.n 2 46 (by kernel_rfl) (by kernel_rfl), hix X, rfl⟩,
          RX.gw_load 27 47 rfl (by kernel_rfl) fun a X hp => ⟨b, off + j * 4, [.int .i64 i.k, .int .u64 (i.n : Int), .slice qd1 dl1 cd1, .slice ql1 ml1 cl1], hp.n 3 47 (by kernel_rfl) (by kernel_rfl), (HY.out X hp.b).1, by kernel_rfl, rfl⟩,
          RX.gw_val fun a X hp => ⟨[(3, .pointer (some ⟨w.heap.size + 1, 0, none⟩))], .pointer (some ⟨w.heap.size + 1, 3, none⟩), X, ⟨hp.o 3 (by kernel_rfl), trivial⟩, by kernel_rfl, Below.refl _ _, rfl⟩,
          RX.cf_ld1T 25 49 rfl (by kernel_rfl) fun a X hp => ⟨⟨w.heap.size + 1, 3, none⟩, .slice (some ⟨b', off', none⟩) mm cl', hp.n 5 49 (by kernel_rfl) (by kernel_rfl) (by kernel_rfl), (bx2.out X (HB.out.trans ((hp.b 0 (by kernel_rfl) : Below wr.heap.size wr X).mono HB.out.size))).2.2.2.1, Below.refl _ _, rfl⟩,
          RX.gw_val fun a X hp => ⟨[(5, .int .i64 (j : Int))], .int .i64 (j : Int), X, ⟨hp.o 5 (by kernel_rfl), trivial⟩, by kernel_rfl, Below.refl _ _, rfl⟩,
          RX.gw_idxX 25 50 51 rfl fun a X hp => ⟨_, _, _, hp.n 6 50 (by kernel_rfl) (by kernel_rfl), hp.n 7 51 (by kernel_rfl) (by kernel_rfl), hix' X, rfl⟩,
          RX.gw_load 27 52 rfl (by kernel_rfl) fun a X hp => ⟨b', off' + j * 4, [.int .i64 i.k, .int .u64 (i.n : Int), .slice qd2 dl2 cd2, .slice ql2 ml2 cl2], hp.n 8 52 (by kernel_rfl) (by kernel_rfl), (HY.out X hp.b).2.1, by kernel_rfl, rfl⟩,
          RX.gw_call fun a X hp => ⟨[(48, itv i.k i.n qd1 dl1 cd1 ql1 ml1 cl1), (53, itv i.k i.n qd2 dl2 cd2 ql2 ml2 cl2)], 11, #[itv i.k i.n qd1 dl1 cd1 ql1 ml1 cl1, itv i.k i.n qd2 dl2 cd2 ql2 ml2 cl2], ⟨hp.n 4 48 (by kernel_rfl) (by kernel_rfl), hp.n 9 53 (by kernel_rfl) (by kernel_rfl), trivial⟩, by kernel_rfl, (HY.out X hp.b).2.2.mono (by rintro e w' ⟨v, rfl, h1, rfl⟩; exact ⟨_, rfl, h1, rfl⟩)⟩,
          RX.gw_val fun a X hp => ⟨[(54, .bool true)], .bool true, X, ⟨hp.n 10 54 (by kernel_rfl) (by kernel_rfl), trivial⟩, by kernel_rfl, Below.refl _ _, rfl⟩,
          trivial⟩
      · intro V w5 hV hB5
        have h11 : V 11 = .bool true := hV 11 (Nat.lt_of_succ_le (Nat.le_of_ble_eq_true (by kernel_rfl)))
        have KB : Hid (Below wb.heap.size wb w5) := HB.out.trans ((show Below wr.heap.size wr w5 from hB5).mono HB.out.size)
        dsimp only [RX.putV, Nat.reduceAdd]
        simp only [Act.put, List.setIfInBounds_toArray, List.set_cons_succ, List.set_cons_zero]
        rw [h11]
        clear hV hB5 h11
        go_wp2
        go_roundg (mm + 1 - (j + 1))
        case measure => omega
        case rel => exact ⟨j + 1, rfl, by omega, rfl, KB.out⟩
    · have hjz : ¬ (j : Int) < (mm : Int) := by omega
      have HQ := hidW (hR.out wr hB)
      clear hB
      go_wp2
      go_ret
      exact ⟨_, rfl, HQ.out⟩
/-- SAME, of one item twice in memory. -/
theorem same_c : ∀ (N : Nat) (i : Itm), cnt i ≤ N → SaS i
  | 0, i, hN => by have := cnt_pos i; omega
  | N + 1, .mk k n d l, hN => same_step k n d l fun i hi => same_c N i (by have := cnts_mem l i hi; rw [cnt] at hN; omega)
end WI
end Go.Proofs.YtfkgfcggcfkkiaaDoor
namespace Go.Proofs.YtfkgfcggcfkkiaaDoor
open Go.RowKit Go.Sort Go.Deep
namespace WI
variable {T : World → Prop} {u : List UInt8 → Bool}
theorem whole_some {o : Option (Itm × Nat × List UInt8)} {i : Itm} (h : whole o = some i) : ∃ n, o = some (i, n, []) := by
  match o, h with
  | some (j, n, []), h => exact ⟨n, by rw [whole] at h; rw [Option.some.inj h]⟩
/-- What was read can be written, and is what it was read from. -/
theorem rdAll_wok {x : List UInt8} {i : Itm} (h : rdAll u x = some i) (hx : x.length ≤ 65536) : byt i = x ∧ wok u i 0 0 0 := by
  obtain ⟨n, h1⟩ := whole_some h
  obtain ⟨h2, h3, h4, h5, h6, h7⟩ := rd_some u 16 0 x i n [] h1
  rw [List.append_nil] at h2
  exact ⟨h2.symm, h3, by omega, by omega, by rw [← h2]; omega⟩
/-- What can be written is read so. -/
theorem rdAll_byt {i : Itm} (h : wok u i 0 0 0) (hn : n64 i) : rdAll u (byt i) = some i := by
  obtain ⟨h1, h2, h3, h4⟩ := h
  have := rd_of u 16 i 0 [] h1 (by omega) (by omega) (by omega) hn
  rw [List.append_nil] at this
  unfold rdAll
  rw [this, whole]
mutual
theorem InM.n64 {w : World} {B : Nat} : ∀ (i : Itm) (vd vl : Value), InM w B i vd vl → WI.n64 i
  | .mk k n d l, vd, vl, h => by
    rw [InM] at h
    obtain ⟨h1, h2, h3, h4, q, c, h5, h6⟩ := h
    rw [WI.n64]
    refine ⟨h1, ?_⟩
    rcases h6 with h6 | ⟨b, o, h7, h8, h9⟩
    · rw [h6, n64s]; trivial
    · exact InL.n64 l b o h9
theorem InL.n64 {w : World} {B : Nat} : ∀ (l : List Itm) (b o : Nat), InL w B l b o → n64s l
  | [], _, _, _ => by rw [n64s]; trivial
  | i :: r, b, o, h => by
    rw [InL] at h
    obtain ⟨⟨vd, vl, hc, h2⟩, h3⟩ := h
    rw [n64s]
    exact ⟨InM.n64 i vd vl h2, InL.n64 r b (o + 4) h3⟩
end
theorem f6_rd : rdAll u [246] = some (.mk 7 22 [] []) := by
  have h1 : rdHead [246] = some (7, 22, []) := by decide +kernel
  have := rd_pay u 15 0 [246] 7 22 [] h1
  rw [if_neg (by omega), pay, if_pos (by omega)] at this
  have h2 : own u ((7 : Nat) : Int) 22 [] 0 = true := by simp [own]
  simp only [List.length_nil] at this
  rw [if_pos h2] at this
  have h3 : whole (rd u (15 + 1) 0 [246]) = some (.mk 7 22 [] []) := by rw [this, whole]; rfl
  exact h3
theorem f6_byt : byt (.mk 7 22 [] []) = [246] := (rdAll_wok (u := fun _ => true) f6_rd (by decide)).1
theorem f6_wok : wok u (.mk 7 22 [] []) 0 0 0 := (rdAll_wok f6_rd (by decide)).2
theorem own_pbq {B : Nat} {w : World} {q : Option Addr} {m c : Nat} {x : List UInt8} (h : w.ownsRow B 5 1 (.slice q m c) x.length (Lib.byteCells x)) : PBq w w.heap.size q m c x := by
  have hp := own_pb h
  rcases id h with ⟨-, ⟨h1, h0⟩ | ⟨g, cap, cur, h1, g1, g2, g3, g4⟩⟩
  · injection h1 with e1 e2 e3
    subst e1 e2 e3
    exact ⟨h0.symm, Nat.le_refl _, Or.inl ⟨rfl, rfl⟩⟩
  · injection h1 with e1 e2 e3
    subst e1 e2 e3
    have hlt := (Array.getElem?_eq_some_iff.1 g2).1
    refine ⟨rfl, g3, Or.inr ⟨g, 0, rfl, hlt, hlt, fun j u hj => ?_⟩⟩
    obtain ⟨q, c, he, h1 | ⟨b, o, h1, h2⟩⟩ := hp
    · subst h1; cases hj
    · injection he with e1 _ _
      rw [h1] at e1
      injection Option.some.inj e1 with e2 e3 _
      subst e2 e3
      exact h2 j u hj
theorem DB.pbq {w : World} {base : Nat} {v : Value} {s : ByteArray} (h : DB w base v s) : ∃ q c, v = .slice q s.size c ∧ PBq w w.heap.size q s.size c s.data.toList := by
  obtain ⟨g, cap, cs, fz, h1, h2, h3, h4, h5⟩ := h
  have hl : s.data.toList.length = s.size := by rw [Array.length_toList]; rfl
  have hlt := (Array.getElem?_eq_some_iff.1 h4).1
  refine ⟨_, cap, h1, hl.symm, h2, Or.inr ⟨g, 0, rfl, hlt, hlt, fun j u hj => ?_⟩⟩
  have := h5 j u hj
  unfold World.cell?
  simp only [h4, Nat.zero_add]
  exact this
theorem one_pbq (w : World) (b : UInt8) : PBq (w.alloc (.cells #[.int .u8 (b.toNat : Int)] 5)) (w.alloc (.cells #[.int .u8 (b.toNat : Int)] 5)).heap.size (some ⟨w.heap.size, 0, none⟩) 1 1 [b] := by
  have hs : w.heap.size < (w.alloc (.cells #[.int .u8 (b.toNat : Int)] 5)).heap.size := by rw [World.size_alloc]; omega
  refine ⟨rfl, Nat.le_refl _, Or.inr ⟨w.heap.size, 0, rfl, hs, hs, fun j u hj => ?_⟩⟩
  match j, hj with
  | 0, hj =>
    obtain rfl := Option.some.inj hj
    exact al_c w _ _ _ 0 _ rfl rfl
  | j + 1, hj => simp at hj
end WI
end Go.Proofs.YtfkgfcggcfkkiaaDoor
namespace Go.Proofs.YtfkgfcggcfkkiaaDoor
open Go.RowKit Go.Sort Go.Deep
namespace WI
variable {T : World → Prop} {u : List UInt8 → Bool}
/-- The values of region 11. -/
def GT11 (it : Value) (l : Value) (i : Itm) (w0 : World) : RX.Gw where
  R j v w := if j = 2 then ∃ qd dl cd ql m cl, v = itv i.k i.n qd dl cd ql m cl ∧ InM w w.heap.size i (.slice qd dl cd) (.slice ql m cl) else v = ([it, l, undef, .bool true, .bool true] : List Value).getD j undef
  B w := Below w0.heap.size w0 w
  sR j v w w' hb h := by
    by_cases e : j = 2
    · rw [if_pos e] at h ⊢
      obtain ⟨qd, dl, cd, ql, m, cl, h1, h2⟩ := h
      exact ⟨qd, dl, cd, ql, m, cl, h1, h2.up hb⟩
    · rw [if_neg e] at h ⊢; exact h
  sB w w' hb h := h.trans (hb.mono h.size)
def TuR (w : World) (e : Value) (w' : World) : Prop := e = .bool true ∧ Below w.heap.size w w'
set_option maxHeartbeats 2000000 in
set_option maxRecDepth 20000 in
/-- The law, whatever was built. -/
theorem turns_any (hU : UV T u) (i : Itm) (w : World) (hT : T w) (q : Option Addr) (c : Nat) (L : List Nd) (h : NdL w q L) (hL : L.length ≤ 1152921504606846976) (s : ByteArray) (hB : L.length ≤ 256 → ∀ X, NdL X q L → Calls Tryd.prog 16 #[.slice q L.length c] X (RetW (BuR i X))) :
    Calls Tryd.prog 5 #[.slice q L.length c, .string s] w (RetW (TuR w)) := by
  have hB' := hidW hB
  have h' := hidW h
  have h2 := hU.2.1 w hT
  have HT : Hid (∀ X, Below w.heap.size w X → T X) := fun X hX => hU.1 w X hT (fun k hk => hX.block k (by omega))
  have hL' := hidW hL
  have hsm := hidW (fun X (hX : Below w.heap.size w X) => small_c X q c L (h.below hX) hL)
  obtain ⟨m, hm⟩ : ∃ m, Hid (L.length = m) := ⟨_, rfl⟩
  rw [hm.out] at hB' hsm ⊢
  obtain ⟨wa, hwa⟩ : ∃ wa, Hid (w.alloc (.cells #[.int .u8 246] 5) = wa) := ⟨_, rfl⟩
  have hba : Hid (Below w.heap.size w wa) := by rw [← hwa.out]; exact alloc_below _ _
  have hpa : PBq wa wa.heap.size (some ⟨w.heap.size, 0, none⟩) 1 1 [246] := by rw [← hwa.out]; exact one_pbq w 246
  have hc0 := Parse_c hU wa (some ⟨w.heap.size, 0, none⟩) 1 1 [246] (HT.out wa hba.out) (by omega) hpa
  clear hB h hT hL h2 hpa
  go_enter Tryd.func5, Tryd.ntmps5
  go_wp2_with fail
  rw [hwa.out]
  refine hc0.mono ?_
  rintro e w1 ⟨v1, rfl, hb1, ⟨i1, qd, dl, cd, ql, ml, cl, hr1, rfl, hI1⟩ | ⟨hr1, -⟩⟩
  rotate_left
  · rw [f6_rd] at hr1; cases hr1
  rw [f6_rd] at hr1
  obtain rfl := Option.some.inj hr1
  clear hr1 hc0
  obtain ⟨wc, hwc⟩ : ∃ wc, Hid (w1.alloc (.cells #[.int .i64 7, .int .u64 22, .slice qd dl cd, .slice ql ml cl] 27) = wc) := ⟨_, rfl⟩
  have hbc := hidW (show Below w1.heap.size w1 wc by rw [← hwc.out]; exact alloc_below _ _)
  have rc : Hid (RowS wc w1.heap.size [.int .i64 7, .int .u64 22, .slice qd dl cd, .slice ql ml cl]) := by rw [← hwc.out]; exact arow w1 _ _ _ _ _
  have HBc := hidW ((hba.out.trans (hb1.mono hba.out.size)).trans (hbc.out.mono (Nat.le_trans hba.out.size hb1.size)))
  have hc1 : Calls Tryd.prog 15 #[.agg #[.int .i64 7, .int .u64 22, .slice qd dl cd, .slice ql ml cl]] wc (RetW (PrR u wc (.mk 7 22 [] []))) := Print_c hU (.mk 7 22 [] []) qd dl cd ql ml cl wc (HT.out wc HBc.out) ((hI1.in).up hbc.out)
  have a0 := rc.out.cell 0 _ rfl
  have a1 := rc.out.cell 1 _ rfl
  have a2 := rc.out.cell 2 _ rfl
  have a3 := rc.out.cell 3 _ rfl
  have hlc := rc.out.1
  clear hb1 hI1
  rw [show itv (Itm.mk 7 22 [] []).k (Itm.mk 7 22 [] []).n qd dl cd ql ml cl = .agg #[.int .i64 7, .int .u64 22, .slice qd dl cd, .slice ql ml cl] from rfl]
  go_upto_region 2 with fail
  rw [hwc.out]
  go_wp2_with fail
  refine hc1.mono ?_
  rintro e w2 ⟨v2, rfl, hb2, ⟨hn2, -⟩ | ⟨-, q2, m2, c2, rfl, how2⟩⟩
  · exact absurd f6_wok hn2
  rw [f6_byt] at how2
  have hcv := pb_conv (own_pb how2)
  have b0 : w2.cell? ⟨w1.heap.size, 0, none⟩ = some (.int .i64 7) := by rw [hb2.cell (p := ⟨w1.heap.size, 0, none⟩) hlc]; exact a0
  have b1 : w2.cell? ⟨w1.heap.size, 1, none⟩ = some (.int .u64 22) := by rw [hb2.cell (p := ⟨w1.heap.size, 1, none⟩) hlc]; exact a1
  have hlb := World.block_lt_of_cell? _ _ b0
  have HB2 := hidW (HBc.out.trans (hb2.mono HBc.out.size))
  have hs1 := hsm.out w2 HB2.out
  clear a0 a1 a2 a3 hc1 how2 hb2
  go_wp2_with fail
  refine hs1.mono ?_
  rintro e w3 ⟨v3, rfl, rfl, bs, rfl, hbs⟩
  cases bs with
  | false =>
    clear hbs hs1 hcv
    go_wp2
    go_ret
    exact ⟨_, rfl, rfl, HB2.out⟩
  | true =>
  have hsm0 := hbs rfl
  rw [hm.out] at hsm0
  clear hbs hs1 hcv b0 b1
  by_cases hsl : s.size ≤ 131072
  rotate_left
  · have g : (131072 : Int) < (s.size : Int) := by omega
    go_wp2
    go_ret
    exact ⟨_, rfl, rfl, HB2.out⟩
  have g : ¬ (131072 : Int) < (s.size : Int) := by omega
  have hcb := hB'.out hsm0 w3 (h'.out.below HB2.out)
  have hsmH := hidW hsm0
  clear hsm0
  go_wp2_with fail
  refine hcb.mono ?_
  rintro e w4 ⟨v4, rfl, hb4, qd', dl', cd', ql', ml', cl', rfl, hM4⟩
  have HB4 := hidW (HB2.out.trans (hb4.mono HB2.out.size))
  have hN := hidW (InM.n64 i _ _ hM4)
  have hcp := Print_c hU i qd' dl' cd' ql' ml' cl' w4 (HT.out w4 HB4.out) hM4
  clear hcb hb4 hM4
  unfold itv at hcp ⊢
  go_wp2_with fail
  refine hcp.mono ?_
  rintro e w5 ⟨v5, rfl, hb5, ⟨hn5, rfl⟩ | ⟨hn5, q5, m5, c5, rfl, how5⟩⟩
  · have HBx := hidW (HB4.out.trans (hb5.mono HB4.out.size))
    clear hb5 hcp hn5
    obtain ⟨vS, wS, hcvS, hDB, hbS⟩ := conv_DB s w5 0 (Nat.zero_le _)
    obtain ⟨qS, cS, rfl, hPS⟩ := hDB.pbq
    have HBS := hidW (HBx.out.trans (hbS.mono HBx.out.size))
    have hsl2 : s.data.toList.length = s.size := by rw [Array.length_toList]; rfl
    by_cases hlong : s.size ≤ 65536
    · have hcz := Parse_c hU wS qS s.size cS s.data.toList (HT.out wS HBS.out) hlong hPS
      clear hDB hbS hPS
      go_wp2_with fail
      refine hcz.mono ?_
      rintro e w9 ⟨v9, rfl, hb9, ⟨i9, qd9, dl9, cd9, ql9, ml9, cl9, hr9, rfl, hI9⟩ | ⟨hr9, rfl⟩⟩
      · obtain ⟨hbyt, hwok⟩ := rdAll_wok hr9 (by omega)
        obtain ⟨we, hwe⟩ : ∃ we, Hid (w9.alloc (.cells #[.int .i64 i9.k, .int .u64 (i9.n : Int), .slice qd9 dl9 cd9, .slice ql9 ml9 cl9] 27) = we) := ⟨_, rfl⟩
        have hbe := show Below w9.heap.size w9 we by rw [← hwe.out]; exact alloc_below _ _
        have re : RowS we w9.heap.size [.int .i64 i9.k, .int .u64 (i9.n : Int), .slice qd9 dl9 cd9, .slice ql9 ml9 cl9] := by rw [← hwe.out]; exact arow w9 _ _ _ _ _
        have HBe := hidW ((HBS.out.trans (hb9.mono HBS.out.size)).trans (hbe.mono (Nat.le_trans HBS.out.size hb9.size)))
        have hcp9 : Calls Tryd.prog 15 #[.agg #[.int .i64 i9.k, .int .u64 (i9.n : Int), .slice qd9 dl9 cd9, .slice ql9 ml9 cl9]] we (RetW (PrR u we i9)) := Print_c hU i9 qd9 dl9 cd9 ql9 ml9 cl9 we (HT.out we HBe.out) ((hI9.in).up hbe)
        have a0 := re.cell 0 _ rfl
        have a1 := re.cell 1 _ rfl
        have a2 := re.cell 2 _ rfl
        have a3 := re.cell 3 _ rfl
        have hle := re.1
        have HW := hidW (And.intro hbyt hwok)
        clear hb9 hI9 hr9 hbyt hwok hbe re hcz
        unfold itv
        go_upto_region 15 with fail
        rw [hwe.out]
        go_wp2_with fail
        refine hcp9.mono ?_
        rintro e wf ⟨vf, rfl, hbf, ⟨hnf, -⟩ | ⟨-, qf, mf, cf, rfl, howf⟩⟩
        · exact absurd HW.out.2 hnf
        rw [HW.out.1] at howf
        have hcvf := pb_conv (own_pb howf)
        rw [show (⟨s.data.toList.toArray⟩ : ByteArray) = s by rw [Array.toArray_toList]] at hcvf
        have hse : (s.toList == s.toList) = true := by simp
        have HBf := hidW (HBe.out.trans (hbf.mono HBe.out.size))
        clear hcp9 howf hbf a0 a1 a2 a3
        go_wp2
        go_ret
        exact ⟨_, rfl, rfl, HBf.out⟩
      · have HB9 := hidW (HBS.out.trans (hb9.mono HBS.out.size))
        clear hcz hb9 hr9
        unfold itv
        go_wp2
        go_ret
        exact ⟨_, rfl, rfl, HB9.out.trans ((alloc_below _ _).mono HB9.out.size)⟩
    · have hcz := Parse_l wS qS s.size cS (by omega)
      clear hDB hbS hPS
      go_wp2_with fail
      refine hcz.mono ?_
      rintro e w9 ⟨v9, rfl, hb9, rfl⟩
      have HB9 := hidW (HBS.out.trans (hb9.mono HBS.out.size))
      clear hcz hb9
      unfold itv
      go_wp2
      go_ret
      exact ⟨_, rfl, rfl, HB9.out.trans ((alloc_below _ _).mono HB9.out.size)⟩
  · have HB5 := hidW (HB4.out.trans (hb5.mono HB4.out.size))
    obtain ⟨q0, c0, he0⟩ := slice_own how5
    obtain ⟨rfl, rfl, rfl⟩ : q5 = q0 ∧ m5 = (byt i).length ∧ c5 = c0 := by simpa using he0
    have hlen : (byt i).length ≤ 65536 := by have := hn5.2.2.2; omega
    have hcq := Parse_c hU w5 q5 (byt i).length c5 (byt i) (HT.out w5 HB5.out) hlen (own_pbq how5)
    have hra := hidW (rdAll_byt hn5 hN.out)
    obtain ⟨lb, hlb⟩ : ∃ lb, Hid ((byt i).length = lb) := ⟨_, rfl⟩
    rw [hlb.out] at hcq ⊢
    clear how5 hb5 hcp hn5 he0 hlen
    go_wp2_with fail
    refine hcq.mono ?_
    rintro e w6 ⟨v6, rfl, hb6, ⟨i6, qd6, dl6, cd6, ql6, ml6, cl6, hr6, rfl, hI6⟩ | ⟨hr6, -⟩⟩
    rotate_left
    · rw [hra.out] at hr6; cases hr6
    rw [hra.out] at hr6
    obtain rfl := Option.some.inj hr6
    clear hr6 hcq
    obtain ⟨wd, hwd⟩ : ∃ wd, Hid (w6.alloc (.cells #[.int .i64 i.k, .int .u64 (i.n : Int), .slice qd6 dl6 cd6, .slice ql6 ml6 cl6] 27) = wd) := ⟨_, rfl⟩
    have hbd := hidW (show Below w6.heap.size w6 wd by rw [← hwd.out]; exact alloc_below _ _)
    have rd' : Hid (RowS wd w6.heap.size [.int .i64 i.k, .int .u64 (i.n : Int), .slice qd6 dl6 cd6, .slice ql6 ml6 cl6]) := by rw [← hwd.out]; exact arow w6 _ _ _ _ _
    have HBd := hidW ((HB5.out.trans (hb6.mono HB5.out.size)).trans (hbd.out.mono (Nat.le_trans HB5.out.size hb6.size)))
    have hMd := hidW ((hI6.in).up hbd.out)
    clear hb6 hI6
    unfold itv
    go_upto_region 11 with fail
    rw [hwd.out]
    refine RX.Gw.draws (GT11 (.agg #[.int .i64 i.k, .int .u64 (i.n : Int), .slice qd6 dl6 cd6, .slice ql6 ml6 cl6]) (.slice q m c) i wd) (by kernel_rfl) (by kernel_rfl) ?_ (Below.refl _ wd).drew ?_
    · exact ⟨RX.gw_load 27 11 rfl (by kernel_rfl) fun a X hp => ⟨w6.heap.size, 0, [.int .i64 i.k, .int .u64 (i.n : Int), .slice qd6 dl6 cd6, .slice ql6 ml6 cl6], hp.o 11 (by kernel_rfl), (rd'.out.below hp.b).2.1, by kernel_rfl, rfl⟩,
        RX.gw_val fun a X hp => ⟨[(0, .slice q m c)], .slice q m c, X, ⟨hp.o 0 (by kernel_rfl), trivial⟩, by kernel_rfl, Below.refl _ _, rfl⟩,
        RX.gw_call fun a X hp => ⟨[(71, .slice q m c)], 16, #[.slice q m c], ⟨hp.n 1 71 (by kernel_rfl) (by kernel_rfl), trivial⟩, by kernel_rfl, (hB'.out hsmH.out X (h'.out.below (HBd.out.trans ((show Below wd.heap.size wd X from hp.b).mono HBd.out.size)))).mono (by rintro e w' ⟨v, rfl, hb, hex⟩; exact ⟨_, rfl, hb, hex⟩)⟩,
        RX.gw_call fun a X hp => by
          obtain ⟨qd7, dl7, cd7, ql7, ml7, cl7, e7, hM7⟩ : ∃ qd dl cd ql m cl, a.eval (.tmp 72) = itv i.k i.n qd dl cd ql m cl ∧ InM X X.heap.size i (.slice qd dl cd) (.slice ql m cl) := hp.n 2 72 (by kernel_rfl) (by kernel_rfl)
          exact ⟨[(70, .agg #[.int .i64 i.k, .int .u64 (i.n : Int), .slice qd6 dl6 cd6, .slice ql6 ml6 cl6]), (72, itv i.k i.n qd7 dl7 cd7 ql7 ml7 cl7)], 11, #[itv i.k i.n qd6 dl6 cd6 ql6 ml6 cl6, itv i.k i.n qd7 dl7 cd7 ql7 ml7 cl7], ⟨hp.n 0 70 (by kernel_rfl) (by kernel_rfl), e7, trivial⟩, by kernel_rfl, (same_c _ i (Nat.le_refl _) X qd6 dl6 cd6 ql6 ml6 cl6 qd7 dl7 cd7 ql7 ml7 cl7 (hMd.out.up hp.b) hM7).mono (by rintro e w' ⟨v, rfl, h1, rfl⟩; exact ⟨_, rfl, h1, rfl⟩)⟩,
        RX.gw_val fun a X hp => ⟨[(73, .bool true)], .bool true, X, ⟨hp.n 3 73 (by kernel_rfl) (by kernel_rfl), trivial⟩, by kernel_rfl, Below.refl _ _, rfl⟩,
        trivial⟩
    · intro V w7 hV hB7
      have hv0 : V 0 = .agg #[.int .i64 i.k, .int .u64 (i.n : Int), .slice qd6 dl6 cd6, .slice ql6 ml6 cl6] := hV 0 (Nat.lt_of_succ_le (Nat.le_of_ble_eq_true (by kernel_rfl)))
      have hv1 : V 1 = .slice q m c := hV 1 (Nat.lt_of_succ_le (Nat.le_of_ble_eq_true (by kernel_rfl)))
      have hv3 : V 3 = .bool true := hV 3 (Nat.lt_of_succ_le (Nat.le_of_ble_eq_true (by kernel_rfl)))
      have hv4 : V 4 = .bool true := hV 4 (Nat.lt_of_succ_le (Nat.le_of_ble_eq_true (by kernel_rfl)))
      obtain ⟨vv, hvv⟩ : ∃ vv, V 2 = vv := ⟨_, rfl⟩
      have HBx := hidW (HBd.out.trans ((show Below wd.heap.size wd w7 from hB7).mono HBd.out.size))
      dsimp only [RX.putV, Nat.reduceAdd]
      simp only [Act.put, List.setIfInBounds_toArray, List.set_cons_succ, List.set_cons_zero]
      rw [hv0, hv1, hv3, hv4, hvv]
      clear hV hB7 hv0 hv1 hv3 hv4 hvv hMd rd' hbd hra HBd HB5
      obtain ⟨vS, wS, hcvS, hDB, hbS⟩ := conv_DB s w7 0 (Nat.zero_le _)
      obtain ⟨qS, cS, rfl, hPS⟩ := hDB.pbq
      have HBS := hidW (HBx.out.trans (hbS.mono HBx.out.size))
      have hsl2 : s.data.toList.length = s.size := by rw [Array.length_toList]; rfl
      by_cases hlong : s.size ≤ 65536
      · have hcz := Parse_c hU wS qS s.size cS s.data.toList (HT.out wS HBS.out) hlong hPS
        clear hDB hbS hPS
        go_wp2_with fail
        refine hcz.mono ?_
        rintro e w9 ⟨v9, rfl, hb9, ⟨i9, qd9, dl9, cd9, ql9, ml9, cl9, hr9, rfl, hI9⟩ | ⟨hr9, rfl⟩⟩
        · obtain ⟨hbyt, hwok⟩ := rdAll_wok hr9 (by omega)
          obtain ⟨we, hwe⟩ : ∃ we, Hid (w9.alloc (.cells #[.int .i64 i9.k, .int .u64 (i9.n : Int), .slice qd9 dl9 cd9, .slice ql9 ml9 cl9] 27) = we) := ⟨_, rfl⟩
          have hbe := show Below w9.heap.size w9 we by rw [← hwe.out]; exact alloc_below _ _
          have re : RowS we w9.heap.size [.int .i64 i9.k, .int .u64 (i9.n : Int), .slice qd9 dl9 cd9, .slice ql9 ml9 cl9] := by rw [← hwe.out]; exact arow w9 _ _ _ _ _
          have HBe := hidW ((HBS.out.trans (hb9.mono HBS.out.size)).trans (hbe.mono (Nat.le_trans HBS.out.size hb9.size)))
          have hcp9 : Calls Tryd.prog 15 #[.agg #[.int .i64 i9.k, .int .u64 (i9.n : Int), .slice qd9 dl9 cd9, .slice ql9 ml9 cl9]] we (RetW (PrR u we i9)) := Print_c hU i9 qd9 dl9 cd9 ql9 ml9 cl9 we (HT.out we HBe.out) ((hI9.in).up hbe)
          have a0 := re.cell 0 _ rfl
          have a1 := re.cell 1 _ rfl
          have a2 := re.cell 2 _ rfl
          have a3 := re.cell 3 _ rfl
          have hle := re.1
          have HW := hidW (And.intro hbyt hwok)
          clear hb9 hI9 hr9 hbyt hwok hbe re hcz
          unfold itv
          go_upto_region 15 with fail
          rw [hwe.out]
          go_wp2_with fail
          refine hcp9.mono ?_
          rintro e wf ⟨vf, rfl, hbf, ⟨hnf, -⟩ | ⟨-, qf, mf, cf, rfl, howf⟩⟩
          · exact absurd HW.out.2 hnf
          rw [HW.out.1] at howf
          have hcvf := pb_conv (own_pb howf)
          rw [show (⟨s.data.toList.toArray⟩ : ByteArray) = s by rw [Array.toArray_toList]] at hcvf
          have hse : (s.toList == s.toList) = true := by simp
          have HBf := hidW (HBe.out.trans (hbf.mono HBe.out.size))
          clear hcp9 howf hbf a0 a1 a2 a3
          go_wp2
          go_ret
          exact ⟨_, rfl, rfl, HBf.out⟩
        · have HB9 := hidW (HBS.out.trans (hb9.mono HBS.out.size))
          clear hcz hb9 hr9
          unfold itv
          go_wp2
          go_ret
          exact ⟨_, rfl, rfl, HB9.out.trans ((alloc_below _ _).mono HB9.out.size)⟩
      · have hcz := Parse_l wS qS s.size cS (by omega)
        clear hDB hbS hPS
        go_wp2_with fail
        refine hcz.mono ?_
        rintro e w9 ⟨v9, rfl, hb9, rfl⟩
        have HB9 := hidW (HBS.out.trans (hb9.mono HBS.out.size))
        clear hcz hb9
        unfold itv
        go_wp2
        go_ret
        exact ⟨_, rfl, rfl, HB9.out.trans ((alloc_below _ _).mono HB9.out.size)⟩
end WI
end Go.Proofs.YtfkgfcggcfkkiaaDoor
namespace Go.Proofs.YtfkgfcggcfkkiaaDoor
open Go.RowKit Go.Sort Go.Deep
namespace WI
mutual
theorem DsM.below {w w' : World} {B : Nat} (hb : Below w.heap.size w w') : ∀ (i : Itm) (vd vl : Value) (vs : List Value), DsM w B i vd vl vs → DsM w' B i vd vl vs
  | .mk k n d l, vd, vl, vs, h => by
    rw [DsM] at h ⊢
    obtain ⟨h1, ws, h2, h3⟩ := h
    refine ⟨own_at h1 (fun g hg => hb.block g (own_lt h1 g hg).2), ws, h2, ?_⟩
    rcases h3 with h3 | ⟨b, o, m, c, h3, h4⟩
    · exact Or.inl h3
    · exact Or.inr ⟨b, o, m, c, h3, DsL.below hb l b o ws h4⟩
theorem DsL.below {w w' : World} {B : Nat} (hb : Below w.heap.size w w') : ∀ (l : List Itm) (b o : Nat) (ws : List Value), DsL w B l b o ws → DsL w' B l b o ws
  | [], _, _, ws, h => by rw [DsL] at h ⊢; exact h
  | i :: r, b, o, ws, h => by
    rw [DsL] at h ⊢
    obtain ⟨vd, vl, vs1, vs2, ⟨c0, c1, c2, c3⟩, h2, h3, h4⟩ := h
    have hlt := World.block_lt_of_cell? _ _ c0
    exact ⟨vd, vl, vs1, vs2, ⟨(hb.cell (p := ⟨b, o, none⟩) hlt).trans c0, (hb.cell (p := ⟨b, o + 1, none⟩) hlt).trans c1, (hb.cell (p := ⟨b, o + 2, none⟩) hlt).trans c2, (hb.cell (p := ⟨b, o + 3, none⟩) hlt).trans c3⟩, DsM.below hb i vd vl vs1 h2, DsL.below hb r b (o + 4) vs2 h3, h4⟩
end
mutual
theorem DsM.len {w : World} {B : Nat} : ∀ (i : Itm) (vd vl : Value) (vs : List Value), DsM w B i vd vl vs → vs.length = cnt i
  | .mk k n d l, vd, vl, vs, h => by
    rw [DsM] at h
    obtain ⟨-, ws, rfl, h3⟩ := h
    rw [List.length_cons, cnt]
    rcases h3 with ⟨rfl, rfl⟩ | ⟨b, o, m, c, h3, h4⟩
    · rw [cnts]; rfl
    · rw [DsL.len l b o ws h4]
theorem DsL.len {w : World} {B : Nat} : ∀ (l : List Itm) (b o : Nat) (ws : List Value), DsL w B l b o ws → ws.length = cnts l
  | [], _, _, ws, h => by rw [DsL] at h; rw [h, cnts]; rfl
  | i :: r, b, o, ws, h => by
    rw [DsL] at h
    obtain ⟨vd, vl, vs1, vs2, -, h2, h3, rfl⟩ := h
    rw [List.length_append, cnts, DsM.len i vd vl vs1 h2, DsL.len r b (o + 4) vs2 h3]
end
theorem DsL.get {w : World} {B b : Nat} : ∀ (l : List Itm) (o j : Nat) (ws : List Value) (i : Itm), DsL w B l b o ws → l[j]? = some i → ∃ vd vl vs1, CeI w b (o + j * 4) i vd vl ∧ DsM w B i vd vl vs1 ∧ ws.take (cnts (l.take (j + 1))) = ws.take (cnts (l.take j)) ++ vs1
  | [], _, _, _, _, _, hj => by cases hj
  | i :: r, o, 0, ws, i', h, hj => by
    rw [DsL] at h
    obtain ⟨vd, vl, vs1, vs2, h1, h2, h3, rfl⟩ := h
    obtain rfl := Option.some.inj hj
    refine ⟨vd, vl, vs1, by rw [Nat.zero_mul, Nat.add_zero]; exact h1, h2, ?_⟩
    have := DsM.len i vd vl vs1 h2
    simp only [List.take_succ_cons, List.take_zero, cnts, Nat.add_zero, List.nil_append]
    rw [← this, List.take_left]
  | i :: r, o, j + 1, ws, i', h, hj => by
    rw [DsL] at h
    obtain ⟨vd, vl, vs1, vs2, h1, h2, h3, rfl⟩ := h
    obtain ⟨vd', vl', vs', k1, k2, k3⟩ := DsL.get r (o + 4) j vs2 i' h3 hj
    refine ⟨vd', vl', vs', by rw [show o + (j + 1) * 4 = o + 4 + j * 4 by omega]; exact k1, k2, ?_⟩
    have := DsM.len i vd vl vs1 h2
    simp only [List.take_succ_cons, cnts]
    rw [← this, List.take_length_add_append, List.take_length_add_append, k3, List.append_assoc]
theorem infoS : (Tryd.prog.info? 22).map (fun i => (i.size, i.bytes, i.zero.map (fun z => z.cells.size))) = some (1, 24, some 1) := by kernel_rfl
theorem undS : Tryd.prog.underlying 36 = some (.slice 22) := by kernel_rfl
mutual
theorem DsM.one {w : World} {B : Nat} : ∀ (i : Itm) (vd vl : Value) (vs : List Value), DsM w B i vd vl vs → ∀ v ∈ vs, v.oneCell' = true
  | .mk k n d l, vd, vl, vs, h => by
    rw [DsM] at h
    obtain ⟨h1, ws, rfl, h3⟩ := h
    intro v hv
    rcases List.mem_cons.1 hv with rfl | hv
    · obtain ⟨q, c, rfl⟩ := slice_own h1; rfl
    · rcases h3 with ⟨rfl, rfl⟩ | ⟨b, o, m, c, h3, h4⟩
      · cases hv
      · exact DsL.one l b o ws h4 v hv
theorem DsL.one {w : World} {B : Nat} : ∀ (l : List Itm) (b o : Nat) (ws : List Value), DsL w B l b o ws → ∀ v ∈ ws, v.oneCell' = true
  | [], _, _, ws, h => by rw [DsL] at h; rw [h]; intro v hv; cases hv
  | i :: r, b, o, ws, h => by
    rw [DsL] at h
    obtain ⟨vd, vl, vs1, vs2, -, h2, h3, rfl⟩ := h
    intro v hv
    rcases List.mem_append.1 hv with hv | hv
    · exact DsM.one i vd vl vs1 h2 v hv
    · exact DsL.one r b (o + 4) vs2 h3 v hv
end
/-- 'append(l, x...)' of lists of bytes. -/
theorem ls_app {base : Nat} {W : World} {v : Value} {n m c g : Nat} {xs news : List Value} (hown : W.ownsRow base 22 1 v n xs) (hl : news.length = m) (hc : ∀ j u, news[j]? = some u → W.cell? ⟨g, j, none⟩ = some u) (h1 : ∀ u ∈ news, u.oneCell' = true) (hn : n + m ≤ 1000000) (hb : base ≤ W.heap.size) :
    ∃ v' W', (Builtin.append_ #[36, 36] 36 #[v, .slice (some ⟨g, 0, none⟩) m c]).run Tryd.prog W = .ok v' W' ∧ W'.ownsRow base 22 1 v' (n + m) (xs ++ news) ∧ W.grownBy W' v.ownBlock := by
  obtain ⟨i, hi, he⟩ := Option.map_eq_some_iff.1 infoS
  simp only [Prod.mk.injEq] at he
  obtain ⟨h2, h3, h4⟩ := he
  obtain ⟨z, hz, hz2⟩ := Option.map_eq_some_iff.1 h4
  obtain ⟨v', W', r1, r2, r3, r4⟩ := run_append_own (P := Tryd.prog) W base 36 36 22 i z 1 24 undS hi hz h2 h3 hz2 (by decide) v n xs hown ⟨g, 0, none⟩ m c news (by rw [hl, Nat.mul_one]) (fun j u hj => by rw [addS0, Nat.zero_add]; exact hc j u hj) h1 (by unfold maxLen; omega) (by omega) hb
  exact ⟨v', W', r1, r2, r3⟩
theorem own_shapeX {W : World} {base n : Nat} {e : TypeId} {v : Value} {xs : List Value} (h : W.ownsRow base e 1 v n xs) (hn : 0 < n) : ∃ g c, v = .slice (some ⟨g, 0, none⟩) n c ∧ base ≤ g ∧ g < W.heap.size ∧ ∀ j u, xs[j]? = some u → W.cell? ⟨g, j, none⟩ = some u := by
  rcases id h with ⟨-, ⟨-, h0⟩ | ⟨g, cap, cur, rfl, h2, h3, -⟩⟩
  · omega
  · refine ⟨g, cap, rfl, h2, (Array.getElem?_eq_some_iff.1 h3).1, fun j u hj => ?_⟩
    have := h.cells (g := g) rfl j u hj
    rw [addS0, Nat.zero_add] at this
    exact this
/-- What lists gives. -/
def LsR (w : World) (vs : List Value) (e : Value) (w' : World) : Prop := Below w.heap.size w w' ∧ w'.ownsRow w.heap.size 22 1 e vs.length vs
def LsS (i : Itm) : Prop := ∀ (w : World) (B : Nat) (qd : Option Addr) (dl cd : Nat) (ql : Option Addr) (m cl : Nat) (vs : List Value), m ≤ 1000000 → InM w w.heap.size i (.slice qd dl cd) (.slice ql m cl) → DsM w B i (.slice qd dl cd) (.slice ql m cl) vs → vs.length ≤ 5000 → Calls Tryd.prog 13 #[itv i.k i.n qd dl cd ql m cl] w (RetW (LsR w vs))
theorem len_m {w : World} {B : Nat} {k : Int} {n : Nat} {d : List UInt8} {l : List Itm} {vd : Value} {q : Option Addr} {m c : Nat} (h : InM w B (.mk k n d l) vd (.slice q m c)) : m = l.length := by
  rw [InM] at h
  obtain ⟨-, -, -, -, q', c', e, -⟩ := h
  exact (by simpa using e : q = q' ∧ m = l.length ∧ c = c').2.1
set_option maxHeartbeats 1000000 in
set_option maxRecDepth 20000 in
theorem lists_step (k : Int) (n : Nat) (d : List UInt8) (l : List Itm) (hI : ∀ i ∈ l, LsS i) : LsS (.mk k n d l) := by
  intro w B qd dl cd ql m cl vs hm6 hM hD hv
  show Calls Tryd.prog 13 #[itv k n qd dl cd ql m cl] w _
  unfold itv
  obtain rfl := len_m hM
  have hvl := DsM.len _ _ _ _ hD
  obtain ⟨wa, hwa⟩ : ∃ wa, Hid (w.alloc (.cells #[.int .i64 k, .int .u64 (n : Int), .slice qd dl cd, .slice ql l.length cl] 27) = wa) := ⟨_, rfl⟩
  have hba : Hid (Below w.heap.size w wa) := by rw [← hwa.out]; exact alloc_below _ _
  have ra : RowS wa w.heap.size [.int .i64 k, .int .u64 (n : Int), .slice qd dl cd, .slice ql l.length cl] := by rw [← hwa.out]; exact arow w _ _ _ _ _
  have c2 := ra.cell 2 _ rfl
  have hla := ra.1
  obtain ⟨wb, hwb⟩ : ∃ wb, Hid (wa.alloc (.cells #[.slice qd dl cd] 22) = wb) := ⟨_, rfl⟩
  have hbb : Hid (Below wa.heap.size wa wb) := by rw [← hwb.out]; exact alloc_below _ _
  have ra' := hidW ra
  rw [DsM] at hD
  obtain ⟨hown, ws, rfl, hws⟩ := hD
  have ob : wb.ownsRow wa.heap.size 22 1 (.slice (some ⟨wa.heap.size, 0, none⟩) 1 1) (1 + cnts (l.take 0)) (.slice qd dl cd :: ws.take (cnts (l.take 0))) := by
    rw [← hwb.out, List.take_zero, cnts, List.take_zero]
    refine ⟨rfl, .inr ⟨wa.heap.size, 1, #[.slice qd dl cd], rfl, Nat.le_refl _, Array.getElem?_push_size, Nat.le_refl _, by decide, rfl, rfl⟩⟩
  have HO := hidW ob
  have HH := hidW (And.intro hM hws)
  have hvl2 : cnts l ≤ 4999 := by
    rw [cnt] at hvl; omega
  have hvl3 : Hid ((Value.slice qd dl cd :: ws).length = 1 + cnts l) := by show _ = _; rw [hvl, cnt]; omega
  obtain ⟨m, hm⟩ : ∃ m, Hid (l.length = m) := ⟨_, rfl⟩
  rw [hm.out] at ra' hm6 hwa ⊢
  have hmz : (m : Int) ≤ 1000000 := by omega
  clear ra ob hM hws hown hvl
  go_enter Tryd.func13, Tryd.ntmps13
  go_upto_region 1 with fail
  rw [hwa.out]
  go_upto_region 2 with fail
  rw [hwb.out]
  go_wp2
  go_loopg [3, 4] (m + 1) (fun gk s3 s4 wr => ∃ (j : Nat) (sv : Value), sv = s3 ∧ s4 = .int .i64 ((j : Nat) : Int) ∧ gk = m + 1 - j ∧ j ≤ m ∧ Below wa.heap.size wa wr ∧ wr.ownsRow wa.heap.size 22 1 sv (1 + cnts (l.take j)) (.slice qd dl cd :: ws.take (cnts (l.take j))))
  case atStart => exact ⟨0, _, rfl, rfl, rfl, Nat.zero_le _, hbb.out, HO.out⟩
  case round =>
    obtain ⟨j, sv, rfl, rfl, hg, hjm, hBr, hOr⟩ := hrel
    have rr := ra'.out.at hBr.size (hBr.block _ hla)
    have d3 := rr.cell 3 _ rfl
    have hlr := rr.1
    by_cases hj : j < m
    · have hjz : (j : Int) < (m : Int) := by omega
      have hjl : j < l.length := by rw [hm.out]; exact hj
      obtain ⟨i, hi⟩ : ∃ i, l[j]? = some i := ⟨_, List.getElem?_eq_getElem hjl⟩
      obtain ⟨hM, hws⟩ := HH.out
      have hM0 := hM
      rw [InM] at hM
      obtain ⟨-, -, -, -, q1, c1, he1, hin⟩ := hM
      rcases hin with h | ⟨b, off, hq1, hb, hL⟩
      · rw [h] at hjl; cases hjl
      rcases hws with ⟨h, -⟩ | ⟨b', off', m', c', he2, hDL⟩
      · rw [h] at hjl; cases hjl
      obtain ⟨rfl, -, rfl⟩ : ql = q1 ∧ l.length = l.length ∧ cl = c1 := by simpa using he1
      subst hq1
      obtain ⟨⟨rfl, rfl⟩, -, -⟩ : (b = b' ∧ off = off') ∧ l.length = m' ∧ cl = c' := by simpa using he2
      obtain ⟨vd, vl, hC, hMi⟩ := InL.get l off j i hL hi
      obtain ⟨vd', vl', vs1, hC', hDi, htk⟩ := DsL.get l off j ws i hDL hi
      obtain ⟨rfl, rfl⟩ : vd = vd' ∧ vl = vl' := by
        refine ⟨Option.some.inj (hC.2.2.1.symm.trans hC'.2.2.1), Option.some.inj (hC.2.2.2.symm.trans hC'.2.2.2)⟩
      have hBw : Below w.heap.size w wr := hba.out.trans (hBr.mono hba.out.size)
      obtain ⟨qd1, dl1, cd1, ql1, ml1, cl1, rfl, rfl⟩ := hMi.form
      obtain ⟨ki, ni, di, li⟩ := i
      obtain rfl := len_m hMi
      have hsz : li.length ≤ 1000000 := by
        have h1 := cnts_mem l _ (List.mem_of_getElem? hi)
        have h2 := len_cnts li
        rw [cnt] at h1
        omega
      have hln := DsM.len _ _ _ _ hDi
      have hcn : cnts (l.take (j + 1)) = cnts (l.take j) + cnt (.mk ki ni di li) := by
        rw [take_s l j _ hi, cnts_append]; simp [cnts]
      have hcl : cnts (l.take (j + 1)) ≤ cnts l := by
        have : cnts l = cnts (l.take (j + 1)) + cnts (l.drop (j + 1)) := by rw [← cnts_append, List.take_append_drop]
        omega
      have hcp := cnt_pos (.mk ki ni di li)
      have hc := hI _ (List.mem_of_getElem? hi) wr B qd1 dl1 cd1 ql1 li.length cl1 vs1 hsz (InM.up hBw hMi) (DsM.below hBw _ _ _ _ hDi) (by omega)
      have hCw := ce_range hC
      have hbl := World.block_lt_of_cell? _ _ hC.1
      have hix := fun X => idxI b off m cl j hj X
      have a0 : wr.cell? ⟨b, off + j * 4, none⟩ = some (.int .i64 ki) := (hBw.cell (p := ⟨b, off + j * 4, none⟩) hbl).trans hC.1
      have a1 : wr.cell? ⟨b, off + j * 4 + 1, none⟩ = some (.int .u64 (ni : Int)) := (hBw.cell (p := ⟨b, off + j * 4 + 1, none⟩) hbl).trans hC.2.1
      have a2 : wr.cell? ⟨b, off + j * 4 + 2, none⟩ = some (.slice qd1 dl1 cd1) := (hBw.cell (p := ⟨b, off + j * 4 + 2, none⟩) hbl).trans hC.2.2.1
      have a3 : wr.cell? ⟨b, off + j * 4 + 3, none⟩ = some (.slice ql1 li.length cl1) := (hBw.cell (p := ⟨b, off + j * 4 + 3, none⟩) hbl).trans hC.2.2.2
      have hlb := World.block_lt_of_cell? _ _ a0
      have HK := hidW (And.intro hBr (And.intro hOr (And.intro htk (And.intro hcn (And.intro hcl (And.intro hln hDi))))))
      obtain ⟨lm, hlm⟩ : ∃ lm, Hid (li.length = lm) := ⟨_, rfl⟩
      have hc' : Calls Tryd.prog 13 #[.agg #[.int .i64 ki, .int .u64 (ni : Int), .slice qd1 dl1 cd1, .slice ql1 li.length cl1]] wr (RetW (LsR wr vs1)) := hc
      rw [hlm.out] at a3 hc'
      clear hM0 he1 he2 hL hDL hC hC' hMi hDi hBw hc hCw htk hcn hcl hln hcp hsz hOr hBr rr
      go_wp2_with fail
      refine hc'.mono ?_
      rintro e w2 ⟨v3, rfl, hb2, ho2⟩
      obtain ⟨hBr, hOr, htk, hcn, hcl, hln, hDi⟩ := HK.out
      obtain ⟨g, c2', rfl, hg1, hg2, hgc⟩ := own_shapeX ho2 (by rw [hln]; exact cnt_pos _)
      have hB2 : Below wa.heap.size wa w2 := hBr.trans (hb2.mono hBr.size)
      obtain ⟨v', W', r1, r2, r3⟩ := ls_app (c := c2') (own_at hOr (fun k hk => hb2.block k (hOr.lt k hk).2)) rfl hgc (DsM.one _ _ _ _ hDi) (by rw [hln]; omega) hB2.size
      have K2 : Hid (Below wa.heap.size wa W' ∧ W'.ownsRow wa.heap.size 22 1 v' (1 + cnts (l.take (j + 1))) (.slice qd dl cd :: ws.take (cnts (l.take (j + 1))))) := by
        refine ⟨below_grown hB2 r3 hB2.size (fun k hk => (hOr.lt k hk).1), ?_⟩
        rw [htk, ← List.cons_append, show 1 + cnts (l.take (j + 1)) = 1 + cnts (l.take j) + vs1.length by omega]
        exact r2
      have HAP := hidW r1
      clear hBr hOr htk hcn hcl hln hDi HK hb2 ho2 hgc hB2 r1 r2 r3 hc'
      go_wp2_with (at_builtin; refine Lib.wpList_append_run _ rfl _ _ _ _ rfl _ _ rfl rfl _ _ HAP.out ?_)
      go_roundg (m + 1 - (j + 1))
      case measure => omega
      case rel => exact ⟨j + 1, _, rfl, rfl, rfl, by omega, K2.out.1, K2.out.2⟩
    · have hjz : ¬ (j : Int) < (m : Int) := by omega
      obtain rfl : j = m := by omega
      have KR : Hid (LsR w (.slice qd dl cd :: ws) sv wr) := by
        rw [← hm.out, List.take_length] at hOr
        rw [LsR, hvl3.out]
        have hws : ws.take (cnts l) = ws := List.take_of_length_le (by have := hvl3.out; rw [List.length_cons] at this; omega)
        rw [hws] at hOr
        refine ⟨hba.out.trans (hBr.mono hba.out.size), ?_⟩
        rcases hOr with ⟨h0, h1 | ⟨g, cap, cur, h1, h2, h3⟩⟩
        · exact ⟨h0, Or.inl h1⟩
        · exact ⟨h0, Or.inr ⟨g, cap, cur, h1, Nat.le_trans hba.out.size h2, h3⟩⟩
      clear hBr hOr rr
      go_wp2
      first | go_end0 | go_ret
      exact ⟨_, rfl, KR.out⟩
theorem wlists_c : ∀ (N : Nat) (i : Itm), cnt i ≤ N → LsS i
  | 0, i, hN => by have := cnt_pos i; omega
  | N + 1, .mk k n d l, hN => lists_step k n d l fun i hi => wlists_c N i (by have := cnts_mem l i hi; rw [cnt] at hN; omega)
end WI
end Go.Proofs.YtfkgfcggcfkkiaaDoor
namespace Go.Proofs.YtfkgfcggcfkkiaaDoor
namespace WI
/-- A head is read, whatever it be. -/
def lhd : List UInt8 → Option (Nat × Nat × List UInt8)
  | [] => none
  | f :: r =>
    if 27 < f.toNat % 32 then none
    else if f.toNat % 32 < 24 then some (f.toNat / 32, f.toNat % 32, r)
    else if r.length < 2 ^ (f.toNat % 32 - 24) then none
    else some (f.toNat / 32, ofBE (r.take (2 ^ (f.toNat % 32 - 24))) 0, r.drop (2 ^ (f.toNat % 32 - 24)))
theorem rdHead_lhd {b : List UInt8} {y : Nat × Nat × List UInt8} (h : rdHead b = some y) : lhd b = some y := by
  cases b with
  | nil => cases h
  | cons f r =>
    rw [rdHead] at h
    rw [lhd]
    split at h
    · rename_i h1
      rw [if_neg (by omega), if_pos h1]; exact h
    · rename_i h1
      split at h
      · cases h
      · rename_i h2
        rw [if_neg h2, if_neg h1]
        split at h
        · cases h
        · rename_i h3
          rw [if_neg h3]
          split at h
          · exact h
          · cases h
theorem lhd_len {b r : List UInt8} {k n : Nat} (h : lhd b = some (k, n, r)) : k < 8 ∧ n < 18446744073709551616 ∧ (∃ p, b = p ++ r ∧ p ≠ []) := by
  cases b with
  | nil => cases h
  | cons f t =>
    have hf := f.toNat_lt
    rw [lhd] at h
    split at h
    · cases h
    · split at h
      · simp only [Option.some.injEq, Prod.mk.injEq] at h
        obtain ⟨rfl, rfl, rfl⟩ := h
        exact ⟨by omega, by omega, [f], rfl, by simp⟩
      · split at h
        · cases h
        · rename_i h1 h2 h3
          simp only [Option.some.injEq, Prod.mk.injEq] at h
          obtain ⟨rfl, rfl, rfl⟩ := h
          refine ⟨by omega, ?_, f :: t.take (2 ^ (f.toNat % 32 - 24)), by rw [List.cons_append, List.take_append_drop], by simp⟩
          have hl := ofBE_lt (t.take (2 ^ (f.toNat % 32 - 24))) 0
          rw [List.length_take, Nat.min_eq_left (by omega)] at hl
          have hm : 2 ^ (f.toNat % 32 - 24) ≤ 8 := Nat.pow_le_pow_right (n := 2) (by decide) (show f.toNat % 32 - 24 ≤ 3 by omega)
          have hp : 256 ^ 2 ^ (f.toNat % 32 - 24) ≤ 256 ^ 8 := Nat.pow_le_pow_right (by decide) hm
          have : (256 : Nat) ^ 8 = 18446744073709551616 := by decide
          omega
section
variable (g : Nat → List UInt8 → Option (Itm × List UInt8 × Nat))
def lrdN : Nat → Nat → List UInt8 → Option (List Itm × List UInt8 × Nat)
  | 0, _, x => some ([], x, 0)
  | n + 1, left, x => match g left x with
    | none => none
    | some (i, r, c) => match lrdN n (left - c) r with
      | none => none
      | some (l, r', c') => some (i :: l, r', c + c')
end
/-- An item is read, whatever it be: what is left, how many. -/
def lrd : Nat → Nat → List UInt8 → Option (Itm × List UInt8 × Nat)
  | 0, _, _ => none
  | f + 1, left, x => if left = 0 then none else match lhd x with
    | none => none
    | some (k, n, r) =>
      if k = 0 ∨ k = 1 ∨ k = 7 then some (.mk k n [] [], r, 1)
      else if k = 2 ∨ k = 3 then (if n ≤ r.length then some (.mk k 0 (r.take n) [], r.drop n, 1) else none)
      else if k = 6 then none
      else if 4096 < n then none
      else match lrdN (lrd f) (if k = 5 then 2 * n else n) (left - 1) r with
        | none => none
        | some (l, r', c) => some (.mk k 0 [] l, r', c + 1)
section
variable {g : Nat → List UInt8 → Option (Itm × List UInt8 × Nat)}
theorem lrdN_snoc_y {i : Itm} {r2 : List UInt8} {c2 : Nat} : ∀ {n left : Nat} {x : List UInt8} {l : List Itm} {r1 : List UInt8} {c1 : Nat}, lrdN g n left x = some (l, r1, c1) → g (left - c1) r1 = some (i, r2, c2) → lrdN g (n + 1) left x = some (l ++ [i], r2, c1 + c2)
  | 0, left, x, l, r1, c1, h, h2 => by
    simp only [lrdN, Option.some.injEq, Prod.mk.injEq] at h
    obtain ⟨rfl, rfl, rfl⟩ := h
    rw [lrdN, show left = left - 0 from rfl, h2]
    simp [lrdN]
  | n + 1, left, x, l, r1, c1, h, h2 => by
    rw [lrdN] at h ⊢
    cases h3 : g left x with
    | none => rw [h3] at h; cases h
    | some y =>
      obtain ⟨j, r3, c3⟩ := y
      rw [h3] at h
      simp only at h ⊢
      cases h4 : lrdN g n (left - c3) r3 with
      | none => rw [h4] at h; cases h
      | some z =>
        obtain ⟨l4, r4, c4⟩ := z
        rw [h4] at h
        simp only [Option.some.injEq, Prod.mk.injEq] at h
        obtain ⟨rfl, rfl, rfl⟩ := h
        rw [lrdN_snoc_y h4 (by rw [Nat.sub_sub]; exact h2)]
        simp only [List.cons_append, Nat.add_assoc]
theorem lrdN_none : ∀ {n left : Nat} {x : List UInt8} (m : Nat), lrdN g n left x = none → lrdN g (n + m) left x = none
  | 0, left, x, m, h => by cases h
  | n + 1, left, x, m, h => by
    rw [show n + 1 + m = n + m + 1 by omega, lrdN]
    rw [lrdN] at h
    cases h3 : g left x with
    | none => rfl
    | some y =>
      obtain ⟨j, r3, c3⟩ := y
      rw [h3] at h
      simp only at h ⊢
      cases h4 : lrdN g n (left - c3) r3 with
      | none => rw [lrdN_none m h4]
      | some z => rw [h4] at h; cases h
theorem lrdN_snoc_n : ∀ {n left : Nat} {x : List UInt8} {l : List Itm} {r1 : List UInt8} {c1 : Nat}, lrdN g n left x = some (l, r1, c1) → g (left - c1) r1 = none → lrdN g (n + 1) left x = none
  | 0, left, x, l, r1, c1, h, h2 => by
    simp only [lrdN, Option.some.injEq, Prod.mk.injEq] at h
    obtain ⟨rfl, rfl, rfl⟩ := h
    rw [lrdN, show left = left - 0 from rfl, h2]
  | n + 1, left, x, l, r1, c1, h, h2 => by
    rw [lrdN] at h ⊢
    cases h3 : g left x with
    | none => rfl
    | some y =>
      obtain ⟨j, r3, c3⟩ := y
      rw [h3] at h
      simp only at h ⊢
      cases h4 : lrdN g n (left - c3) r3 with
      | none => rw [h4] at h; cases h
      | some z =>
        obtain ⟨l4, r4, c4⟩ := z
        rw [h4] at h
        simp only [Option.some.injEq, Prod.mk.injEq] at h
        obtain ⟨rfl, rfl, rfl⟩ := h
        rw [lrdN_snoc_n h4 (by rw [Nat.sub_sub]; exact h2)]
theorem lrdN_bad {n m left : Nat} {x : List UInt8} {l : List Itm} {r1 : List UInt8} {c1 : Nat} (h : lrdN g n left x = some (l, r1, c1)) (h2 : g (left - c1) r1 = none) (hm : n < m) : lrdN g m left x = none := by
  obtain ⟨k, rfl⟩ : ∃ k, m = n + 1 + k := ⟨m - (n + 1), by omega⟩
  exact lrdN_none k (lrdN_snoc_n h h2)
/-- What is known of what was read. -/
def Lkn (left : Nat) (x r : List UInt8) (c : Nat) : Prop := c ≤ left ∧ ∃ p, x = p ++ r
theorem lrdN_kn (hg : ∀ left x i r c, g left x = some (i, r, c) → Lkn left x r c ∧ 1 ≤ c) : ∀ (n left : Nat) (x : List UInt8) (l : List Itm) (r : List UInt8) (c : Nat), lrdN g n left x = some (l, r, c) → Lkn left x r c ∧ l.length = n ∧ n ≤ c
  | 0, left, x, l, r, c, h => by
    simp only [lrdN, Option.some.injEq, Prod.mk.injEq] at h
    obtain ⟨rfl, rfl, rfl⟩ := h
    exact ⟨⟨Nat.zero_le _, [], rfl⟩, rfl, Nat.le_refl _⟩
  | n + 1, left, x, l, r, c, h => by
    rw [lrdN] at h
    cases h3 : g left x with
    | none => rw [h3] at h; cases h
    | some y =>
      obtain ⟨j, r3, c3⟩ := y
      rw [h3] at h
      simp only at h
      obtain ⟨⟨k1, p, rfl⟩, k2⟩ := hg _ _ _ _ _ h3
      cases h4 : lrdN g n (left - c3) r3 with
      | none => rw [h4] at h; cases h
      | some z =>
        obtain ⟨l4, r4, c4⟩ := z
        rw [h4] at h
        simp only [Option.some.injEq, Prod.mk.injEq] at h
        obtain ⟨rfl, rfl, rfl⟩ := h
        obtain ⟨⟨k3, p2, rfl⟩, k4, k5⟩ := lrdN_kn hg n _ _ _ _ _ h4
        exact ⟨⟨by omega, p ++ p2, by rw [List.append_assoc]⟩, by rw [List.length_cons, k4], by omega⟩
end
theorem lrd_kn : ∀ (f left : Nat) (x : List UInt8) (i : Itm) (r : List UInt8) (c : Nat), lrd f left x = some (i, r, c) → Lkn left x r c ∧ 1 ≤ c
  | 0, left, x, i, r, c, h => by cases h
  | f + 1, left, x, i, r, c, h => by
    rw [lrd] at h
    split at h
    · cases h
    · rename_i h0
      cases h1 : lhd x with
      | none => rw [h1] at h; cases h
      | some y =>
        obtain ⟨k, n, r0⟩ := y
        rw [h1] at h
        simp only at h
        obtain ⟨-, -, p, rfl, -⟩ := lhd_len h1
        split at h
        · simp only [Option.some.injEq, Prod.mk.injEq] at h
          obtain ⟨-, rfl, rfl⟩ := h
          exact ⟨⟨by omega, p, rfl⟩, Nat.le_refl _⟩
        · split at h
          · split at h
            · simp only [Option.some.injEq, Prod.mk.injEq] at h
              obtain ⟨-, rfl, rfl⟩ := h
              exact ⟨⟨by omega, p ++ r0.take n, by rw [List.append_assoc, List.take_append_drop]⟩, Nat.le_refl _⟩
            · cases h
          · split at h
            · cases h
            · split at h
              · cases h
              · cases h2 : lrdN (lrd f) (if k = 5 then 2 * n else n) (left - 1) r0 with
                | none => rw [h2] at h; cases h
                | some z =>
                  obtain ⟨l4, r4, c4⟩ := z
                  rw [h2] at h
                  simp only [Option.some.injEq, Prod.mk.injEq] at h
                  obtain ⟨-, rfl, rfl⟩ := h
                  obtain ⟨⟨k3, p2, rfl⟩, k4, k5⟩ := lrdN_kn (lrd_kn f) _ _ _ _ _ _ h2
                  exact ⟨⟨by omega, p ++ p2, by rw [List.append_assoc]⟩, by omega⟩
section
variable {u : List UInt8 → Bool}
theorem rdN_lrdN {f : Nat} (hf : ∀ c x i c' r left, rd u f c x = some (i, c', r) → c' ≤ c + left → lrd f left x = some (i, r, c' - c)) : ∀ (n c : Nat) (x : List UInt8) (l : List Itm) (c' : Nat) (r : List UInt8) (left : Nat), c ≤ 4096 → rdN (rd u f) n c x = some (l, c', r) → c' ≤ c + left → lrdN (lrd f) n left x = some (l, r, c' - c)
  | 0, c, x, l, c', r, left, _, h, hl => by
    simp only [rdN, Option.some.injEq, Prod.mk.injEq] at h
    obtain ⟨rfl, rfl, rfl⟩ := h
    rw [lrdN, Nat.sub_self]
  | n + 1, c, x, l, c', r, left, hc, h, hl => by
    rw [rdN] at h
    cases h1 : rd u f c x with
    | none => rw [h1] at h; cases h
    | some y =>
      obtain ⟨i, c1, r1⟩ := y
      rw [h1] at h
      simp only at h
      obtain ⟨-, -, -, k1, k2, -⟩ := rd_some u f c x i c1 r1 h1
      cases h2 : rdN (rd u f) n c1 r1 with
      | none => rw [h2] at h; cases h
      | some z =>
        obtain ⟨l2, c2, r2⟩ := z
        rw [h2] at h
        simp only [Option.some.injEq, Prod.mk.injEq] at h
        obtain ⟨rfl, rfl, rfl⟩ := h
        obtain ⟨-, -, -, -, k3, k4, -⟩ := rdN_some u (fun c b i c' b' h => rd_some u f c b i c' b' h) n c1 r1 l2 c2 r2 k2 h2
        rw [lrdN, hf c x i c1 r1 left h1 (by omega)]
        simp only
        rw [rdN_lrdN hf n c1 r1 l2 c2 r2 (left - (c1 - c)) k2 h2 (by omega)]
        simp only [Option.some.injEq, Prod.mk.injEq, true_and]
        omega
theorem rd_lrd : ∀ (f c : Nat) (x : List UInt8) (i : Itm) (c' : Nat) (r : List UInt8) (left : Nat), rd u f c x = some (i, c', r) → c' ≤ c + left → lrd f left x = some (i, r, c' - c)
  | 0, c, x, i, c', r, left, h, _ => by cases h
  | f + 1, c, x, i, c', r, left, h, hl => by
    obtain ⟨-, -, -, k1, k2, -⟩ := rd_some u (f + 1) c x i c' r h
    have hcp := cnt_pos i
    cases h1 : rdHead x with
    | none => rw [rd_no u _ c x h1] at h; cases h
    | some y =>
      obtain ⟨k, n, r0⟩ := y
      rw [rd_pay u f c x k n r0 h1, if_neg (by omega)] at h
      obtain ⟨-, hk8, -⟩ := rdHead_some x r0 k n h1
      rw [lrd, if_neg (by omega), rdHead_lhd h1]
      simp only
      unfold pay at h
      by_cases hk : k = 0 ∨ k = 1 ∨ k = 7
      · rw [if_pos hk] at h ⊢
        simp only at h
        split at h
        · simp only [Option.some.injEq, Prod.mk.injEq] at h
          obtain ⟨rfl, rfl, rfl⟩ := h
          simp
        · cases h
      rw [if_neg hk] at h ⊢
      by_cases hk2 : k = 2 ∨ k = 3
      · rw [if_pos hk2] at h ⊢
        by_cases hn : n ≤ r0.length
        · rw [if_pos hn] at h ⊢
          simp only at h
          split at h
          · simp only [Option.some.injEq, Prod.mk.injEq] at h
            obtain ⟨rfl, rfl, rfl⟩ := h
            simp
          · cases h
        · rw [if_neg hn] at h; cases h
      rw [if_neg hk2] at h ⊢
      have hlist : ∀ (N : Nat) (l : List Itm), rdN (rd u f) N (c + 1) r0 = some (l, c', r) → lrdN (lrd f) N (left - 1) r0 = some (l, r, c' - (c + 1)) ∧ N ≤ 4096 := fun N l hN => by
        obtain ⟨-, k3, -, -, k5, k6, -⟩ := rdN_some u (fun c b i c' b' h => rd_some u f c b i c' b' h) N (c + 1) r0 l c' r (by omega) hN
        have : l.length ≤ cnts l := by
          clear k3 k5 hN
          induction l with
          | nil => simp
          | cons a t ih => have := cnt_pos a; rw [cnts, List.length_cons]; omega
        exact ⟨rdN_lrdN (fun c x i c' r left h hl => rd_lrd f c x i c' r left h hl) N (c + 1) r0 l c' r (left - 1) (by omega) hN (by omega), by omega⟩
      by_cases hk4 : k = 4
      · subst hk4
        rw [if_pos rfl] at h
        rw [if_neg (by omega)]
        cases h2 : rdN (rd u f) n (c + 1) r0 with
        | none => rw [h2] at h; cases h
        | some z =>
          obtain ⟨l, c2, r2⟩ := z
          rw [h2] at h
          simp only at h
          split at h
          · simp only [Option.some.injEq, Prod.mk.injEq] at h
            obtain ⟨rfl, rfl, rfl⟩ := h
            obtain ⟨e1, e2⟩ := hlist n l h2
            rw [if_neg (by omega), if_neg (by omega), e1]
            simp only [Option.some.injEq, Prod.mk.injEq, true_and]
            omega
          · cases h
      rw [if_neg hk4] at h
      by_cases hk5 : k = 5
      · subst hk5
        rw [if_pos rfl, rdP] at h
        rw [if_neg (by omega)]
        cases h2 : rdN (rd u f) (2 * n) (c + 1) r0 with
        | none => rw [h2] at h; cases h
        | some z =>
          obtain ⟨l, c2, r2⟩ := z
          rw [h2] at h
          simp only at h
          by_cases hri : rise [] (byts l) = true
          · rw [if_pos hri] at h
            simp only at h
            split at h
            · simp only [Option.some.injEq, Prod.mk.injEq] at h
              obtain ⟨rfl, rfl, rfl⟩ := h
              obtain ⟨e1, e2⟩ := hlist (2 * n) l h2
              rw [if_neg (by omega), if_pos rfl, e1]
              simp only [Option.some.injEq, Prod.mk.injEq, true_and]
              omega
            · cases h
          · rw [if_neg hri] at h; cases h
      rw [if_neg hk5] at h
      cases h
end
end WI
end Go.Proofs.YtfkgfcggcfkkiaaDoor
namespace Go.Proofs.YtfkgfcggcfkkiaaDoor
open Go.RowKit Go.Sort Go.Deep
namespace WI
theorem ixTx (S : ByteArray) (j : Nat) (y : UInt8) (hj : S.data.toList[j]? = some y) (w : World) : (Instr.index 9 (.string S) (.int .i64 (j : Int))).run Tryd.prog w = .ok (.int .u8 (y.toNat : Int)) w := by
  have hl : S.data.toList.length = S.size := by rw [Array.length_toList]; rfl
  obtain ⟨h1, h2⟩ := List.getElem?_eq_some_iff.1 hj
  have hlt : j < S.size := by omega
  have g1 : ¬ (j : Int) < 0 := by omega
  have g2 : (j : Int) < (S.size : Int) := by omega
  have h3 : ∀ hp, (((S)[j]'hp).toNat : Int) = (y.toNat : Int) := fun hp => by
    rw [← h2]; rfl
  go_simp
theorem sl_midX (s : ByteArray) (a z : Nat) (h1 : a ≤ z) (h2 : z ≤ s.size) (r : ByteArray) (e : s.extract a z = r) (w : World) : (Instr.sliceAt 9 (.string s) (some (.int .i64 (a : Int))) (some (.int .i64 (z : Int))) none).run Tryd.prog w = .ok (.string r) w := by
  subst e
  have g1 : ¬ (a : Int) < 0 := by omega
  have g2 : (a : Int) ≤ (z : Int) := by omega
  have g3 : (z : Int) ≤ (s.size : Int) := by omega
  go_simp
theorem sl_loX (s : ByteArray) (a : Nat) (h1 : a ≤ s.size) (r : ByteArray) (e : s.extract a s.size = r) (w : World) : (Instr.sliceAt 9 (.string s) (some (.int .i64 (a : Int))) none none).run Tryd.prog w = .ok (.string r) w := by
  subst e
  have g1 : ¬ (a : Int) < 0 := by omega
  have g2 : (a : Int) ≤ (s.size : Int) := by omega
  go_simp
theorem results_t3 {P : Program} {fn : Func} {tmps : Array Value} {W : World} {k : Nat} {vs : List Value} (t : Tmp) (T : TypeId) (s1 s2 s3 : Tmp) (v1 v2 v3 : Value) (hr : fn.results = #[.cell t T, .tmp s1, .tmp s2, .tmp s3]) (h : RowS W k vs) (ht : tmps[t]? = some (.pointer (some ⟨k, 0, none⟩))) (hs1 : tmps[s1]? = some v1) (hs2 : tmps[s2]? = some v2) (hs3 : tmps[s3]? = some v3)
    (hu : (P.underlying T).map (·.isRow) = some true) (hi : (P.info? T).map (·.size) = some vs.length) : (results fn tmps).run P W = .ok (.tuple #[.agg vs.toArray, v1, v2, v3]) W := by
  obtain ⟨d, hu, hd⟩ := Option.map_eq_some_iff.1 hu
  have h1 := run_loadVar_mid (P := P) W k 0 T vs d h.2.1 hu hd hi
  have h2 : tmps.getD t undef = .pointer (some ⟨k, 0, none⟩) := by rw [Array.getD_eq_getD_getElem?, ht]; rfl
  have e1 : tmps.getD s1 undef = v1 := by rw [Array.getD_eq_getD_getElem?, hs1]; rfl
  have e2 : tmps.getD s2 undef = v2 := by rw [Array.getD_eq_getD_getElem?, hs2]; rfl
  have e3 : tmps.getD s3 undef = v3 := by rw [Array.getD_eq_getD_getElem?, hs3]; rfl
  unfold results
  rw [hr]
  simp only [Array.mapM_eq_mapM_toList, List.mapM_cons, List.mapM_nil, h2, e1, e2, e3, asAddr]
  simp [Sem.run_bind, h1]
/-- What the reference's item answers. -/
def LiR (f left : Nat) (x : List UInt8) (w : World) (e : Value) (w' : World) : Prop := Below w.heap.size w w' ∧ ((lrd f left x = none ∧ e = .tuple #[itv 0 0 none 0 0 none 0 0, .int .i64 0, .int .i64 0, .bool false]) ∨ ∃ i r c at' qd dl cd ql ml cl, lrd f left x = some (i, r, c) ∧ at' + r.length = x.length ∧ e = .tuple #[itv i.k i.n qd dl cd ql ml cl, .int .i64 ((at' : Nat) : Int), .int .i64 ((c : Nat) : Int), .bool true] ∧ IMQ w.heap.size w' i (.slice qd dl cd) (.slice ql ml cl))
def LSp (f : Nat) : Prop := ∀ (w : World) (S : ByteArray) (x : List UInt8) (left deep : Nat), S.data.toList = x → x.length ≤ 65536 → left ≤ 4096 → deep + f = 17 → Calls Tryd.prog 26 #[.string S, .int .i64 (deep : Int), .int .i64 (left : Int)] w (RetW (LiR f left x w))
/-- Two zero items, one behind the other. -/
theorem two0 (w : World) : ∃ w0, Hid ((w.alloc (.cells #[.int .i64 0, .int .u64 0, .slice none 0 0, .slice none 0 0] 27)).alloc (.cells #[.int .i64 0, .int .u64 0, .slice none 0 0, .slice none 0 0] 27) = w0) ∧ Hid (w0.heap.size = w.heap.size + 2) ∧ Hid (Below w.heap.size w w0) ∧ Hid (RowS w0 w.heap.size [.int .i64 0, .int .u64 0, .slice none 0 0, .slice none 0 0]) ∧ Hid (RowS w0 (w.heap.size + 1) [.int .i64 0, .int .u64 0, .slice none 0 0, .slice none 0 0]) := by
  refine ⟨_, rfl, ?_, ?_, ?_, ?_⟩
  · show _ = _; rw [World.size_alloc, World.size_alloc]
  · exact (alloc_below _ _).trans ((alloc_below _ _).mono (by rw [World.size_alloc]; omega))
  · exact (zrow w).below (alloc_below _ _)
  · have := zrow (w.alloc (.cells #[.int .i64 0, .int .u64 0, .slice none 0 0, .slice none 0 0] 27))
    rw [World.size_alloc] at this
    exact this
theorem none_fin {w w0 wr w3 : World} {f left : Nat} {x : List UInt8} (h : lrd f left x = none) (hb : Below w.heap.size w wr) (hz : RowS wr w.heap.size [.int .i64 0, .int .u64 0, .slice none 0 0, .slice none 0 0]) (e : wr.setCells w.heap.size 0 [.int .i64 0, .int .u64 0, .slice none 0 0, .slice none 0 0] = w3) : RowS w3 w.heap.size [.int .i64 0, .int .u64 0, .slice none 0 0, .slice none 0 0] ∧ LiR f left x w (.tuple #[itv 0 0 none 0 0 none 0 0, .int .i64 0, .int .i64 0, .bool false]) w3 := by
  subst e
  exact ⟨hz.scs _ rfl, hb.trans (sc_below _ _ _), Or.inl ⟨h, rfl⟩⟩
theorem zone : (#[Value.int .i64 0, .int .u64 0, .slice none 0 0, .slice none 0 0] : Array Value).all (·.oneCell') = true := by kernel_rfl
set_option maxHeartbeats 1000000 in
set_option maxRecDepth 20000 in
/-- Nothing is read: no bytes, too deep, none left. -/
theorem ritemL_0 (f left deep : Nat) (x : List UInt8) (S : ByteArray) (hS : S.data.toList = x) (w : World) (hd : deep + f = 17) (h : x = [] ∨ f = 0 ∨ left = 0) : Calls Tryd.prog 26 #[.string S, .int .i64 (deep : Int), .int .i64 (left : Int)] w (RetW (LiR f left x w)) := by
  have hl : S.data.toList.length = S.size := by rw [Array.length_toList]; rfl
  have hno : lrd f left x = none := by
    rcases h with rfl | rfl | rfl
    · cases f with
      | zero => rfl
      | succ f => rw [lrd]; split <;> rfl
    · rfl
    · cases f with
      | zero => rfl
      | succ f => rw [lrd, if_pos rfl]
  obtain ⟨w0, hw0, hs0, hB0, hz0, hz1⟩ := two0 w
  obtain ⟨w3, hw3⟩ : ∃ w3, Hid (w0.setCells w.heap.size 0 [.int .i64 0, .int .u64 0, .slice none 0 0, .slice none 0 0] = w3) := ⟨_, rfl⟩
  have K3 := hidW (none_fin (w0 := w0) hno hB0.out hz0.out hw3.out)
  have a0 := hz1.out.cell 0 _ rfl
  have a1 := hz1.out.cell 1 _ rfl
  have a2 := hz1.out.cell 2 _ rfl
  have a3 := hz1.out.cell 3 _ rfl
  have hlt := hz1.out.1
  have fin : ∀ P : Prop, P → P := fun _ h => h
  by_cases h0 : S.size = 0
  · have g0 : ((S.size : Int) == 0) = true := by rw [h0]; rfl
    clear h hno
    go_enter Tryd.func26, Tryd.ntmps26
    go_upto_region 2 with fail
    rw [hw0.out]
    go_wp2_with (first | (refine wpList_store_mid rfl 27 _ _ rfl w.heap.size 0 #[.int .i64 0, .int .u64 0, .slice none 0 0, .slice none 0 0] ?_ ?_ ?_ ?_ ?_ ?_; rfl; rfl; exact hz0.out.2.2; exact isz27; exact zone; (show wpList _ _ _ _ _ (w0.setCells w.heap.size 0 [.int .i64 0, .int .u64 0, .slice none 0 0, .slice none 0 0])); rw [hw3.out]) | fail)
    refine bodyPost_ret (results_t3 6 27 7 8 9 _ _ _ rfl K3.out.1 rfl rfl rfl rfl urw27 isz27) rfl ?_
    exact ⟨_, rfl, K3.out.2⟩
  · have g0 : ((S.size : Int) == 0) = false := (eq0 S.size h0).1
    by_cases h1 : (16 : Int) < (deep : Int)
    · clear h hno
      go_enter Tryd.func26, Tryd.ntmps26
      go_upto_region 2 with fail
      rw [hw0.out]
      go_wp2_with (first | (refine wpList_store_mid rfl 27 _ _ rfl w.heap.size 0 #[.int .i64 0, .int .u64 0, .slice none 0 0, .slice none 0 0] ?_ ?_ ?_ ?_ ?_ ?_; rfl; rfl; exact hz0.out.2.2; exact isz27; exact zone; (show wpList _ _ _ _ _ (w0.setCells w.heap.size 0 [.int .i64 0, .int .u64 0, .slice none 0 0, .slice none 0 0])); rw [hw3.out]) | fail)
      refine bodyPost_ret (results_t3 6 27 7 8 9 _ _ _ rfl K3.out.1 rfl rfl rfl rfl urw27 isz27) rfl ?_
      exact ⟨_, rfl, K3.out.2⟩
    · have h2 : (left : Int) < 1 := by
        rcases h with rfl | rfl | rfl
        · simp at hS; exact absurd (by rw [← hl, hS]; rfl) h0
        · omega
        · omega
      clear h hno
      go_enter Tryd.func26, Tryd.ntmps26
      go_upto_region 2 with fail
      rw [hw0.out]
      go_wp2_with (first | (refine wpList_store_mid rfl 27 _ _ rfl w.heap.size 0 #[.int .i64 0, .int .u64 0, .slice none 0 0, .slice none 0 0] ?_ ?_ ?_ ?_ ?_ ?_; rfl; rfl; exact hz0.out.2.2; exact isz27; exact zone; (show wpList _ _ _ _ _ (w0.setCells w.heap.size 0 [.int .i64 0, .int .u64 0, .slice none 0 0, .slice none 0 0])); rw [hw3.out]) | fail)
      refine bodyPost_ret (results_t3 6 27 7 8 9 _ _ _ rfl K3.out.1 rfl rfl rfl rfl urw27 isz27) rfl ?_
      exact ⟨_, rfl, K3.out.2⟩
end WI
end Go.Proofs.YtfkgfcggcfkkiaaDoor
