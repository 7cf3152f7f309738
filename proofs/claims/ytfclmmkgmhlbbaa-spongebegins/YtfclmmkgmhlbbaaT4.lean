import Derived.Test.YtfclmmkgmhlbbaaG5
import Derived.BigQuiet
import Derived.OpenShut
namespace Go.Proofs.Ytfclmmkgmhlbbaa
open Go.RowKit Go.Sort Go.Deep

theorem below_drawn {B : Nat} {w w1 : World} (h : Below B w w1) (q : Nat) : Below B w (w1.drewN q) := ⟨h.os, h.tape, h.output, h.size, h.block⟩

set_option maxHeartbeats 4000000 in
set_option maxRecDepth 100000 in
theorem begins_big (s : ByteArray) (n m : Int) (label text : ByteArray) (w : World) (ws : s.size ≤ maxLen) (wl : label.size ≤ maxLen) (wt : text.size ≤ maxLen) (hbig : 16384 < s.size ∨ 16384 < label.size ∨ 16384 < text.size) :
    Calls Try.prog 7 #[.string s, .int .i64 n, .int .i64 m, .string label, .string text] w fun e w' => e = .returned (.bool true) ∧ Below w.heap.size w w' := by
  unfold maxLen at ws wl wt
  go_enter Try.func7, Try.ntmps7
  go_wp2_with fail
  refine (Hash_any none 0 0 0 0 #[] _ rfl (Nat.le_refl _) (by omega) (Or.inl rfl)).mono ?_
  rintro e w1 ⟨r1, rfl, hr1, hb1, hH1⟩
  obtain ⟨c0, c1⟩ := hash_none0 hH1
  clear hH1
  by_cases h1 : 16384 < s.size
  · have d1 : decide ((16384 : Int) < (s.size : Int)) = true := decide_eq_true (by omega)
    go_wp2
    go_ret
    exact ⟨rfl, hb1⟩
  · have d1 : decide ((16384 : Int) < (s.size : Int)) = false := decide_eq_false (by omega)
    by_cases h2 : 16384 < label.size
    · have d2 : decide ((16384 : Int) < (label.size : Int)) = true := decide_eq_true (by omega)
      go_wp2
      go_ret
      exact ⟨rfl, hb1⟩
    · have d2 : decide ((16384 : Int) < (label.size : Int)) = false := decide_eq_false (by omega)
      have h3 : 16384 < text.size := by omega
      have d3 : decide ((16384 : Int) < (text.size : Int)) = true := decide_eq_true (by omega)
      go_wp2
      go_ret
      exact ⟨rfl, hb1⟩

set_option maxHeartbeats 4000000 in
set_option maxRecDepth 100000 in
theorem begins_nn (s : ByteArray) (n m : Int) (label text : ByteArray) (w : World) (hs : s.size ≤ 16384) (hl : label.size ≤ 16384) (ht : text.size ≤ 16384) (hn1 : -9223372036854775808 ≤ n) (hn2 : n < 0) (hm1 : -9223372036854775808 ≤ m) (hm2 : m < 0) :
    Calls Try.prog 7 #[.string s, .int .i64 n, .int .i64 m, .string label, .string text] w fun e w' => e = .returned (.bool true) ∧ Below w.heap.size w w' := by
  obtain ⟨k, hk0⟩ : ∃ k : Nat, k = (-(n + 1)).toNat % 2000 := ⟨_, rfl⟩
  have hk1 : -((n + 1).tmod 2000) = (k : Int) := by
    rw [← Int.neg_tmod, Int.tmod_eq_emod_of_nonneg (by omega)]
    omega
  obtain ⟨q, hq0⟩ : ∃ q : Nat, q = (-(m + 1)).toNat % 2000 := ⟨_, rfl⟩
  have hq1 : -((m + 1).tmod 2000) = (q : Int) := by
    rw [← Int.neg_tmod, Int.tmod_eq_emod_of_nonneg (by omega)]
    omega
  have hk : k < 2000 := by omega
  have hq : q < 2000 := by omega
  clear hk0 hq0
  go_enter Try.func7, Try.ntmps7
  go_wp2_with fail
  refine (Hash_any none 0 0 0 0 #[] _ rfl (Nat.le_refl _) (by omega) (Or.inl rfl)).mono ?_
  rintro e w1 ⟨r1, rfl, hr1, hb1, hH1⟩
  obtain ⟨c0, c1⟩ := hash_none0 hH1
  clear hH1
  have d1 : decide ((16384 : Int) < (s.size : Int)) = false := decide_eq_false (by omega)
  have d2 : decide ((16384 : Int) < (label.size : Int)) = false := decide_eq_false (by omega)
  have d3 : decide ((16384 : Int) < (text.size : Int)) = false := decide_eq_false (by omega)
  obtain ⟨cc2, W2, hcv2, hc2, hH2, hP2, hb2, hlt2⟩ := conv_part s w1 (by omega)
  have hs1 := hb1.size
  clear hP2 hr1
  go_wp2_with fail
  refine (Stream_yes (some ⟨w1.heap.size, 0, none⟩) w1.heap.size 0 s.size cc2 k s.data _ (by omega) rfl hc2 (by omega) (Or.inr ⟨rfl, hH2⟩)).mono ?_
  rintro e w3 ⟨r3, rfl, hr3, hb3, hH3⟩
  clear hcv2 hc2 hH2 c0 c1 d1 d2 d3
  have hb13 : Below w.heap.size w w3 := (hb1.trans (hb2.mono hs1)).trans (hb3.mono (by have := hb2.size; omega))
  clear hb1 hb2 hb3
  obtain ⟨cc4, W4, hcv4, hc4, hH4, hP4, hb4, hlt4⟩ := conv_part s w3 (by omega)
  have hs3 := hb13.size
  have hH34 := Holds.below' hH3 hb4
  clear hP4 hH3
  go_wp2_with fail
  refine (Stream_yes (some ⟨w3.heap.size, 0, none⟩) w3.heap.size 0 s.size cc4 (k + q) s.data _ (by omega) rfl hc4 (by omega) (Or.inr ⟨rfl, hH4⟩)).mono ?_
  rintro e w5 ⟨r5, rfl, hr5, hb5, hH5⟩
  have hs5 := hb5.size
  have hb15 : Below w.heap.size w w5 := (hb13.trans (hb4.mono hs3)).trans (hb5.mono (by omega))
  have hH35 := Holds.below' hH34 hb5
  have hH55 := strm_holds (n := k) (by omega) hH5
  have kc1 : ∀ z, (convert 22 9 (.slice (some ⟨r3, 0, none⟩) k k)).run Try.prog (w5.drewN z) = .ok (.string ⟨strmL s.data.toList k⟩) (w5.drewN z) := fun z => conv_str Try.prog 22 9 5 slice22 int5 str9 _ r3 0 k k _ (Holds.drewN hH35 z) (strmL_size _ _)
  have kc2 : ∀ z, (convert 22 9 (.slice (some ⟨r5, 0, none⟩) k (k + q))).run Try.prog (w5.drewN z) = .ok (.string ⟨strmL s.data.toList k⟩) (w5.drewN z) := fun z => conv_str Try.prog 22 9 5 slice22 int5 str9 _ r5 0 k (k + q) _ (Holds.drewN hH55 z) (strmL_size _ _)
  clear hH4 hcv4 hc4 hb4 hb5 hb13 hH34 hH5 hH35 hH55 hlt4 hs5 hr5 hr3 hs3 hs1 hlt2
  generalize strmL s.data.toList k = SL at kc1 kc2
  go_wp2_with fail
  go_quiet (fail)
  have hb6 : Below w.heap.size w (w5.drewN nq) := below_drawn hb15 nq
  clear kc1 kc2 hb15
  generalize w5.drewN nq = w6 at hb6 ⊢
  have hs6 := hb6.size
  go_wp2_with fail
  refine (NewLog_any label _ (by omega)).mono ?_
  rintro e w7 ⟨rfl, hb7, hH7⟩
  have hL7 : (newL label.data.toList).size = 32 := newL_size _
  obtain ⟨L, hLe⟩ : ∃ L, newL label.data.toList = L := ⟨_, rfl⟩
  rw [hLe] at hH7 hL7
  have HL : Hid (newL label.data.toList = L) := hLe
  clear hLe
  have hx7 := Holds.lt hH7 (by omega)
  generalize hx : w6.heap.size = x at hH7 hb7 hs6 hx7 ⊢
  have hbb7 : Below w.heap.size w w7 := hb6.trans (hb7.mono hs6)
  have hs7 := hbb7.size
  clear hb6 hb7 hx
  go_wp2_with fail
  refine (NewLog_any label _ (by omega)).mono ?_
  rintro e w8 ⟨rfl, hb8, hH8⟩
  rw [HL.out] at hH8
  have hx8 := Holds.below' hH7 hb8
  have hy8 := Holds.lt hH8 (by omega)
  generalize hy : w7.heap.size = y at hH8 hb8 hs7 hx7 hy8 ⊢
  have hbb8 : Below w.heap.size w w8 := hbb7.trans (hb8.mono hs7)
  have hs8 := hbb8.size
  clear hH7 hb8 hbb7 hy
  obtain ⟨cc9, W9, hcv9, hc9, hH9, hP9, hb9, hlt9⟩ := conv_part text w8 (by omega)
  have hx9 := Holds.below' hx8 hb9
  have hy9 := Holds.below' hH8 hb9
  have hbb9 : Below w.heap.size w W9 := hbb8.trans (hb9.mono hs8)
  clear hc9 hH9 hx8 hH8 hb9
  go_wp2_with fail
  refine (Say_any x L label (some ⟨w8.heap.size, 0, none⟩) text.size cc9 text.data.toList _ (by omega) hx9 hL7 hP9).mono ?_
  rintro e w10 ⟨rfl, hO10, hx10⟩
  have hy10 := Holds.other hy9 hO10 (by omega) (by omega)
  have hbb10 : Below w.heap.size w w10 := hbb9.trans (hO10.below hbb9.size (by omega))
  have hs10 := hO10.size
  have hs10' := hbb10.size
  clear hcv9 hx9 hy9 hP9 hbb9 hO10
  obtain ⟨cc11, W11, hcv11, hc11, hH11, hP11, hb11, hlt11⟩ := conv_part text w10 (by omega)
  have hx11 := Holds.below' hx10 hb11
  have hy11 := Holds.below' hy10 hb11
  have hbb11 : Below w.heap.size w W11 := hbb10.trans (hb11.mono hs10')
  clear hc11 hH11 hx10 hy10 hb11 hbb10
  go_wp2_with fail
  refine (Say_any y L label (some ⟨w10.heap.size, 0, none⟩) text.size cc11 text.data.toList _ (by omega) hy11 hL7 hP11).mono ?_
  rintro e w12 ⟨rfl, hO12, hy12⟩
  have hM : (sayL L label.data.toList text.data.toList).size = 32 := sayL_size _ _ _
  generalize sayL L label.data.toList text.data.toList = M at hx11 hy12 hM
  have hx12 := Holds.other hx11 hO12 (by omega) (by omega)
  have hbb12 : Below w.heap.size w w12 := hbb11.trans (hO12.below hbb11.size (by omega))
  have hs12 := hO12.size
  clear hcv11 hx11 hy11 hP11 hbb11 hO12 HL hbb8
  go_wp2_with fail
  refine (Ask_yes x M ⟨#[97]⟩ 32 _ (by decide) (by omega) hx12 hM).mono ?_
  rintro e w13 ⟨r13, rfl, hr13, hO13, _, hA13⟩
  have hy13 := Holds.other hy12 hO13 (by omega) (by omega)
  have hbb13 : Below w.heap.size w w13 := hbb12.trans (hO13.below hbb12.size (by omega))
  have hs13 := hO13.size
  have hr13' := Holds.lt hA13 (by rw [askL_size]; omega)
  clear hx12 hy12 hbb12 hO13
  go_wp2_with fail
  refine (Ask_yes y M ⟨#[97]⟩ 32 _ (by decide) (by omega) hy13 hM).mono ?_
  rintro e w14 ⟨r14, rfl, hr14, hO14, _, hA14⟩
  have hA14' := Holds.other hA13 hO14 (by omega) (by rw [askL_size]; omega)
  have hbb14 : Below w.heap.size w w14 := hbb13.trans (hO14.below hbb13.size (by omega))
  have hAs : (askL M (⟨#[97]⟩ : ByteArray).data.toList 32).size = 32 := askL_size _ _ _
  generalize askL M (⟨#[97]⟩ : ByteArray).data.toList 32 = A at hA14 hA14' hAs
  have kc1 := conv_str Try.prog 22 9 5 slice22 int5 str9 w14 r13 0 32 32 A hA14' hAs
  have kc2 := conv_str Try.prog 22 9 5 slice22 int5 str9 w14 r14 0 32 32 A hA14 hAs
  clear hy13 hbb13 hO14 hA13 hA14 hA14'
  go_wp2
  go_ret
  exact ⟨rfl, hbb14⟩

set_option maxHeartbeats 4000000 in
set_option maxRecDepth 100000 in
theorem begins_np (s : ByteArray) (n m : Int) (label text : ByteArray) (w : World) (hs : s.size ≤ 16384) (hl : label.size ≤ 16384) (ht : text.size ≤ 16384) (hn1 : -9223372036854775808 ≤ n) (hn2 : n < 0) (hm1 : 0 ≤ m) (hm2 : m ≤ 9223372036854775807) :
    Calls Try.prog 7 #[.string s, .int .i64 n, .int .i64 m, .string label, .string text] w fun e w' => e = .returned (.bool true) ∧ Below w.heap.size w w' := by
  obtain ⟨k, hk0⟩ : ∃ k : Nat, k = (-(n + 1)).toNat % 2000 := ⟨_, rfl⟩
  have hk1 : -((n + 1).tmod 2000) = (k : Int) := by
    rw [← Int.neg_tmod, Int.tmod_eq_emod_of_nonneg (by omega)]
    omega
  obtain ⟨q, hq0⟩ : ∃ q : Nat, q = m.toNat % 2000 := ⟨_, rfl⟩
  have hq1 : m % 2000 = (q : Int) := by omega
  have hk : k < 2000 := by omega
  have hq : q < 2000 := by omega
  clear hk0 hq0
  go_enter Try.func7, Try.ntmps7
  go_wp2_with fail
  refine (Hash_any none 0 0 0 0 #[] _ rfl (Nat.le_refl _) (by omega) (Or.inl rfl)).mono ?_
  rintro e w1 ⟨r1, rfl, hr1, hb1, hH1⟩
  obtain ⟨c0, c1⟩ := hash_none0 hH1
  clear hH1
  have d1 : decide ((16384 : Int) < (s.size : Int)) = false := decide_eq_false (by omega)
  have d2 : decide ((16384 : Int) < (label.size : Int)) = false := decide_eq_false (by omega)
  have d3 : decide ((16384 : Int) < (text.size : Int)) = false := decide_eq_false (by omega)
  obtain ⟨cc2, W2, hcv2, hc2, hH2, hP2, hb2, hlt2⟩ := conv_part s w1 (by omega)
  have hs1 := hb1.size
  clear hP2 hr1
  go_wp2_with fail
  refine (Stream_yes (some ⟨w1.heap.size, 0, none⟩) w1.heap.size 0 s.size cc2 k s.data _ (by omega) rfl hc2 (by omega) (Or.inr ⟨rfl, hH2⟩)).mono ?_
  rintro e w3 ⟨r3, rfl, hr3, hb3, hH3⟩
  clear hcv2 hc2 hH2 c0 c1 d1 d2 d3
  have hb13 : Below w.heap.size w w3 := (hb1.trans (hb2.mono hs1)).trans (hb3.mono (by have := hb2.size; omega))
  clear hb1 hb2 hb3
  obtain ⟨cc4, W4, hcv4, hc4, hH4, hP4, hb4, hlt4⟩ := conv_part s w3 (by omega)
  have hs3 := hb13.size
  have hH34 := Holds.below' hH3 hb4
  clear hP4 hH3
  go_wp2_with fail
  refine (Stream_yes (some ⟨w3.heap.size, 0, none⟩) w3.heap.size 0 s.size cc4 (k + q) s.data _ (by omega) rfl hc4 (by omega) (Or.inr ⟨rfl, hH4⟩)).mono ?_
  rintro e w5 ⟨r5, rfl, hr5, hb5, hH5⟩
  have hs5 := hb5.size
  have hb15 : Below w.heap.size w w5 := (hb13.trans (hb4.mono hs3)).trans (hb5.mono (by omega))
  have hH35 := Holds.below' hH34 hb5
  have hH55 := strm_holds (n := k) (by omega) hH5
  have kc1 : ∀ z, (convert 22 9 (.slice (some ⟨r3, 0, none⟩) k k)).run Try.prog (w5.drewN z) = .ok (.string ⟨strmL s.data.toList k⟩) (w5.drewN z) := fun z => conv_str Try.prog 22 9 5 slice22 int5 str9 _ r3 0 k k _ (Holds.drewN hH35 z) (strmL_size _ _)
  have kc2 : ∀ z, (convert 22 9 (.slice (some ⟨r5, 0, none⟩) k (k + q))).run Try.prog (w5.drewN z) = .ok (.string ⟨strmL s.data.toList k⟩) (w5.drewN z) := fun z => conv_str Try.prog 22 9 5 slice22 int5 str9 _ r5 0 k (k + q) _ (Holds.drewN hH55 z) (strmL_size _ _)
  clear hH4 hcv4 hc4 hb4 hb5 hb13 hH34 hH5 hH35 hH55 hlt4 hs5 hr5 hr3 hs3 hs1 hlt2
  generalize strmL s.data.toList k = SL at kc1 kc2
  go_wp2_with fail
  go_quiet (fail)
  have hb6 : Below w.heap.size w (w5.drewN nq) := below_drawn hb15 nq
  clear kc1 kc2 hb15
  generalize w5.drewN nq = w6 at hb6 ⊢
  have hs6 := hb6.size
  go_wp2_with fail
  refine (NewLog_any label _ (by omega)).mono ?_
  rintro e w7 ⟨rfl, hb7, hH7⟩
  have hL7 : (newL label.data.toList).size = 32 := newL_size _
  obtain ⟨L, hLe⟩ : ∃ L, newL label.data.toList = L := ⟨_, rfl⟩
  rw [hLe] at hH7 hL7
  have HL : Hid (newL label.data.toList = L) := hLe
  clear hLe
  have hx7 := Holds.lt hH7 (by omega)
  generalize hx : w6.heap.size = x at hH7 hb7 hs6 hx7 ⊢
  have hbb7 : Below w.heap.size w w7 := hb6.trans (hb7.mono hs6)
  have hs7 := hbb7.size
  clear hb6 hb7 hx
  go_wp2_with fail
  refine (NewLog_any label _ (by omega)).mono ?_
  rintro e w8 ⟨rfl, hb8, hH8⟩
  rw [HL.out] at hH8
  have hx8 := Holds.below' hH7 hb8
  have hy8 := Holds.lt hH8 (by omega)
  generalize hy : w7.heap.size = y at hH8 hb8 hs7 hx7 hy8 ⊢
  have hbb8 : Below w.heap.size w w8 := hbb7.trans (hb8.mono hs7)
  have hs8 := hbb8.size
  clear hH7 hb8 hbb7 hy
  obtain ⟨cc9, W9, hcv9, hc9, hH9, hP9, hb9, hlt9⟩ := conv_part text w8 (by omega)
  have hx9 := Holds.below' hx8 hb9
  have hy9 := Holds.below' hH8 hb9
  have hbb9 : Below w.heap.size w W9 := hbb8.trans (hb9.mono hs8)
  clear hc9 hH9 hx8 hH8 hb9
  go_wp2_with fail
  refine (Say_any x L label (some ⟨w8.heap.size, 0, none⟩) text.size cc9 text.data.toList _ (by omega) hx9 hL7 hP9).mono ?_
  rintro e w10 ⟨rfl, hO10, hx10⟩
  have hy10 := Holds.other hy9 hO10 (by omega) (by omega)
  have hbb10 : Below w.heap.size w w10 := hbb9.trans (hO10.below hbb9.size (by omega))
  have hs10 := hO10.size
  have hs10' := hbb10.size
  clear hcv9 hx9 hy9 hP9 hbb9 hO10
  obtain ⟨cc11, W11, hcv11, hc11, hH11, hP11, hb11, hlt11⟩ := conv_part text w10 (by omega)
  have hx11 := Holds.below' hx10 hb11
  have hy11 := Holds.below' hy10 hb11
  have hbb11 : Below w.heap.size w W11 := hbb10.trans (hb11.mono hs10')
  clear hc11 hH11 hx10 hy10 hb11 hbb10
  go_wp2_with fail
  refine (Say_any y L label (some ⟨w10.heap.size, 0, none⟩) text.size cc11 text.data.toList _ (by omega) hy11 hL7 hP11).mono ?_
  rintro e w12 ⟨rfl, hO12, hy12⟩
  have hM : (sayL L label.data.toList text.data.toList).size = 32 := sayL_size _ _ _
  generalize sayL L label.data.toList text.data.toList = M at hx11 hy12 hM
  have hx12 := Holds.other hx11 hO12 (by omega) (by omega)
  have hbb12 : Below w.heap.size w w12 := hbb11.trans (hO12.below hbb11.size (by omega))
  have hs12 := hO12.size
  clear hcv11 hx11 hy11 hP11 hbb11 hO12 HL hbb8
  go_wp2_with fail
  refine (Ask_yes x M ⟨#[97]⟩ 32 _ (by decide) (by omega) hx12 hM).mono ?_
  rintro e w13 ⟨r13, rfl, hr13, hO13, _, hA13⟩
  have hy13 := Holds.other hy12 hO13 (by omega) (by omega)
  have hbb13 : Below w.heap.size w w13 := hbb12.trans (hO13.below hbb12.size (by omega))
  have hs13 := hO13.size
  have hr13' := Holds.lt hA13 (by rw [askL_size]; omega)
  clear hx12 hy12 hbb12 hO13
  go_wp2_with fail
  refine (Ask_yes y M ⟨#[97]⟩ 32 _ (by decide) (by omega) hy13 hM).mono ?_
  rintro e w14 ⟨r14, rfl, hr14, hO14, _, hA14⟩
  have hA14' := Holds.other hA13 hO14 (by omega) (by rw [askL_size]; omega)
  have hbb14 : Below w.heap.size w w14 := hbb13.trans (hO14.below hbb13.size (by omega))
  have hAs : (askL M (⟨#[97]⟩ : ByteArray).data.toList 32).size = 32 := askL_size _ _ _
  generalize askL M (⟨#[97]⟩ : ByteArray).data.toList 32 = A at hA14 hA14' hAs
  have kc1 := conv_str Try.prog 22 9 5 slice22 int5 str9 w14 r13 0 32 32 A hA14' hAs
  have kc2 := conv_str Try.prog 22 9 5 slice22 int5 str9 w14 r14 0 32 32 A hA14 hAs
  clear hy13 hbb13 hO14 hA13 hA14 hA14'
  go_wp2
  go_ret
  exact ⟨rfl, hbb14⟩

set_option maxHeartbeats 4000000 in
set_option maxRecDepth 100000 in
theorem begins_pn (s : ByteArray) (n m : Int) (label text : ByteArray) (w : World) (hs : s.size ≤ 16384) (hl : label.size ≤ 16384) (ht : text.size ≤ 16384) (hn1 : 0 ≤ n) (hn2 : n ≤ 9223372036854775807) (hm1 : -9223372036854775808 ≤ m) (hm2 : m < 0) :
    Calls Try.prog 7 #[.string s, .int .i64 n, .int .i64 m, .string label, .string text] w fun e w' => e = .returned (.bool true) ∧ Below w.heap.size w w' := by
  obtain ⟨k, hk0⟩ : ∃ k : Nat, k = n.toNat % 2000 := ⟨_, rfl⟩
  have hk1 : n % 2000 = (k : Int) := by omega
  obtain ⟨q, hq0⟩ : ∃ q : Nat, q = (-(m + 1)).toNat % 2000 := ⟨_, rfl⟩
  have hq1 : -((m + 1).tmod 2000) = (q : Int) := by
    rw [← Int.neg_tmod, Int.tmod_eq_emod_of_nonneg (by omega)]
    omega
  have hk : k < 2000 := by omega
  have hq : q < 2000 := by omega
  clear hk0 hq0
  go_enter Try.func7, Try.ntmps7
  go_wp2_with fail
  refine (Hash_any none 0 0 0 0 #[] _ rfl (Nat.le_refl _) (by omega) (Or.inl rfl)).mono ?_
  rintro e w1 ⟨r1, rfl, hr1, hb1, hH1⟩
  obtain ⟨c0, c1⟩ := hash_none0 hH1
  clear hH1
  have d1 : decide ((16384 : Int) < (s.size : Int)) = false := decide_eq_false (by omega)
  have d2 : decide ((16384 : Int) < (label.size : Int)) = false := decide_eq_false (by omega)
  have d3 : decide ((16384 : Int) < (text.size : Int)) = false := decide_eq_false (by omega)
  obtain ⟨cc2, W2, hcv2, hc2, hH2, hP2, hb2, hlt2⟩ := conv_part s w1 (by omega)
  have hs1 := hb1.size
  clear hP2 hr1
  go_wp2_with fail
  refine (Stream_yes (some ⟨w1.heap.size, 0, none⟩) w1.heap.size 0 s.size cc2 k s.data _ (by omega) rfl hc2 (by omega) (Or.inr ⟨rfl, hH2⟩)).mono ?_
  rintro e w3 ⟨r3, rfl, hr3, hb3, hH3⟩
  clear hcv2 hc2 hH2 c0 c1 d1 d2 d3
  have hb13 : Below w.heap.size w w3 := (hb1.trans (hb2.mono hs1)).trans (hb3.mono (by have := hb2.size; omega))
  clear hb1 hb2 hb3
  obtain ⟨cc4, W4, hcv4, hc4, hH4, hP4, hb4, hlt4⟩ := conv_part s w3 (by omega)
  have hs3 := hb13.size
  have hH34 := Holds.below' hH3 hb4
  clear hP4 hH3
  go_wp2_with fail
  refine (Stream_yes (some ⟨w3.heap.size, 0, none⟩) w3.heap.size 0 s.size cc4 (k + q) s.data _ (by omega) rfl hc4 (by omega) (Or.inr ⟨rfl, hH4⟩)).mono ?_
  rintro e w5 ⟨r5, rfl, hr5, hb5, hH5⟩
  have hs5 := hb5.size
  have hb15 : Below w.heap.size w w5 := (hb13.trans (hb4.mono hs3)).trans (hb5.mono (by omega))
  have hH35 := Holds.below' hH34 hb5
  have hH55 := strm_holds (n := k) (by omega) hH5
  have kc1 : ∀ z, (convert 22 9 (.slice (some ⟨r3, 0, none⟩) k k)).run Try.prog (w5.drewN z) = .ok (.string ⟨strmL s.data.toList k⟩) (w5.drewN z) := fun z => conv_str Try.prog 22 9 5 slice22 int5 str9 _ r3 0 k k _ (Holds.drewN hH35 z) (strmL_size _ _)
  have kc2 : ∀ z, (convert 22 9 (.slice (some ⟨r5, 0, none⟩) k (k + q))).run Try.prog (w5.drewN z) = .ok (.string ⟨strmL s.data.toList k⟩) (w5.drewN z) := fun z => conv_str Try.prog 22 9 5 slice22 int5 str9 _ r5 0 k (k + q) _ (Holds.drewN hH55 z) (strmL_size _ _)
  clear hH4 hcv4 hc4 hb4 hb5 hb13 hH34 hH5 hH35 hH55 hlt4 hs5 hr5 hr3 hs3 hs1 hlt2
  generalize strmL s.data.toList k = SL at kc1 kc2
  go_wp2_with fail
  go_quiet (fail)
  have hb6 : Below w.heap.size w (w5.drewN nq) := below_drawn hb15 nq
  clear kc1 kc2 hb15
  generalize w5.drewN nq = w6 at hb6 ⊢
  have hs6 := hb6.size
  go_wp2_with fail
  refine (NewLog_any label _ (by omega)).mono ?_
  rintro e w7 ⟨rfl, hb7, hH7⟩
  have hL7 : (newL label.data.toList).size = 32 := newL_size _
  obtain ⟨L, hLe⟩ : ∃ L, newL label.data.toList = L := ⟨_, rfl⟩
  rw [hLe] at hH7 hL7
  have HL : Hid (newL label.data.toList = L) := hLe
  clear hLe
  have hx7 := Holds.lt hH7 (by omega)
  generalize hx : w6.heap.size = x at hH7 hb7 hs6 hx7 ⊢
  have hbb7 : Below w.heap.size w w7 := hb6.trans (hb7.mono hs6)
  have hs7 := hbb7.size
  clear hb6 hb7 hx
  go_wp2_with fail
  refine (NewLog_any label _ (by omega)).mono ?_
  rintro e w8 ⟨rfl, hb8, hH8⟩
  rw [HL.out] at hH8
  have hx8 := Holds.below' hH7 hb8
  have hy8 := Holds.lt hH8 (by omega)
  generalize hy : w7.heap.size = y at hH8 hb8 hs7 hx7 hy8 ⊢
  have hbb8 : Below w.heap.size w w8 := hbb7.trans (hb8.mono hs7)
  have hs8 := hbb8.size
  clear hH7 hb8 hbb7 hy
  obtain ⟨cc9, W9, hcv9, hc9, hH9, hP9, hb9, hlt9⟩ := conv_part text w8 (by omega)
  have hx9 := Holds.below' hx8 hb9
  have hy9 := Holds.below' hH8 hb9
  have hbb9 : Below w.heap.size w W9 := hbb8.trans (hb9.mono hs8)
  clear hc9 hH9 hx8 hH8 hb9
  go_wp2_with fail
  refine (Say_any x L label (some ⟨w8.heap.size, 0, none⟩) text.size cc9 text.data.toList _ (by omega) hx9 hL7 hP9).mono ?_
  rintro e w10 ⟨rfl, hO10, hx10⟩
  have hy10 := Holds.other hy9 hO10 (by omega) (by omega)
  have hbb10 : Below w.heap.size w w10 := hbb9.trans (hO10.below hbb9.size (by omega))
  have hs10 := hO10.size
  have hs10' := hbb10.size
  clear hcv9 hx9 hy9 hP9 hbb9 hO10
  obtain ⟨cc11, W11, hcv11, hc11, hH11, hP11, hb11, hlt11⟩ := conv_part text w10 (by omega)
  have hx11 := Holds.below' hx10 hb11
  have hy11 := Holds.below' hy10 hb11
  have hbb11 : Below w.heap.size w W11 := hbb10.trans (hb11.mono hs10')
  clear hc11 hH11 hx10 hy10 hb11 hbb10
  go_wp2_with fail
  refine (Say_any y L label (some ⟨w10.heap.size, 0, none⟩) text.size cc11 text.data.toList _ (by omega) hy11 hL7 hP11).mono ?_
  rintro e w12 ⟨rfl, hO12, hy12⟩
  have hM : (sayL L label.data.toList text.data.toList).size = 32 := sayL_size _ _ _
  generalize sayL L label.data.toList text.data.toList = M at hx11 hy12 hM
  have hx12 := Holds.other hx11 hO12 (by omega) (by omega)
  have hbb12 : Below w.heap.size w w12 := hbb11.trans (hO12.below hbb11.size (by omega))
  have hs12 := hO12.size
  clear hcv11 hx11 hy11 hP11 hbb11 hO12 HL hbb8
  go_wp2_with fail
  refine (Ask_yes x M ⟨#[97]⟩ 32 _ (by decide) (by omega) hx12 hM).mono ?_
  rintro e w13 ⟨r13, rfl, hr13, hO13, _, hA13⟩
  have hy13 := Holds.other hy12 hO13 (by omega) (by omega)
  have hbb13 : Below w.heap.size w w13 := hbb12.trans (hO13.below hbb12.size (by omega))
  have hs13 := hO13.size
  have hr13' := Holds.lt hA13 (by rw [askL_size]; omega)
  clear hx12 hy12 hbb12 hO13
  go_wp2_with fail
  refine (Ask_yes y M ⟨#[97]⟩ 32 _ (by decide) (by omega) hy13 hM).mono ?_
  rintro e w14 ⟨r14, rfl, hr14, hO14, _, hA14⟩
  have hA14' := Holds.other hA13 hO14 (by omega) (by rw [askL_size]; omega)
  have hbb14 : Below w.heap.size w w14 := hbb13.trans (hO14.below hbb13.size (by omega))
  have hAs : (askL M (⟨#[97]⟩ : ByteArray).data.toList 32).size = 32 := askL_size _ _ _
  generalize askL M (⟨#[97]⟩ : ByteArray).data.toList 32 = A at hA14 hA14' hAs
  have kc1 := conv_str Try.prog 22 9 5 slice22 int5 str9 w14 r13 0 32 32 A hA14' hAs
  have kc2 := conv_str Try.prog 22 9 5 slice22 int5 str9 w14 r14 0 32 32 A hA14 hAs
  clear hy13 hbb13 hO14 hA13 hA14 hA14'
  go_wp2
  go_ret
  exact ⟨rfl, hbb14⟩

set_option maxHeartbeats 4000000 in
set_option maxRecDepth 100000 in
theorem begins_pp (s : ByteArray) (n m : Int) (label text : ByteArray) (w : World) (hs : s.size ≤ 16384) (hl : label.size ≤ 16384) (ht : text.size ≤ 16384) (hn1 : 0 ≤ n) (hn2 : n ≤ 9223372036854775807) (hm1 : 0 ≤ m) (hm2 : m ≤ 9223372036854775807) :
    Calls Try.prog 7 #[.string s, .int .i64 n, .int .i64 m, .string label, .string text] w fun e w' => e = .returned (.bool true) ∧ Below w.heap.size w w' := by
  obtain ⟨k, hk0⟩ : ∃ k : Nat, k = n.toNat % 2000 := ⟨_, rfl⟩
  have hk1 : n % 2000 = (k : Int) := by omega
  obtain ⟨q, hq0⟩ : ∃ q : Nat, q = m.toNat % 2000 := ⟨_, rfl⟩
  have hq1 : m % 2000 = (q : Int) := by omega
  have hk : k < 2000 := by omega
  have hq : q < 2000 := by omega
  clear hk0 hq0
  go_enter Try.func7, Try.ntmps7
  go_wp2_with fail
  refine (Hash_any none 0 0 0 0 #[] _ rfl (Nat.le_refl _) (by omega) (Or.inl rfl)).mono ?_
  rintro e w1 ⟨r1, rfl, hr1, hb1, hH1⟩
  obtain ⟨c0, c1⟩ := hash_none0 hH1
  clear hH1
  have d1 : decide ((16384 : Int) < (s.size : Int)) = false := decide_eq_false (by omega)
  have d2 : decide ((16384 : Int) < (label.size : Int)) = false := decide_eq_false (by omega)
  have d3 : decide ((16384 : Int) < (text.size : Int)) = false := decide_eq_false (by omega)
  obtain ⟨cc2, W2, hcv2, hc2, hH2, hP2, hb2, hlt2⟩ := conv_part s w1 (by omega)
  have hs1 := hb1.size
  clear hP2 hr1
  go_wp2_with fail
  refine (Stream_yes (some ⟨w1.heap.size, 0, none⟩) w1.heap.size 0 s.size cc2 k s.data _ (by omega) rfl hc2 (by omega) (Or.inr ⟨rfl, hH2⟩)).mono ?_
  rintro e w3 ⟨r3, rfl, hr3, hb3, hH3⟩
  clear hcv2 hc2 hH2 c0 c1 d1 d2 d3
  have hb13 : Below w.heap.size w w3 := (hb1.trans (hb2.mono hs1)).trans (hb3.mono (by have := hb2.size; omega))
  clear hb1 hb2 hb3
  obtain ⟨cc4, W4, hcv4, hc4, hH4, hP4, hb4, hlt4⟩ := conv_part s w3 (by omega)
  have hs3 := hb13.size
  have hH34 := Holds.below' hH3 hb4
  clear hP4 hH3
  go_wp2_with fail
  refine (Stream_yes (some ⟨w3.heap.size, 0, none⟩) w3.heap.size 0 s.size cc4 (k + q) s.data _ (by omega) rfl hc4 (by omega) (Or.inr ⟨rfl, hH4⟩)).mono ?_
  rintro e w5 ⟨r5, rfl, hr5, hb5, hH5⟩
  have hs5 := hb5.size
  have hb15 : Below w.heap.size w w5 := (hb13.trans (hb4.mono hs3)).trans (hb5.mono (by omega))
  have hH35 := Holds.below' hH34 hb5
  have hH55 := strm_holds (n := k) (by omega) hH5
  have kc1 : ∀ z, (convert 22 9 (.slice (some ⟨r3, 0, none⟩) k k)).run Try.prog (w5.drewN z) = .ok (.string ⟨strmL s.data.toList k⟩) (w5.drewN z) := fun z => conv_str Try.prog 22 9 5 slice22 int5 str9 _ r3 0 k k _ (Holds.drewN hH35 z) (strmL_size _ _)
  have kc2 : ∀ z, (convert 22 9 (.slice (some ⟨r5, 0, none⟩) k (k + q))).run Try.prog (w5.drewN z) = .ok (.string ⟨strmL s.data.toList k⟩) (w5.drewN z) := fun z => conv_str Try.prog 22 9 5 slice22 int5 str9 _ r5 0 k (k + q) _ (Holds.drewN hH55 z) (strmL_size _ _)
  clear hH4 hcv4 hc4 hb4 hb5 hb13 hH34 hH5 hH35 hH55 hlt4 hs5 hr5 hr3 hs3 hs1 hlt2
  generalize strmL s.data.toList k = SL at kc1 kc2
  go_wp2_with fail
  go_quiet (fail)
  have hb6 : Below w.heap.size w (w5.drewN nq) := below_drawn hb15 nq
  clear kc1 kc2 hb15
  generalize w5.drewN nq = w6 at hb6 ⊢
  have hs6 := hb6.size
  go_wp2_with fail
  refine (NewLog_any label _ (by omega)).mono ?_
  rintro e w7 ⟨rfl, hb7, hH7⟩
  have hL7 : (newL label.data.toList).size = 32 := newL_size _
  obtain ⟨L, hLe⟩ : ∃ L, newL label.data.toList = L := ⟨_, rfl⟩
  rw [hLe] at hH7 hL7
  have HL : Hid (newL label.data.toList = L) := hLe
  clear hLe
  have hx7 := Holds.lt hH7 (by omega)
  generalize hx : w6.heap.size = x at hH7 hb7 hs6 hx7 ⊢
  have hbb7 : Below w.heap.size w w7 := hb6.trans (hb7.mono hs6)
  have hs7 := hbb7.size
  clear hb6 hb7 hx
  go_wp2_with fail
  refine (NewLog_any label _ (by omega)).mono ?_
  rintro e w8 ⟨rfl, hb8, hH8⟩
  rw [HL.out] at hH8
  have hx8 := Holds.below' hH7 hb8
  have hy8 := Holds.lt hH8 (by omega)
  generalize hy : w7.heap.size = y at hH8 hb8 hs7 hx7 hy8 ⊢
  have hbb8 : Below w.heap.size w w8 := hbb7.trans (hb8.mono hs7)
  have hs8 := hbb8.size
  clear hH7 hb8 hbb7 hy
  obtain ⟨cc9, W9, hcv9, hc9, hH9, hP9, hb9, hlt9⟩ := conv_part text w8 (by omega)
  have hx9 := Holds.below' hx8 hb9
  have hy9 := Holds.below' hH8 hb9
  have hbb9 : Below w.heap.size w W9 := hbb8.trans (hb9.mono hs8)
  clear hc9 hH9 hx8 hH8 hb9
  go_wp2_with fail
  refine (Say_any x L label (some ⟨w8.heap.size, 0, none⟩) text.size cc9 text.data.toList _ (by omega) hx9 hL7 hP9).mono ?_
  rintro e w10 ⟨rfl, hO10, hx10⟩
  have hy10 := Holds.other hy9 hO10 (by omega) (by omega)
  have hbb10 : Below w.heap.size w w10 := hbb9.trans (hO10.below hbb9.size (by omega))
  have hs10 := hO10.size
  have hs10' := hbb10.size
  clear hcv9 hx9 hy9 hP9 hbb9 hO10
  obtain ⟨cc11, W11, hcv11, hc11, hH11, hP11, hb11, hlt11⟩ := conv_part text w10 (by omega)
  have hx11 := Holds.below' hx10 hb11
  have hy11 := Holds.below' hy10 hb11
  have hbb11 : Below w.heap.size w W11 := hbb10.trans (hb11.mono hs10')
  clear hc11 hH11 hx10 hy10 hb11 hbb10
  go_wp2_with fail
  refine (Say_any y L label (some ⟨w10.heap.size, 0, none⟩) text.size cc11 text.data.toList _ (by omega) hy11 hL7 hP11).mono ?_
  rintro e w12 ⟨rfl, hO12, hy12⟩
  have hM : (sayL L label.data.toList text.data.toList).size = 32 := sayL_size _ _ _
  generalize sayL L label.data.toList text.data.toList = M at hx11 hy12 hM
  have hx12 := Holds.other hx11 hO12 (by omega) (by omega)
  have hbb12 : Below w.heap.size w w12 := hbb11.trans (hO12.below hbb11.size (by omega))
  have hs12 := hO12.size
  clear hcv11 hx11 hy11 hP11 hbb11 hO12 HL hbb8
  go_wp2_with fail
  refine (Ask_yes x M ⟨#[97]⟩ 32 _ (by decide) (by omega) hx12 hM).mono ?_
  rintro e w13 ⟨r13, rfl, hr13, hO13, _, hA13⟩
  have hy13 := Holds.other hy12 hO13 (by omega) (by omega)
  have hbb13 : Below w.heap.size w w13 := hbb12.trans (hO13.below hbb12.size (by omega))
  have hs13 := hO13.size
  have hr13' := Holds.lt hA13 (by rw [askL_size]; omega)
  clear hx12 hy12 hbb12 hO13
  go_wp2_with fail
  refine (Ask_yes y M ⟨#[97]⟩ 32 _ (by decide) (by omega) hy13 hM).mono ?_
  rintro e w14 ⟨r14, rfl, hr14, hO14, _, hA14⟩
  have hA14' := Holds.other hA13 hO14 (by omega) (by rw [askL_size]; omega)
  have hbb14 : Below w.heap.size w w14 := hbb13.trans (hO14.below hbb13.size (by omega))
  have hAs : (askL M (⟨#[97]⟩ : ByteArray).data.toList 32).size = 32 := askL_size _ _ _
  generalize askL M (⟨#[97]⟩ : ByteArray).data.toList 32 = A at hA14 hA14' hAs
  have kc1 := conv_str Try.prog 22 9 5 slice22 int5 str9 w14 r13 0 32 32 A hA14' hAs
  have kc2 := conv_str Try.prog 22 9 5 slice22 int5 str9 w14 r14 0 32 32 A hA14 hAs
  clear hy13 hbb13 hO14 hA13 hA14 hA14'
  go_wp2
  go_ret
  exact ⟨rfl, hbb14⟩

theorem begins_any (s : ByteArray) (n m : Int) (label text : ByteArray) (w : World) (ws : s.size ≤ maxLen) (wn : (Lit.int .i64 n).wf = true) (wm : (Lit.int .i64 m).wf = true) (wl : label.size ≤ maxLen) (wt : text.size ≤ maxLen) :
    Calls Try.prog 7 #[.string s, .int .i64 n, .int .i64 m, .string label, .string text] w fun e w' => e = .returned (.bool true) ∧ Below w.heap.size w w' := by
  by_cases hb : 16384 < s.size ∨ 16384 < label.size ∨ 16384 < text.size
  · exact begins_big s n m label text w ws wl wt hb
  have bn : -9223372036854775808 ≤ n ∧ n ≤ 9223372036854775807 := bounds_i64 wn
  have bm : -9223372036854775808 ≤ m ∧ m ≤ 9223372036854775807 := bounds_i64 wm
  by_cases hn : n < 0
  · by_cases hm : m < 0
    · exact begins_nn s n m label text w (by omega) (by omega) (by omega) (by omega) hn (by omega) hm
    · exact begins_np s n m label text w (by omega) (by omega) (by omega) (by omega) hn (by omega) (by omega)
  · by_cases hm : m < 0
    · exact begins_pn s n m label text w (by omega) (by omega) (by omega) (by omega) (by omega) (by omega) hm
    · exact begins_pp s n m label text w (by omega) (by omega) (by omega) (by omega) (by omega) (by omega) (by omega)
end Go.Proofs.Ytfclmmkgmhlbbaa
