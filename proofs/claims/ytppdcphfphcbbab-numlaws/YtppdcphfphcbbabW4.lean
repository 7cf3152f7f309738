import Derived.Test.YtppdcphfphcbbabW3
namespace Go.Proofs.Ytppdcphfphcbbab
open Go.RowKit Go.Sort Go.Deep

set_option maxHeartbeats 32000000 in
set_option maxRecDepth 100000 in
theorem laws_pos (kind : Int) (hk : ¬ kind < 0) (_hkm : -9223372036854775808 ≤ kind) (_hkM : kind ≤ 9223372036854775807) (s t u : ByteArray) (hs : s.size ≤ 1024) (ht : t.size ≤ 1024) (hu : u.size ≤ 1024) (w0 : World) (kk : Nat) (hkk2 : kk < 2) (ekk : kind.tmod 2 = (kk : Int))
    (g0 g1 g2 P : Nat) (hG : Gap g0 g1 g2 P) (hp : PrimeOf (kk : Int) g0 g1 g2) (hIP : NT.IsP P) (hlow : 2 ≤ P % 18446744073709551616) (hp0 : kk = 0 → P = Go.Proofs.Ytppdcphfphcbbab.p0) :
    Calls Try.prog 6 #[.int .i64 kind, .string s, .string t, .string u] w0 fun e w' => e = .returned (.bool true) ∧ Below w0.heap.size w0 w' := by
  have HMK : Hid (∀ w : World, (Instr.makeSlice 23 (.int .i64 32) (.int .i64 32)).run Try.prog w = .ok (.slice (some ⟨w.heap.size, 0, none⟩) 32 32) (w.alloc (.cells (madeCells #[.int .u8 0] 32) 5))) :=
    run_make_row' (P := Try.prog) 23 5 (.int .u8 0) 1 slice22 info5 rfl .i64 .i64 32 (by omega) (by omega)
  have HG : Hid (Gap g0 g1 g2 P) := hG
  have HP : Hid (PrimeOf (kk : Int) g0 g1 g2) := hp
  have HIP : Hid (NT.IsP P) := hIP
  have HLOW : Hid (2 ≤ P % 18446744073709551616) := hlow
  have HP0 : Hid (kk = 0 → P = Go.Proofs.Ytppdcphfphcbbab.p0) := hp0
  have HPOS : Hid (0 < P) := by have := hIP.1; unfold Hid; omega
  clear hG hp hIP hlow hp0
  have h1 : ¬ (1024 : Int) < (s.size : Int) := by omega
  have h2 : ¬ (1024 : Int) < (t.size : Int) := by omega
  have h3 : ¬ (1024 : Int) < (u.size : Int) := by omega
  obtain ⟨cs, wc1, hcv, hcap, hbc, hH, hlt⟩ := conv_of s w0
  go_enter Try.func6, Try.ntmps6
  go_wp2_with fail
  clear hcv
  refine (Reduce_nb HG.out HP.out _ hs hcap hlt hH).mono ?_
  rintro e w1 ⟨v, rfl, hb, ga, rfl, hA⟩
  have HB : Hid (Below w0.heap.size w0 w1) := hbc.trans (hb.mono hbc.size)
  have HE : Hid (Env w1 [(ga, _)]) := Env.nil.cons hA
  clear hcap hbc hH hlt hb hA
  obtain ⟨cs2, wc2, hcv, hcap, hbc, hH, hlt⟩ := conv_of t w1
  go_wp2_with fail
  clear hcv
  refine (Reduce_nb HG.out HP.out _ ht hcap hlt hH).mono ?_
  rintro e w2 ⟨v, rfl, hb, gb, rfl, hA⟩
  replace HE := (((HE.out.call hbc).call hb).cons hA)
  replace HE : Hid (Env w2 _) := HE
  replace HB : Hid (Below w0.heap.size w0 w2) := HB.out.trans ((hbc.trans (hb.mono hbc.size)).mono HB.out.size)
  clear hcap hbc hH hlt hb hA
  obtain ⟨cs3, wc3, hcv, hcap, hbc, hH, hlt⟩ := conv_of u w2
  go_wp2_with fail
  clear hcv
  refine (Reduce_nb HG.out HP.out _ hu hcap hlt hH).mono ?_
  rintro e w3 ⟨v, rfl, hb, gc, rfl, hA⟩
  replace HE := (((HE.out.call hbc).call hb).cons hA)
  replace HE : Hid (Env w3 _) := HE
  replace HB : Hid (Below w0.heap.size w0 w3) := HB.out.trans ((hbc.trans (hb.mono hbc.size)).mono HB.out.size)
  clear hcap hbc hH hlt hb hA
  obtain ⟨a, ha⟩ : ∃ a, beV s.data.toList % P = a := ⟨_, rfl⟩
  obtain ⟨b, hb⟩ : ∃ b, beV t.data.toList % P = b := ⟨_, rfl⟩
  obtain ⟨c, hc⟩ : ∃ c, beV u.data.toList % P = c := ⟨_, rfl⟩
  have la : a < P := ha ▸ Nat.mod_lt _ HPOS.out
  have lb : b < P := hb ▸ Nat.mod_lt _ HPOS.out
  have lc : c < P := hc ▸ Nat.mod_lt _ HPOS.out
  rw [ha, hb, hc] at HE
  have LA : Hid (a < P) := la
  have LB : Hid (b < P) := lb
  have LC : Hid (c < P) := lc
  obtain ⟨AB, BC, L1, M, BM, L2, AC, L3, hl, f1, f2, f3, f4, f5, f6, f7, f8, f9, f10, f11, f12, f13, f14, f15, f16⟩ := field_facts la lb lc
  have LAB : Hid (AB < P) := hl.1
  have LBC : Hid (BC < P) := hl.2.1
  have LL1 : Hid (L1 < P) := hl.2.2.1
  have LM : Hid (M < P) := hl.2.2.2.1
  have LBM : Hid (BM < P) := hl.2.2.2.2.1
  have LL2 : Hid (L2 < P) := hl.2.2.2.2.2.1
  have LAC : Hid (AC < P) := hl.2.2.2.2.2.2.1
  have LL3 : Hid (L3 < P) := hl.2.2.2.2.2.2.2
  have HFF : Hid ((a + b) % P = AB ∧ (b + a) % P = AB ∧ (b + c) % P = BC ∧ (AB + c) % P = L1 ∧ (a + BC) % P = L1 ∧
    a * b % P = M ∧ b * a % P = M ∧ b * c % P = BM ∧ M * c % P = L2 ∧ a * BM % P = L2 ∧
    a * c % P = AC ∧ a * BC % P = L3 ∧ (M + AC) % P = L3 ∧ (AB + P - b) % P = a ∧ (a + P - a) % P = 0 ∧ a * 1 % P = a) := ⟨f1, f2, f3, f4, f5, f6, f7, f8, f9, f10, f11, f12, f13, f14, f15, f16⟩
  clear ha hb hc la lb lc hl f1 f2 f3 f4 f5 f6 f7 f8 f9 f10 f11 f12 f13 f14 f15 f16 h1 h2 h3 hs ht hu
  go_upto_region 11 with fail
  have hmk := HMK.out
  go_upto_region 13 with fail
  clear hmk
  obtain ⟨hE1, hb1⟩ := made_01 HE.out
  obtain ⟨c31, f31⟩ := one_cell w3
  have z31 : w3.heap.size + 1 < ((w3.alloc (.cells (madeCells #[.int .u8 0] 32) 5)).alloc (.cells (madeCells #[.int .u8 0] 32) 5)).heap.size := by simp
  replace HB : Hid (Below w0.heap.size w0 _) := HB.out.trans (hb1.mono HB.out.size)
  clear HE hb1
  generalize World.alloc _ _ = W3 at hE1 HB c31 f31 z31 ⊢
  generalize w3.heap.size + 1 = gone at hE1 HB c31 f31 z31 ⊢
  generalize w3.heap.size = gzero at hE1 ⊢
  go_wp2_with fail
  clear c31 f31 z31
  generalize World.setCell _ _ _ = W4 at hE1 HB ⊢
  have HE : Hid (Env W4 _) := hE1
  clear hE1
  refine (Add_nb HG.out HP.out _ (HE.out (ga, a) (by simp)) (HE.out (gb, b) (by simp)) LA.out LB.out).mono ?_
  rintro e w5 ⟨v, rfl, hb, gab, rfl, hA⟩
  rw [HFF.out.1] at hA
  replace HB : Hid (Below w0.heap.size w0 w5) := HB.out.trans (hb.mono HB.out.size)
  replace HE := (HE.out.call hb).cons hA
  replace HE : Hid (Env w5 _) := HE
  clear hb hA
  go_wp2_with fail
  refine (Add_nb HG.out HP.out _ (HE.out (gb, b) (by simp)) (HE.out (ga, a) (by simp)) LB.out LA.out).mono ?_
  rintro e w6 ⟨v, rfl, hb, gba, rfl, hA⟩
  rw [HFF.out.2.1] at hA
  replace HB : Hid (Below w0.heap.size w0 w6) := HB.out.trans (hb.mono HB.out.size)
  replace HE := (HE.out.call hb).cons hA
  replace HE : Hid (Env w6 _) := HE
  clear hb hA
  go_wp2_with fail
  refine (Add_nb HG.out HP.out _ (HE.out (gb, b) (by simp)) (HE.out (gc, c) (by simp)) LB.out LC.out).mono ?_
  rintro e w7 ⟨v, rfl, hb, gbc, rfl, hA⟩
  rw [HFF.out.2.2.1] at hA
  replace HB : Hid (Below w0.heap.size w0 w7) := HB.out.trans (hb.mono HB.out.size)
  replace HE := (HE.out.call hb).cons hA
  replace HE : Hid (Env w7 _) := HE
  clear hb hA
  go_wp2_with fail
  refine (Add_nb HG.out HP.out _ (HE.out (gab, AB) (by simp)) (HE.out (gc, c) (by simp)) LAB.out LC.out).mono ?_
  rintro e w8 ⟨v, rfl, hb, gl1, rfl, hA⟩
  rw [HFF.out.2.2.2.1] at hA
  replace HB : Hid (Below w0.heap.size w0 w8) := HB.out.trans (hb.mono HB.out.size)
  replace HE := (HE.out.call hb).cons hA
  replace HE : Hid (Env w8 _) := HE
  clear hb hA
  go_wp2_with fail
  refine (Add_nb HG.out HP.out _ (HE.out (ga, a) (by simp)) (HE.out (gbc, BC) (by simp)) LA.out LBC.out).mono ?_
  rintro e w9 ⟨v, rfl, hb, gr1, rfl, hA⟩
  rw [HFF.out.2.2.2.2.1] at hA
  replace HB : Hid (Below w0.heap.size w0 w9) := HB.out.trans (hb.mono HB.out.size)
  replace HE := (HE.out.call hb).cons hA
  replace HE : Hid (Env w9 _) := HE
  clear hb hA
  have k1 := (HE.out (gab, AB) (by simp)).str
  have k2 := (HE.out (gba, AB) (by simp)).str
  have k3 := (HE.out (gl1, L1) (by simp)).str
  have k4 := (HE.out (gr1, L1) (by simp)).str
  obtain ⟨TAB, hTAB⟩ : ∃ T, bytesOf AB = T := ⟨_, rfl⟩
  rw [hTAB] at k1 k2
  obtain ⟨TL1, hTL1⟩ : ∃ T, bytesOf L1 = T := ⟨_, rfl⟩
  rw [hTL1] at k3 k4
  clear hTAB hTL1
  go_wp2_with fail
  clear k1 k2 k3 k4
  refine (Mul_nb HG.out HP.out _ (HE.out (ga, a) (by simp)) (HE.out (gb, b) (by simp)) LA.out LB.out).mono ?_
  rintro e w10 ⟨v, rfl, hb, gm, rfl, hA⟩
  rw [HFF.out.2.2.2.2.2.1] at hA
  replace HB : Hid (Below w0.heap.size w0 w10) := HB.out.trans (hb.mono HB.out.size)
  replace HE := (HE.out.call hb).cons hA
  replace HE : Hid (Env w10 _) := HE
  clear hb hA
  go_wp2_with fail
  refine (Mul_nb HG.out HP.out _ (HE.out (gb, b) (by simp)) (HE.out (ga, a) (by simp)) LB.out LA.out).mono ?_
  rintro e w11 ⟨v, rfl, hb, gn, rfl, hA⟩
  rw [HFF.out.2.2.2.2.2.2.1] at hA
  replace HB : Hid (Below w0.heap.size w0 w11) := HB.out.trans (hb.mono HB.out.size)
  replace HE := (HE.out.call hb).cons hA
  replace HE : Hid (Env w11 _) := HE
  clear hb hA
  go_wp2_with fail
  refine (Mul_nb HG.out HP.out _ (HE.out (gb, b) (by simp)) (HE.out (gc, c) (by simp)) LB.out LC.out).mono ?_
  rintro e w12 ⟨v, rfl, hb, gbm, rfl, hA⟩
  rw [HFF.out.2.2.2.2.2.2.2.1] at hA
  replace HB : Hid (Below w0.heap.size w0 w12) := HB.out.trans (hb.mono HB.out.size)
  replace HE := (HE.out.call hb).cons hA
  replace HE : Hid (Env w12 _) := HE
  clear hb hA
  go_wp2_with fail
  refine (Mul_nb HG.out HP.out _ (HE.out (gm, M) (by simp)) (HE.out (gc, c) (by simp)) LM.out LC.out).mono ?_
  rintro e w13 ⟨v, rfl, hb, gl2, rfl, hA⟩
  rw [HFF.out.2.2.2.2.2.2.2.2.1] at hA
  replace HB : Hid (Below w0.heap.size w0 w13) := HB.out.trans (hb.mono HB.out.size)
  replace HE := (HE.out.call hb).cons hA
  replace HE : Hid (Env w13 _) := HE
  clear hb hA
  go_wp2_with fail
  refine (Mul_nb HG.out HP.out _ (HE.out (ga, a) (by simp)) (HE.out (gbm, BM) (by simp)) LA.out LBM.out).mono ?_
  rintro e w14 ⟨v, rfl, hb, gr2, rfl, hA⟩
  rw [HFF.out.2.2.2.2.2.2.2.2.2.1] at hA
  replace HB : Hid (Below w0.heap.size w0 w14) := HB.out.trans (hb.mono HB.out.size)
  replace HE := (HE.out.call hb).cons hA
  replace HE : Hid (Env w14 _) := HE
  clear hb hA
  have k1 := (HE.out (gm, M) (by simp)).str
  have k2 := (HE.out (gn, M) (by simp)).str
  have k3 := (HE.out (gl2, L2) (by simp)).str
  have k4 := (HE.out (gr2, L2) (by simp)).str
  obtain ⟨TM, hTM⟩ : ∃ T, bytesOf M = T := ⟨_, rfl⟩
  rw [hTM] at k1 k2
  obtain ⟨TL2, hTL2⟩ : ∃ T, bytesOf L2 = T := ⟨_, rfl⟩
  rw [hTL2] at k3 k4
  clear hTM hTL2
  go_wp2_with fail
  clear k1 k2 k3 k4
  refine (Mul_nb HG.out HP.out _ (HE.out (ga, a) (by simp)) (HE.out (gc, c) (by simp)) LA.out LC.out).mono ?_
  rintro e w15 ⟨v, rfl, hb, gac, rfl, hA⟩
  rw [HFF.out.2.2.2.2.2.2.2.2.2.2.1] at hA
  replace HB : Hid (Below w0.heap.size w0 w15) := HB.out.trans (hb.mono HB.out.size)
  replace HE := (HE.out.call hb).cons hA
  replace HE : Hid (Env w15 _) := HE
  clear hb hA
  go_wp2_with fail
  refine (Mul_nb HG.out HP.out _ (HE.out (ga, a) (by simp)) (HE.out (gbc, BC) (by simp)) LA.out LBC.out).mono ?_
  rintro e w16 ⟨v, rfl, hb, gl3, rfl, hA⟩
  rw [HFF.out.2.2.2.2.2.2.2.2.2.2.2.1] at hA
  replace HB : Hid (Below w0.heap.size w0 w16) := HB.out.trans (hb.mono HB.out.size)
  replace HE := (HE.out.call hb).cons hA
  replace HE : Hid (Env w16 _) := HE
  clear hb hA
  go_wp2_with fail
  refine (Add_nb HG.out HP.out _ (HE.out (gm, M) (by simp)) (HE.out (gac, AC) (by simp)) LM.out LAC.out).mono ?_
  rintro e w17 ⟨v, rfl, hb, gr3, rfl, hA⟩
  rw [HFF.out.2.2.2.2.2.2.2.2.2.2.2.2.1] at hA
  replace HB : Hid (Below w0.heap.size w0 w17) := HB.out.trans (hb.mono HB.out.size)
  replace HE := (HE.out.call hb).cons hA
  replace HE : Hid (Env w17 _) := HE
  clear hb hA
  have k1 := (HE.out (gl3, L3) (by simp)).str
  have k2 := (HE.out (gr3, L3) (by simp)).str
  obtain ⟨TL3, hTL3⟩ : ∃ T, bytesOf L3 = T := ⟨_, rfl⟩
  rw [hTL3] at k1 k2
  clear hTL3
  go_wp2_with fail
  clear k1 k2
  refine (Sub_nb HG.out HP.out _ (HE.out (gab, AB) (by simp)) (HE.out (gb, b) (by simp)) LAB.out LB.out).mono ?_
  rintro e w18 ⟨v, rfl, hb, gd, rfl, hA⟩
  rw [HFF.out.2.2.2.2.2.2.2.2.2.2.2.2.2.1] at hA
  replace HB : Hid (Below w0.heap.size w0 w18) := HB.out.trans (hb.mono HB.out.size)
  replace HE := (HE.out.call hb).cons hA
  replace HE : Hid (Env w18 _) := HE
  clear hb hA
  go_wp2_with fail
  refine (Sub_nb HG.out HP.out _ (HE.out (ga, a) (by simp)) (HE.out (ga, a) (by simp)) LA.out LA.out).mono ?_
  rintro e w19 ⟨v, rfl, hb, gz, rfl, hA⟩
  rw [HFF.out.2.2.2.2.2.2.2.2.2.2.2.2.2.2.1] at hA
  replace HB : Hid (Below w0.heap.size w0 w19) := HB.out.trans (hb.mono HB.out.size)
  replace HE := (HE.out.call hb).cons hA
  replace HE : Hid (Env w19 _) := HE
  clear hb hA
  go_wp2_with fail
  refine (Mul_nb HG.out HP.out _ (HE.out (ga, a) (by simp)) (HE.out (gone, 1) (by simp)) LA.out HIP.out.1).mono ?_
  rintro e w20 ⟨v, rfl, hb, gx, rfl, hA⟩
  rw [HFF.out.2.2.2.2.2.2.2.2.2.2.2.2.2.2.2] at hA
  replace HB : Hid (Below w0.heap.size w0 w20) := HB.out.trans (hb.mono HB.out.size)
  replace HE := (HE.out.call hb).cons hA
  replace HE : Hid (Env w20 _) := HE
  clear hb hA
  have k1 := (HE.out (gd, a) (by simp)).str
  have k2 := (HE.out (ga, a) (by simp)).str
  have k3 := (HE.out (gz, 0) (by simp)).str
  have k4 := (HE.out (gzero, 0) (by simp)).str
  have k5 := (HE.out (gx, a) (by simp)).str
  obtain ⟨Ta, hTa⟩ : ∃ T, bytesOf a = T := ⟨_, rfl⟩
  rw [hTa] at k1 k2 k5
  obtain ⟨T0, hT0⟩ : ∃ T, bytesOf 0 = T := ⟨_, rfl⟩
  rw [hT0] at k3 k4
  clear hTa hT0
  obtain ⟨I, hI⟩ : ∃ I, a ^ (P - 2) % P = I := ⟨_, rfl⟩
  have LI : Hid (I < P) := hI ▸ Nat.mod_lt _ HPOS.out
  have HI : Hid (a ^ (P - 2) % P = I) := hI
  clear hI
  go_wp2_with fail
  clear k1 k2 k3 k4 k5
  refine (Inv_nb HG.out HLOW.out HP.out _ (HE.out (ga, a) (by simp)) LA.out).mono ?_
  rintro e w21 ⟨v, rfl, hb, gi, rfl, hA⟩
  rw [HI.out] at hA
  replace HB : Hid (Below w0.heap.size w0 w21) := HB.out.trans (hb.mono HB.out.size)
  replace HE := (HE.out.call hb).cons hA
  replace HE : Hid (Env w21 _) := HE
  clear hb hA
  obtain ⟨PI, hPI⟩ : ∃ PI, a * I % P = PI := ⟨_, rfl⟩
  have HPI : Hid (a * I % P = PI) := hPI
  clear hPI
  go_wp2_with fail
  refine (Mul_nb HG.out HP.out _ (HE.out (ga, a) (by simp)) (HE.out (gi, I) (by simp)) LA.out LI.out).mono ?_
  rintro e w22 ⟨v, rfl, hb, gp, rfl, hA⟩
  rw [HPI.out] at hA
  replace HB : Hid (Below w0.heap.size w0 w22) := HB.out.trans (hb.mono HB.out.size)
  replace HE := (HE.out.call hb).cons hA
  replace HE : Hid (Env w22 _) := HE
  clear hb hA
  have hcase : (a = 0 ∧ I = 0) ∨ (¬ a = 0 ∧ PI = 1) := by
    by_cases h0 : a = 0
    · left
      refine ⟨h0, ?_⟩
      rw [← HI.out, h0]
      refine inv_zero_mod ?_
      have h5 := HG.out.hP2
      have h6 : 10 < top := by decide
      omega
    · right
      refine ⟨h0, ?_⟩
      rw [← HPI.out, ← HI.out]
      exact inv_mod HIP.out LA.out h0
  clear HFF LAB LBC LL1 LM LBM LL2 LAC LL3 LB LC
  have hk2 : kk = 0 ∨ kk = 1 := by omega
  rcases hcase with hz | hz
  · obtain ⟨rfl, rfl⟩ := hz
    have k1 := (HE.out (ga, 0) (by simp)).str
    have k2 := (HE.out (gzero, 0) (by simp)).str
    have k3 := (HE.out (gi, 0) (by simp)).str
    obtain ⟨T0, hT0⟩ : ∃ T, bytesOf 0 = T := ⟨_, rfl⟩
    rw [hT0] at k1 k2 k3
    clear hT0
    rcases hk2 with rfl | rfl
    · have HP3 : Hid (P = Go.Proofs.Ytppdcphfphcbbab.p0) := HP0.out rfl
      have HRT := root_mod (a := 0) HIP.out (p4 HP3.out)
      obtain ⟨Q, hQ⟩ : ∃ Q, 0 * 0 % P = Q := ⟨_, rfl⟩
      rw [hQ] at HRT
      obtain ⟨R, hR⟩ : ∃ R, Q ^ (P / 4 + 1) % P = R := ⟨_, rfl⟩
      have LQ : Hid (Q < P) := hQ ▸ Nat.mod_lt _ HPOS.out
      have HEV := even_facts (R := R) (a := 0) HIP.out (p2 HP3.out) LA.out (hR ▸ Nat.mod_lt _ HPOS.out) (by rw [hR] at HRT; rw [hQ]; exact HRT)
      obtain ⟨E, hE⟩ : ∃ E, even P R = E := ⟨_, rfl⟩
      obtain ⟨OO, hOO⟩ : ∃ OO, (0 + P - 0) % P = OO := ⟨_, rfl⟩
      rw [hE, hOO] at HEV
      have HQ : Hid (0 * 0 % P = Q) := hQ
      have HRT2 : Hid _ := HRT
      have HRE : Hid (Q ^ (P / 4 + 1) % P = R) := hR
      have HEE : Hid (even P R = E) := hE
      have HOO : Hid ((0 + P - 0) % P = OO) := hOO
      have HEV2 : Hid (E < P ∧ E % 2 = 0 ∧ (E = 0 ∨ E = OO)) := HEV
      clear HRT hQ hR hE hOO HEV
      go_wp2_with fail
      clear k1 k2 k3
      refine (Mul_nb HG.out HP.out _ (HE.out (ga, 0) (by simp)) (HE.out (ga, 0) (by simp)) HPOS.out HPOS.out).mono ?_
      rintro e w23 ⟨v, rfl, hb, gq, rfl, hA⟩
      rw [HQ.out] at hA
      replace HB : Hid (Below w0.heap.size w0 w23) := HB.out.trans (hb.mono HB.out.size)
      replace HE := (HE.out.call hb).cons hA
      replace HE : Hid (Env w23 _) := HE
      clear hb hA
      go_wp2_with fail
      refine (Sqrt_P HP3.out _ (HE.out (gq, Q) (by simp)) LQ.out HRT2.out).mono ?_
      rintro e w24 ⟨v, rfl, hb, gw, rfl, hA⟩
      rw [HRE.out, HEE.out] at hA
      replace HB : Hid (Below w0.heap.size w0 w24) := HB.out.trans (hb.mono HB.out.size)
      replace HE := (HE.out.call hb).cons hA
      replace HE : Hid (Env w24 _) := HE
      clear hb hA
      go_wp2_with fail
      refine (Sub_nb HG.out HP.out _ (HE.out (gzero, 0) (by simp)) (HE.out (ga, 0) (by simp)) HPOS.out HPOS.out).mono ?_
      rintro e w25 ⟨v, rfl, hb, go, rfl, hA⟩
      rw [HOO.out] at hA
      replace HB : Hid (Below w0.heap.size w0 w25) := HB.out.trans (hb.mono HB.out.size)
      replace HE := (HE.out.call hb).cons hA
      replace HE : Hid (Env w25 _) := HE
      clear hb hA
      have hlast := ((HE.out (gw, E) (by simp)).2 31 (by rw [bytesOf_size]; decide)).1
      rw [last_byte, Nat.zero_add] at hlast
      obtain ⟨y, hy⟩ : ∃ y, E % 18446744073709551616 % 256 = y := ⟨_, rfl⟩
      have hub : encB (UInt8.ofNat (E % 18446744073709551616)) = .int .u8 (y : Int) := by unfold encB; rw [ub_ofNat, hy]
      rw [hub] at hlast
      have hand := and_u8 y (by omega)
      rw [show y % 2 = 0 by have := HEV2.out.2.1; omega] at hand
      have zw := Holds.lt (HE.out (gw, E) (by simp)).2 (by rw [bytesOf_size]; omega)
      clear hub hy
      rcases HEV2.out.2.2 with hw | hw
      · have j1 := (HE.out (gw, E) (by simp)).str
        rw [hw] at j1
        have j2 := (HE.out (ga, 0) (by simp)).str
        obtain ⟨TT, hTT⟩ : ∃ T, bytesOf 0 = T := ⟨_, rfl⟩
        rw [hTT] at j1 j2
        clear hTT
        go_wp2
        go_ret
        exact ⟨by simp, HB.out⟩
      · have j1 := (HE.out (gw, E) (by simp)).str
        rw [hw] at j1
        have j2 := (HE.out (ga, 0) (by simp)).str
        have j3 := (HE.out (go, OO) (by simp)).str
        obtain ⟨TT, hTT⟩ : ∃ T, bytesOf 0 = T := ⟨_, rfl⟩
        obtain ⟨TO, hTO⟩ : ∃ T, bytesOf OO = T := ⟨_, rfl⟩
        rw [hTT] at j2
        rw [hTO] at j1 j3
        clear hTT hTO
        by_cases hea : TO = TT
        · subst hea
          go_wp2
          go_ret
          exact ⟨by simp, HB.out⟩
        · have hse := str_ne hea
          clear hea
          go_wp2
          go_ret
          exact ⟨by simp, HB.out⟩
    · go_wp2
      go_ret
      exact ⟨by simp, HB.out⟩
  · obtain ⟨h0, rfl⟩ := hz
    have hne : ¬ bytesOf a = bytesOf 0 := fun h => h0 (bytesOf_inj (HE.out (ga, a) (by simp)).1 (by decide) h)
    have k1 := (HE.out (ga, a) (by simp)).str
    have k2 := (HE.out (gzero, 0) (by simp)).str
    have k3 := (HE.out (gp, 1) (by simp)).str
    have k4 := (HE.out (gone, 1) (by simp)).str
    obtain ⟨Ta, hTa⟩ : ∃ T, bytesOf a = T := ⟨_, rfl⟩
    rw [hTa] at k1
    obtain ⟨T0, hT0⟩ : ∃ T, bytesOf 0 = T := ⟨_, rfl⟩
    rw [hT0] at k2
    obtain ⟨T1, hT1⟩ : ∃ T, bytesOf 1 = T := ⟨_, rfl⟩
    rw [hT1] at k3 k4
    rw [hTa, hT0] at hne
    replace hne := str_ne hne
    clear hTa hT0 hT1
    have HNE : Hid (¬ a = 0) := h0
    clear h0
    rcases hk2 with rfl | rfl
    · have HP3 : Hid (P = Go.Proofs.Ytppdcphfphcbbab.p0) := HP0.out rfl
      have HRT := root_mod (a := a) HIP.out (p4 HP3.out)
      obtain ⟨Q, hQ⟩ : ∃ Q, a * a % P = Q := ⟨_, rfl⟩
      rw [hQ] at HRT
      obtain ⟨R, hR⟩ : ∃ R, Q ^ (P / 4 + 1) % P = R := ⟨_, rfl⟩
      have LQ : Hid (Q < P) := hQ ▸ Nat.mod_lt _ HPOS.out
      have HEV := even_facts (R := R) (a := a) HIP.out (p2 HP3.out) LA.out (hR ▸ Nat.mod_lt _ HPOS.out) (by rw [hR] at HRT; rw [hQ]; exact HRT)
      obtain ⟨E, hE⟩ : ∃ E, even P R = E := ⟨_, rfl⟩
      obtain ⟨OO, hOO⟩ : ∃ OO, (0 + P - a) % P = OO := ⟨_, rfl⟩
      rw [hE, hOO] at HEV
      have HQ : Hid (a * a % P = Q) := hQ
      have HRT2 : Hid _ := HRT
      have HRE : Hid (Q ^ (P / 4 + 1) % P = R) := hR
      have HEE : Hid (even P R = E) := hE
      have HOO : Hid ((0 + P - a) % P = OO) := hOO
      have HEV2 : Hid (E < P ∧ E % 2 = 0 ∧ (E = a ∨ E = OO)) := HEV
      clear HRT hQ hR hE hOO HEV
      go_wp2_with fail
      clear k1 k2 k3 k4 hne
      refine (Mul_nb HG.out HP.out _ (HE.out (ga, a) (by simp)) (HE.out (ga, a) (by simp)) LA.out LA.out).mono ?_
      rintro e w23 ⟨v, rfl, hb, gq, rfl, hA⟩
      rw [HQ.out] at hA
      replace HB : Hid (Below w0.heap.size w0 w23) := HB.out.trans (hb.mono HB.out.size)
      replace HE := (HE.out.call hb).cons hA
      replace HE : Hid (Env w23 _) := HE
      clear hb hA
      go_wp2_with fail
      refine (Sqrt_P HP3.out _ (HE.out (gq, Q) (by simp)) LQ.out HRT2.out).mono ?_
      rintro e w24 ⟨v, rfl, hb, gw, rfl, hA⟩
      rw [HRE.out, HEE.out] at hA
      replace HB : Hid (Below w0.heap.size w0 w24) := HB.out.trans (hb.mono HB.out.size)
      replace HE := (HE.out.call hb).cons hA
      replace HE : Hid (Env w24 _) := HE
      clear hb hA
      go_wp2_with fail
      refine (Sub_nb HG.out HP.out _ (HE.out (gzero, 0) (by simp)) (HE.out (ga, a) (by simp)) HPOS.out LA.out).mono ?_
      rintro e w25 ⟨v, rfl, hb, go, rfl, hA⟩
      rw [HOO.out] at hA
      replace HB : Hid (Below w0.heap.size w0 w25) := HB.out.trans (hb.mono HB.out.size)
      replace HE := (HE.out.call hb).cons hA
      replace HE : Hid (Env w25 _) := HE
      clear hb hA
      have hlast := ((HE.out (gw, E) (by simp)).2 31 (by rw [bytesOf_size]; decide)).1
      rw [last_byte, Nat.zero_add] at hlast
      obtain ⟨y, hy⟩ : ∃ y, E % 18446744073709551616 % 256 = y := ⟨_, rfl⟩
      have hub : encB (UInt8.ofNat (E % 18446744073709551616)) = .int .u8 (y : Int) := by unfold encB; rw [ub_ofNat, hy]
      rw [hub] at hlast
      have hand := and_u8 y (by omega)
      rw [show y % 2 = 0 by have := HEV2.out.2.1; omega] at hand
      have zw := Holds.lt (HE.out (gw, E) (by simp)).2 (by rw [bytesOf_size]; omega)
      clear hub hy
      rcases HEV2.out.2.2 with hw | hw
      · have j1 := (HE.out (gw, E) (by simp)).str
        rw [hw] at j1
        have j2 := (HE.out (ga, a) (by simp)).str
        obtain ⟨TT, hTT⟩ : ∃ T, bytesOf a = T := ⟨_, rfl⟩
        rw [hTT] at j1 j2
        clear hTT
        go_wp2
        go_ret
        exact ⟨by simp, HB.out⟩
      · have j1 := (HE.out (gw, E) (by simp)).str
        rw [hw] at j1
        have j2 := (HE.out (ga, a) (by simp)).str
        have j3 := (HE.out (go, OO) (by simp)).str
        obtain ⟨TT, hTT⟩ : ∃ T, bytesOf a = T := ⟨_, rfl⟩
        obtain ⟨TO, hTO⟩ : ∃ T, bytesOf OO = T := ⟨_, rfl⟩
        rw [hTT] at j2
        rw [hTO] at j1 j3
        clear hTT hTO
        by_cases hea : TO = TT
        · subst hea
          go_wp2
          go_ret
          exact ⟨by simp, HB.out⟩
        · have hse := str_ne hea
          clear hea
          go_wp2
          go_ret
          exact ⟨by simp, HB.out⟩
    · go_wp2
      go_ret
      exact ⟨by simp, HB.out⟩
end Go.Proofs.Ytppdcphfphcbbab
