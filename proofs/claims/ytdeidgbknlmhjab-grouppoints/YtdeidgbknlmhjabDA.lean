import Derived.Test.YtdeidgbknlmhjabB35
set_option linter.unusedVariables false
set_option linter.unusedSimpArgs false
namespace Go.Proofs.Ytdeidgbknlmhjab
open Go.RowKit Go.Sort Go.Deep
variable {P : Nat} [NeZero P]

def F380_0i (x y z c1 c2 c3 : Fin P) : List RG.It := [⟨some 1, [], (.p 0 0), .make 0⟩,
  ⟨some 2, [], (.v (.string ⟨#[]⟩)), .stay⟩]
def F380_0b (x y z c1 c2 c3 : Fin P) : List RG.Bl := [⟨(ws x ++ (ws y ++ (ws z))), (ws x ++ (ws y ++ (ws z))), some 0, none⟩]
def F380_0o (x y z c1 c2 c3 : Fin P) : List (Tmp × RG.SV) := [(0, (.v (rv x y z)))]
def F380_1i (x y z c1 c2 c3 : Fin P) : List RG.It := [⟨some 7, [], (.v (rv x y z)), .stay⟩,
  ⟨some 8, [(7, 0)], (.v (.bool false)), .call⟩,
  ⟨some 3, [(8, 1)], (.v (.bool false)), .stay⟩]
def F380_1b (x y z c1 c2 c3 : Fin P) : List RG.Bl := [⟨(ws x ++ (ws y ++ (ws z))), (ws x ++ (ws y ++ (ws z))), none, none⟩]
def F380_1o (x y z c1 c2 c3 : Fin P) : List (Tmp × RG.SV) := [(1, (.p 0 0))]
def F380_2i (x y z c1 c2 c3 : Fin P) : List RG.It := [⟨some 9, [], (.v (.bool false)), .stay⟩]
def F380_2b (x y z c1 c2 c3 : Fin P) : List RG.Bl := [⟨(ws x ++ (ws y ++ (ws z))), (ws x ++ (ws y ++ (ws z))), none, none⟩]
def F380_2o (x y z c1 c2 c3 : Fin P) : List (Tmp × RG.SV) := [(3, (.v (.bool false)))]
def F380_4i (x y z c1 c2 c3 : Fin P) : List RG.It := [⟨some 12, [], (.v rv0), .call⟩,
  ⟨some 13, [], (.p 0 8), .stay⟩,
  ⟨some 14, [(13, 1)], (.v (fv z)), .stay⟩,
  ⟨some 15, [(12, 0), (14, 2)], (.v (fv c1)), .call⟩,
  ⟨some 4, [], (.p 1 0), .make 1⟩,
  ⟨none, [(4, 4), (15, 3)], (.v undef), .put 1⟩]
def F380_4b (x y z c1 c2 c3 : Fin P) : List RG.Bl := [⟨(ws x ++ (ws y ++ (ws z))), (ws x ++ (ws y ++ (ws z))), none, none⟩, ⟨[.int .u64 0, .int .u64 0, .int .u64 0, .int .u64 0], (ws c1), some 4, some 5⟩]
def F380_4o (x y z c1 c2 c3 : Fin P) : List (Tmp × RG.SV) := [(1, (.p 0 0))]
def F380_5i (x y z c1 c2 c3 : Fin P) : List RG.It := [⟨some 16, [], (.v rv0), .call⟩,
  ⟨some 17, [], (.p 0 0), .stay⟩,
  ⟨some 18, [(17, 1)], (.v (fv x)), .stay⟩,
  ⟨some 19, [], (.v (fv c1)), .stay⟩,
  ⟨some 20, [(16, 0), (18, 2), (19, 3)], (.v (fv c2)), .call⟩,
  ⟨some 5, [], (.p 2 0), .make 2⟩,
  ⟨none, [(5, 5), (20, 4)], (.v undef), .put 2⟩]
def F380_5b (x y z c1 c2 c3 : Fin P) : List RG.Bl := [⟨(ws x ++ (ws y ++ (ws z))), (ws x ++ (ws y ++ (ws z))), none, none⟩, ⟨(ws c1), (ws c1), none, none⟩, ⟨[.int .u64 0, .int .u64 0, .int .u64 0, .int .u64 0], (ws c2), some 5, some 6⟩]
def F380_5o (x y z c1 c2 c3 : Fin P) : List (Tmp × RG.SV) := [(1, (.p 0 0)), (4, (.p 1 0))]
def F380_6i (x y z c1 c2 c3 : Fin P) : List RG.It := [⟨some 21, [], (.v rv0), .call⟩,
  ⟨some 22, [], (.p 0 4), .stay⟩,
  ⟨some 23, [(22, 1)], (.v (fv y)), .stay⟩,
  ⟨some 24, [], (.v (fv c1)), .stay⟩,
  ⟨some 25, [(21, 0), (23, 2), (24, 3)], (.v (fv c3)), .call⟩,
  ⟨some 6, [], (.p 3 0), .make 3⟩,
  ⟨none, [(6, 5), (25, 4)], (.v undef), .put 3⟩]
def F380_6b (x y z c1 c2 c3 : Fin P) : List RG.Bl := [⟨(ws x ++ (ws y ++ (ws z))), (ws x ++ (ws y ++ (ws z))), none, none⟩, ⟨(ws c1), (ws c1), none, none⟩, ⟨(ws c2), (ws c2), none, none⟩, ⟨[.int .u64 0, .int .u64 0, .int .u64 0, .int .u64 0], (ws c3), some 5, some 6⟩]
def F380_6o (x y z c1 c2 c3 : Fin P) : List (Tmp × RG.SV) := [(1, (.p 0 0)), (4, (.p 1 0))]
def F380_7i (x y z c1 c2 c3 : Fin P) : List RG.It := [⟨some 26, [], (.p 3 0), .stay⟩,
  ⟨some 27, [(26, 0)], (.v (.int .u64 ((c3.val % 18446744073709551616 : Nat) : Int))), .stay⟩,
  ⟨some 28, [(27, 1)], (.v (.int .u64 0)), .stay⟩,
  ⟨some 29, [(28, 2)], (.v (.int .u8 0)), .stay⟩,
  ⟨some 30, [(29, 3)], (.v (.int .u8 2)), .stay⟩,
  ⟨some 31, [(30, 4)], (.s 4 1 1), .make 4⟩,
  ⟨some 32, [(31, 5)], (.v (.string ⟨#[2]⟩)), .stay⟩,
  ⟨some 33, [], (.v (fv c2)), .stay⟩,
  ⟨some 34, [(33, 7)], (.v (.string ⟨bx c2.val⟩)), .call⟩,
  ⟨some 35, [(32, 6), (34, 8)], (.v (.string ⟨#[2] ++ bx c2.val⟩)), .stay⟩,
  ⟨some 2, [(35, 9)], (.v (.string ⟨#[2] ++ bx c2.val⟩)), .stay⟩]
def F380_7b (x y z c1 c2 c3 : Fin P) : List RG.Bl := [⟨(ws x ++ (ws y ++ (ws z))), (ws x ++ (ws y ++ (ws z))), none, none⟩, ⟨(ws c1), (ws c1), none, none⟩, ⟨(ws c2), (ws c2), none, none⟩, ⟨(ws c3), (ws c3), none, none⟩, ⟨[(.int .u8 2)], [(.int .u8 2)], some 5, none⟩]
def F380_7o (x y z c1 c2 c3 : Fin P) : List (Tmp × RG.SV) := [(6, (.p 3 0)), (5, (.p 2 0))]
set_option maxHeartbeats 2000000 in
set_option maxRecDepth 100000 in
theorem rWr_0_c (C : Fl3 P) (x y z : Fin P)(hz : ¬ z = 0) (hpar : (y * EC.inv z).val % 2 = 0)  : Gives 38 #[(rv x y z)] (.string ⟨#[2] ++ bx (x * EC.inv z).val⟩) := by
  intro w
  obtain ⟨c1, hc1⟩ : ∃ c, c = EC.inv z := ⟨_, rfl⟩
  obtain ⟨c2, hc2⟩ : ∃ c, c = x * c1 := ⟨_, rfl⟩
  obtain ⟨c3, hc3⟩ : ∃ c, c = y * c1 := ⟨_, rfl⟩
  have hfin : ((.string ⟨#[2] ++ bx c2.val⟩) : Value) = (.string ⟨#[2] ++ bx (x * EC.inv z).val⟩) := by
    subst_vars; rfl
  rw [← hfin]
  go_enter Try.func38, Try.ntmps38
  have hS0 := RG.St.begin w
  repeat refine wp_seq ?_
  refine RG.region_text (its := F380_0i x y z c1 c2 c3) (bl := F380_0b x y z c1 c2 c3) (olds := F380_0o x y z c1 c2 c3) hS0 (RG.Reg.mk' (by kernel_rfl) ⟨by kernel_rfl, trivial⟩ ⟨?_, ?_, trivial⟩) (by kernel_rfl) (by kernel_rfl) (by kernel_rfl) ?_
  · exact RG.cert_box 0 rfl rfl _ rfl 56 0 rfl (rv x y z) (fun μ a K => K.old 0 (.v (rv x y z)) (List.Mem.head _) (by kernel_rfl)) (fun w => by kernel_rfl)
  · exact RG.cert_stay rfl (fun μ a w _ _ => by kernel_rfl)
  intro new1 w1 hl1 hS1
  obtain ⟨j1, rfl⟩ := RG.len1 hl1
  repeat refine wp_seq ?_
  refine RG.region_text (its := F380_1i x y z c1 c2 c3) (bl := F380_1b x y z c1 c2 c3) (olds := F380_1o x y z c1 c2 c3) hS1 (RG.Reg.mk' (by kernel_rfl) ⟨by kernel_rfl, trivial⟩ ⟨?_, ?_, ?_, trivial⟩) (by kernel_rfl) (by kernel_rfl) (by kernel_rfl) ?_
  · exact RG.cert_load rfl 0 0 _ rfl rfl (by kernel_rfl) 56 1 rfl (ws x ++ (ws y ++ (ws z))) rfl (fun μ a K => K.old 1 (.p 0 0) (List.Mem.head _) (by kernel_rfl)) (by kernel_rfl) u56 i56
  · exact RG.cert_call1 rfl 78 7 (rv x y z) (.bool false) rfl (fun a w => by kernel_rfl) (fun μ a K => by have h := K.op 7 0 (List.Mem.head _) rfl; exact h) (Is_f_c C x y z hz)
  · exact RG.cert_move rfl 8 (Or.inr rfl) (fun μ a K => by have h := K.op 8 1 (List.Mem.head _) rfl; exact h)
  intro new2 w2 hl2 hS2
  obtain rfl := RG.len0 hl2
  repeat refine wp_seq ?_
  refine RG.region_text (its := F380_2i x y z c1 c2 c3) (bl := F380_2b x y z c1 c2 c3) (olds := F380_2o x y z c1 c2 c3) hS2 (RG.Reg.mk' (by kernel_rfl) ⟨by kernel_rfl, trivial⟩ ⟨?_, trivial⟩) (by kernel_rfl) (by kernel_rfl) (by kernel_rfl) ?_
  · exact RG.cert_move rfl 3 (Or.inl rfl) (fun μ a K => K.old 3 (.v (.bool false)) (List.Mem.head _) (by kernel_rfl))
  intro new3 w3 hl3 hS3
  obtain rfl := RG.len0 hl3
  repeat refine wp_seq ?_
  refine wp_cond_false (by kernel_rfl) ?_
  refine wp_skip ?_
  repeat refine wp_seq ?_
  refine RG.region_draws (by kernel_rfl) (its := F380_4i x y z c1 c2 c3) (bl := F380_4b x y z c1 c2 c3) (olds := F380_4o x y z c1 c2 c3) hS3 (RG.Reg.mk' (by kernel_rfl) ⟨by kernel_rfl, trivial⟩ ⟨?_, ?_, ?_, ?_, ?_, ?_, trivial⟩) (by kernel_rfl) (by kernel_rfl) (by kernel_rfl) ?_
  · exact RG.cert_call0 rfl 69 rv0 rfl (fun a w => by kernel_rfl) (F3_c)
  · exact RG.cert_field rfl 56 1 2 rfl 0 0 8 rfl (fun μ a K => K.old 1 (.p 0 0) (List.Mem.head _) (by kernel_rfl)) (fun k w => by kernel_rfl)
  · exact RG.cert_load rfl 0 8 _ rfl rfl (by kernel_rfl) 33 13 rfl (ws z) rfl (fun μ a K => by have h := K.op 13 1 (List.Mem.head _) rfl; exact h) (by kernel_rfl) u33 i33
  · exact RG.cert_call2 rfl 21 12 14 rv0 (fv z) (fv c1) rfl (fun a w => by kernel_rfl) (fun μ a K => by have h := K.op 12 0 (List.Mem.head _) rfl; exact h) (fun μ a K => by have h := K.op 14 2 (List.Mem.tail _ (List.Mem.head _)) rfl; exact h) (hc1 ▸ rInv_c C z)
  · exact RG.cert_alloc 1 rfl rfl _ rfl 33 rfl (fun w => by kernel_rfl)
  · exact RG.cert_put 1 rfl _ rfl 33 (.tmp 4) (.tmp 15) rfl rfl rfl (fun μ a K => by have h := K.op 4 4 (List.Mem.head _) rfl; exact h) (fun μ a K => by have h := K.op 15 3 (List.Mem.tail _ (List.Mem.head _)) rfl; exact h) i33 rfl
  intro new4 w4 hl4 hS4
  obtain ⟨j4, rfl⟩ := RG.len1 hl4
  repeat refine wp_seq ?_
  refine RG.region_draws (by kernel_rfl) (its := F380_5i x y z c1 c2 c3) (bl := F380_5b x y z c1 c2 c3) (olds := F380_5o x y z c1 c2 c3) hS4 (RG.Reg.mk' (by kernel_rfl) ⟨by kernel_rfl, by kernel_rfl, trivial⟩ ⟨?_, ?_, ?_, ?_, ?_, ?_, ?_, trivial⟩) (by kernel_rfl) (by kernel_rfl) (by kernel_rfl) ?_
  · exact RG.cert_call0 rfl 69 rv0 rfl (fun a w => by kernel_rfl) (F3_c)
  · exact RG.cert_field rfl 56 1 0 rfl 0 0 0 rfl (fun μ a K => K.old 1 (.p 0 0) (List.Mem.head _) (by kernel_rfl)) (fun k w => by kernel_rfl)
  · exact RG.cert_load rfl 0 0 _ rfl rfl (by kernel_rfl) 33 17 rfl (ws x) rfl (fun μ a K => by have h := K.op 17 1 (List.Mem.head _) rfl; exact h) (by kernel_rfl) u33 i33
  · exact RG.cert_load rfl 1 0 _ rfl rfl (by kernel_rfl) 33 4 rfl (ws c1) rfl (fun μ a K => K.old 4 (.p 1 0) (List.Mem.tail _ (List.Mem.head _)) (by kernel_rfl)) (by kernel_rfl) u33 i33
  · exact RG.cert_call3 rfl 20 16 18 19 rv0 (fv x) (fv c1) (fv c2) rfl (fun a w => by kernel_rfl) (fun μ a K => by have h := K.op 16 0 (List.Mem.head _) rfl; exact h) (fun μ a K => by have h := K.op 18 2 (List.Mem.tail _ (List.Mem.head _)) rfl; exact h) (fun μ a K => by have h := K.op 19 3 (List.Mem.tail _ (List.Mem.tail _ (List.Mem.head _))) rfl; exact h) (hc2 ▸ rMul_c C x c1)
  · exact RG.cert_alloc 2 rfl rfl _ rfl 33 rfl (fun w => by kernel_rfl)
  · exact RG.cert_put 2 rfl _ rfl 33 (.tmp 5) (.tmp 20) rfl rfl rfl (fun μ a K => by have h := K.op 5 5 (List.Mem.head _) rfl; exact h) (fun μ a K => by have h := K.op 20 4 (List.Mem.tail _ (List.Mem.head _)) rfl; exact h) i33 rfl
  intro new5 w5 hl5 hS5
  obtain ⟨j5, rfl⟩ := RG.len1 hl5
  repeat refine wp_seq ?_
  refine RG.region_draws (by kernel_rfl) (its := F380_6i x y z c1 c2 c3) (bl := F380_6b x y z c1 c2 c3) (olds := F380_6o x y z c1 c2 c3) hS5 (RG.Reg.mk' (by kernel_rfl) ⟨by kernel_rfl, by kernel_rfl, trivial⟩ ⟨?_, ?_, ?_, ?_, ?_, ?_, ?_, trivial⟩) (by kernel_rfl) (by kernel_rfl) (by kernel_rfl) ?_
  · exact RG.cert_call0 rfl 69 rv0 rfl (fun a w => by kernel_rfl) (F3_c)
  · exact RG.cert_field rfl 56 1 1 rfl 0 0 4 rfl (fun μ a K => K.old 1 (.p 0 0) (List.Mem.head _) (by kernel_rfl)) (fun k w => by kernel_rfl)
  · exact RG.cert_load rfl 0 4 _ rfl rfl (by kernel_rfl) 33 22 rfl (ws y) rfl (fun μ a K => by have h := K.op 22 1 (List.Mem.head _) rfl; exact h) (by kernel_rfl) u33 i33
  · exact RG.cert_load rfl 1 0 _ rfl rfl (by kernel_rfl) 33 4 rfl (ws c1) rfl (fun μ a K => K.old 4 (.p 1 0) (List.Mem.tail _ (List.Mem.head _)) (by kernel_rfl)) (by kernel_rfl) u33 i33
  · exact RG.cert_call3 rfl 20 21 23 24 rv0 (fv y) (fv c1) (fv c3) rfl (fun a w => by kernel_rfl) (fun μ a K => by have h := K.op 21 0 (List.Mem.head _) rfl; exact h) (fun μ a K => by have h := K.op 23 2 (List.Mem.tail _ (List.Mem.head _)) rfl; exact h) (fun μ a K => by have h := K.op 24 3 (List.Mem.tail _ (List.Mem.tail _ (List.Mem.head _))) rfl; exact h) (hc3 ▸ rMul_c C y c1)
  · exact RG.cert_alloc 3 rfl rfl _ rfl 33 rfl (fun w => by kernel_rfl)
  · exact RG.cert_put 3 rfl _ rfl 33 (.tmp 6) (.tmp 25) rfl rfl rfl (fun μ a K => by have h := K.op 6 5 (List.Mem.head _) rfl; exact h) (fun μ a K => by have h := K.op 25 4 (List.Mem.tail _ (List.Mem.head _)) rfl; exact h) i33 rfl
  intro new6 w6 hl6 hS6
  obtain ⟨j6, rfl⟩ := RG.len1 hl6
  repeat refine wp_seq ?_
  refine RG.region_draws (by kernel_rfl) (its := F380_7i x y z c1 c2 c3) (bl := F380_7b x y z c1 c2 c3) (olds := F380_7o x y z c1 c2 c3) hS6 (RG.Reg.mk' (by kernel_rfl) ⟨by kernel_rfl, by kernel_rfl, trivial⟩ ⟨?_, ?_, ?_, ?_, ?_, ?_, ?_, ?_, ?_, ?_, ?_, trivial⟩) (by kernel_rfl) (by kernel_rfl) (by kernel_rfl) ?_
  · exact RG.cert_idxc rfl 33 6 (.int .i64 0) rfl (.p 3 0) (fun μ a K => K.old 6 (.p 3 0) (List.Mem.head _) (by kernel_rfl)) (fun μ w => by kernel_rfl)
  · exact RG.cert_load1 rfl 3 0 _ rfl rfl (by kernel_rfl) 31 26 rfl (.int .u64 ((c3.val % 18446744073709551616 : Nat) : Int)) rfl (fun μ a K => by have h := K.op 26 0 (List.Mem.head _) rfl; exact h) rfl u31
  · exact RG.cert_binc rfl .and 31 31 27 (.int .u64 ((c3.val % 18446744073709551616 : Nat) : Int)) (.int .u64 1) (.int .u64 0) rfl rfl (fun μ a K => by have h := K.op 27 1 (List.Mem.head _) rfl; exact h) (fun w => by kernel_rfl) (and1 c3.val 0 (by subst_vars; exact hpar))
  · exact RG.cert_conv rfl 31 5 28 (.int .u64 0) (.int .u8 0) rfl rfl (fun μ a K => by have h := K.op 28 2 (List.Mem.head _) rfl; exact h) (fun w => by kernel_rfl)
  · exact RG.cert_cbin rfl .add 5 5 29 (.int .u8 2) (.int .u8 0) (.int .u8 2) rfl rfl (fun μ a K => by have h := K.op 29 3 (List.Mem.head _) rfl; exact h) (fun w => by kernel_rfl) (fun w => by kernel_rfl)
  · exact RG.cert_bs1 4 rfl _ rfl 23 5 30 (.int .u8 2) rfl rfl (fun μ a K => by have h := K.op 30 4 (List.Mem.head _) rfl; exact h) (bs1 2)
  · exact RG.cert_str rfl 4 5 _ rfl _ rfl rfl (by kernel_rfl) (by kernel_rfl) 23 9 31 1 (.string ⟨#[2]⟩) rfl rfl (fun μ a K => by have h := K.op 31 5 (List.Mem.head _) rfl; exact h) (fun w k h => str1 2 w k h)
  · exact RG.cert_load rfl 2 0 _ rfl rfl (by kernel_rfl) 33 5 rfl (ws c2) rfl (fun μ a K => K.old 5 (.p 2 0) (List.Mem.tail _ (List.Mem.head _)) (by kernel_rfl)) (by kernel_rfl) u33 i33
  · exact RG.cert_call1 rfl 61 33 (fv c2) (.string ⟨bx c2.val⟩) rfl (fun a w => by kernel_rfl) (fun μ a K => by have h := K.op 33 7 (List.Mem.head _) rfl; exact h) (rBytes_c C.toFld c2)
  · exact RG.cert_bin rfl .add 9 9 32 34 (.string ⟨#[2]⟩) (.string ⟨bx c2.val⟩) (.string ⟨#[2] ++ bx c2.val⟩) rfl rfl (fun μ a K => by have h := K.op 32 6 (List.Mem.head _) rfl; exact h) (fun μ a K => by have h := K.op 34 8 (List.Mem.tail _ (List.Mem.head _)) rfl; exact h) (fun w => by kernel_rfl) (cat 2 _)
  · exact RG.cert_move rfl 35 (Or.inr rfl) (fun μ a K => by have h := K.op 35 9 (List.Mem.head _) rfl; exact h)
  intro new7 w7 hl7 hS7
  obtain ⟨j7, rfl⟩ := RG.len1 hl7
  refine wp_ret ?_
  refine bodyPost_ret (v := (.string ⟨#[2] ++ bx c2.val⟩)) (RG.results_t 2 rfl _ (by kernel_rfl)) (by kernel_rfl) ?_
  exact ⟨_, rfl, hS7.bel.below, rfl⟩

def F381_0i (x y z c1 c2 c3 : Fin P) : List RG.It := [⟨some 1, [], (.p 0 0), .make 0⟩,
  ⟨some 2, [], (.v (.string ⟨#[]⟩)), .stay⟩]
def F381_0b (x y z c1 c2 c3 : Fin P) : List RG.Bl := [⟨(ws x ++ (ws y ++ (ws z))), (ws x ++ (ws y ++ (ws z))), some 0, none⟩]
def F381_0o (x y z c1 c2 c3 : Fin P) : List (Tmp × RG.SV) := [(0, (.v (rv x y z)))]
def F381_1i (x y z c1 c2 c3 : Fin P) : List RG.It := [⟨some 7, [], (.v (rv x y z)), .stay⟩,
  ⟨some 8, [(7, 0)], (.v (.bool false)), .call⟩,
  ⟨some 3, [(8, 1)], (.v (.bool false)), .stay⟩]
def F381_1b (x y z c1 c2 c3 : Fin P) : List RG.Bl := [⟨(ws x ++ (ws y ++ (ws z))), (ws x ++ (ws y ++ (ws z))), none, none⟩]
def F381_1o (x y z c1 c2 c3 : Fin P) : List (Tmp × RG.SV) := [(1, (.p 0 0))]
def F381_2i (x y z c1 c2 c3 : Fin P) : List RG.It := [⟨some 9, [], (.v (.bool false)), .stay⟩]
def F381_2b (x y z c1 c2 c3 : Fin P) : List RG.Bl := [⟨(ws x ++ (ws y ++ (ws z))), (ws x ++ (ws y ++ (ws z))), none, none⟩]
def F381_2o (x y z c1 c2 c3 : Fin P) : List (Tmp × RG.SV) := [(3, (.v (.bool false)))]
def F381_4i (x y z c1 c2 c3 : Fin P) : List RG.It := [⟨some 12, [], (.v rv0), .call⟩,
  ⟨some 13, [], (.p 0 8), .stay⟩,
  ⟨some 14, [(13, 1)], (.v (fv z)), .stay⟩,
  ⟨some 15, [(12, 0), (14, 2)], (.v (fv c1)), .call⟩,
  ⟨some 4, [], (.p 1 0), .make 1⟩,
  ⟨none, [(4, 4), (15, 3)], (.v undef), .put 1⟩]
def F381_4b (x y z c1 c2 c3 : Fin P) : List RG.Bl := [⟨(ws x ++ (ws y ++ (ws z))), (ws x ++ (ws y ++ (ws z))), none, none⟩, ⟨[.int .u64 0, .int .u64 0, .int .u64 0, .int .u64 0], (ws c1), some 4, some 5⟩]
def F381_4o (x y z c1 c2 c3 : Fin P) : List (Tmp × RG.SV) := [(1, (.p 0 0))]
def F381_5i (x y z c1 c2 c3 : Fin P) : List RG.It := [⟨some 16, [], (.v rv0), .call⟩,
  ⟨some 17, [], (.p 0 0), .stay⟩,
  ⟨some 18, [(17, 1)], (.v (fv x)), .stay⟩,
  ⟨some 19, [], (.v (fv c1)), .stay⟩,
  ⟨some 20, [(16, 0), (18, 2), (19, 3)], (.v (fv c2)), .call⟩,
  ⟨some 5, [], (.p 2 0), .make 2⟩,
  ⟨none, [(5, 5), (20, 4)], (.v undef), .put 2⟩]
def F381_5b (x y z c1 c2 c3 : Fin P) : List RG.Bl := [⟨(ws x ++ (ws y ++ (ws z))), (ws x ++ (ws y ++ (ws z))), none, none⟩, ⟨(ws c1), (ws c1), none, none⟩, ⟨[.int .u64 0, .int .u64 0, .int .u64 0, .int .u64 0], (ws c2), some 5, some 6⟩]
def F381_5o (x y z c1 c2 c3 : Fin P) : List (Tmp × RG.SV) := [(1, (.p 0 0)), (4, (.p 1 0))]
def F381_6i (x y z c1 c2 c3 : Fin P) : List RG.It := [⟨some 21, [], (.v rv0), .call⟩,
  ⟨some 22, [], (.p 0 4), .stay⟩,
  ⟨some 23, [(22, 1)], (.v (fv y)), .stay⟩,
  ⟨some 24, [], (.v (fv c1)), .stay⟩,
  ⟨some 25, [(21, 0), (23, 2), (24, 3)], (.v (fv c3)), .call⟩,
  ⟨some 6, [], (.p 3 0), .make 3⟩,
  ⟨none, [(6, 5), (25, 4)], (.v undef), .put 3⟩]
def F381_6b (x y z c1 c2 c3 : Fin P) : List RG.Bl := [⟨(ws x ++ (ws y ++ (ws z))), (ws x ++ (ws y ++ (ws z))), none, none⟩, ⟨(ws c1), (ws c1), none, none⟩, ⟨(ws c2), (ws c2), none, none⟩, ⟨[.int .u64 0, .int .u64 0, .int .u64 0, .int .u64 0], (ws c3), some 5, some 6⟩]
def F381_6o (x y z c1 c2 c3 : Fin P) : List (Tmp × RG.SV) := [(1, (.p 0 0)), (4, (.p 1 0))]
def F381_7i (x y z c1 c2 c3 : Fin P) : List RG.It := [⟨some 26, [], (.p 3 0), .stay⟩,
  ⟨some 27, [(26, 0)], (.v (.int .u64 ((c3.val % 18446744073709551616 : Nat) : Int))), .stay⟩,
  ⟨some 28, [(27, 1)], (.v (.int .u64 1)), .stay⟩,
  ⟨some 29, [(28, 2)], (.v (.int .u8 1)), .stay⟩,
  ⟨some 30, [(29, 3)], (.v (.int .u8 3)), .stay⟩,
  ⟨some 31, [(30, 4)], (.s 4 1 1), .make 4⟩,
  ⟨some 32, [(31, 5)], (.v (.string ⟨#[3]⟩)), .stay⟩,
  ⟨some 33, [], (.v (fv c2)), .stay⟩,
  ⟨some 34, [(33, 7)], (.v (.string ⟨bx c2.val⟩)), .call⟩,
  ⟨some 35, [(32, 6), (34, 8)], (.v (.string ⟨#[3] ++ bx c2.val⟩)), .stay⟩,
  ⟨some 2, [(35, 9)], (.v (.string ⟨#[3] ++ bx c2.val⟩)), .stay⟩]
def F381_7b (x y z c1 c2 c3 : Fin P) : List RG.Bl := [⟨(ws x ++ (ws y ++ (ws z))), (ws x ++ (ws y ++ (ws z))), none, none⟩, ⟨(ws c1), (ws c1), none, none⟩, ⟨(ws c2), (ws c2), none, none⟩, ⟨(ws c3), (ws c3), none, none⟩, ⟨[(.int .u8 3)], [(.int .u8 3)], some 5, none⟩]
def F381_7o (x y z c1 c2 c3 : Fin P) : List (Tmp × RG.SV) := [(6, (.p 3 0)), (5, (.p 2 0))]
set_option maxHeartbeats 2000000 in
set_option maxRecDepth 100000 in
theorem rWr_1_c (C : Fl3 P) (x y z : Fin P)(hz : ¬ z = 0) (hpar : (y * EC.inv z).val % 2 = 1)  : Gives 38 #[(rv x y z)] (.string ⟨#[3] ++ bx (x * EC.inv z).val⟩) := by
  intro w
  obtain ⟨c1, hc1⟩ : ∃ c, c = EC.inv z := ⟨_, rfl⟩
  obtain ⟨c2, hc2⟩ : ∃ c, c = x * c1 := ⟨_, rfl⟩
  obtain ⟨c3, hc3⟩ : ∃ c, c = y * c1 := ⟨_, rfl⟩
  have hfin : ((.string ⟨#[3] ++ bx c2.val⟩) : Value) = (.string ⟨#[3] ++ bx (x * EC.inv z).val⟩) := by
    subst_vars; rfl
  rw [← hfin]
  go_enter Try.func38, Try.ntmps38
  have hS0 := RG.St.begin w
  repeat refine wp_seq ?_
  refine RG.region_text (its := F381_0i x y z c1 c2 c3) (bl := F381_0b x y z c1 c2 c3) (olds := F381_0o x y z c1 c2 c3) hS0 (RG.Reg.mk' (by kernel_rfl) ⟨by kernel_rfl, trivial⟩ ⟨?_, ?_, trivial⟩) (by kernel_rfl) (by kernel_rfl) (by kernel_rfl) ?_
  · exact RG.cert_box 0 rfl rfl _ rfl 56 0 rfl (rv x y z) (fun μ a K => K.old 0 (.v (rv x y z)) (List.Mem.head _) (by kernel_rfl)) (fun w => by kernel_rfl)
  · exact RG.cert_stay rfl (fun μ a w _ _ => by kernel_rfl)
  intro new1 w1 hl1 hS1
  obtain ⟨j1, rfl⟩ := RG.len1 hl1
  repeat refine wp_seq ?_
  refine RG.region_text (its := F381_1i x y z c1 c2 c3) (bl := F381_1b x y z c1 c2 c3) (olds := F381_1o x y z c1 c2 c3) hS1 (RG.Reg.mk' (by kernel_rfl) ⟨by kernel_rfl, trivial⟩ ⟨?_, ?_, ?_, trivial⟩) (by kernel_rfl) (by kernel_rfl) (by kernel_rfl) ?_
  · exact RG.cert_load rfl 0 0 _ rfl rfl (by kernel_rfl) 56 1 rfl (ws x ++ (ws y ++ (ws z))) rfl (fun μ a K => K.old 1 (.p 0 0) (List.Mem.head _) (by kernel_rfl)) (by kernel_rfl) u56 i56
  · exact RG.cert_call1 rfl 78 7 (rv x y z) (.bool false) rfl (fun a w => by kernel_rfl) (fun μ a K => by have h := K.op 7 0 (List.Mem.head _) rfl; exact h) (Is_f_c C x y z hz)
  · exact RG.cert_move rfl 8 (Or.inr rfl) (fun μ a K => by have h := K.op 8 1 (List.Mem.head _) rfl; exact h)
  intro new2 w2 hl2 hS2
  obtain rfl := RG.len0 hl2
  repeat refine wp_seq ?_
  refine RG.region_text (its := F381_2i x y z c1 c2 c3) (bl := F381_2b x y z c1 c2 c3) (olds := F381_2o x y z c1 c2 c3) hS2 (RG.Reg.mk' (by kernel_rfl) ⟨by kernel_rfl, trivial⟩ ⟨?_, trivial⟩) (by kernel_rfl) (by kernel_rfl) (by kernel_rfl) ?_
  · exact RG.cert_move rfl 3 (Or.inl rfl) (fun μ a K => K.old 3 (.v (.bool false)) (List.Mem.head _) (by kernel_rfl))
  intro new3 w3 hl3 hS3
  obtain rfl := RG.len0 hl3
  repeat refine wp_seq ?_
  refine wp_cond_false (by kernel_rfl) ?_
  refine wp_skip ?_
  repeat refine wp_seq ?_
  refine RG.region_draws (by kernel_rfl) (its := F381_4i x y z c1 c2 c3) (bl := F381_4b x y z c1 c2 c3) (olds := F381_4o x y z c1 c2 c3) hS3 (RG.Reg.mk' (by kernel_rfl) ⟨by kernel_rfl, trivial⟩ ⟨?_, ?_, ?_, ?_, ?_, ?_, trivial⟩) (by kernel_rfl) (by kernel_rfl) (by kernel_rfl) ?_
  · exact RG.cert_call0 rfl 69 rv0 rfl (fun a w => by kernel_rfl) (F3_c)
  · exact RG.cert_field rfl 56 1 2 rfl 0 0 8 rfl (fun μ a K => K.old 1 (.p 0 0) (List.Mem.head _) (by kernel_rfl)) (fun k w => by kernel_rfl)
  · exact RG.cert_load rfl 0 8 _ rfl rfl (by kernel_rfl) 33 13 rfl (ws z) rfl (fun μ a K => by have h := K.op 13 1 (List.Mem.head _) rfl; exact h) (by kernel_rfl) u33 i33
  · exact RG.cert_call2 rfl 21 12 14 rv0 (fv z) (fv c1) rfl (fun a w => by kernel_rfl) (fun μ a K => by have h := K.op 12 0 (List.Mem.head _) rfl; exact h) (fun μ a K => by have h := K.op 14 2 (List.Mem.tail _ (List.Mem.head _)) rfl; exact h) (hc1 ▸ rInv_c C z)
  · exact RG.cert_alloc 1 rfl rfl _ rfl 33 rfl (fun w => by kernel_rfl)
  · exact RG.cert_put 1 rfl _ rfl 33 (.tmp 4) (.tmp 15) rfl rfl rfl (fun μ a K => by have h := K.op 4 4 (List.Mem.head _) rfl; exact h) (fun μ a K => by have h := K.op 15 3 (List.Mem.tail _ (List.Mem.head _)) rfl; exact h) i33 rfl
  intro new4 w4 hl4 hS4
  obtain ⟨j4, rfl⟩ := RG.len1 hl4
  repeat refine wp_seq ?_
  refine RG.region_draws (by kernel_rfl) (its := F381_5i x y z c1 c2 c3) (bl := F381_5b x y z c1 c2 c3) (olds := F381_5o x y z c1 c2 c3) hS4 (RG.Reg.mk' (by kernel_rfl) ⟨by kernel_rfl, by kernel_rfl, trivial⟩ ⟨?_, ?_, ?_, ?_, ?_, ?_, ?_, trivial⟩) (by kernel_rfl) (by kernel_rfl) (by kernel_rfl) ?_
  · exact RG.cert_call0 rfl 69 rv0 rfl (fun a w => by kernel_rfl) (F3_c)
  · exact RG.cert_field rfl 56 1 0 rfl 0 0 0 rfl (fun μ a K => K.old 1 (.p 0 0) (List.Mem.head _) (by kernel_rfl)) (fun k w => by kernel_rfl)
  · exact RG.cert_load rfl 0 0 _ rfl rfl (by kernel_rfl) 33 17 rfl (ws x) rfl (fun μ a K => by have h := K.op 17 1 (List.Mem.head _) rfl; exact h) (by kernel_rfl) u33 i33
  · exact RG.cert_load rfl 1 0 _ rfl rfl (by kernel_rfl) 33 4 rfl (ws c1) rfl (fun μ a K => K.old 4 (.p 1 0) (List.Mem.tail _ (List.Mem.head _)) (by kernel_rfl)) (by kernel_rfl) u33 i33
  · exact RG.cert_call3 rfl 20 16 18 19 rv0 (fv x) (fv c1) (fv c2) rfl (fun a w => by kernel_rfl) (fun μ a K => by have h := K.op 16 0 (List.Mem.head _) rfl; exact h) (fun μ a K => by have h := K.op 18 2 (List.Mem.tail _ (List.Mem.head _)) rfl; exact h) (fun μ a K => by have h := K.op 19 3 (List.Mem.tail _ (List.Mem.tail _ (List.Mem.head _))) rfl; exact h) (hc2 ▸ rMul_c C x c1)
  · exact RG.cert_alloc 2 rfl rfl _ rfl 33 rfl (fun w => by kernel_rfl)
  · exact RG.cert_put 2 rfl _ rfl 33 (.tmp 5) (.tmp 20) rfl rfl rfl (fun μ a K => by have h := K.op 5 5 (List.Mem.head _) rfl; exact h) (fun μ a K => by have h := K.op 20 4 (List.Mem.tail _ (List.Mem.head _)) rfl; exact h) i33 rfl
  intro new5 w5 hl5 hS5
  obtain ⟨j5, rfl⟩ := RG.len1 hl5
  repeat refine wp_seq ?_
  refine RG.region_draws (by kernel_rfl) (its := F381_6i x y z c1 c2 c3) (bl := F381_6b x y z c1 c2 c3) (olds := F381_6o x y z c1 c2 c3) hS5 (RG.Reg.mk' (by kernel_rfl) ⟨by kernel_rfl, by kernel_rfl, trivial⟩ ⟨?_, ?_, ?_, ?_, ?_, ?_, ?_, trivial⟩) (by kernel_rfl) (by kernel_rfl) (by kernel_rfl) ?_
  · exact RG.cert_call0 rfl 69 rv0 rfl (fun a w => by kernel_rfl) (F3_c)
  · exact RG.cert_field rfl 56 1 1 rfl 0 0 4 rfl (fun μ a K => K.old 1 (.p 0 0) (List.Mem.head _) (by kernel_rfl)) (fun k w => by kernel_rfl)
  · exact RG.cert_load rfl 0 4 _ rfl rfl (by kernel_rfl) 33 22 rfl (ws y) rfl (fun μ a K => by have h := K.op 22 1 (List.Mem.head _) rfl; exact h) (by kernel_rfl) u33 i33
  · exact RG.cert_load rfl 1 0 _ rfl rfl (by kernel_rfl) 33 4 rfl (ws c1) rfl (fun μ a K => K.old 4 (.p 1 0) (List.Mem.tail _ (List.Mem.head _)) (by kernel_rfl)) (by kernel_rfl) u33 i33
  · exact RG.cert_call3 rfl 20 21 23 24 rv0 (fv y) (fv c1) (fv c3) rfl (fun a w => by kernel_rfl) (fun μ a K => by have h := K.op 21 0 (List.Mem.head _) rfl; exact h) (fun μ a K => by have h := K.op 23 2 (List.Mem.tail _ (List.Mem.head _)) rfl; exact h) (fun μ a K => by have h := K.op 24 3 (List.Mem.tail _ (List.Mem.tail _ (List.Mem.head _))) rfl; exact h) (hc3 ▸ rMul_c C y c1)
  · exact RG.cert_alloc 3 rfl rfl _ rfl 33 rfl (fun w => by kernel_rfl)
  · exact RG.cert_put 3 rfl _ rfl 33 (.tmp 6) (.tmp 25) rfl rfl rfl (fun μ a K => by have h := K.op 6 5 (List.Mem.head _) rfl; exact h) (fun μ a K => by have h := K.op 25 4 (List.Mem.tail _ (List.Mem.head _)) rfl; exact h) i33 rfl
  intro new6 w6 hl6 hS6
  obtain ⟨j6, rfl⟩ := RG.len1 hl6
  repeat refine wp_seq ?_
  refine RG.region_draws (by kernel_rfl) (its := F381_7i x y z c1 c2 c3) (bl := F381_7b x y z c1 c2 c3) (olds := F381_7o x y z c1 c2 c3) hS6 (RG.Reg.mk' (by kernel_rfl) ⟨by kernel_rfl, by kernel_rfl, trivial⟩ ⟨?_, ?_, ?_, ?_, ?_, ?_, ?_, ?_, ?_, ?_, ?_, trivial⟩) (by kernel_rfl) (by kernel_rfl) (by kernel_rfl) ?_
  · exact RG.cert_idxc rfl 33 6 (.int .i64 0) rfl (.p 3 0) (fun μ a K => K.old 6 (.p 3 0) (List.Mem.head _) (by kernel_rfl)) (fun μ w => by kernel_rfl)
  · exact RG.cert_load1 rfl 3 0 _ rfl rfl (by kernel_rfl) 31 26 rfl (.int .u64 ((c3.val % 18446744073709551616 : Nat) : Int)) rfl (fun μ a K => by have h := K.op 26 0 (List.Mem.head _) rfl; exact h) rfl u31
  · exact RG.cert_binc rfl .and 31 31 27 (.int .u64 ((c3.val % 18446744073709551616 : Nat) : Int)) (.int .u64 1) (.int .u64 1) rfl rfl (fun μ a K => by have h := K.op 27 1 (List.Mem.head _) rfl; exact h) (fun w => by kernel_rfl) (and1 c3.val 1 (by subst_vars; exact hpar))
  · exact RG.cert_conv rfl 31 5 28 (.int .u64 1) (.int .u8 1) rfl rfl (fun μ a K => by have h := K.op 28 2 (List.Mem.head _) rfl; exact h) (fun w => by kernel_rfl)
  · exact RG.cert_cbin rfl .add 5 5 29 (.int .u8 2) (.int .u8 1) (.int .u8 3) rfl rfl (fun μ a K => by have h := K.op 29 3 (List.Mem.head _) rfl; exact h) (fun w => by kernel_rfl) (fun w => by kernel_rfl)
  · exact RG.cert_bs1 4 rfl _ rfl 23 5 30 (.int .u8 3) rfl rfl (fun μ a K => by have h := K.op 30 4 (List.Mem.head _) rfl; exact h) (bs1 3)
  · exact RG.cert_str rfl 4 5 _ rfl _ rfl rfl (by kernel_rfl) (by kernel_rfl) 23 9 31 1 (.string ⟨#[3]⟩) rfl rfl (fun μ a K => by have h := K.op 31 5 (List.Mem.head _) rfl; exact h) (fun w k h => str1 3 w k h)
  · exact RG.cert_load rfl 2 0 _ rfl rfl (by kernel_rfl) 33 5 rfl (ws c2) rfl (fun μ a K => K.old 5 (.p 2 0) (List.Mem.tail _ (List.Mem.head _)) (by kernel_rfl)) (by kernel_rfl) u33 i33
  · exact RG.cert_call1 rfl 61 33 (fv c2) (.string ⟨bx c2.val⟩) rfl (fun a w => by kernel_rfl) (fun μ a K => by have h := K.op 33 7 (List.Mem.head _) rfl; exact h) (rBytes_c C.toFld c2)
  · exact RG.cert_bin rfl .add 9 9 32 34 (.string ⟨#[3]⟩) (.string ⟨bx c2.val⟩) (.string ⟨#[3] ++ bx c2.val⟩) rfl rfl (fun μ a K => by have h := K.op 32 6 (List.Mem.head _) rfl; exact h) (fun μ a K => by have h := K.op 34 8 (List.Mem.tail _ (List.Mem.head _)) rfl; exact h) (fun w => by kernel_rfl) (cat 3 _)
  · exact RG.cert_move rfl 35 (Or.inr rfl) (fun μ a K => by have h := K.op 35 9 (List.Mem.head _) rfl; exact h)
  intro new7 w7 hl7 hS7
  obtain ⟨j7, rfl⟩ := RG.len1 hl7
  refine wp_ret ?_
  refine bodyPost_ret (v := (.string ⟨#[3] ++ bx c2.val⟩)) (RG.results_t 2 rfl _ (by kernel_rfl)) (by kernel_rfl) ?_
  exact ⟨_, rfl, hS7.bel.below, rfl⟩

end Go.Proofs.Ytdeidgbknlmhjab
