import Derived.Test.YtdeidgbknlmhjabCQ
set_option linter.unusedVariables false
set_option linter.unusedSimpArgs false
namespace Go.Proofs.Ytdeidgbknlmhjab
open Go.RowKit Go.Sort
variable {P : Nat} [NeZero P]

def F101t_0i (x y z : Fin P) : List RG.It := [⟨some 1, [], (.p 0 0), .make 0⟩,
  ⟨some 2, [], (.v (.bool false)), .stay⟩]
def F101t_0b (x y z : Fin P) : List RG.Bl := [⟨(ws x ++ (ws y ++ (ws z))), (ws x ++ (ws y ++ (ws z))), some 0, none⟩]
def F101t_0o (x y z : Fin P) : List (Tmp × RG.SV) := [(0, (.v (rv x y z)))]
def F101t_1i (x y z : Fin P) : List RG.It := [⟨some 3, [], (.p 0 8), .stay⟩,
  ⟨some 4, [(3, 0)], (.v (fv z)), .stay⟩,
  ⟨some 5, [], (.v (fv (0 : Fin P))), .stay⟩,
  ⟨some 6, [(4, 1), (5, 2)], (.v (.bool true)), .stay⟩,
  ⟨some 2, [(6, 3)], (.v (.bool true)), .stay⟩]
def F101t_1b (x y z : Fin P) : List RG.Bl := [⟨(ws x ++ (ws y ++ (ws z))), (ws x ++ (ws y ++ (ws z))), none, none⟩]
def F101t_1o (x y z : Fin P) : List (Tmp × RG.SV) := [(1, (.p 0 0))]
set_option maxHeartbeats 2000000 in
set_option maxRecDepth 100000 in
theorem nothing_t_c (C : Fld P) (x y z : Fin P)(hz : z = 0)  : Gives 101 #[(rv x y z)] (.bool true) := by
  intro w
  have hfin : ((.bool true) : Value) = (.bool true) := by
    subst_vars; rfl
  rw [← hfin]
  go_enter Try.func101, Try.ntmps101
  have hS0 := RG.St.begin w
  repeat refine wp_seq ?_
  refine RG.region_text (its := F101t_0i x y z) (bl := F101t_0b x y z) (olds := F101t_0o x y z) hS0 (RG.Reg.mk' (by kernel_rfl) ⟨by kernel_rfl, trivial⟩ ⟨?_, ?_, trivial⟩) (by kernel_rfl) (by kernel_rfl) (by kernel_rfl) ?_
  · exact RG.cert_box 0 rfl rfl _ rfl 117 0 rfl (rv x y z) (fun μ a K => K.old 0 (.v (rv x y z)) (List.Mem.head _) (by kernel_rfl)) (fun w => by kernel_rfl)
  · exact RG.cert_stay rfl (fun μ a w _ _ => by kernel_rfl)
  intro new1 w1 hl1 hS1
  obtain ⟨j1, rfl⟩ := RG.len1 hl1
  repeat refine wp_seq ?_
  refine RG.region_text (its := F101t_1i x y z) (bl := F101t_1b x y z) (olds := F101t_1o x y z) hS1 (RG.Reg.mk' (by kernel_rfl) ⟨by kernel_rfl, trivial⟩ ⟨?_, ?_, ?_, ?_, ?_, trivial⟩) (by kernel_rfl) (by kernel_rfl) (by kernel_rfl) ?_
  · exact RG.cert_field rfl 117 1 2 rfl 0 0 8 rfl (fun μ a K => K.old 1 (.p 0 0) (List.Mem.head _) (by kernel_rfl)) (fun k w => by kernel_rfl)
  · exact RG.cert_load rfl 0 8 _ rfl rfl (by kernel_rfl) 115 3 rfl (ws z) rfl (fun μ a K => by have h := K.op 3 0 (List.Mem.head _) rfl; exact h) (by kernel_rfl) u115 i115
  · exact RG.cert_stay rfl (fun μ a w _ _ => by rw [show RG.SV.at μ (.v (fv (0 : Fin P))) = (fv (0 : Fin P)) from rfl, ← zero_fv]; kernel_rfl)
  · exact RG.cert_bin rfl .eql 115 115 4 5 (fv z) (fv (0 : Fin P)) (.bool true) rfl rfl (fun μ a K => by have h := K.op 4 1 (List.Mem.head _) rfl; exact h) (fun μ a K => by have h := K.op 5 2 (List.Mem.tail _ (List.Mem.head _)) rfl; exact h) (fun w => by kernel_rfl) (eqC_t C hz)
  · exact RG.cert_move rfl 6 (Or.inr rfl) (fun μ a K => by have h := K.op 6 3 (List.Mem.head _) rfl; exact h)
  intro new2 w2 hl2 hS2
  obtain rfl := RG.len0 hl2
  refine wp_ret ?_
  refine bodyPost_ret (v := (.bool true)) (RG.results_t 2 rfl _ (by kernel_rfl)) (by kernel_rfl) ?_
  exact ⟨_, rfl, hS2.bel.below, rfl⟩

def F101f_0i (x y z : Fin P) : List RG.It := [⟨some 1, [], (.p 0 0), .make 0⟩,
  ⟨some 2, [], (.v (.bool false)), .stay⟩]
def F101f_0b (x y z : Fin P) : List RG.Bl := [⟨(ws x ++ (ws y ++ (ws z))), (ws x ++ (ws y ++ (ws z))), some 0, none⟩]
def F101f_0o (x y z : Fin P) : List (Tmp × RG.SV) := [(0, (.v (rv x y z)))]
def F101f_1i (x y z : Fin P) : List RG.It := [⟨some 3, [], (.p 0 8), .stay⟩,
  ⟨some 4, [(3, 0)], (.v (fv z)), .stay⟩,
  ⟨some 5, [], (.v (fv (0 : Fin P))), .stay⟩,
  ⟨some 6, [(4, 1), (5, 2)], (.v (.bool false)), .stay⟩,
  ⟨some 2, [(6, 3)], (.v (.bool false)), .stay⟩]
def F101f_1b (x y z : Fin P) : List RG.Bl := [⟨(ws x ++ (ws y ++ (ws z))), (ws x ++ (ws y ++ (ws z))), none, none⟩]
def F101f_1o (x y z : Fin P) : List (Tmp × RG.SV) := [(1, (.p 0 0))]
set_option maxHeartbeats 2000000 in
set_option maxRecDepth 100000 in
theorem nothing_f_c (C : Fld P) (x y z : Fin P)(hz : ¬ z = 0)  : Gives 101 #[(rv x y z)] (.bool false) := by
  intro w
  have hfin : ((.bool false) : Value) = (.bool false) := by
    subst_vars; rfl
  rw [← hfin]
  go_enter Try.func101, Try.ntmps101
  have hS0 := RG.St.begin w
  repeat refine wp_seq ?_
  refine RG.region_text (its := F101f_0i x y z) (bl := F101f_0b x y z) (olds := F101f_0o x y z) hS0 (RG.Reg.mk' (by kernel_rfl) ⟨by kernel_rfl, trivial⟩ ⟨?_, ?_, trivial⟩) (by kernel_rfl) (by kernel_rfl) (by kernel_rfl) ?_
  · exact RG.cert_box 0 rfl rfl _ rfl 117 0 rfl (rv x y z) (fun μ a K => K.old 0 (.v (rv x y z)) (List.Mem.head _) (by kernel_rfl)) (fun w => by kernel_rfl)
  · exact RG.cert_stay rfl (fun μ a w _ _ => by kernel_rfl)
  intro new1 w1 hl1 hS1
  obtain ⟨j1, rfl⟩ := RG.len1 hl1
  repeat refine wp_seq ?_
  refine RG.region_text (its := F101f_1i x y z) (bl := F101f_1b x y z) (olds := F101f_1o x y z) hS1 (RG.Reg.mk' (by kernel_rfl) ⟨by kernel_rfl, trivial⟩ ⟨?_, ?_, ?_, ?_, ?_, trivial⟩) (by kernel_rfl) (by kernel_rfl) (by kernel_rfl) ?_
  · exact RG.cert_field rfl 117 1 2 rfl 0 0 8 rfl (fun μ a K => K.old 1 (.p 0 0) (List.Mem.head _) (by kernel_rfl)) (fun k w => by kernel_rfl)
  · exact RG.cert_load rfl 0 8 _ rfl rfl (by kernel_rfl) 115 3 rfl (ws z) rfl (fun μ a K => by have h := K.op 3 0 (List.Mem.head _) rfl; exact h) (by kernel_rfl) u115 i115
  · exact RG.cert_stay rfl (fun μ a w _ _ => by rw [show RG.SV.at μ (.v (fv (0 : Fin P))) = (fv (0 : Fin P)) from rfl, ← zero_fv]; kernel_rfl)
  · exact RG.cert_bin rfl .eql 115 115 4 5 (fv z) (fv (0 : Fin P)) (.bool false) rfl rfl (fun μ a K => by have h := K.op 4 1 (List.Mem.head _) rfl; exact h) (fun μ a K => by have h := K.op 5 2 (List.Mem.tail _ (List.Mem.head _)) rfl; exact h) (fun w => by kernel_rfl) (eqC_f C hz)
  · exact RG.cert_move rfl 6 (Or.inr rfl) (fun μ a K => by have h := K.op 6 3 (List.Mem.head _) rfl; exact h)
  intro new2 w2 hl2 hS2
  obtain rfl := RG.len0 hl2
  refine wp_ret ?_
  refine bodyPost_ret (v := (.bool false)) (RG.results_t 2 rfl _ (by kernel_rfl)) (by kernel_rfl) ?_
  exact ⟨_, rfl, hS2.bel.below, rfl⟩

def F73t_0i (x y : Fin P) : List RG.It := [⟨some 1, [], (.p 0 0), .make 0⟩,
  ⟨some 2, [], (.p 1 0), .make 1⟩]
def F73t_0b (x y : Fin P) : List RG.Bl := [⟨(ws x ++ (ws y)), (ws x ++ (ws y)), some 0, none⟩, ⟨[.int .u64 0, .int .u64 0, .int .u64 0, .int .u64 0, .int .u64 0, .int .u64 0, .int .u64 0, .int .u64 0, .int .u64 0, .int .u64 0, .int .u64 0, .int .u64 0], [.int .u64 0, .int .u64 0, .int .u64 0, .int .u64 0, .int .u64 0, .int .u64 0, .int .u64 0, .int .u64 0, .int .u64 0, .int .u64 0, .int .u64 0, .int .u64 0], some 1, none⟩]
def F73t_0o (x y : Fin P) : List (Tmp × RG.SV) := [(0, (.v (pv x y)))]
def F73t_1i (x y : Fin P) : List RG.It := [⟨some 3, [], (.v (pv x y)), .stay⟩,
  ⟨some 4, [], (.v (pv (0 : Fin P) (0 : Fin P))), .stay⟩,
  ⟨some 5, [(3, 0), (4, 1)], (.v (.bool true)), .stay⟩]
def F73t_1b (x y : Fin P) : List RG.Bl := [⟨(ws x ++ (ws y)), (ws x ++ (ws y)), none, none⟩, ⟨[.int .u64 0, .int .u64 0, .int .u64 0, .int .u64 0, .int .u64 0, .int .u64 0, .int .u64 0, .int .u64 0, .int .u64 0, .int .u64 0, .int .u64 0, .int .u64 0], [.int .u64 0, .int .u64 0, .int .u64 0, .int .u64 0, .int .u64 0, .int .u64 0, .int .u64 0, .int .u64 0, .int .u64 0, .int .u64 0, .int .u64 0, .int .u64 0], none, none⟩]
def F73t_1o (x y : Fin P) : List (Tmp × RG.SV) := [(1, (.p 0 0))]
def F73t_2i (x y : Fin P) : List RG.It := [⟨some 6, [], (.v (rv (0 : Fin P) (0 : Fin P) (0 : Fin P))), .stay⟩,
  ⟨none, [(6, 0)], (.v undef), .put 1⟩]
def F73t_2b (x y : Fin P) : List RG.Bl := [⟨(ws x ++ (ws y)), (ws x ++ (ws y)), none, none⟩, ⟨[.int .u64 0, .int .u64 0, .int .u64 0, .int .u64 0, .int .u64 0, .int .u64 0, .int .u64 0, .int .u64 0, .int .u64 0, .int .u64 0, .int .u64 0, .int .u64 0], (ws (0 : Fin P) ++ (ws (0 : Fin P) ++ (ws (0 : Fin P)))), none, some 1⟩]
def F73t_2o (x y : Fin P) : List (Tmp × RG.SV) := [(2, (.p 1 0))]
set_option maxHeartbeats 2000000 in
set_option maxRecDepth 100000 in
theorem ratio_t_c (C : Fld P) (x y : Fin P)(hz : x = 0 ∧ y = 0)  : Gives 73 #[(pv x y)] (rv (0 : Fin P) 0 0) := by
  intro w
  have hfin : ((rv (0 : Fin P) (0 : Fin P) (0 : Fin P)) : Value) = (rv (0 : Fin P) 0 0) := by
    subst_vars; rfl
  rw [← hfin]
  go_enter Try.func73, Try.ntmps73
  have hS0 := RG.St.begin w
  repeat refine wp_seq ?_
  refine RG.region_text (its := F73t_0i x y) (bl := F73t_0b x y) (olds := F73t_0o x y) hS0 (RG.Reg.mk' (by kernel_rfl) ⟨by kernel_rfl, trivial⟩ ⟨?_, ?_, trivial⟩) (by kernel_rfl) (by kernel_rfl) (by kernel_rfl) ?_
  · exact RG.cert_box 0 rfl rfl _ rfl 109 0 rfl (pv x y) (fun μ a K => K.old 0 (.v (pv x y)) (List.Mem.head _) (by kernel_rfl)) (fun w => by kernel_rfl)
  · exact RG.cert_alloc 1 rfl rfl _ rfl 117 rfl (fun w => by kernel_rfl)
  intro new1 w1 hl1 hS1
  obtain ⟨j1, i1, rfl⟩ := RG.len2 hl1
  repeat refine wp_seq ?_
  refine RG.region_text (its := F73t_1i x y) (bl := F73t_1b x y) (olds := F73t_1o x y) hS1 (RG.Reg.mk' (by kernel_rfl) ⟨by kernel_rfl, trivial⟩ ⟨?_, ?_, ?_, trivial⟩) (by kernel_rfl) (by kernel_rfl) (by kernel_rfl) ?_
  · exact RG.cert_load rfl 0 0 _ rfl rfl (by kernel_rfl) 109 1 rfl (ws x ++ (ws y)) rfl (fun μ a K => K.old 1 (.p 0 0) (List.Mem.head _) (by kernel_rfl)) (by kernel_rfl) u109 i109
  · exact RG.cert_stay rfl (fun μ a w _ _ => by rw [show RG.SV.at μ (.v (pv (0 : Fin P) (0 : Fin P))) = (pv (0 : Fin P) (0 : Fin P)) from rfl, ← zero_pv]; kernel_rfl)
  · exact RG.cert_bin rfl .eql 109 109 3 4 (pv x y) (pv (0 : Fin P) (0 : Fin P)) (.bool true) rfl rfl (fun μ a K => by have h := K.op 3 0 (List.Mem.head _) rfl; exact h) (fun μ a K => by have h := K.op 4 1 (List.Mem.tail _ (List.Mem.head _)) rfl; exact h) (fun w => by kernel_rfl) (eqPt_t C hz)
  intro new2 w2 hl2 hS2
  obtain rfl := RG.len0 hl2
  repeat refine wp_seq ?_
  refine wp_cond_true (by kernel_rfl) ?_
  repeat refine wp_seq ?_
  refine RG.region_text (its := F73t_2i x y) (bl := F73t_2b x y) (olds := F73t_2o x y) hS2 (RG.Reg.mk' (by kernel_rfl) ⟨by kernel_rfl, trivial⟩ ⟨?_, ?_, trivial⟩) (by kernel_rfl) (by kernel_rfl) (by kernel_rfl) ?_
  · exact RG.cert_stay rfl (fun μ a w _ _ => by rw [show RG.SV.at μ (.v (rv (0 : Fin P) (0 : Fin P) (0 : Fin P))) = (rv (0 : Fin P) (0 : Fin P) (0 : Fin P)) from rfl, ← zero_rv]; kernel_rfl)
  · exact RG.cert_put 1 rfl _ rfl 117 (.tmp 2) (.tmp 6) rfl rfl rfl (fun μ a K => K.old 2 (.p 1 0) (List.Mem.head _) (by kernel_rfl)) (fun μ a K => by have h := K.op 6 0 (List.Mem.head _) rfl; exact h) i117 rfl
  intro new3 w3 hl3 hS3
  obtain rfl := RG.len0 hl3
  refine wp_ret ?_
  refine bodyPost_ret (v := (rv (0 : Fin P) (0 : Fin P) (0 : Fin P))) (RG.results_row hS3 2 117 rfl 1 _ rfl (by kernel_rfl) u117 i117) (by kernel_rfl) ?_
  exact ⟨_, rfl, hS3.bel.below, rfl⟩

def F73f_0i (x y : Fin P) : List RG.It := [⟨some 1, [], (.p 0 0), .make 0⟩,
  ⟨some 2, [], (.p 1 0), .make 1⟩]
def F73f_0b (x y : Fin P) : List RG.Bl := [⟨(ws x ++ (ws y)), (ws x ++ (ws y)), some 0, none⟩, ⟨[.int .u64 0, .int .u64 0, .int .u64 0, .int .u64 0, .int .u64 0, .int .u64 0, .int .u64 0, .int .u64 0, .int .u64 0, .int .u64 0, .int .u64 0, .int .u64 0], [.int .u64 0, .int .u64 0, .int .u64 0, .int .u64 0, .int .u64 0, .int .u64 0, .int .u64 0, .int .u64 0, .int .u64 0, .int .u64 0, .int .u64 0, .int .u64 0], some 1, none⟩]
def F73f_0o (x y : Fin P) : List (Tmp × RG.SV) := [(0, (.v (pv x y)))]
def F73f_1i (x y : Fin P) : List RG.It := [⟨some 3, [], (.v (pv x y)), .stay⟩,
  ⟨some 4, [], (.v (pv (0 : Fin P) (0 : Fin P))), .stay⟩,
  ⟨some 5, [(3, 0), (4, 1)], (.v (.bool false)), .stay⟩]
def F73f_1b (x y : Fin P) : List RG.Bl := [⟨(ws x ++ (ws y)), (ws x ++ (ws y)), none, none⟩, ⟨[.int .u64 0, .int .u64 0, .int .u64 0, .int .u64 0, .int .u64 0, .int .u64 0, .int .u64 0, .int .u64 0, .int .u64 0, .int .u64 0, .int .u64 0, .int .u64 0], [.int .u64 0, .int .u64 0, .int .u64 0, .int .u64 0, .int .u64 0, .int .u64 0, .int .u64 0, .int .u64 0, .int .u64 0, .int .u64 0, .int .u64 0, .int .u64 0], none, none⟩]
def F73f_1o (x y : Fin P) : List (Tmp × RG.SV) := [(1, (.p 0 0))]
def F73f_3i (x y : Fin P) : List RG.It := [⟨some 7, [], (.p 0 0), .stay⟩,
  ⟨some 8, [(7, 0)], (.v (fv x)), .stay⟩,
  ⟨some 9, [(8, 1)], (.v (fv x)), .call⟩,
  ⟨some 10, [], (.p 0 4), .stay⟩,
  ⟨some 11, [(10, 3)], (.v (fv y)), .stay⟩,
  ⟨some 12, [(11, 4)], (.v (fv y)), .call⟩,
  ⟨some 13, [], (.v (fv (1 : Fin P))), .stay⟩,
  ⟨some 14, [(13, 6)], (.v (fv (1 : Fin P))), .call⟩,
  ⟨some 15, [(9, 2), (12, 5), (14, 7)], (.v (rv x y (1 : Fin P))), .stay⟩,
  ⟨none, [(15, 8)], (.v undef), .put 1⟩]
def F73f_3b (x y : Fin P) : List RG.Bl := [⟨(ws x ++ (ws y)), (ws x ++ (ws y)), none, none⟩, ⟨[.int .u64 0, .int .u64 0, .int .u64 0, .int .u64 0, .int .u64 0, .int .u64 0, .int .u64 0, .int .u64 0, .int .u64 0, .int .u64 0, .int .u64 0, .int .u64 0], (ws x ++ (ws y ++ (ws (1 : Fin P)))), none, some 9⟩]
def F73f_3o (x y : Fin P) : List (Tmp × RG.SV) := [(1, (.p 0 0)), (2, (.p 1 0))]
set_option maxHeartbeats 2000000 in
set_option maxRecDepth 100000 in
theorem ratio_f_c (C : Fld P) (x y : Fin P)(hz : ¬ (x = 0 ∧ y = 0))  : Gives 73 #[(pv x y)] (rv x y 1) := by
  intro w
  have hfin : ((rv x y (1 : Fin P)) : Value) = (rv x y 1) := by
    subst_vars; rfl
  rw [← hfin]
  go_enter Try.func73, Try.ntmps73
  have hS0 := RG.St.begin w
  repeat refine wp_seq ?_
  refine RG.region_text (its := F73f_0i x y) (bl := F73f_0b x y) (olds := F73f_0o x y) hS0 (RG.Reg.mk' (by kernel_rfl) ⟨by kernel_rfl, trivial⟩ ⟨?_, ?_, trivial⟩) (by kernel_rfl) (by kernel_rfl) (by kernel_rfl) ?_
  · exact RG.cert_box 0 rfl rfl _ rfl 109 0 rfl (pv x y) (fun μ a K => K.old 0 (.v (pv x y)) (List.Mem.head _) (by kernel_rfl)) (fun w => by kernel_rfl)
  · exact RG.cert_alloc 1 rfl rfl _ rfl 117 rfl (fun w => by kernel_rfl)
  intro new1 w1 hl1 hS1
  obtain ⟨j1, i1, rfl⟩ := RG.len2 hl1
  repeat refine wp_seq ?_
  refine RG.region_text (its := F73f_1i x y) (bl := F73f_1b x y) (olds := F73f_1o x y) hS1 (RG.Reg.mk' (by kernel_rfl) ⟨by kernel_rfl, trivial⟩ ⟨?_, ?_, ?_, trivial⟩) (by kernel_rfl) (by kernel_rfl) (by kernel_rfl) ?_
  · exact RG.cert_load rfl 0 0 _ rfl rfl (by kernel_rfl) 109 1 rfl (ws x ++ (ws y)) rfl (fun μ a K => K.old 1 (.p 0 0) (List.Mem.head _) (by kernel_rfl)) (by kernel_rfl) u109 i109
  · exact RG.cert_stay rfl (fun μ a w _ _ => by rw [show RG.SV.at μ (.v (pv (0 : Fin P) (0 : Fin P))) = (pv (0 : Fin P) (0 : Fin P)) from rfl, ← zero_pv]; kernel_rfl)
  · exact RG.cert_bin rfl .eql 109 109 3 4 (pv x y) (pv (0 : Fin P) (0 : Fin P)) (.bool false) rfl rfl (fun μ a K => by have h := K.op 3 0 (List.Mem.head _) rfl; exact h) (fun μ a K => by have h := K.op 4 1 (List.Mem.tail _ (List.Mem.head _)) rfl; exact h) (fun w => by kernel_rfl) (eqPt_f C hz)
  intro new2 w2 hl2 hS2
  obtain rfl := RG.len0 hl2
  repeat refine wp_seq ?_
  refine wp_cond_false (by kernel_rfl) ?_
  refine wp_skip ?_
  repeat refine wp_seq ?_
  refine RG.region_draws (by kernel_rfl) (its := F73f_3i x y) (bl := F73f_3b x y) (olds := F73f_3o x y) hS2 (RG.Reg.mk' (by kernel_rfl) ⟨by kernel_rfl, by kernel_rfl, trivial⟩ ⟨?_, ?_, ?_, ?_, ?_, ?_, ?_, ?_, ?_, ?_, trivial⟩) (by kernel_rfl) (by kernel_rfl) (by kernel_rfl) ?_
  · exact RG.cert_field rfl 109 1 0 rfl 0 0 0 rfl (fun μ a K => K.old 1 (.p 0 0) (List.Mem.head _) (by kernel_rfl)) (fun k w => by kernel_rfl)
  · exact RG.cert_load rfl 0 0 _ rfl rfl (by kernel_rfl) 85 7 rfl (ws x) rfl (fun μ a K => by have h := K.op 7 0 (List.Mem.head _) rfl; exact h) (by kernel_rfl) u85 i85
  · exact RG.cert_call1 rfl 100 8 (fv x) (fv x) rfl (fun a w => by kernel_rfl) (fun μ a K => by have h := K.op 8 1 (List.Mem.head _) rfl; exact h) (Coord_c C x)
  · exact RG.cert_field rfl 109 1 1 rfl 0 0 4 rfl (fun μ a K => K.old 1 (.p 0 0) (List.Mem.head _) (by kernel_rfl)) (fun k w => by kernel_rfl)
  · exact RG.cert_load rfl 0 4 _ rfl rfl (by kernel_rfl) 85 10 rfl (ws y) rfl (fun μ a K => by have h := K.op 10 3 (List.Mem.head _) rfl; exact h) (by kernel_rfl) u85 i85
  · exact RG.cert_call1 rfl 100 11 (fv y) (fv y) rfl (fun a w => by kernel_rfl) (fun μ a K => by have h := K.op 11 4 (List.Mem.head _) rfl; exact h) (Coord_c C y)
  · exact RG.cert_stay rfl (fun μ a w _ _ => by rw [show RG.SV.at μ (.v (fv (1 : Fin P))) = (fv (1 : Fin P)) from rfl, ← one_fv C]; kernel_rfl)
  · exact RG.cert_call1 rfl 100 13 (fv (1 : Fin P)) (fv (1 : Fin P)) rfl (fun a w => by kernel_rfl) (fun μ a K => by have h := K.op 13 6 (List.Mem.head _) rfl; exact h) (Coord_c C (1 : Fin P))
  · exact RG.cert_build3 rfl 117 9 12 14 rfl (fv x) (fv y) (fv (1 : Fin P)) (rv x y (1 : Fin P)) rfl (fun μ a K => by have h := K.op 9 2 (List.Mem.head _) rfl; exact h) (fun μ a K => by have h := K.op 12 5 (List.Mem.tail _ (List.Mem.head _)) rfl; exact h) (fun μ a K => by have h := K.op 14 7 (List.Mem.tail _ (List.Mem.tail _ (List.Mem.head _))) rfl; exact h) (fun w => by kernel_rfl)
  · exact RG.cert_put 1 rfl _ rfl 117 (.tmp 2) (.tmp 15) rfl rfl rfl (fun μ a K => K.old 2 (.p 1 0) (List.Mem.tail _ (List.Mem.head _)) (by kernel_rfl)) (fun μ a K => by have h := K.op 15 8 (List.Mem.head _) rfl; exact h) i117 rfl
  intro new3 w3 hl3 hS3
  obtain rfl := RG.len0 hl3
  refine wp_ret ?_
  refine bodyPost_ret (v := (rv x y (1 : Fin P))) (RG.results_row hS3 2 117 rfl 1 _ rfl (by kernel_rfl) u117 i117) (by kernel_rfl) ?_
  exact ⟨_, rfl, hS3.bel.below, rfl⟩

def F74a_0i (x1 y1 z1 x2 y2 z2 : Fin P) : List RG.It := [⟨some 2, [], (.p 0 0), .make 0⟩,
  ⟨some 3, [], (.p 1 0), .make 1⟩,
  ⟨some 4, [], (.p 2 0), .make 2⟩]
def F74a_0b (x1 y1 z1 x2 y2 z2 : Fin P) : List RG.Bl := [⟨(ws x1 ++ (ws y1 ++ (ws z1))), (ws x1 ++ (ws y1 ++ (ws z1))), some 0, none⟩, ⟨(ws x2 ++ (ws y2 ++ (ws z2))), (ws x2 ++ (ws y2 ++ (ws z2))), some 1, none⟩, ⟨[.int .u64 0, .int .u64 0, .int .u64 0, .int .u64 0, .int .u64 0, .int .u64 0, .int .u64 0, .int .u64 0, .int .u64 0, .int .u64 0, .int .u64 0, .int .u64 0], [.int .u64 0, .int .u64 0, .int .u64 0, .int .u64 0, .int .u64 0, .int .u64 0, .int .u64 0, .int .u64 0, .int .u64 0, .int .u64 0, .int .u64 0, .int .u64 0], some 2, none⟩]
def F74a_0o (x1 y1 z1 x2 y2 z2 : Fin P) : List (Tmp × RG.SV) := [(0, (.v (rv x1 y1 z1))), (1, (.v (rv x2 y2 z2)))]
def F74a_1i (x1 y1 z1 x2 y2 z2 : Fin P) : List RG.It := [⟨some 18, [], (.v (rv x1 y1 z1)), .stay⟩,
  ⟨some 19, [(18, 0)], (.v (.bool true)), .call⟩]
def F74a_1b (x1 y1 z1 x2 y2 z2 : Fin P) : List RG.Bl := [⟨(ws x1 ++ (ws y1 ++ (ws z1))), (ws x1 ++ (ws y1 ++ (ws z1))), none, none⟩, ⟨(ws x2 ++ (ws y2 ++ (ws z2))), (ws x2 ++ (ws y2 ++ (ws z2))), none, none⟩, ⟨[.int .u64 0, .int .u64 0, .int .u64 0, .int .u64 0, .int .u64 0, .int .u64 0, .int .u64 0, .int .u64 0, .int .u64 0, .int .u64 0, .int .u64 0, .int .u64 0], [.int .u64 0, .int .u64 0, .int .u64 0, .int .u64 0, .int .u64 0, .int .u64 0, .int .u64 0, .int .u64 0, .int .u64 0, .int .u64 0, .int .u64 0, .int .u64 0], none, none⟩]
def F74a_1o (x1 y1 z1 x2 y2 z2 : Fin P) : List (Tmp × RG.SV) := [(2, (.p 0 0))]
def F74a_2i (x1 y1 z1 x2 y2 z2 : Fin P) : List RG.It := [⟨some 20, [], (.v (rv x2 y2 z2)), .stay⟩,
  ⟨none, [(20, 0)], (.v undef), .put 2⟩]
def F74a_2b (x1 y1 z1 x2 y2 z2 : Fin P) : List RG.Bl := [⟨(ws x1 ++ (ws y1 ++ (ws z1))), (ws x1 ++ (ws y1 ++ (ws z1))), none, none⟩, ⟨(ws x2 ++ (ws y2 ++ (ws z2))), (ws x2 ++ (ws y2 ++ (ws z2))), none, none⟩, ⟨[.int .u64 0, .int .u64 0, .int .u64 0, .int .u64 0, .int .u64 0, .int .u64 0, .int .u64 0, .int .u64 0, .int .u64 0, .int .u64 0, .int .u64 0, .int .u64 0], (ws x2 ++ (ws y2 ++ (ws z2))), none, some 1⟩]
def F74a_2o (x1 y1 z1 x2 y2 z2 : Fin P) : List (Tmp × RG.SV) := [(3, (.p 1 0)), (4, (.p 2 0))]
set_option maxHeartbeats 2000000 in
set_option maxRecDepth 100000 in
theorem plus_a_c (C : Fld P) (x1 y1 z1 x2 y2 z2 : Fin P)(hz1 : z1 = 0)  : Gives 74 #[(rv x1 y1 z1), (rv x2 y2 z2)] (rv x2 y2 z2) := by
  intro w
  have hfin : ((rv x2 y2 z2) : Value) = (rv x2 y2 z2) := by
    subst_vars; rfl
  rw [← hfin]
  go_enter Try.func74, Try.ntmps74
  have hS0 := RG.St.begin w
  repeat refine wp_seq ?_
  refine RG.region_text (its := F74a_0i x1 y1 z1 x2 y2 z2) (bl := F74a_0b x1 y1 z1 x2 y2 z2) (olds := F74a_0o x1 y1 z1 x2 y2 z2) hS0 (RG.Reg.mk' (by kernel_rfl) ⟨by kernel_rfl, by kernel_rfl, trivial⟩ ⟨?_, ?_, ?_, trivial⟩) (by kernel_rfl) (by kernel_rfl) (by kernel_rfl) ?_
  · exact RG.cert_box 0 rfl rfl _ rfl 117 0 rfl (rv x1 y1 z1) (fun μ a K => K.old 0 (.v (rv x1 y1 z1)) (List.Mem.head _) (by kernel_rfl)) (fun w => by kernel_rfl)
  · exact RG.cert_box 1 rfl rfl _ rfl 117 1 rfl (rv x2 y2 z2) (fun μ a K => K.old 1 (.v (rv x2 y2 z2)) (List.Mem.tail _ (List.Mem.head _)) (by kernel_rfl)) (fun w => by kernel_rfl)
  · exact RG.cert_alloc 2 rfl rfl _ rfl 117 rfl (fun w => by kernel_rfl)
  intro new1 w1 hl1 hS1
  obtain ⟨j1, i1, m1, rfl⟩ := RG.len3 hl1
  repeat refine wp_seq ?_
  refine RG.region_text (its := F74a_1i x1 y1 z1 x2 y2 z2) (bl := F74a_1b x1 y1 z1 x2 y2 z2) (olds := F74a_1o x1 y1 z1 x2 y2 z2) hS1 (RG.Reg.mk' (by kernel_rfl) ⟨by kernel_rfl, trivial⟩ ⟨?_, ?_, trivial⟩) (by kernel_rfl) (by kernel_rfl) (by kernel_rfl) ?_
  · exact RG.cert_load rfl 0 0 _ rfl rfl (by kernel_rfl) 117 2 rfl (ws x1 ++ (ws y1 ++ (ws z1))) rfl (fun μ a K => K.old 2 (.p 0 0) (List.Mem.head _) (by kernel_rfl)) (by kernel_rfl) u117 i117
  · exact RG.cert_call1 rfl 101 18 (rv x1 y1 z1) (.bool true) rfl (fun a w => by kernel_rfl) (fun μ a K => by have h := K.op 18 0 (List.Mem.head _) rfl; exact h) (nothing_t_c C x1 y1 z1 hz1)
  intro new2 w2 hl2 hS2
  obtain rfl := RG.len0 hl2
  repeat refine wp_seq ?_
  refine wp_cond_true (by kernel_rfl) ?_
  repeat refine wp_seq ?_
  refine RG.region_text (its := F74a_2i x1 y1 z1 x2 y2 z2) (bl := F74a_2b x1 y1 z1 x2 y2 z2) (olds := F74a_2o x1 y1 z1 x2 y2 z2) hS2 (RG.Reg.mk' (by kernel_rfl) ⟨by kernel_rfl, by kernel_rfl, trivial⟩ ⟨?_, ?_, trivial⟩) (by kernel_rfl) (by kernel_rfl) (by kernel_rfl) ?_
  · exact RG.cert_load rfl 1 0 _ rfl rfl (by kernel_rfl) 117 3 rfl (ws x2 ++ (ws y2 ++ (ws z2))) rfl (fun μ a K => K.old 3 (.p 1 0) (List.Mem.head _) (by kernel_rfl)) (by kernel_rfl) u117 i117
  · exact RG.cert_put 2 rfl _ rfl 117 (.tmp 4) (.tmp 20) rfl rfl rfl (fun μ a K => K.old 4 (.p 2 0) (List.Mem.tail _ (List.Mem.head _)) (by kernel_rfl)) (fun μ a K => by have h := K.op 20 0 (List.Mem.head _) rfl; exact h) i117 rfl
  intro new3 w3 hl3 hS3
  obtain rfl := RG.len0 hl3
  refine wp_ret ?_
  refine bodyPost_ret (v := (rv x2 y2 z2)) (RG.results_row hS3 4 117 rfl 2 _ rfl (by kernel_rfl) u117 i117) (by kernel_rfl) ?_
  exact ⟨_, rfl, hS3.bel.below, rfl⟩

def F74b_0i (x1 y1 z1 x2 y2 z2 : Fin P) : List RG.It := [⟨some 2, [], (.p 0 0), .make 0⟩,
  ⟨some 3, [], (.p 1 0), .make 1⟩,
  ⟨some 4, [], (.p 2 0), .make 2⟩]
def F74b_0b (x1 y1 z1 x2 y2 z2 : Fin P) : List RG.Bl := [⟨(ws x1 ++ (ws y1 ++ (ws z1))), (ws x1 ++ (ws y1 ++ (ws z1))), some 0, none⟩, ⟨(ws x2 ++ (ws y2 ++ (ws z2))), (ws x2 ++ (ws y2 ++ (ws z2))), some 1, none⟩, ⟨[.int .u64 0, .int .u64 0, .int .u64 0, .int .u64 0, .int .u64 0, .int .u64 0, .int .u64 0, .int .u64 0, .int .u64 0, .int .u64 0, .int .u64 0, .int .u64 0], [.int .u64 0, .int .u64 0, .int .u64 0, .int .u64 0, .int .u64 0, .int .u64 0, .int .u64 0, .int .u64 0, .int .u64 0, .int .u64 0, .int .u64 0, .int .u64 0], some 2, none⟩]
def F74b_0o (x1 y1 z1 x2 y2 z2 : Fin P) : List (Tmp × RG.SV) := [(0, (.v (rv x1 y1 z1))), (1, (.v (rv x2 y2 z2)))]
def F74b_1i (x1 y1 z1 x2 y2 z2 : Fin P) : List RG.It := [⟨some 18, [], (.v (rv x1 y1 z1)), .stay⟩,
  ⟨some 19, [(18, 0)], (.v (.bool false)), .call⟩]
def F74b_1b (x1 y1 z1 x2 y2 z2 : Fin P) : List RG.Bl := [⟨(ws x1 ++ (ws y1 ++ (ws z1))), (ws x1 ++ (ws y1 ++ (ws z1))), none, none⟩, ⟨(ws x2 ++ (ws y2 ++ (ws z2))), (ws x2 ++ (ws y2 ++ (ws z2))), none, none⟩, ⟨[.int .u64 0, .int .u64 0, .int .u64 0, .int .u64 0, .int .u64 0, .int .u64 0, .int .u64 0, .int .u64 0, .int .u64 0, .int .u64 0, .int .u64 0, .int .u64 0], [.int .u64 0, .int .u64 0, .int .u64 0, .int .u64 0, .int .u64 0, .int .u64 0, .int .u64 0, .int .u64 0, .int .u64 0, .int .u64 0, .int .u64 0, .int .u64 0], none, none⟩]
def F74b_1o (x1 y1 z1 x2 y2 z2 : Fin P) : List (Tmp × RG.SV) := [(2, (.p 0 0))]
def F74b_3i (x1 y1 z1 x2 y2 z2 : Fin P) : List RG.It := [⟨some 21, [], (.v (rv x2 y2 z2)), .stay⟩,
  ⟨some 22, [(21, 0)], (.v (.bool true)), .call⟩]
def F74b_3b (x1 y1 z1 x2 y2 z2 : Fin P) : List RG.Bl := [⟨(ws x1 ++ (ws y1 ++ (ws z1))), (ws x1 ++ (ws y1 ++ (ws z1))), none, none⟩, ⟨(ws x2 ++ (ws y2 ++ (ws z2))), (ws x2 ++ (ws y2 ++ (ws z2))), none, none⟩, ⟨[.int .u64 0, .int .u64 0, .int .u64 0, .int .u64 0, .int .u64 0, .int .u64 0, .int .u64 0, .int .u64 0, .int .u64 0, .int .u64 0, .int .u64 0, .int .u64 0], [.int .u64 0, .int .u64 0, .int .u64 0, .int .u64 0, .int .u64 0, .int .u64 0, .int .u64 0, .int .u64 0, .int .u64 0, .int .u64 0, .int .u64 0, .int .u64 0], none, none⟩]
def F74b_3o (x1 y1 z1 x2 y2 z2 : Fin P) : List (Tmp × RG.SV) := [(3, (.p 1 0))]
def F74b_4i (x1 y1 z1 x2 y2 z2 : Fin P) : List RG.It := [⟨some 23, [], (.v (rv x1 y1 z1)), .stay⟩,
  ⟨none, [(23, 0)], (.v undef), .put 2⟩]
def F74b_4b (x1 y1 z1 x2 y2 z2 : Fin P) : List RG.Bl := [⟨(ws x1 ++ (ws y1 ++ (ws z1))), (ws x1 ++ (ws y1 ++ (ws z1))), none, none⟩, ⟨(ws x2 ++ (ws y2 ++ (ws z2))), (ws x2 ++ (ws y2 ++ (ws z2))), none, none⟩, ⟨[.int .u64 0, .int .u64 0, .int .u64 0, .int .u64 0, .int .u64 0, .int .u64 0, .int .u64 0, .int .u64 0, .int .u64 0, .int .u64 0, .int .u64 0, .int .u64 0], (ws x1 ++ (ws y1 ++ (ws z1))), none, some 1⟩]
def F74b_4o (x1 y1 z1 x2 y2 z2 : Fin P) : List (Tmp × RG.SV) := [(2, (.p 0 0)), (4, (.p 2 0))]
set_option maxHeartbeats 2000000 in
set_option maxRecDepth 100000 in
theorem plus_b_c (C : Fld P) (x1 y1 z1 x2 y2 z2 : Fin P)(hz1 : ¬ z1 = 0) (hz2 : z2 = 0)  : Gives 74 #[(rv x1 y1 z1), (rv x2 y2 z2)] (rv x1 y1 z1) := by
  intro w
  have hfin : ((rv x1 y1 z1) : Value) = (rv x1 y1 z1) := by
    subst_vars; rfl
  rw [← hfin]
  go_enter Try.func74, Try.ntmps74
  have hS0 := RG.St.begin w
  repeat refine wp_seq ?_
  refine RG.region_text (its := F74b_0i x1 y1 z1 x2 y2 z2) (bl := F74b_0b x1 y1 z1 x2 y2 z2) (olds := F74b_0o x1 y1 z1 x2 y2 z2) hS0 (RG.Reg.mk' (by kernel_rfl) ⟨by kernel_rfl, by kernel_rfl, trivial⟩ ⟨?_, ?_, ?_, trivial⟩) (by kernel_rfl) (by kernel_rfl) (by kernel_rfl) ?_
  · exact RG.cert_box 0 rfl rfl _ rfl 117 0 rfl (rv x1 y1 z1) (fun μ a K => K.old 0 (.v (rv x1 y1 z1)) (List.Mem.head _) (by kernel_rfl)) (fun w => by kernel_rfl)
  · exact RG.cert_box 1 rfl rfl _ rfl 117 1 rfl (rv x2 y2 z2) (fun μ a K => K.old 1 (.v (rv x2 y2 z2)) (List.Mem.tail _ (List.Mem.head _)) (by kernel_rfl)) (fun w => by kernel_rfl)
  · exact RG.cert_alloc 2 rfl rfl _ rfl 117 rfl (fun w => by kernel_rfl)
  intro new1 w1 hl1 hS1
  obtain ⟨j1, i1, m1, rfl⟩ := RG.len3 hl1
  repeat refine wp_seq ?_
  refine RG.region_text (its := F74b_1i x1 y1 z1 x2 y2 z2) (bl := F74b_1b x1 y1 z1 x2 y2 z2) (olds := F74b_1o x1 y1 z1 x2 y2 z2) hS1 (RG.Reg.mk' (by kernel_rfl) ⟨by kernel_rfl, trivial⟩ ⟨?_, ?_, trivial⟩) (by kernel_rfl) (by kernel_rfl) (by kernel_rfl) ?_
  · exact RG.cert_load rfl 0 0 _ rfl rfl (by kernel_rfl) 117 2 rfl (ws x1 ++ (ws y1 ++ (ws z1))) rfl (fun μ a K => K.old 2 (.p 0 0) (List.Mem.head _) (by kernel_rfl)) (by kernel_rfl) u117 i117
  · exact RG.cert_call1 rfl 101 18 (rv x1 y1 z1) (.bool false) rfl (fun a w => by kernel_rfl) (fun μ a K => by have h := K.op 18 0 (List.Mem.head _) rfl; exact h) (nothing_f_c C x1 y1 z1 hz1)
  intro new2 w2 hl2 hS2
  obtain rfl := RG.len0 hl2
  repeat refine wp_seq ?_
  refine wp_cond_false (by kernel_rfl) ?_
  refine wp_skip ?_
  repeat refine wp_seq ?_
  refine RG.region_text (its := F74b_3i x1 y1 z1 x2 y2 z2) (bl := F74b_3b x1 y1 z1 x2 y2 z2) (olds := F74b_3o x1 y1 z1 x2 y2 z2) hS2 (RG.Reg.mk' (by kernel_rfl) ⟨by kernel_rfl, trivial⟩ ⟨?_, ?_, trivial⟩) (by kernel_rfl) (by kernel_rfl) (by kernel_rfl) ?_
  · exact RG.cert_load rfl 1 0 _ rfl rfl (by kernel_rfl) 117 3 rfl (ws x2 ++ (ws y2 ++ (ws z2))) rfl (fun μ a K => K.old 3 (.p 1 0) (List.Mem.head _) (by kernel_rfl)) (by kernel_rfl) u117 i117
  · exact RG.cert_call1 rfl 101 21 (rv x2 y2 z2) (.bool true) rfl (fun a w => by kernel_rfl) (fun μ a K => by have h := K.op 21 0 (List.Mem.head _) rfl; exact h) (nothing_t_c C x2 y2 z2 hz2)
  intro new3 w3 hl3 hS3
  obtain rfl := RG.len0 hl3
  repeat refine wp_seq ?_
  refine wp_cond_true (by kernel_rfl) ?_
  repeat refine wp_seq ?_
  refine RG.region_text (its := F74b_4i x1 y1 z1 x2 y2 z2) (bl := F74b_4b x1 y1 z1 x2 y2 z2) (olds := F74b_4o x1 y1 z1 x2 y2 z2) hS3 (RG.Reg.mk' (by kernel_rfl) ⟨by kernel_rfl, by kernel_rfl, trivial⟩ ⟨?_, ?_, trivial⟩) (by kernel_rfl) (by kernel_rfl) (by kernel_rfl) ?_
  · exact RG.cert_load rfl 0 0 _ rfl rfl (by kernel_rfl) 117 2 rfl (ws x1 ++ (ws y1 ++ (ws z1))) rfl (fun μ a K => K.old 2 (.p 0 0) (List.Mem.head _) (by kernel_rfl)) (by kernel_rfl) u117 i117
  · exact RG.cert_put 2 rfl _ rfl 117 (.tmp 4) (.tmp 23) rfl rfl rfl (fun μ a K => K.old 4 (.p 2 0) (List.Mem.tail _ (List.Mem.head _)) (by kernel_rfl)) (fun μ a K => by have h := K.op 23 0 (List.Mem.head _) rfl; exact h) i117 rfl
  intro new4 w4 hl4 hS4
  obtain rfl := RG.len0 hl4
  refine wp_ret ?_
  refine bodyPost_ret (v := (rv x1 y1 z1)) (RG.results_row hS4 4 117 rfl 2 _ rfl (by kernel_rfl) u117 i117) (by kernel_rfl) ?_
  exact ⟨_, rfl, hS4.bel.below, rfl⟩

def F74c_0i (x1 y1 z1 x2 y2 z2 c1 c2 c3 c4 c5 c6 c7 c8 c9 c10 c11 : Fin P) : List RG.It := [⟨some 2, [], (.p 0 0), .make 0⟩,
  ⟨some 3, [], (.p 1 0), .make 1⟩,
  ⟨some 4, [], (.p 2 0), .make 2⟩]
def F74c_0b (x1 y1 z1 x2 y2 z2 c1 c2 c3 c4 c5 c6 c7 c8 c9 c10 c11 : Fin P) : List RG.Bl := [⟨(ws x1 ++ (ws y1 ++ (ws z1))), (ws x1 ++ (ws y1 ++ (ws z1))), some 0, none⟩, ⟨(ws x2 ++ (ws y2 ++ (ws z2))), (ws x2 ++ (ws y2 ++ (ws z2))), some 1, none⟩, ⟨[.int .u64 0, .int .u64 0, .int .u64 0, .int .u64 0, .int .u64 0, .int .u64 0, .int .u64 0, .int .u64 0, .int .u64 0, .int .u64 0, .int .u64 0, .int .u64 0], [.int .u64 0, .int .u64 0, .int .u64 0, .int .u64 0, .int .u64 0, .int .u64 0, .int .u64 0, .int .u64 0, .int .u64 0, .int .u64 0, .int .u64 0, .int .u64 0], some 2, none⟩]
def F74c_0o (x1 y1 z1 x2 y2 z2 c1 c2 c3 c4 c5 c6 c7 c8 c9 c10 c11 : Fin P) : List (Tmp × RG.SV) := [(0, (.v (rv x1 y1 z1))), (1, (.v (rv x2 y2 z2)))]
def F74c_1i (x1 y1 z1 x2 y2 z2 c1 c2 c3 c4 c5 c6 c7 c8 c9 c10 c11 : Fin P) : List RG.It := [⟨some 18, [], (.v (rv x1 y1 z1)), .stay⟩,
  ⟨some 19, [(18, 0)], (.v (.bool false)), .call⟩]
def F74c_1b (x1 y1 z1 x2 y2 z2 c1 c2 c3 c4 c5 c6 c7 c8 c9 c10 c11 : Fin P) : List RG.Bl := [⟨(ws x1 ++ (ws y1 ++ (ws z1))), (ws x1 ++ (ws y1 ++ (ws z1))), none, none⟩, ⟨(ws x2 ++ (ws y2 ++ (ws z2))), (ws x2 ++ (ws y2 ++ (ws z2))), none, none⟩, ⟨[.int .u64 0, .int .u64 0, .int .u64 0, .int .u64 0, .int .u64 0, .int .u64 0, .int .u64 0, .int .u64 0, .int .u64 0, .int .u64 0, .int .u64 0, .int .u64 0], [.int .u64 0, .int .u64 0, .int .u64 0, .int .u64 0, .int .u64 0, .int .u64 0, .int .u64 0, .int .u64 0, .int .u64 0, .int .u64 0, .int .u64 0, .int .u64 0], none, none⟩]
def F74c_1o (x1 y1 z1 x2 y2 z2 c1 c2 c3 c4 c5 c6 c7 c8 c9 c10 c11 : Fin P) : List (Tmp × RG.SV) := [(2, (.p 0 0))]
def F74c_3i (x1 y1 z1 x2 y2 z2 c1 c2 c3 c4 c5 c6 c7 c8 c9 c10 c11 : Fin P) : List RG.It := [⟨some 21, [], (.v (rv x2 y2 z2)), .stay⟩,
  ⟨some 22, [(21, 0)], (.v (.bool false)), .call⟩]
def F74c_3b (x1 y1 z1 x2 y2 z2 c1 c2 c3 c4 c5 c6 c7 c8 c9 c10 c11 : Fin P) : List RG.Bl := [⟨(ws x1 ++ (ws y1 ++ (ws z1))), (ws x1 ++ (ws y1 ++ (ws z1))), none, none⟩, ⟨(ws x2 ++ (ws y2 ++ (ws z2))), (ws x2 ++ (ws y2 ++ (ws z2))), none, none⟩, ⟨[.int .u64 0, .int .u64 0, .int .u64 0, .int .u64 0, .int .u64 0, .int .u64 0, .int .u64 0, .int .u64 0, .int .u64 0, .int .u64 0, .int .u64 0, .int .u64 0], [.int .u64 0, .int .u64 0, .int .u64 0, .int .u64 0, .int .u64 0, .int .u64 0, .int .u64 0, .int .u64 0, .int .u64 0, .int .u64 0, .int .u64 0, .int .u64 0], none, none⟩]
def F74c_3o (x1 y1 z1 x2 y2 z2 c1 c2 c3 c4 c5 c6 c7 c8 c9 c10 c11 : Fin P) : List (Tmp × RG.SV) := [(3, (.p 1 0))]
def F74c_5i (x1 y1 z1 x2 y2 z2 c1 c2 c3 c4 c5 c6 c7 c8 c9 c10 c11 : Fin P) : List RG.It := [⟨some 24, [], (.p 0 8), .stay⟩,
  ⟨some 25, [(24, 0)], (.v (fv z1)), .stay⟩,
  ⟨some 26, [], (.p 0 8), .stay⟩,
  ⟨some 27, [(26, 2)], (.v (fv z1)), .stay⟩,
  ⟨some 28, [(25, 1), (27, 3)], (.v (fv c1)), .call⟩,
  ⟨some 29, [], (.p 1 8), .stay⟩,
  ⟨some 30, [(29, 5)], (.v (fv z2)), .stay⟩,
  ⟨some 31, [], (.p 1 8), .stay⟩,
  ⟨some 32, [(31, 7)], (.v (fv z2)), .stay⟩,
  ⟨some 33, [(30, 6), (32, 8)], (.v (fv c2)), .call⟩,
  ⟨some 5, [], (.p 3 0), .make 3⟩,
  ⟨some 6, [], (.p 4 0), .make 4⟩,
  ⟨none, [(5, 10), (28, 4)], (.v undef), .put 3⟩,
  ⟨none, [(6, 11), (33, 9)], (.v undef), .put 4⟩]
def F74c_5b (x1 y1 z1 x2 y2 z2 c1 c2 c3 c4 c5 c6 c7 c8 c9 c10 c11 : Fin P) : List RG.Bl := [⟨(ws x1 ++ (ws y1 ++ (ws z1))), (ws x1 ++ (ws y1 ++ (ws z1))), none, none⟩, ⟨(ws x2 ++ (ws y2 ++ (ws z2))), (ws x2 ++ (ws y2 ++ (ws z2))), none, none⟩, ⟨[.int .u64 0, .int .u64 0, .int .u64 0, .int .u64 0, .int .u64 0, .int .u64 0, .int .u64 0, .int .u64 0, .int .u64 0, .int .u64 0, .int .u64 0, .int .u64 0], [.int .u64 0, .int .u64 0, .int .u64 0, .int .u64 0, .int .u64 0, .int .u64 0, .int .u64 0, .int .u64 0, .int .u64 0, .int .u64 0, .int .u64 0, .int .u64 0], none, none⟩, ⟨[.int .u64 0, .int .u64 0, .int .u64 0, .int .u64 0], (ws c1), some 10, some 12⟩, ⟨[.int .u64 0, .int .u64 0, .int .u64 0, .int .u64 0], (ws c2), some 11, some 13⟩]
def F74c_5o (x1 y1 z1 x2 y2 z2 c1 c2 c3 c4 c5 c6 c7 c8 c9 c10 c11 : Fin P) : List (Tmp × RG.SV) := [(2, (.p 0 0)), (3, (.p 1 0))]
def F74c_6i (x1 y1 z1 x2 y2 z2 c1 c2 c3 c4 c5 c6 c7 c8 c9 c10 c11 : Fin P) : List RG.It := [⟨some 34, [], (.p 0 0), .stay⟩,
  ⟨some 35, [(34, 0)], (.v (fv x1)), .stay⟩,
  ⟨some 36, [], (.v (fv c2)), .stay⟩,
  ⟨some 37, [(35, 1), (36, 2)], (.v (fv c3)), .call⟩,
  ⟨some 38, [], (.p 1 0), .stay⟩,
  ⟨some 39, [(38, 4)], (.v (fv x2)), .stay⟩,
  ⟨some 40, [], (.v (fv c1)), .stay⟩,
  ⟨some 41, [(39, 5), (40, 6)], (.v (fv c4)), .call⟩,
  ⟨some 7, [], (.p 5 0), .make 5⟩,
  ⟨some 8, [], (.p 6 0), .make 6⟩,
  ⟨none, [(7, 8), (37, 3)], (.v undef), .put 5⟩,
  ⟨none, [(8, 9), (41, 7)], (.v undef), .put 6⟩]
def F74c_6b (x1 y1 z1 x2 y2 z2 c1 c2 c3 c4 c5 c6 c7 c8 c9 c10 c11 : Fin P) : List RG.Bl := [⟨(ws x1 ++ (ws y1 ++ (ws z1))), (ws x1 ++ (ws y1 ++ (ws z1))), none, none⟩, ⟨(ws x2 ++ (ws y2 ++ (ws z2))), (ws x2 ++ (ws y2 ++ (ws z2))), none, none⟩, ⟨[.int .u64 0, .int .u64 0, .int .u64 0, .int .u64 0, .int .u64 0, .int .u64 0, .int .u64 0, .int .u64 0, .int .u64 0, .int .u64 0, .int .u64 0, .int .u64 0], [.int .u64 0, .int .u64 0, .int .u64 0, .int .u64 0, .int .u64 0, .int .u64 0, .int .u64 0, .int .u64 0, .int .u64 0, .int .u64 0, .int .u64 0, .int .u64 0], none, none⟩, ⟨(ws c1), (ws c1), none, none⟩, ⟨(ws c2), (ws c2), none, none⟩, ⟨[.int .u64 0, .int .u64 0, .int .u64 0, .int .u64 0], (ws c3), some 8, some 10⟩, ⟨[.int .u64 0, .int .u64 0, .int .u64 0, .int .u64 0], (ws c4), some 9, some 11⟩]
def F74c_6o (x1 y1 z1 x2 y2 z2 c1 c2 c3 c4 c5 c6 c7 c8 c9 c10 c11 : Fin P) : List (Tmp × RG.SV) := [(2, (.p 0 0)), (6, (.p 4 0)), (3, (.p 1 0)), (5, (.p 3 0))]
def F74c_7i (x1 y1 z1 x2 y2 z2 c1 c2 c3 c4 c5 c6 c7 c8 c9 c10 c11 : Fin P) : List RG.It := [⟨some 42, [], (.p 0 4), .stay⟩,
  ⟨some 43, [(42, 0)], (.v (fv y1)), .stay⟩,
  ⟨some 44, [], (.v (fv c2)), .stay⟩,
  ⟨some 45, [(43, 1), (44, 2)], (.v (fv c5)), .call⟩,
  ⟨some 46, [], (.p 1 8), .stay⟩,
  ⟨some 47, [(46, 4)], (.v (fv z2)), .stay⟩,
  ⟨some 48, [(45, 3), (47, 5)], (.v (fv c6)), .call⟩,
  ⟨some 49, [], (.p 1 4), .stay⟩,
  ⟨some 50, [(49, 7)], (.v (fv y2)), .stay⟩,
  ⟨some 51, [], (.v (fv c1)), .stay⟩,
  ⟨some 52, [(50, 8), (51, 9)], (.v (fv c7)), .call⟩,
  ⟨some 53, [], (.p 0 8), .stay⟩,
  ⟨some 54, [(53, 11)], (.v (fv z1)), .stay⟩,
  ⟨some 55, [(52, 10), (54, 12)], (.v (fv c8)), .call⟩,
  ⟨some 9, [], (.p 7 0), .make 7⟩,
  ⟨some 10, [], (.p 8 0), .make 8⟩,
  ⟨none, [(9, 14), (48, 6)], (.v undef), .put 7⟩,
  ⟨none, [(10, 15), (55, 13)], (.v undef), .put 8⟩]
def F74c_7b (x1 y1 z1 x2 y2 z2 c1 c2 c3 c4 c5 c6 c7 c8 c9 c10 c11 : Fin P) : List RG.Bl := [⟨(ws x1 ++ (ws y1 ++ (ws z1))), (ws x1 ++ (ws y1 ++ (ws z1))), none, none⟩, ⟨(ws x2 ++ (ws y2 ++ (ws z2))), (ws x2 ++ (ws y2 ++ (ws z2))), none, none⟩, ⟨[.int .u64 0, .int .u64 0, .int .u64 0, .int .u64 0, .int .u64 0, .int .u64 0, .int .u64 0, .int .u64 0, .int .u64 0, .int .u64 0, .int .u64 0, .int .u64 0], [.int .u64 0, .int .u64 0, .int .u64 0, .int .u64 0, .int .u64 0, .int .u64 0, .int .u64 0, .int .u64 0, .int .u64 0, .int .u64 0, .int .u64 0, .int .u64 0], none, none⟩, ⟨(ws c1), (ws c1), none, none⟩, ⟨(ws c2), (ws c2), none, none⟩, ⟨(ws c3), (ws c3), none, none⟩, ⟨(ws c4), (ws c4), none, none⟩, ⟨[.int .u64 0, .int .u64 0, .int .u64 0, .int .u64 0], (ws c6), some 14, some 16⟩, ⟨[.int .u64 0, .int .u64 0, .int .u64 0, .int .u64 0], (ws c8), some 15, some 17⟩]
def F74c_7o (x1 y1 z1 x2 y2 z2 c1 c2 c3 c4 c5 c6 c7 c8 c9 c10 c11 : Fin P) : List (Tmp × RG.SV) := [(2, (.p 0 0)), (6, (.p 4 0)), (3, (.p 1 0)), (5, (.p 3 0))]
def F74c_8i (x1 y1 z1 x2 y2 z2 c1 c2 c3 c4 c5 c6 c7 c8 c9 c10 c11 : Fin P) : List RG.It := [⟨some 56, [], (.v (fv c3)), .stay⟩,
  ⟨some 57, [], (.v (fv c4)), .stay⟩,
  ⟨some 58, [(56, 0), (57, 1)], (.v (.bool true)), .stay⟩,
  ⟨some 59, [(58, 2)], (.v (.bool true)), .stay⟩,
  ⟨some 60, [], (.v (fv c6)), .stay⟩,
  ⟨some 61, [], (.v (fv c8)), .stay⟩,
  ⟨some 62, [(60, 4), (61, 5)], (.v (.bool true)), .stay⟩,
  ⟨some 63, [(59, 3), (62, 6)], (.v (.bool true)), .stay⟩]
def F74c_8b (x1 y1 z1 x2 y2 z2 c1 c2 c3 c4 c5 c6 c7 c8 c9 c10 c11 : Fin P) : List RG.Bl := [⟨(ws x1 ++ (ws y1 ++ (ws z1))), (ws x1 ++ (ws y1 ++ (ws z1))), none, none⟩, ⟨(ws x2 ++ (ws y2 ++ (ws z2))), (ws x2 ++ (ws y2 ++ (ws z2))), none, none⟩, ⟨[.int .u64 0, .int .u64 0, .int .u64 0, .int .u64 0, .int .u64 0, .int .u64 0, .int .u64 0, .int .u64 0, .int .u64 0, .int .u64 0, .int .u64 0, .int .u64 0], [.int .u64 0, .int .u64 0, .int .u64 0, .int .u64 0, .int .u64 0, .int .u64 0, .int .u64 0, .int .u64 0, .int .u64 0, .int .u64 0, .int .u64 0, .int .u64 0], none, none⟩, ⟨(ws c1), (ws c1), none, none⟩, ⟨(ws c2), (ws c2), none, none⟩, ⟨(ws c3), (ws c3), none, none⟩, ⟨(ws c4), (ws c4), none, none⟩, ⟨(ws c6), (ws c6), none, none⟩, ⟨(ws c8), (ws c8), none, none⟩]
def F74c_8o (x1 y1 z1 x2 y2 z2 c1 c2 c3 c4 c5 c6 c7 c8 c9 c10 c11 : Fin P) : List (Tmp × RG.SV) := [(7, (.p 5 0)), (8, (.p 6 0)), (9, (.p 7 0)), (10, (.p 8 0))]
def F74c_9i (x1 y1 z1 x2 y2 z2 c1 c2 c3 c4 c5 c6 c7 c8 c9 c10 c11 : Fin P) : List RG.It := [⟨some 64, [], (.v (rv x1 y1 z1)), .stay⟩,
  ⟨some 65, [(64, 0)], (.v (rv c9 c10 c11)), .call⟩,
  ⟨none, [(65, 1)], (.v undef), .put 2⟩]
def F74c_9b (x1 y1 z1 x2 y2 z2 c1 c2 c3 c4 c5 c6 c7 c8 c9 c10 c11 : Fin P) : List RG.Bl := [⟨(ws x1 ++ (ws y1 ++ (ws z1))), (ws x1 ++ (ws y1 ++ (ws z1))), none, none⟩, ⟨(ws x2 ++ (ws y2 ++ (ws z2))), (ws x2 ++ (ws y2 ++ (ws z2))), none, none⟩, ⟨[.int .u64 0, .int .u64 0, .int .u64 0, .int .u64 0, .int .u64 0, .int .u64 0, .int .u64 0, .int .u64 0, .int .u64 0, .int .u64 0, .int .u64 0, .int .u64 0], (ws c9 ++ (ws c10 ++ (ws c11))), none, some 2⟩, ⟨(ws c1), (ws c1), none, none⟩, ⟨(ws c2), (ws c2), none, none⟩, ⟨(ws c3), (ws c3), none, none⟩, ⟨(ws c4), (ws c4), none, none⟩, ⟨(ws c6), (ws c6), none, none⟩, ⟨(ws c8), (ws c8), none, none⟩]
def F74c_9o (x1 y1 z1 x2 y2 z2 c1 c2 c3 c4 c5 c6 c7 c8 c9 c10 c11 : Fin P) : List (Tmp × RG.SV) := [(2, (.p 0 0)), (4, (.p 2 0))]
set_option maxHeartbeats 2000000 in
set_option maxRecDepth 100000 in
theorem plus_c_c (C : Fld P) (x1 y1 z1 x2 y2 z2 : Fin P)(hz1 : ¬ z1 = 0) (hz2 : ¬ z2 = 0) (hx : EC.plAx x1 z2 = EC.plAx x2 z1) (hy : EC.plAy y1 z2 = EC.plAy y2 z1)  : Gives 74 #[(rv x1 y1 z1), (rv x2 y2 z2)] (rv (EC.twX x1 y1) (EC.twY x1 y1) (EC.twZ y1 z1)) := by
  intro w
  obtain ⟨c1, hc1⟩ : ∃ c, c = z1 * z1 := ⟨_, rfl⟩
  obtain ⟨c2, hc2⟩ : ∃ c, c = z2 * z2 := ⟨_, rfl⟩
  obtain ⟨c3, hc3⟩ : ∃ c, c = x1 * c2 := ⟨_, rfl⟩
  obtain ⟨c4, hc4⟩ : ∃ c, c = x2 * c1 := ⟨_, rfl⟩
  obtain ⟨c5, hc5⟩ : ∃ c, c = y1 * c2 := ⟨_, rfl⟩
  obtain ⟨c6, hc6⟩ : ∃ c, c = c5 * z2 := ⟨_, rfl⟩
  obtain ⟨c7, hc7⟩ : ∃ c, c = y2 * c1 := ⟨_, rfl⟩
  obtain ⟨c8, hc8⟩ : ∃ c, c = c7 * z1 := ⟨_, rfl⟩
  obtain ⟨c9, hc9⟩ : ∃ c, c = EC.twX x1 y1 := ⟨_, rfl⟩
  obtain ⟨c10, hc10⟩ : ∃ c, c = EC.twY x1 y1 := ⟨_, rfl⟩
  obtain ⟨c11, hc11⟩ : ∃ c, c = EC.twZ y1 z1 := ⟨_, rfl⟩
  have hfin : ((rv c9 c10 c11) : Value) = (rv (EC.twX x1 y1) (EC.twY x1 y1) (EC.twZ y1 z1)) := by
    subst_vars; rfl
  rw [← hfin]
  go_enter Try.func74, Try.ntmps74
  have hS0 := RG.St.begin w
  repeat refine wp_seq ?_
  refine RG.region_text (its := F74c_0i x1 y1 z1 x2 y2 z2 c1 c2 c3 c4 c5 c6 c7 c8 c9 c10 c11) (bl := F74c_0b x1 y1 z1 x2 y2 z2 c1 c2 c3 c4 c5 c6 c7 c8 c9 c10 c11) (olds := F74c_0o x1 y1 z1 x2 y2 z2 c1 c2 c3 c4 c5 c6 c7 c8 c9 c10 c11) hS0 (RG.Reg.mk' (by kernel_rfl) ⟨by kernel_rfl, by kernel_rfl, trivial⟩ ⟨?_, ?_, ?_, trivial⟩) (by kernel_rfl) (by kernel_rfl) (by kernel_rfl) ?_
  · exact RG.cert_box 0 rfl rfl _ rfl 117 0 rfl (rv x1 y1 z1) (fun μ a K => K.old 0 (.v (rv x1 y1 z1)) (List.Mem.head _) (by kernel_rfl)) (fun w => by kernel_rfl)
  · exact RG.cert_box 1 rfl rfl _ rfl 117 1 rfl (rv x2 y2 z2) (fun μ a K => K.old 1 (.v (rv x2 y2 z2)) (List.Mem.tail _ (List.Mem.head _)) (by kernel_rfl)) (fun w => by kernel_rfl)
  · exact RG.cert_alloc 2 rfl rfl _ rfl 117 rfl (fun w => by kernel_rfl)
  intro new1 w1 hl1 hS1
  obtain ⟨j1, i1, m1, rfl⟩ := RG.len3 hl1
  repeat refine wp_seq ?_
  refine RG.region_text (its := F74c_1i x1 y1 z1 x2 y2 z2 c1 c2 c3 c4 c5 c6 c7 c8 c9 c10 c11) (bl := F74c_1b x1 y1 z1 x2 y2 z2 c1 c2 c3 c4 c5 c6 c7 c8 c9 c10 c11) (olds := F74c_1o x1 y1 z1 x2 y2 z2 c1 c2 c3 c4 c5 c6 c7 c8 c9 c10 c11) hS1 (RG.Reg.mk' (by kernel_rfl) ⟨by kernel_rfl, trivial⟩ ⟨?_, ?_, trivial⟩) (by kernel_rfl) (by kernel_rfl) (by kernel_rfl) ?_
  · exact RG.cert_load rfl 0 0 _ rfl rfl (by kernel_rfl) 117 2 rfl (ws x1 ++ (ws y1 ++ (ws z1))) rfl (fun μ a K => K.old 2 (.p 0 0) (List.Mem.head _) (by kernel_rfl)) (by kernel_rfl) u117 i117
  · exact RG.cert_call1 rfl 101 18 (rv x1 y1 z1) (.bool false) rfl (fun a w => by kernel_rfl) (fun μ a K => by have h := K.op 18 0 (List.Mem.head _) rfl; exact h) (nothing_f_c C x1 y1 z1 hz1)
  intro new2 w2 hl2 hS2
  obtain rfl := RG.len0 hl2
  repeat refine wp_seq ?_
  refine wp_cond_false (by kernel_rfl) ?_
  refine wp_skip ?_
  repeat refine wp_seq ?_
  refine RG.region_text (its := F74c_3i x1 y1 z1 x2 y2 z2 c1 c2 c3 c4 c5 c6 c7 c8 c9 c10 c11) (bl := F74c_3b x1 y1 z1 x2 y2 z2 c1 c2 c3 c4 c5 c6 c7 c8 c9 c10 c11) (olds := F74c_3o x1 y1 z1 x2 y2 z2 c1 c2 c3 c4 c5 c6 c7 c8 c9 c10 c11) hS2 (RG.Reg.mk' (by kernel_rfl) ⟨by kernel_rfl, trivial⟩ ⟨?_, ?_, trivial⟩) (by kernel_rfl) (by kernel_rfl) (by kernel_rfl) ?_
  · exact RG.cert_load rfl 1 0 _ rfl rfl (by kernel_rfl) 117 3 rfl (ws x2 ++ (ws y2 ++ (ws z2))) rfl (fun μ a K => K.old 3 (.p 1 0) (List.Mem.head _) (by kernel_rfl)) (by kernel_rfl) u117 i117
  · exact RG.cert_call1 rfl 101 21 (rv x2 y2 z2) (.bool false) rfl (fun a w => by kernel_rfl) (fun μ a K => by have h := K.op 21 0 (List.Mem.head _) rfl; exact h) (nothing_f_c C x2 y2 z2 hz2)
  intro new3 w3 hl3 hS3
  obtain rfl := RG.len0 hl3
  repeat refine wp_seq ?_
  refine wp_cond_false (by kernel_rfl) ?_
  refine wp_skip ?_
  repeat refine wp_seq ?_
  refine RG.region_draws (by kernel_rfl) (its := F74c_5i x1 y1 z1 x2 y2 z2 c1 c2 c3 c4 c5 c6 c7 c8 c9 c10 c11) (bl := F74c_5b x1 y1 z1 x2 y2 z2 c1 c2 c3 c4 c5 c6 c7 c8 c9 c10 c11) (olds := F74c_5o x1 y1 z1 x2 y2 z2 c1 c2 c3 c4 c5 c6 c7 c8 c9 c10 c11) hS3 (RG.Reg.mk' (by kernel_rfl) ⟨by kernel_rfl, by kernel_rfl, trivial⟩ ⟨?_, ?_, ?_, ?_, ?_, ?_, ?_, ?_, ?_, ?_, ?_, ?_, ?_, ?_, trivial⟩) (by kernel_rfl) (by kernel_rfl) (by kernel_rfl) ?_
  · exact RG.cert_field rfl 117 2 2 rfl 0 0 8 rfl (fun μ a K => K.old 2 (.p 0 0) (List.Mem.head _) (by kernel_rfl)) (fun k w => by kernel_rfl)
  · exact RG.cert_load rfl 0 8 _ rfl rfl (by kernel_rfl) 115 24 rfl (ws z1) rfl (fun μ a K => by have h := K.op 24 0 (List.Mem.head _) rfl; exact h) (by kernel_rfl) u115 i115
  · exact RG.cert_field rfl 117 2 2 rfl 0 0 8 rfl (fun μ a K => K.old 2 (.p 0 0) (List.Mem.head _) (by kernel_rfl)) (fun k w => by kernel_rfl)
  · exact RG.cert_load rfl 0 8 _ rfl rfl (by kernel_rfl) 115 26 rfl (ws z1) rfl (fun μ a K => by have h := K.op 26 2 (List.Mem.head _) rfl; exact h) (by kernel_rfl) u115 i115
  · exact RG.cert_call2 rfl 102 25 27 (fv z1) (fv z1) (fv c1) rfl (fun a w => by kernel_rfl) (fun μ a K => by have h := K.op 25 1 (List.Mem.head _) rfl; exact h) (fun μ a K => by have h := K.op 27 3 (List.Mem.tail _ (List.Mem.head _)) rfl; exact h) (hc1 ▸ CTimes_c C z1 z1)
  · exact RG.cert_field rfl 117 3 2 rfl 1 0 8 rfl (fun μ a K => K.old 3 (.p 1 0) (List.Mem.tail _ (List.Mem.head _)) (by kernel_rfl)) (fun k w => by kernel_rfl)
  · exact RG.cert_load rfl 1 8 _ rfl rfl (by kernel_rfl) 115 29 rfl (ws z2) rfl (fun μ a K => by have h := K.op 29 5 (List.Mem.head _) rfl; exact h) (by kernel_rfl) u115 i115
  · exact RG.cert_field rfl 117 3 2 rfl 1 0 8 rfl (fun μ a K => K.old 3 (.p 1 0) (List.Mem.tail _ (List.Mem.head _)) (by kernel_rfl)) (fun k w => by kernel_rfl)
  · exact RG.cert_load rfl 1 8 _ rfl rfl (by kernel_rfl) 115 31 rfl (ws z2) rfl (fun μ a K => by have h := K.op 31 7 (List.Mem.head _) rfl; exact h) (by kernel_rfl) u115 i115
  · exact RG.cert_call2 rfl 102 30 32 (fv z2) (fv z2) (fv c2) rfl (fun a w => by kernel_rfl) (fun μ a K => by have h := K.op 30 6 (List.Mem.head _) rfl; exact h) (fun μ a K => by have h := K.op 32 8 (List.Mem.tail _ (List.Mem.head _)) rfl; exact h) (hc2 ▸ CTimes_c C z2 z2)
  · exact RG.cert_alloc 3 rfl rfl _ rfl 115 rfl (fun w => by kernel_rfl)
  · exact RG.cert_alloc 4 rfl rfl _ rfl 115 rfl (fun w => by kernel_rfl)
  · exact RG.cert_put 3 rfl _ rfl 115 (.tmp 5) (.tmp 28) rfl rfl rfl (fun μ a K => by have h := K.op 5 10 (List.Mem.head _) rfl; exact h) (fun μ a K => by have h := K.op 28 4 (List.Mem.tail _ (List.Mem.head _)) rfl; exact h) i115 rfl
  · exact RG.cert_put 4 rfl _ rfl 115 (.tmp 6) (.tmp 33) rfl rfl rfl (fun μ a K => by have h := K.op 6 11 (List.Mem.head _) rfl; exact h) (fun μ a K => by have h := K.op 33 9 (List.Mem.tail _ (List.Mem.head _)) rfl; exact h) i115 rfl
  intro new4 w4 hl4 hS4
  obtain ⟨j4, i4, rfl⟩ := RG.len2 hl4
  repeat refine wp_seq ?_
  refine RG.region_draws (by kernel_rfl) (its := F74c_6i x1 y1 z1 x2 y2 z2 c1 c2 c3 c4 c5 c6 c7 c8 c9 c10 c11) (bl := F74c_6b x1 y1 z1 x2 y2 z2 c1 c2 c3 c4 c5 c6 c7 c8 c9 c10 c11) (olds := F74c_6o x1 y1 z1 x2 y2 z2 c1 c2 c3 c4 c5 c6 c7 c8 c9 c10 c11) hS4 (RG.Reg.mk' (by kernel_rfl) ⟨by kernel_rfl, by kernel_rfl, by kernel_rfl, by kernel_rfl, trivial⟩ ⟨?_, ?_, ?_, ?_, ?_, ?_, ?_, ?_, ?_, ?_, ?_, ?_, trivial⟩) (by kernel_rfl) (by kernel_rfl) (by kernel_rfl) ?_
  · exact RG.cert_field rfl 117 2 0 rfl 0 0 0 rfl (fun μ a K => K.old 2 (.p 0 0) (List.Mem.head _) (by kernel_rfl)) (fun k w => by kernel_rfl)
  · exact RG.cert_load rfl 0 0 _ rfl rfl (by kernel_rfl) 115 34 rfl (ws x1) rfl (fun μ a K => by have h := K.op 34 0 (List.Mem.head _) rfl; exact h) (by kernel_rfl) u115 i115
  · exact RG.cert_load rfl 4 0 _ rfl rfl (by kernel_rfl) 115 6 rfl (ws c2) rfl (fun μ a K => K.old 6 (.p 4 0) (List.Mem.tail _ (List.Mem.head _)) (by kernel_rfl)) (by kernel_rfl) u115 i115
  · exact RG.cert_call2 rfl 102 35 36 (fv x1) (fv c2) (fv c3) rfl (fun a w => by kernel_rfl) (fun μ a K => by have h := K.op 35 1 (List.Mem.head _) rfl; exact h) (fun μ a K => by have h := K.op 36 2 (List.Mem.tail _ (List.Mem.head _)) rfl; exact h) (hc3 ▸ CTimes_c C x1 c2)
  · exact RG.cert_field rfl 117 3 0 rfl 1 0 0 rfl (fun μ a K => K.old 3 (.p 1 0) (List.Mem.tail _ (List.Mem.tail _ (List.Mem.head _))) (by kernel_rfl)) (fun k w => by kernel_rfl)
  · exact RG.cert_load rfl 1 0 _ rfl rfl (by kernel_rfl) 115 38 rfl (ws x2) rfl (fun μ a K => by have h := K.op 38 4 (List.Mem.head _) rfl; exact h) (by kernel_rfl) u115 i115
  · exact RG.cert_load rfl 3 0 _ rfl rfl (by kernel_rfl) 115 5 rfl (ws c1) rfl (fun μ a K => K.old 5 (.p 3 0) (List.Mem.tail _ (List.Mem.tail _ (List.Mem.tail _ (List.Mem.head _)))) (by kernel_rfl)) (by kernel_rfl) u115 i115
  · exact RG.cert_call2 rfl 102 39 40 (fv x2) (fv c1) (fv c4) rfl (fun a w => by kernel_rfl) (fun μ a K => by have h := K.op 39 5 (List.Mem.head _) rfl; exact h) (fun μ a K => by have h := K.op 40 6 (List.Mem.tail _ (List.Mem.head _)) rfl; exact h) (hc4 ▸ CTimes_c C x2 c1)
  · exact RG.cert_alloc 5 rfl rfl _ rfl 115 rfl (fun w => by kernel_rfl)
  · exact RG.cert_alloc 6 rfl rfl _ rfl 115 rfl (fun w => by kernel_rfl)
  · exact RG.cert_put 5 rfl _ rfl 115 (.tmp 7) (.tmp 37) rfl rfl rfl (fun μ a K => by have h := K.op 7 8 (List.Mem.head _) rfl; exact h) (fun μ a K => by have h := K.op 37 3 (List.Mem.tail _ (List.Mem.head _)) rfl; exact h) i115 rfl
  · exact RG.cert_put 6 rfl _ rfl 115 (.tmp 8) (.tmp 41) rfl rfl rfl (fun μ a K => by have h := K.op 8 9 (List.Mem.head _) rfl; exact h) (fun μ a K => by have h := K.op 41 7 (List.Mem.tail _ (List.Mem.head _)) rfl; exact h) i115 rfl
  intro new5 w5 hl5 hS5
  obtain ⟨j5, i5, rfl⟩ := RG.len2 hl5
  repeat refine wp_seq ?_
  refine RG.region_draws (by kernel_rfl) (its := F74c_7i x1 y1 z1 x2 y2 z2 c1 c2 c3 c4 c5 c6 c7 c8 c9 c10 c11) (bl := F74c_7b x1 y1 z1 x2 y2 z2 c1 c2 c3 c4 c5 c6 c7 c8 c9 c10 c11) (olds := F74c_7o x1 y1 z1 x2 y2 z2 c1 c2 c3 c4 c5 c6 c7 c8 c9 c10 c11) hS5 (RG.Reg.mk' (by kernel_rfl) ⟨by kernel_rfl, by kernel_rfl, by kernel_rfl, by kernel_rfl, trivial⟩ ⟨?_, ?_, ?_, ?_, ?_, ?_, ?_, ?_, ?_, ?_, ?_, ?_, ?_, ?_, ?_, ?_, ?_, ?_, trivial⟩) (by kernel_rfl) (by kernel_rfl) (by kernel_rfl) ?_
  · exact RG.cert_field rfl 117 2 1 rfl 0 0 4 rfl (fun μ a K => K.old 2 (.p 0 0) (List.Mem.head _) (by kernel_rfl)) (fun k w => by kernel_rfl)
  · exact RG.cert_load rfl 0 4 _ rfl rfl (by kernel_rfl) 115 42 rfl (ws y1) rfl (fun μ a K => by have h := K.op 42 0 (List.Mem.head _) rfl; exact h) (by kernel_rfl) u115 i115
  · exact RG.cert_load rfl 4 0 _ rfl rfl (by kernel_rfl) 115 6 rfl (ws c2) rfl (fun μ a K => K.old 6 (.p 4 0) (List.Mem.tail _ (List.Mem.head _)) (by kernel_rfl)) (by kernel_rfl) u115 i115
  · exact RG.cert_call2 rfl 102 43 44 (fv y1) (fv c2) (fv c5) rfl (fun a w => by kernel_rfl) (fun μ a K => by have h := K.op 43 1 (List.Mem.head _) rfl; exact h) (fun μ a K => by have h := K.op 44 2 (List.Mem.tail _ (List.Mem.head _)) rfl; exact h) (hc5 ▸ CTimes_c C y1 c2)
  · exact RG.cert_field rfl 117 3 2 rfl 1 0 8 rfl (fun μ a K => K.old 3 (.p 1 0) (List.Mem.tail _ (List.Mem.tail _ (List.Mem.head _))) (by kernel_rfl)) (fun k w => by kernel_rfl)
  · exact RG.cert_load rfl 1 8 _ rfl rfl (by kernel_rfl) 115 46 rfl (ws z2) rfl (fun μ a K => by have h := K.op 46 4 (List.Mem.head _) rfl; exact h) (by kernel_rfl) u115 i115
  · exact RG.cert_call2 rfl 102 45 47 (fv c5) (fv z2) (fv c6) rfl (fun a w => by kernel_rfl) (fun μ a K => by have h := K.op 45 3 (List.Mem.head _) rfl; exact h) (fun μ a K => by have h := K.op 47 5 (List.Mem.tail _ (List.Mem.head _)) rfl; exact h) (hc6 ▸ CTimes_c C c5 z2)
  · exact RG.cert_field rfl 117 3 1 rfl 1 0 4 rfl (fun μ a K => K.old 3 (.p 1 0) (List.Mem.tail _ (List.Mem.tail _ (List.Mem.head _))) (by kernel_rfl)) (fun k w => by kernel_rfl)
  · exact RG.cert_load rfl 1 4 _ rfl rfl (by kernel_rfl) 115 49 rfl (ws y2) rfl (fun μ a K => by have h := K.op 49 7 (List.Mem.head _) rfl; exact h) (by kernel_rfl) u115 i115
  · exact RG.cert_load rfl 3 0 _ rfl rfl (by kernel_rfl) 115 5 rfl (ws c1) rfl (fun μ a K => K.old 5 (.p 3 0) (List.Mem.tail _ (List.Mem.tail _ (List.Mem.tail _ (List.Mem.head _)))) (by kernel_rfl)) (by kernel_rfl) u115 i115
  · exact RG.cert_call2 rfl 102 50 51 (fv y2) (fv c1) (fv c7) rfl (fun a w => by kernel_rfl) (fun μ a K => by have h := K.op 50 8 (List.Mem.head _) rfl; exact h) (fun μ a K => by have h := K.op 51 9 (List.Mem.tail _ (List.Mem.head _)) rfl; exact h) (hc7 ▸ CTimes_c C y2 c1)
  · exact RG.cert_field rfl 117 2 2 rfl 0 0 8 rfl (fun μ a K => K.old 2 (.p 0 0) (List.Mem.head _) (by kernel_rfl)) (fun k w => by kernel_rfl)
  · exact RG.cert_load rfl 0 8 _ rfl rfl (by kernel_rfl) 115 53 rfl (ws z1) rfl (fun μ a K => by have h := K.op 53 11 (List.Mem.head _) rfl; exact h) (by kernel_rfl) u115 i115
  · exact RG.cert_call2 rfl 102 52 54 (fv c7) (fv z1) (fv c8) rfl (fun a w => by kernel_rfl) (fun μ a K => by have h := K.op 52 10 (List.Mem.head _) rfl; exact h) (fun μ a K => by have h := K.op 54 12 (List.Mem.tail _ (List.Mem.head _)) rfl; exact h) (hc8 ▸ CTimes_c C c7 z1)
  · exact RG.cert_alloc 7 rfl rfl _ rfl 115 rfl (fun w => by kernel_rfl)
  · exact RG.cert_alloc 8 rfl rfl _ rfl 115 rfl (fun w => by kernel_rfl)
  · exact RG.cert_put 7 rfl _ rfl 115 (.tmp 9) (.tmp 48) rfl rfl rfl (fun μ a K => by have h := K.op 9 14 (List.Mem.head _) rfl; exact h) (fun μ a K => by have h := K.op 48 6 (List.Mem.tail _ (List.Mem.head _)) rfl; exact h) i115 rfl
  · exact RG.cert_put 8 rfl _ rfl 115 (.tmp 10) (.tmp 55) rfl rfl rfl (fun μ a K => by have h := K.op 10 15 (List.Mem.head _) rfl; exact h) (fun μ a K => by have h := K.op 55 13 (List.Mem.tail _ (List.Mem.head _)) rfl; exact h) i115 rfl
  intro new6 w6 hl6 hS6
  obtain ⟨j6, i6, rfl⟩ := RG.len2 hl6
  repeat refine wp_seq ?_
  refine RG.region_text (its := F74c_8i x1 y1 z1 x2 y2 z2 c1 c2 c3 c4 c5 c6 c7 c8 c9 c10 c11) (bl := F74c_8b x1 y1 z1 x2 y2 z2 c1 c2 c3 c4 c5 c6 c7 c8 c9 c10 c11) (olds := F74c_8o x1 y1 z1 x2 y2 z2 c1 c2 c3 c4 c5 c6 c7 c8 c9 c10 c11) hS6 (RG.Reg.mk' (by kernel_rfl) ⟨by kernel_rfl, by kernel_rfl, by kernel_rfl, by kernel_rfl, trivial⟩ ⟨?_, ?_, ?_, ?_, ?_, ?_, ?_, ?_, trivial⟩) (by kernel_rfl) (by kernel_rfl) (by kernel_rfl) ?_
  · exact RG.cert_load rfl 5 0 _ rfl rfl (by kernel_rfl) 115 7 rfl (ws c3) rfl (fun μ a K => K.old 7 (.p 5 0) (List.Mem.head _) (by kernel_rfl)) (by kernel_rfl) u115 i115
  · exact RG.cert_load rfl 6 0 _ rfl rfl (by kernel_rfl) 115 8 rfl (ws c4) rfl (fun μ a K => K.old 8 (.p 6 0) (List.Mem.tail _ (List.Mem.head _)) (by kernel_rfl)) (by kernel_rfl) u115 i115
  · exact RG.cert_bin rfl .eql 115 115 56 57 (fv c3) (fv c4) (.bool true) rfl rfl (fun μ a K => by have h := K.op 56 0 (List.Mem.head _) rfl; exact h) (fun μ a K => by have h := K.op 57 1 (List.Mem.tail _ (List.Mem.head _)) rfl; exact h) (fun w => by kernel_rfl) (eqC_t C (by subst_vars; exact hx))
  · exact RG.cert_move rfl 58 (Or.inl rfl) (fun μ a K => by have h := K.op 58 2 (List.Mem.head _) rfl; exact h)
  · exact RG.cert_load rfl 7 0 _ rfl rfl (by kernel_rfl) 115 9 rfl (ws c6) rfl (fun μ a K => K.old 9 (.p 7 0) (List.Mem.tail _ (List.Mem.tail _ (List.Mem.head _))) (by kernel_rfl)) (by kernel_rfl) u115 i115
  · exact RG.cert_load rfl 8 0 _ rfl rfl (by kernel_rfl) 115 10 rfl (ws c8) rfl (fun μ a K => K.old 10 (.p 8 0) (List.Mem.tail _ (List.Mem.tail _ (List.Mem.tail _ (List.Mem.head _)))) (by kernel_rfl)) (by kernel_rfl) u115 i115
  · exact RG.cert_bin rfl .eql 115 115 60 61 (fv c6) (fv c8) (.bool true) rfl rfl (fun μ a K => by have h := K.op 60 4 (List.Mem.head _) rfl; exact h) (fun μ a K => by have h := K.op 61 5 (List.Mem.tail _ (List.Mem.head _)) rfl; exact h) (fun w => by kernel_rfl) (eqC_t C (by subst_vars; exact hy))
  · exact RG.cert_pick_t rfl 59 62 _ rfl (fun μ a K => by have h := K.op 59 3 (List.Mem.head _) rfl; exact h) (fun μ a K => by have h := K.op 62 6 (List.Mem.tail _ (List.Mem.head _)) rfl; exact h)
  intro new7 w7 hl7 hS7
  obtain rfl := RG.len0 hl7
  repeat refine wp_seq ?_
  refine wp_cond_true (by kernel_rfl) ?_
  repeat refine wp_seq ?_
  refine RG.region_text (its := F74c_9i x1 y1 z1 x2 y2 z2 c1 c2 c3 c4 c5 c6 c7 c8 c9 c10 c11) (bl := F74c_9b x1 y1 z1 x2 y2 z2 c1 c2 c3 c4 c5 c6 c7 c8 c9 c10 c11) (olds := F74c_9o x1 y1 z1 x2 y2 z2 c1 c2 c3 c4 c5 c6 c7 c8 c9 c10 c11) hS7 (RG.Reg.mk' (by kernel_rfl) ⟨by kernel_rfl, by kernel_rfl, trivial⟩ ⟨?_, ?_, ?_, trivial⟩) (by kernel_rfl) (by kernel_rfl) (by kernel_rfl) ?_
  · exact RG.cert_load rfl 0 0 _ rfl rfl (by kernel_rfl) 117 2 rfl (ws x1 ++ (ws y1 ++ (ws z1))) rfl (fun μ a K => K.old 2 (.p 0 0) (List.Mem.head _) (by kernel_rfl)) (by kernel_rfl) u117 i117
  · exact RG.cert_call1 rfl 103 64 (rv x1 y1 z1) (rv c9 c10 c11) rfl (fun a w => by kernel_rfl) (fun μ a K => by have h := K.op 64 0 (List.Mem.head _) rfl; exact h) (hc9 ▸ hc10 ▸ hc11 ▸ twice_c C x1 y1 z1)
  · exact RG.cert_put 2 rfl _ rfl 117 (.tmp 4) (.tmp 65) rfl rfl rfl (fun μ a K => K.old 4 (.p 2 0) (List.Mem.tail _ (List.Mem.head _)) (by kernel_rfl)) (fun μ a K => by have h := K.op 65 1 (List.Mem.head _) rfl; exact h) i117 rfl
  intro new8 w8 hl8 hS8
  obtain rfl := RG.len0 hl8
  refine wp_ret ?_
  refine bodyPost_ret (v := (rv c9 c10 c11)) (RG.results_row hS8 4 117 rfl 2 _ rfl (by kernel_rfl) u117 i117) (by kernel_rfl) ?_
  exact ⟨_, rfl, hS8.bel.below, rfl⟩

def F74d_0i (x1 y1 z1 x2 y2 z2 c1 c2 c3 c4 c5 c6 c7 c8 c9 c10 c11 c12 c13 c14 c15 c16 c17 c18 c19 c20 c21 c22 c23 : Fin P) : List RG.It := [⟨some 2, [], (.p 0 0), .make 0⟩,
  ⟨some 3, [], (.p 1 0), .make 1⟩,
  ⟨some 4, [], (.p 2 0), .make 2⟩]
def F74d_0b (x1 y1 z1 x2 y2 z2 c1 c2 c3 c4 c5 c6 c7 c8 c9 c10 c11 c12 c13 c14 c15 c16 c17 c18 c19 c20 c21 c22 c23 : Fin P) : List RG.Bl := [⟨(ws x1 ++ (ws y1 ++ (ws z1))), (ws x1 ++ (ws y1 ++ (ws z1))), some 0, none⟩, ⟨(ws x2 ++ (ws y2 ++ (ws z2))), (ws x2 ++ (ws y2 ++ (ws z2))), some 1, none⟩, ⟨[.int .u64 0, .int .u64 0, .int .u64 0, .int .u64 0, .int .u64 0, .int .u64 0, .int .u64 0, .int .u64 0, .int .u64 0, .int .u64 0, .int .u64 0, .int .u64 0], [.int .u64 0, .int .u64 0, .int .u64 0, .int .u64 0, .int .u64 0, .int .u64 0, .int .u64 0, .int .u64 0, .int .u64 0, .int .u64 0, .int .u64 0, .int .u64 0], some 2, none⟩]
def F74d_0o (x1 y1 z1 x2 y2 z2 c1 c2 c3 c4 c5 c6 c7 c8 c9 c10 c11 c12 c13 c14 c15 c16 c17 c18 c19 c20 c21 c22 c23 : Fin P) : List (Tmp × RG.SV) := [(0, (.v (rv x1 y1 z1))), (1, (.v (rv x2 y2 z2)))]
def F74d_1i (x1 y1 z1 x2 y2 z2 c1 c2 c3 c4 c5 c6 c7 c8 c9 c10 c11 c12 c13 c14 c15 c16 c17 c18 c19 c20 c21 c22 c23 : Fin P) : List RG.It := [⟨some 18, [], (.v (rv x1 y1 z1)), .stay⟩,
  ⟨some 19, [(18, 0)], (.v (.bool false)), .call⟩]
def F74d_1b (x1 y1 z1 x2 y2 z2 c1 c2 c3 c4 c5 c6 c7 c8 c9 c10 c11 c12 c13 c14 c15 c16 c17 c18 c19 c20 c21 c22 c23 : Fin P) : List RG.Bl := [⟨(ws x1 ++ (ws y1 ++ (ws z1))), (ws x1 ++ (ws y1 ++ (ws z1))), none, none⟩, ⟨(ws x2 ++ (ws y2 ++ (ws z2))), (ws x2 ++ (ws y2 ++ (ws z2))), none, none⟩, ⟨[.int .u64 0, .int .u64 0, .int .u64 0, .int .u64 0, .int .u64 0, .int .u64 0, .int .u64 0, .int .u64 0, .int .u64 0, .int .u64 0, .int .u64 0, .int .u64 0], [.int .u64 0, .int .u64 0, .int .u64 0, .int .u64 0, .int .u64 0, .int .u64 0, .int .u64 0, .int .u64 0, .int .u64 0, .int .u64 0, .int .u64 0, .int .u64 0], none, none⟩]
def F74d_1o (x1 y1 z1 x2 y2 z2 c1 c2 c3 c4 c5 c6 c7 c8 c9 c10 c11 c12 c13 c14 c15 c16 c17 c18 c19 c20 c21 c22 c23 : Fin P) : List (Tmp × RG.SV) := [(2, (.p 0 0))]
def F74d_3i (x1 y1 z1 x2 y2 z2 c1 c2 c3 c4 c5 c6 c7 c8 c9 c10 c11 c12 c13 c14 c15 c16 c17 c18 c19 c20 c21 c22 c23 : Fin P) : List RG.It := [⟨some 21, [], (.v (rv x2 y2 z2)), .stay⟩,
  ⟨some 22, [(21, 0)], (.v (.bool false)), .call⟩]
def F74d_3b (x1 y1 z1 x2 y2 z2 c1 c2 c3 c4 c5 c6 c7 c8 c9 c10 c11 c12 c13 c14 c15 c16 c17 c18 c19 c20 c21 c22 c23 : Fin P) : List RG.Bl := [⟨(ws x1 ++ (ws y1 ++ (ws z1))), (ws x1 ++ (ws y1 ++ (ws z1))), none, none⟩, ⟨(ws x2 ++ (ws y2 ++ (ws z2))), (ws x2 ++ (ws y2 ++ (ws z2))), none, none⟩, ⟨[.int .u64 0, .int .u64 0, .int .u64 0, .int .u64 0, .int .u64 0, .int .u64 0, .int .u64 0, .int .u64 0, .int .u64 0, .int .u64 0, .int .u64 0, .int .u64 0], [.int .u64 0, .int .u64 0, .int .u64 0, .int .u64 0, .int .u64 0, .int .u64 0, .int .u64 0, .int .u64 0, .int .u64 0, .int .u64 0, .int .u64 0, .int .u64 0], none, none⟩]
def F74d_3o (x1 y1 z1 x2 y2 z2 c1 c2 c3 c4 c5 c6 c7 c8 c9 c10 c11 c12 c13 c14 c15 c16 c17 c18 c19 c20 c21 c22 c23 : Fin P) : List (Tmp × RG.SV) := [(3, (.p 1 0))]
def F74d_5i (x1 y1 z1 x2 y2 z2 c1 c2 c3 c4 c5 c6 c7 c8 c9 c10 c11 c12 c13 c14 c15 c16 c17 c18 c19 c20 c21 c22 c23 : Fin P) : List RG.It := [⟨some 24, [], (.p 0 8), .stay⟩,
  ⟨some 25, [(24, 0)], (.v (fv z1)), .stay⟩,
  ⟨some 26, [], (.p 0 8), .stay⟩,
  ⟨some 27, [(26, 2)], (.v (fv z1)), .stay⟩,
  ⟨some 28, [(25, 1), (27, 3)], (.v (fv c1)), .call⟩,
  ⟨some 29, [], (.p 1 8), .stay⟩,
  ⟨some 30, [(29, 5)], (.v (fv z2)), .stay⟩,
  ⟨some 31, [], (.p 1 8), .stay⟩,
  ⟨some 32, [(31, 7)], (.v (fv z2)), .stay⟩,
  ⟨some 33, [(30, 6), (32, 8)], (.v (fv c2)), .call⟩,
  ⟨some 5, [], (.p 3 0), .make 3⟩,
  ⟨some 6, [], (.p 4 0), .make 4⟩,
  ⟨none, [(5, 10), (28, 4)], (.v undef), .put 3⟩,
  ⟨none, [(6, 11), (33, 9)], (.v undef), .put 4⟩]
def F74d_5b (x1 y1 z1 x2 y2 z2 c1 c2 c3 c4 c5 c6 c7 c8 c9 c10 c11 c12 c13 c14 c15 c16 c17 c18 c19 c20 c21 c22 c23 : Fin P) : List RG.Bl := [⟨(ws x1 ++ (ws y1 ++ (ws z1))), (ws x1 ++ (ws y1 ++ (ws z1))), none, none⟩, ⟨(ws x2 ++ (ws y2 ++ (ws z2))), (ws x2 ++ (ws y2 ++ (ws z2))), none, none⟩, ⟨[.int .u64 0, .int .u64 0, .int .u64 0, .int .u64 0, .int .u64 0, .int .u64 0, .int .u64 0, .int .u64 0, .int .u64 0, .int .u64 0, .int .u64 0, .int .u64 0], [.int .u64 0, .int .u64 0, .int .u64 0, .int .u64 0, .int .u64 0, .int .u64 0, .int .u64 0, .int .u64 0, .int .u64 0, .int .u64 0, .int .u64 0, .int .u64 0], none, none⟩, ⟨[.int .u64 0, .int .u64 0, .int .u64 0, .int .u64 0], (ws c1), some 10, some 12⟩, ⟨[.int .u64 0, .int .u64 0, .int .u64 0, .int .u64 0], (ws c2), some 11, some 13⟩]
def F74d_5o (x1 y1 z1 x2 y2 z2 c1 c2 c3 c4 c5 c6 c7 c8 c9 c10 c11 c12 c13 c14 c15 c16 c17 c18 c19 c20 c21 c22 c23 : Fin P) : List (Tmp × RG.SV) := [(2, (.p 0 0)), (3, (.p 1 0))]
def F74d_6i (x1 y1 z1 x2 y2 z2 c1 c2 c3 c4 c5 c6 c7 c8 c9 c10 c11 c12 c13 c14 c15 c16 c17 c18 c19 c20 c21 c22 c23 : Fin P) : List RG.It := [⟨some 34, [], (.p 0 0), .stay⟩,
  ⟨some 35, [(34, 0)], (.v (fv x1)), .stay⟩,
  ⟨some 36, [], (.v (fv c2)), .stay⟩,
  ⟨some 37, [(35, 1), (36, 2)], (.v (fv c3)), .call⟩,
  ⟨some 38, [], (.p 1 0), .stay⟩,
  ⟨some 39, [(38, 4)], (.v (fv x2)), .stay⟩,
  ⟨some 40, [], (.v (fv c1)), .stay⟩,
  ⟨some 41, [(39, 5), (40, 6)], (.v (fv c4)), .call⟩,
  ⟨some 7, [], (.p 5 0), .make 5⟩,
  ⟨some 8, [], (.p 6 0), .make 6⟩,
  ⟨none, [(7, 8), (37, 3)], (.v undef), .put 5⟩,
  ⟨none, [(8, 9), (41, 7)], (.v undef), .put 6⟩]
def F74d_6b (x1 y1 z1 x2 y2 z2 c1 c2 c3 c4 c5 c6 c7 c8 c9 c10 c11 c12 c13 c14 c15 c16 c17 c18 c19 c20 c21 c22 c23 : Fin P) : List RG.Bl := [⟨(ws x1 ++ (ws y1 ++ (ws z1))), (ws x1 ++ (ws y1 ++ (ws z1))), none, none⟩, ⟨(ws x2 ++ (ws y2 ++ (ws z2))), (ws x2 ++ (ws y2 ++ (ws z2))), none, none⟩, ⟨[.int .u64 0, .int .u64 0, .int .u64 0, .int .u64 0, .int .u64 0, .int .u64 0, .int .u64 0, .int .u64 0, .int .u64 0, .int .u64 0, .int .u64 0, .int .u64 0], [.int .u64 0, .int .u64 0, .int .u64 0, .int .u64 0, .int .u64 0, .int .u64 0, .int .u64 0, .int .u64 0, .int .u64 0, .int .u64 0, .int .u64 0, .int .u64 0], none, none⟩, ⟨(ws c1), (ws c1), none, none⟩, ⟨(ws c2), (ws c2), none, none⟩, ⟨[.int .u64 0, .int .u64 0, .int .u64 0, .int .u64 0], (ws c3), some 8, some 10⟩, ⟨[.int .u64 0, .int .u64 0, .int .u64 0, .int .u64 0], (ws c4), some 9, some 11⟩]
def F74d_6o (x1 y1 z1 x2 y2 z2 c1 c2 c3 c4 c5 c6 c7 c8 c9 c10 c11 c12 c13 c14 c15 c16 c17 c18 c19 c20 c21 c22 c23 : Fin P) : List (Tmp × RG.SV) := [(2, (.p 0 0)), (6, (.p 4 0)), (3, (.p 1 0)), (5, (.p 3 0))]
def F74d_7i (x1 y1 z1 x2 y2 z2 c1 c2 c3 c4 c5 c6 c7 c8 c9 c10 c11 c12 c13 c14 c15 c16 c17 c18 c19 c20 c21 c22 c23 : Fin P) : List RG.It := [⟨some 42, [], (.p 0 4), .stay⟩,
  ⟨some 43, [(42, 0)], (.v (fv y1)), .stay⟩,
  ⟨some 44, [], (.v (fv c2)), .stay⟩,
  ⟨some 45, [(43, 1), (44, 2)], (.v (fv c5)), .call⟩,
  ⟨some 46, [], (.p 1 8), .stay⟩,
  ⟨some 47, [(46, 4)], (.v (fv z2)), .stay⟩,
  ⟨some 48, [(45, 3), (47, 5)], (.v (fv c6)), .call⟩,
  ⟨some 49, [], (.p 1 4), .stay⟩,
  ⟨some 50, [(49, 7)], (.v (fv y2)), .stay⟩,
  ⟨some 51, [], (.v (fv c1)), .stay⟩,
  ⟨some 52, [(50, 8), (51, 9)], (.v (fv c7)), .call⟩,
  ⟨some 53, [], (.p 0 8), .stay⟩,
  ⟨some 54, [(53, 11)], (.v (fv z1)), .stay⟩,
  ⟨some 55, [(52, 10), (54, 12)], (.v (fv c8)), .call⟩,
  ⟨some 9, [], (.p 7 0), .make 7⟩,
  ⟨some 10, [], (.p 8 0), .make 8⟩,
  ⟨none, [(9, 14), (48, 6)], (.v undef), .put 7⟩,
  ⟨none, [(10, 15), (55, 13)], (.v undef), .put 8⟩]
def F74d_7b (x1 y1 z1 x2 y2 z2 c1 c2 c3 c4 c5 c6 c7 c8 c9 c10 c11 c12 c13 c14 c15 c16 c17 c18 c19 c20 c21 c22 c23 : Fin P) : List RG.Bl := [⟨(ws x1 ++ (ws y1 ++ (ws z1))), (ws x1 ++ (ws y1 ++ (ws z1))), none, none⟩, ⟨(ws x2 ++ (ws y2 ++ (ws z2))), (ws x2 ++ (ws y2 ++ (ws z2))), none, none⟩, ⟨[.int .u64 0, .int .u64 0, .int .u64 0, .int .u64 0, .int .u64 0, .int .u64 0, .int .u64 0, .int .u64 0, .int .u64 0, .int .u64 0, .int .u64 0, .int .u64 0], [.int .u64 0, .int .u64 0, .int .u64 0, .int .u64 0, .int .u64 0, .int .u64 0, .int .u64 0, .int .u64 0, .int .u64 0, .int .u64 0, .int .u64 0, .int .u64 0], none, none⟩, ⟨(ws c1), (ws c1), none, none⟩, ⟨(ws c2), (ws c2), none, none⟩, ⟨(ws c3), (ws c3), none, none⟩, ⟨(ws c4), (ws c4), none, none⟩, ⟨[.int .u64 0, .int .u64 0, .int .u64 0, .int .u64 0], (ws c6), some 14, some 16⟩, ⟨[.int .u64 0, .int .u64 0, .int .u64 0, .int .u64 0], (ws c8), some 15, some 17⟩]
def F74d_7o (x1 y1 z1 x2 y2 z2 c1 c2 c3 c4 c5 c6 c7 c8 c9 c10 c11 c12 c13 c14 c15 c16 c17 c18 c19 c20 c21 c22 c23 : Fin P) : List (Tmp × RG.SV) := [(2, (.p 0 0)), (6, (.p 4 0)), (3, (.p 1 0)), (5, (.p 3 0))]
def F74d_8i (x1 y1 z1 x2 y2 z2 c1 c2 c3 c4 c5 c6 c7 c8 c9 c10 c11 c12 c13 c14 c15 c16 c17 c18 c19 c20 c21 c22 c23 : Fin P) : List RG.It := [⟨some 56, [], (.v (fv c3)), .stay⟩,
  ⟨some 57, [], (.v (fv c4)), .stay⟩,
  ⟨some 58, [(56, 0), (57, 1)], (.v (.bool false)), .stay⟩,
  ⟨some 59, [(58, 2)], (.v (.bool false)), .stay⟩,
  ⟨some 60, [], (.v undef), .pass⟩,
  ⟨some 61, [], (.v undef), .pass⟩,
  ⟨some 62, [], (.v undef), .pass⟩,
  ⟨some 63, [(59, 3)], (.v (.bool false)), .stay⟩]
def F74d_8b (x1 y1 z1 x2 y2 z2 c1 c2 c3 c4 c5 c6 c7 c8 c9 c10 c11 c12 c13 c14 c15 c16 c17 c18 c19 c20 c21 c22 c23 : Fin P) : List RG.Bl := [⟨(ws x1 ++ (ws y1 ++ (ws z1))), (ws x1 ++ (ws y1 ++ (ws z1))), none, none⟩, ⟨(ws x2 ++ (ws y2 ++ (ws z2))), (ws x2 ++ (ws y2 ++ (ws z2))), none, none⟩, ⟨[.int .u64 0, .int .u64 0, .int .u64 0, .int .u64 0, .int .u64 0, .int .u64 0, .int .u64 0, .int .u64 0, .int .u64 0, .int .u64 0, .int .u64 0, .int .u64 0], [.int .u64 0, .int .u64 0, .int .u64 0, .int .u64 0, .int .u64 0, .int .u64 0, .int .u64 0, .int .u64 0, .int .u64 0, .int .u64 0, .int .u64 0, .int .u64 0], none, none⟩, ⟨(ws c1), (ws c1), none, none⟩, ⟨(ws c2), (ws c2), none, none⟩, ⟨(ws c3), (ws c3), none, none⟩, ⟨(ws c4), (ws c4), none, none⟩, ⟨(ws c6), (ws c6), none, none⟩, ⟨(ws c8), (ws c8), none, none⟩]
def F74d_8o (x1 y1 z1 x2 y2 z2 c1 c2 c3 c4 c5 c6 c7 c8 c9 c10 c11 c12 c13 c14 c15 c16 c17 c18 c19 c20 c21 c22 c23 : Fin P) : List (Tmp × RG.SV) := [(7, (.p 5 0)), (8, (.p 6 0))]
def F74d_10i (x1 y1 z1 x2 y2 z2 c1 c2 c3 c4 c5 c6 c7 c8 c9 c10 c11 c12 c13 c14 c15 c16 c17 c18 c19 c20 c21 c22 c23 : Fin P) : List RG.It := [⟨some 66, [], (.v (fv c4)), .stay⟩,
  ⟨some 67, [], (.v (fv c3)), .stay⟩,
  ⟨some 68, [(66, 0), (67, 1)], (.v (fv c9)), .call⟩,
  ⟨some 69, [], (.v (fv c8)), .stay⟩,
  ⟨some 70, [], (.v (fv c6)), .stay⟩,
  ⟨some 71, [(69, 3), (70, 4)], (.v (fv c10)), .call⟩,
  ⟨some 11, [], (.p 9 0), .make 9⟩,
  ⟨some 12, [], (.p 10 0), .make 10⟩,
  ⟨none, [(11, 6), (68, 2)], (.v undef), .put 9⟩,
  ⟨none, [(12, 7), (71, 5)], (.v undef), .put 10⟩]
def F74d_10b (x1 y1 z1 x2 y2 z2 c1 c2 c3 c4 c5 c6 c7 c8 c9 c10 c11 c12 c13 c14 c15 c16 c17 c18 c19 c20 c21 c22 c23 : Fin P) : List RG.Bl := [⟨(ws x1 ++ (ws y1 ++ (ws z1))), (ws x1 ++ (ws y1 ++ (ws z1))), none, none⟩, ⟨(ws x2 ++ (ws y2 ++ (ws z2))), (ws x2 ++ (ws y2 ++ (ws z2))), none, none⟩, ⟨[.int .u64 0, .int .u64 0, .int .u64 0, .int .u64 0, .int .u64 0, .int .u64 0, .int .u64 0, .int .u64 0, .int .u64 0, .int .u64 0, .int .u64 0, .int .u64 0], [.int .u64 0, .int .u64 0, .int .u64 0, .int .u64 0, .int .u64 0, .int .u64 0, .int .u64 0, .int .u64 0, .int .u64 0, .int .u64 0, .int .u64 0, .int .u64 0], none, none⟩, ⟨(ws c1), (ws c1), none, none⟩, ⟨(ws c2), (ws c2), none, none⟩, ⟨(ws c3), (ws c3), none, none⟩, ⟨(ws c4), (ws c4), none, none⟩, ⟨(ws c6), (ws c6), none, none⟩, ⟨(ws c8), (ws c8), none, none⟩, ⟨[.int .u64 0, .int .u64 0, .int .u64 0, .int .u64 0], (ws c9), some 6, some 8⟩, ⟨[.int .u64 0, .int .u64 0, .int .u64 0, .int .u64 0], (ws c10), some 7, some 9⟩]
def F74d_10o (x1 y1 z1 x2 y2 z2 c1 c2 c3 c4 c5 c6 c7 c8 c9 c10 c11 c12 c13 c14 c15 c16 c17 c18 c19 c20 c21 c22 c23 : Fin P) : List (Tmp × RG.SV) := [(8, (.p 6 0)), (7, (.p 5 0)), (10, (.p 8 0)), (9, (.p 7 0))]
def F74d_11i (x1 y1 z1 x2 y2 z2 c1 c2 c3 c4 c5 c6 c7 c8 c9 c10 c11 c12 c13 c14 c15 c16 c17 c18 c19 c20 c21 c22 c23 : Fin P) : List RG.It := [⟨some 72, [], (.v (fv c9)), .stay⟩,
  ⟨some 73, [], (.v (fv c9)), .stay⟩,
  ⟨some 74, [(72, 0), (73, 1)], (.v (fv c11)), .call⟩,
  ⟨some 13, [], (.p 11 0), .make 11⟩,
  ⟨none, [(13, 3), (74, 2)], (.v undef), .put 11⟩]
def F74d_11b (x1 y1 z1 x2 y2 z2 c1 c2 c3 c4 c5 c6 c7 c8 c9 c10 c11 c12 c13 c14 c15 c16 c17 c18 c19 c20 c21 c22 c23 : Fin P) : List RG.Bl := [⟨(ws x1 ++ (ws y1 ++ (ws z1))), (ws x1 ++ (ws y1 ++ (ws z1))), none, none⟩, ⟨(ws x2 ++ (ws y2 ++ (ws z2))), (ws x2 ++ (ws y2 ++ (ws z2))), none, none⟩, ⟨[.int .u64 0, .int .u64 0, .int .u64 0, .int .u64 0, .int .u64 0, .int .u64 0, .int .u64 0, .int .u64 0, .int .u64 0, .int .u64 0, .int .u64 0, .int .u64 0], [.int .u64 0, .int .u64 0, .int .u64 0, .int .u64 0, .int .u64 0, .int .u64 0, .int .u64 0, .int .u64 0, .int .u64 0, .int .u64 0, .int .u64 0, .int .u64 0], none, none⟩, ⟨(ws c1), (ws c1), none, none⟩, ⟨(ws c2), (ws c2), none, none⟩, ⟨(ws c3), (ws c3), none, none⟩, ⟨(ws c4), (ws c4), none, none⟩, ⟨(ws c6), (ws c6), none, none⟩, ⟨(ws c8), (ws c8), none, none⟩, ⟨(ws c9), (ws c9), none, none⟩, ⟨(ws c10), (ws c10), none, none⟩, ⟨[.int .u64 0, .int .u64 0, .int .u64 0, .int .u64 0], (ws c11), some 3, some 4⟩]
def F74d_11o (x1 y1 z1 x2 y2 z2 c1 c2 c3 c4 c5 c6 c7 c8 c9 c10 c11 c12 c13 c14 c15 c16 c17 c18 c19 c20 c21 c22 c23 : Fin P) : List (Tmp × RG.SV) := [(11, (.p 9 0))]
def F74d_12i (x1 y1 z1 x2 y2 z2 c1 c2 c3 c4 c5 c6 c7 c8 c9 c10 c11 c12 c13 c14 c15 c16 c17 c18 c19 c20 c21 c22 c23 : Fin P) : List RG.It := [⟨some 75, [], (.v (fv c11)), .stay⟩,
  ⟨some 76, [], (.v (fv c9)), .stay⟩,
  ⟨some 77, [(75, 0), (76, 1)], (.v (fv c12)), .call⟩,
  ⟨some 78, [], (.v (fv c11)), .stay⟩,
  ⟨some 79, [], (.v (fv c3)), .stay⟩,
  ⟨some 80, [(78, 3), (79, 4)], (.v (fv c13)), .call⟩,
  ⟨some 14, [], (.p 12 0), .make 12⟩,
  ⟨some 15, [], (.p 13 0), .make 13⟩,
  ⟨none, [(14, 6), (77, 2)], (.v undef), .put 12⟩,
  ⟨none, [(15, 7), (80, 5)], (.v undef), .put 13⟩]
def F74d_12b (x1 y1 z1 x2 y2 z2 c1 c2 c3 c4 c5 c6 c7 c8 c9 c10 c11 c12 c13 c14 c15 c16 c17 c18 c19 c20 c21 c22 c23 : Fin P) : List RG.Bl := [⟨(ws x1 ++ (ws y1 ++ (ws z1))), (ws x1 ++ (ws y1 ++ (ws z1))), none, none⟩, ⟨(ws x2 ++ (ws y2 ++ (ws z2))), (ws x2 ++ (ws y2 ++ (ws z2))), none, none⟩, ⟨[.int .u64 0, .int .u64 0, .int .u64 0, .int .u64 0, .int .u64 0, .int .u64 0, .int .u64 0, .int .u64 0, .int .u64 0, .int .u64 0, .int .u64 0, .int .u64 0], [.int .u64 0, .int .u64 0, .int .u64 0, .int .u64 0, .int .u64 0, .int .u64 0, .int .u64 0, .int .u64 0, .int .u64 0, .int .u64 0, .int .u64 0, .int .u64 0], none, none⟩, ⟨(ws c1), (ws c1), none, none⟩, ⟨(ws c2), (ws c2), none, none⟩, ⟨(ws c3), (ws c3), none, none⟩, ⟨(ws c4), (ws c4), none, none⟩, ⟨(ws c6), (ws c6), none, none⟩, ⟨(ws c8), (ws c8), none, none⟩, ⟨(ws c9), (ws c9), none, none⟩, ⟨(ws c10), (ws c10), none, none⟩, ⟨(ws c11), (ws c11), none, none⟩, ⟨[.int .u64 0, .int .u64 0, .int .u64 0, .int .u64 0], (ws c12), some 6, some 8⟩, ⟨[.int .u64 0, .int .u64 0, .int .u64 0, .int .u64 0], (ws c13), some 7, some 9⟩]
def F74d_12o (x1 y1 z1 x2 y2 z2 c1 c2 c3 c4 c5 c6 c7 c8 c9 c10 c11 c12 c13 c14 c15 c16 c17 c18 c19 c20 c21 c22 c23 : Fin P) : List (Tmp × RG.SV) := [(13, (.p 11 0)), (11, (.p 9 0)), (7, (.p 5 0))]
def F74d_13i (x1 y1 z1 x2 y2 z2 c1 c2 c3 c4 c5 c6 c7 c8 c9 c10 c11 c12 c13 c14 c15 c16 c17 c18 c19 c20 c21 c22 c23 : Fin P) : List RG.It := [⟨some 81, [], (.v (fv c10)), .stay⟩,
  ⟨some 82, [], (.v (fv c10)), .stay⟩,
  ⟨some 83, [(81, 0), (82, 1)], (.v (fv c14)), .call⟩,
  ⟨some 84, [], (.v (fv c12)), .stay⟩,
  ⟨some 85, [(83, 2), (84, 3)], (.v (fv c15)), .call⟩,
  ⟨some 86, [], (.v (fv c13)), .stay⟩,
  ⟨some 87, [(86, 5)], (.v (fv c16)), .call⟩,
  ⟨some 88, [(85, 4), (87, 6)], (.v (fv c17)), .call⟩,
  ⟨some 16, [], (.p 14 0), .make 14⟩,
  ⟨none, [(16, 8), (88, 7)], (.v undef), .put 14⟩]
def F74d_13b (x1 y1 z1 x2 y2 z2 c1 c2 c3 c4 c5 c6 c7 c8 c9 c10 c11 c12 c13 c14 c15 c16 c17 c18 c19 c20 c21 c22 c23 : Fin P) : List RG.Bl := [⟨(ws x1 ++ (ws y1 ++ (ws z1))), (ws x1 ++ (ws y1 ++ (ws z1))), none, none⟩, ⟨(ws x2 ++ (ws y2 ++ (ws z2))), (ws x2 ++ (ws y2 ++ (ws z2))), none, none⟩, ⟨[.int .u64 0, .int .u64 0, .int .u64 0, .int .u64 0, .int .u64 0, .int .u64 0, .int .u64 0, .int .u64 0, .int .u64 0, .int .u64 0, .int .u64 0, .int .u64 0], [.int .u64 0, .int .u64 0, .int .u64 0, .int .u64 0, .int .u64 0, .int .u64 0, .int .u64 0, .int .u64 0, .int .u64 0, .int .u64 0, .int .u64 0, .int .u64 0], none, none⟩, ⟨(ws c1), (ws c1), none, none⟩, ⟨(ws c2), (ws c2), none, none⟩, ⟨(ws c3), (ws c3), none, none⟩, ⟨(ws c4), (ws c4), none, none⟩, ⟨(ws c6), (ws c6), none, none⟩, ⟨(ws c8), (ws c8), none, none⟩, ⟨(ws c9), (ws c9), none, none⟩, ⟨(ws c10), (ws c10), none, none⟩, ⟨(ws c11), (ws c11), none, none⟩, ⟨(ws c12), (ws c12), none, none⟩, ⟨(ws c13), (ws c13), none, none⟩, ⟨[.int .u64 0, .int .u64 0, .int .u64 0, .int .u64 0], (ws c17), some 8, some 9⟩]
def F74d_13o (x1 y1 z1 x2 y2 z2 c1 c2 c3 c4 c5 c6 c7 c8 c9 c10 c11 c12 c13 c14 c15 c16 c17 c18 c19 c20 c21 c22 c23 : Fin P) : List (Tmp × RG.SV) := [(12, (.p 10 0)), (14, (.p 12 0)), (15, (.p 13 0))]
def F74d_14i (x1 y1 z1 x2 y2 z2 c1 c2 c3 c4 c5 c6 c7 c8 c9 c10 c11 c12 c13 c14 c15 c16 c17 c18 c19 c20 c21 c22 c23 : Fin P) : List RG.It := [⟨some 89, [], (.v (fv c10)), .stay⟩,
  ⟨some 90, [], (.v (fv c13)), .stay⟩,
  ⟨some 91, [], (.v (fv c17)), .stay⟩,
  ⟨some 92, [(90, 1), (91, 2)], (.v (fv c18)), .call⟩,
  ⟨some 93, [(89, 0), (92, 3)], (.v (fv c19)), .call⟩,
  ⟨some 94, [], (.v (fv c12)), .stay⟩,
  ⟨some 95, [], (.v (fv c6)), .stay⟩,
  ⟨some 96, [(94, 5), (95, 6)], (.v (fv c20)), .call⟩,
  ⟨some 97, [(93, 4), (96, 7)], (.v (fv c21)), .call⟩,
  ⟨some 17, [], (.p 15 0), .make 15⟩,
  ⟨none, [(17, 9), (97, 8)], (.v undef), .put 15⟩]
def F74d_14b (x1 y1 z1 x2 y2 z2 c1 c2 c3 c4 c5 c6 c7 c8 c9 c10 c11 c12 c13 c14 c15 c16 c17 c18 c19 c20 c21 c22 c23 : Fin P) : List RG.Bl := [⟨(ws x1 ++ (ws y1 ++ (ws z1))), (ws x1 ++ (ws y1 ++ (ws z1))), none, none⟩, ⟨(ws x2 ++ (ws y2 ++ (ws z2))), (ws x2 ++ (ws y2 ++ (ws z2))), none, none⟩, ⟨[.int .u64 0, .int .u64 0, .int .u64 0, .int .u64 0, .int .u64 0, .int .u64 0, .int .u64 0, .int .u64 0, .int .u64 0, .int .u64 0, .int .u64 0, .int .u64 0], [.int .u64 0, .int .u64 0, .int .u64 0, .int .u64 0, .int .u64 0, .int .u64 0, .int .u64 0, .int .u64 0, .int .u64 0, .int .u64 0, .int .u64 0, .int .u64 0], none, none⟩, ⟨(ws c1), (ws c1), none, none⟩, ⟨(ws c2), (ws c2), none, none⟩, ⟨(ws c3), (ws c3), none, none⟩, ⟨(ws c4), (ws c4), none, none⟩, ⟨(ws c6), (ws c6), none, none⟩, ⟨(ws c8), (ws c8), none, none⟩, ⟨(ws c9), (ws c9), none, none⟩, ⟨(ws c10), (ws c10), none, none⟩, ⟨(ws c11), (ws c11), none, none⟩, ⟨(ws c12), (ws c12), none, none⟩, ⟨(ws c13), (ws c13), none, none⟩, ⟨(ws c17), (ws c17), none, none⟩, ⟨[.int .u64 0, .int .u64 0, .int .u64 0, .int .u64 0], (ws c21), some 9, some 10⟩]
def F74d_14o (x1 y1 z1 x2 y2 z2 c1 c2 c3 c4 c5 c6 c7 c8 c9 c10 c11 c12 c13 c14 c15 c16 c17 c18 c19 c20 c21 c22 c23 : Fin P) : List (Tmp × RG.SV) := [(12, (.p 10 0)), (15, (.p 13 0)), (16, (.p 14 0)), (14, (.p 12 0)), (9, (.p 7 0))]
def F74d_15i (x1 y1 z1 x2 y2 z2 c1 c2 c3 c4 c5 c6 c7 c8 c9 c10 c11 c12 c13 c14 c15 c16 c17 c18 c19 c20 c21 c22 c23 : Fin P) : List RG.It := [⟨some 98, [], (.v (fv c17)), .stay⟩,
  ⟨some 99, [], (.v (fv c21)), .stay⟩,
  ⟨some 100, [], (.p 0 8), .stay⟩,
  ⟨some 101, [(100, 2)], (.v (fv z1)), .stay⟩,
  ⟨some 102, [], (.p 1 8), .stay⟩,
  ⟨some 103, [(102, 4)], (.v (fv z2)), .stay⟩,
  ⟨some 104, [(101, 3), (103, 5)], (.v (fv c22)), .call⟩,
  ⟨some 105, [], (.v (fv c9)), .stay⟩,
  ⟨some 106, [(104, 6), (105, 7)], (.v (fv c23)), .call⟩,
  ⟨some 107, [(98, 0), (99, 1), (106, 8)], (.v (rv c17 c21 c23)), .stay⟩,
  ⟨none, [(107, 9)], (.v undef), .put 2⟩]
def F74d_15b (x1 y1 z1 x2 y2 z2 c1 c2 c3 c4 c5 c6 c7 c8 c9 c10 c11 c12 c13 c14 c15 c16 c17 c18 c19 c20 c21 c22 c23 : Fin P) : List RG.Bl := [⟨(ws x1 ++ (ws y1 ++ (ws z1))), (ws x1 ++ (ws y1 ++ (ws z1))), none, none⟩, ⟨(ws x2 ++ (ws y2 ++ (ws z2))), (ws x2 ++ (ws y2 ++ (ws z2))), none, none⟩, ⟨[.int .u64 0, .int .u64 0, .int .u64 0, .int .u64 0, .int .u64 0, .int .u64 0, .int .u64 0, .int .u64 0, .int .u64 0, .int .u64 0, .int .u64 0, .int .u64 0], (ws c17 ++ (ws c21 ++ (ws c23))), none, some 10⟩, ⟨(ws c1), (ws c1), none, none⟩, ⟨(ws c2), (ws c2), none, none⟩, ⟨(ws c3), (ws c3), none, none⟩, ⟨(ws c4), (ws c4), none, none⟩, ⟨(ws c6), (ws c6), none, none⟩, ⟨(ws c8), (ws c8), none, none⟩, ⟨(ws c9), (ws c9), none, none⟩, ⟨(ws c10), (ws c10), none, none⟩, ⟨(ws c11), (ws c11), none, none⟩, ⟨(ws c12), (ws c12), none, none⟩, ⟨(ws c13), (ws c13), none, none⟩, ⟨(ws c17), (ws c17), none, none⟩, ⟨(ws c21), (ws c21), none, none⟩]
def F74d_15o (x1 y1 z1 x2 y2 z2 c1 c2 c3 c4 c5 c6 c7 c8 c9 c10 c11 c12 c13 c14 c15 c16 c17 c18 c19 c20 c21 c22 c23 : Fin P) : List (Tmp × RG.SV) := [(16, (.p 14 0)), (17, (.p 15 0)), (2, (.p 0 0)), (3, (.p 1 0)), (11, (.p 9 0)), (4, (.p 2 0))]
set_option maxHeartbeats 2000000 in
set_option maxRecDepth 100000 in
theorem plus_d_c (C : Fld P) (x1 y1 z1 x2 y2 z2 : Fin P)(hz1 : ¬ z1 = 0) (hz2 : ¬ z2 = 0) (hx : ¬ EC.plAx x1 z2 = EC.plAx x2 z1)  : Gives 74 #[(rv x1 y1 z1), (rv x2 y2 z2)] (rv (EC.plX (EC.plAx x1 z2) (EC.plAy y1 z2) (EC.plAx x2 z1) (EC.plAy y2 z1)) (EC.plY (EC.plAx x1 z2) (EC.plAy y1 z2) (EC.plAx x2 z1) (EC.plAy y2 z1)) (EC.plZ z1 z2 (EC.plAx x1 z2) (EC.plAx x2 z1))) := by
  intro w
  obtain ⟨c1, hc1⟩ : ∃ c, c = z1 * z1 := ⟨_, rfl⟩
  obtain ⟨c2, hc2⟩ : ∃ c, c = z2 * z2 := ⟨_, rfl⟩
  obtain ⟨c3, hc3⟩ : ∃ c, c = x1 * c2 := ⟨_, rfl⟩
  obtain ⟨c4, hc4⟩ : ∃ c, c = x2 * c1 := ⟨_, rfl⟩
  obtain ⟨c5, hc5⟩ : ∃ c, c = y1 * c2 := ⟨_, rfl⟩
  obtain ⟨c6, hc6⟩ : ∃ c, c = c5 * z2 := ⟨_, rfl⟩
  obtain ⟨c7, hc7⟩ : ∃ c, c = y2 * c1 := ⟨_, rfl⟩
  obtain ⟨c8, hc8⟩ : ∃ c, c = c7 * z1 := ⟨_, rfl⟩
  obtain ⟨c9, hc9⟩ : ∃ c, c = c4 - c3 := ⟨_, rfl⟩
  obtain ⟨c10, hc10⟩ : ∃ c, c = c8 - c6 := ⟨_, rfl⟩
  obtain ⟨c11, hc11⟩ : ∃ c, c = c9 * c9 := ⟨_, rfl⟩
  obtain ⟨c12, hc12⟩ : ∃ c, c = c11 * c9 := ⟨_, rfl⟩
  obtain ⟨c13, hc13⟩ : ∃ c, c = c11 * c3 := ⟨_, rfl⟩
  obtain ⟨c14, hc14⟩ : ∃ c, c = c10 * c10 := ⟨_, rfl⟩
  obtain ⟨c15, hc15⟩ : ∃ c, c = c14 - c12 := ⟨_, rfl⟩
  obtain ⟨c16, hc16⟩ : ∃ c, c = EC.dbl c13 := ⟨_, rfl⟩
  obtain ⟨c17, hc17⟩ : ∃ c, c = c15 - c16 := ⟨_, rfl⟩
  obtain ⟨c18, hc18⟩ : ∃ c, c = c13 - c17 := ⟨_, rfl⟩
  obtain ⟨c19, hc19⟩ : ∃ c, c = c10 * c18 := ⟨_, rfl⟩
  obtain ⟨c20, hc20⟩ : ∃ c, c = c12 * c6 := ⟨_, rfl⟩
  obtain ⟨c21, hc21⟩ : ∃ c, c = c19 - c20 := ⟨_, rfl⟩
  obtain ⟨c22, hc22⟩ : ∃ c, c = z1 * z2 := ⟨_, rfl⟩
  obtain ⟨c23, hc23⟩ : ∃ c, c = c22 * c9 := ⟨_, rfl⟩
  have hfin : ((rv c17 c21 c23) : Value) = (rv (EC.plX (EC.plAx x1 z2) (EC.plAy y1 z2) (EC.plAx x2 z1) (EC.plAy y2 z1)) (EC.plY (EC.plAx x1 z2) (EC.plAy y1 z2) (EC.plAx x2 z1) (EC.plAy y2 z1)) (EC.plZ z1 z2 (EC.plAx x1 z2) (EC.plAx x2 z1))) := by
    subst_vars; rfl
  rw [← hfin]
  go_enter Try.func74, Try.ntmps74
  have hS0 := RG.St.begin w
  repeat refine wp_seq ?_
  refine RG.region_text (its := F74d_0i x1 y1 z1 x2 y2 z2 c1 c2 c3 c4 c5 c6 c7 c8 c9 c10 c11 c12 c13 c14 c15 c16 c17 c18 c19 c20 c21 c22 c23) (bl := F74d_0b x1 y1 z1 x2 y2 z2 c1 c2 c3 c4 c5 c6 c7 c8 c9 c10 c11 c12 c13 c14 c15 c16 c17 c18 c19 c20 c21 c22 c23) (olds := F74d_0o x1 y1 z1 x2 y2 z2 c1 c2 c3 c4 c5 c6 c7 c8 c9 c10 c11 c12 c13 c14 c15 c16 c17 c18 c19 c20 c21 c22 c23) hS0 (RG.Reg.mk' (by kernel_rfl) ⟨by kernel_rfl, by kernel_rfl, trivial⟩ ⟨?_, ?_, ?_, trivial⟩) (by kernel_rfl) (by kernel_rfl) (by kernel_rfl) ?_
  · exact RG.cert_box 0 rfl rfl _ rfl 117 0 rfl (rv x1 y1 z1) (fun μ a K => K.old 0 (.v (rv x1 y1 z1)) (List.Mem.head _) (by kernel_rfl)) (fun w => by kernel_rfl)
  · exact RG.cert_box 1 rfl rfl _ rfl 117 1 rfl (rv x2 y2 z2) (fun μ a K => K.old 1 (.v (rv x2 y2 z2)) (List.Mem.tail _ (List.Mem.head _)) (by kernel_rfl)) (fun w => by kernel_rfl)
  · exact RG.cert_alloc 2 rfl rfl _ rfl 117 rfl (fun w => by kernel_rfl)
  intro new1 w1 hl1 hS1
  obtain ⟨j1, i1, m1, rfl⟩ := RG.len3 hl1
  repeat refine wp_seq ?_
  refine RG.region_text (its := F74d_1i x1 y1 z1 x2 y2 z2 c1 c2 c3 c4 c5 c6 c7 c8 c9 c10 c11 c12 c13 c14 c15 c16 c17 c18 c19 c20 c21 c22 c23) (bl := F74d_1b x1 y1 z1 x2 y2 z2 c1 c2 c3 c4 c5 c6 c7 c8 c9 c10 c11 c12 c13 c14 c15 c16 c17 c18 c19 c20 c21 c22 c23) (olds := F74d_1o x1 y1 z1 x2 y2 z2 c1 c2 c3 c4 c5 c6 c7 c8 c9 c10 c11 c12 c13 c14 c15 c16 c17 c18 c19 c20 c21 c22 c23) hS1 (RG.Reg.mk' (by kernel_rfl) ⟨by kernel_rfl, trivial⟩ ⟨?_, ?_, trivial⟩) (by kernel_rfl) (by kernel_rfl) (by kernel_rfl) ?_
  · exact RG.cert_load rfl 0 0 _ rfl rfl (by kernel_rfl) 117 2 rfl (ws x1 ++ (ws y1 ++ (ws z1))) rfl (fun μ a K => K.old 2 (.p 0 0) (List.Mem.head _) (by kernel_rfl)) (by kernel_rfl) u117 i117
  · exact RG.cert_call1 rfl 101 18 (rv x1 y1 z1) (.bool false) rfl (fun a w => by kernel_rfl) (fun μ a K => by have h := K.op 18 0 (List.Mem.head _) rfl; exact h) (nothing_f_c C x1 y1 z1 hz1)
  intro new2 w2 hl2 hS2
  obtain rfl := RG.len0 hl2
  repeat refine wp_seq ?_
  refine wp_cond_false (by kernel_rfl) ?_
  refine wp_skip ?_
  repeat refine wp_seq ?_
  refine RG.region_text (its := F74d_3i x1 y1 z1 x2 y2 z2 c1 c2 c3 c4 c5 c6 c7 c8 c9 c10 c11 c12 c13 c14 c15 c16 c17 c18 c19 c20 c21 c22 c23) (bl := F74d_3b x1 y1 z1 x2 y2 z2 c1 c2 c3 c4 c5 c6 c7 c8 c9 c10 c11 c12 c13 c14 c15 c16 c17 c18 c19 c20 c21 c22 c23) (olds := F74d_3o x1 y1 z1 x2 y2 z2 c1 c2 c3 c4 c5 c6 c7 c8 c9 c10 c11 c12 c13 c14 c15 c16 c17 c18 c19 c20 c21 c22 c23) hS2 (RG.Reg.mk' (by kernel_rfl) ⟨by kernel_rfl, trivial⟩ ⟨?_, ?_, trivial⟩) (by kernel_rfl) (by kernel_rfl) (by kernel_rfl) ?_
  · exact RG.cert_load rfl 1 0 _ rfl rfl (by kernel_rfl) 117 3 rfl (ws x2 ++ (ws y2 ++ (ws z2))) rfl (fun μ a K => K.old 3 (.p 1 0) (List.Mem.head _) (by kernel_rfl)) (by kernel_rfl) u117 i117
  · exact RG.cert_call1 rfl 101 21 (rv x2 y2 z2) (.bool false) rfl (fun a w => by kernel_rfl) (fun μ a K => by have h := K.op 21 0 (List.Mem.head _) rfl; exact h) (nothing_f_c C x2 y2 z2 hz2)
  intro new3 w3 hl3 hS3
  obtain rfl := RG.len0 hl3
  repeat refine wp_seq ?_
  refine wp_cond_false (by kernel_rfl) ?_
  refine wp_skip ?_
  repeat refine wp_seq ?_
  refine RG.region_draws (by kernel_rfl) (its := F74d_5i x1 y1 z1 x2 y2 z2 c1 c2 c3 c4 c5 c6 c7 c8 c9 c10 c11 c12 c13 c14 c15 c16 c17 c18 c19 c20 c21 c22 c23) (bl := F74d_5b x1 y1 z1 x2 y2 z2 c1 c2 c3 c4 c5 c6 c7 c8 c9 c10 c11 c12 c13 c14 c15 c16 c17 c18 c19 c20 c21 c22 c23) (olds := F74d_5o x1 y1 z1 x2 y2 z2 c1 c2 c3 c4 c5 c6 c7 c8 c9 c10 c11 c12 c13 c14 c15 c16 c17 c18 c19 c20 c21 c22 c23) hS3 (RG.Reg.mk' (by kernel_rfl) ⟨by kernel_rfl, by kernel_rfl, trivial⟩ ⟨?_, ?_, ?_, ?_, ?_, ?_, ?_, ?_, ?_, ?_, ?_, ?_, ?_, ?_, trivial⟩) (by kernel_rfl) (by kernel_rfl) (by kernel_rfl) ?_
  · exact RG.cert_field rfl 117 2 2 rfl 0 0 8 rfl (fun μ a K => K.old 2 (.p 0 0) (List.Mem.head _) (by kernel_rfl)) (fun k w => by kernel_rfl)
  · exact RG.cert_load rfl 0 8 _ rfl rfl (by kernel_rfl) 115 24 rfl (ws z1) rfl (fun μ a K => by have h := K.op 24 0 (List.Mem.head _) rfl; exact h) (by kernel_rfl) u115 i115
  · exact RG.cert_field rfl 117 2 2 rfl 0 0 8 rfl (fun μ a K => K.old 2 (.p 0 0) (List.Mem.head _) (by kernel_rfl)) (fun k w => by kernel_rfl)
  · exact RG.cert_load rfl 0 8 _ rfl rfl (by kernel_rfl) 115 26 rfl (ws z1) rfl (fun μ a K => by have h := K.op 26 2 (List.Mem.head _) rfl; exact h) (by kernel_rfl) u115 i115
  · exact RG.cert_call2 rfl 102 25 27 (fv z1) (fv z1) (fv c1) rfl (fun a w => by kernel_rfl) (fun μ a K => by have h := K.op 25 1 (List.Mem.head _) rfl; exact h) (fun μ a K => by have h := K.op 27 3 (List.Mem.tail _ (List.Mem.head _)) rfl; exact h) (hc1 ▸ CTimes_c C z1 z1)
  · exact RG.cert_field rfl 117 3 2 rfl 1 0 8 rfl (fun μ a K => K.old 3 (.p 1 0) (List.Mem.tail _ (List.Mem.head _)) (by kernel_rfl)) (fun k w => by kernel_rfl)
  · exact RG.cert_load rfl 1 8 _ rfl rfl (by kernel_rfl) 115 29 rfl (ws z2) rfl (fun μ a K => by have h := K.op 29 5 (List.Mem.head _) rfl; exact h) (by kernel_rfl) u115 i115
  · exact RG.cert_field rfl 117 3 2 rfl 1 0 8 rfl (fun μ a K => K.old 3 (.p 1 0) (List.Mem.tail _ (List.Mem.head _)) (by kernel_rfl)) (fun k w => by kernel_rfl)
  · exact RG.cert_load rfl 1 8 _ rfl rfl (by kernel_rfl) 115 31 rfl (ws z2) rfl (fun μ a K => by have h := K.op 31 7 (List.Mem.head _) rfl; exact h) (by kernel_rfl) u115 i115
  · exact RG.cert_call2 rfl 102 30 32 (fv z2) (fv z2) (fv c2) rfl (fun a w => by kernel_rfl) (fun μ a K => by have h := K.op 30 6 (List.Mem.head _) rfl; exact h) (fun μ a K => by have h := K.op 32 8 (List.Mem.tail _ (List.Mem.head _)) rfl; exact h) (hc2 ▸ CTimes_c C z2 z2)
  · exact RG.cert_alloc 3 rfl rfl _ rfl 115 rfl (fun w => by kernel_rfl)
  · exact RG.cert_alloc 4 rfl rfl _ rfl 115 rfl (fun w => by kernel_rfl)
  · exact RG.cert_put 3 rfl _ rfl 115 (.tmp 5) (.tmp 28) rfl rfl rfl (fun μ a K => by have h := K.op 5 10 (List.Mem.head _) rfl; exact h) (fun μ a K => by have h := K.op 28 4 (List.Mem.tail _ (List.Mem.head _)) rfl; exact h) i115 rfl
  · exact RG.cert_put 4 rfl _ rfl 115 (.tmp 6) (.tmp 33) rfl rfl rfl (fun μ a K => by have h := K.op 6 11 (List.Mem.head _) rfl; exact h) (fun μ a K => by have h := K.op 33 9 (List.Mem.tail _ (List.Mem.head _)) rfl; exact h) i115 rfl
  intro new4 w4 hl4 hS4
  obtain ⟨j4, i4, rfl⟩ := RG.len2 hl4
  repeat refine wp_seq ?_
  refine RG.region_draws (by kernel_rfl) (its := F74d_6i x1 y1 z1 x2 y2 z2 c1 c2 c3 c4 c5 c6 c7 c8 c9 c10 c11 c12 c13 c14 c15 c16 c17 c18 c19 c20 c21 c22 c23) (bl := F74d_6b x1 y1 z1 x2 y2 z2 c1 c2 c3 c4 c5 c6 c7 c8 c9 c10 c11 c12 c13 c14 c15 c16 c17 c18 c19 c20 c21 c22 c23) (olds := F74d_6o x1 y1 z1 x2 y2 z2 c1 c2 c3 c4 c5 c6 c7 c8 c9 c10 c11 c12 c13 c14 c15 c16 c17 c18 c19 c20 c21 c22 c23) hS4 (RG.Reg.mk' (by kernel_rfl) ⟨by kernel_rfl, by kernel_rfl, by kernel_rfl, by kernel_rfl, trivial⟩ ⟨?_, ?_, ?_, ?_, ?_, ?_, ?_, ?_, ?_, ?_, ?_, ?_, trivial⟩) (by kernel_rfl) (by kernel_rfl) (by kernel_rfl) ?_
  · exact RG.cert_field rfl 117 2 0 rfl 0 0 0 rfl (fun μ a K => K.old 2 (.p 0 0) (List.Mem.head _) (by kernel_rfl)) (fun k w => by kernel_rfl)
  · exact RG.cert_load rfl 0 0 _ rfl rfl (by kernel_rfl) 115 34 rfl (ws x1) rfl (fun μ a K => by have h := K.op 34 0 (List.Mem.head _) rfl; exact h) (by kernel_rfl) u115 i115
  · exact RG.cert_load rfl 4 0 _ rfl rfl (by kernel_rfl) 115 6 rfl (ws c2) rfl (fun μ a K => K.old 6 (.p 4 0) (List.Mem.tail _ (List.Mem.head _)) (by kernel_rfl)) (by kernel_rfl) u115 i115
  · exact RG.cert_call2 rfl 102 35 36 (fv x1) (fv c2) (fv c3) rfl (fun a w => by kernel_rfl) (fun μ a K => by have h := K.op 35 1 (List.Mem.head _) rfl; exact h) (fun μ a K => by have h := K.op 36 2 (List.Mem.tail _ (List.Mem.head _)) rfl; exact h) (hc3 ▸ CTimes_c C x1 c2)
  · exact RG.cert_field rfl 117 3 0 rfl 1 0 0 rfl (fun μ a K => K.old 3 (.p 1 0) (List.Mem.tail _ (List.Mem.tail _ (List.Mem.head _))) (by kernel_rfl)) (fun k w => by kernel_rfl)
  · exact RG.cert_load rfl 1 0 _ rfl rfl (by kernel_rfl) 115 38 rfl (ws x2) rfl (fun μ a K => by have h := K.op 38 4 (List.Mem.head _) rfl; exact h) (by kernel_rfl) u115 i115
  · exact RG.cert_load rfl 3 0 _ rfl rfl (by kernel_rfl) 115 5 rfl (ws c1) rfl (fun μ a K => K.old 5 (.p 3 0) (List.Mem.tail _ (List.Mem.tail _ (List.Mem.tail _ (List.Mem.head _)))) (by kernel_rfl)) (by kernel_rfl) u115 i115
  · exact RG.cert_call2 rfl 102 39 40 (fv x2) (fv c1) (fv c4) rfl (fun a w => by kernel_rfl) (fun μ a K => by have h := K.op 39 5 (List.Mem.head _) rfl; exact h) (fun μ a K => by have h := K.op 40 6 (List.Mem.tail _ (List.Mem.head _)) rfl; exact h) (hc4 ▸ CTimes_c C x2 c1)
  · exact RG.cert_alloc 5 rfl rfl _ rfl 115 rfl (fun w => by kernel_rfl)
  · exact RG.cert_alloc 6 rfl rfl _ rfl 115 rfl (fun w => by kernel_rfl)
  · exact RG.cert_put 5 rfl _ rfl 115 (.tmp 7) (.tmp 37) rfl rfl rfl (fun μ a K => by have h := K.op 7 8 (List.Mem.head _) rfl; exact h) (fun μ a K => by have h := K.op 37 3 (List.Mem.tail _ (List.Mem.head _)) rfl; exact h) i115 rfl
  · exact RG.cert_put 6 rfl _ rfl 115 (.tmp 8) (.tmp 41) rfl rfl rfl (fun μ a K => by have h := K.op 8 9 (List.Mem.head _) rfl; exact h) (fun μ a K => by have h := K.op 41 7 (List.Mem.tail _ (List.Mem.head _)) rfl; exact h) i115 rfl
  intro new5 w5 hl5 hS5
  obtain ⟨j5, i5, rfl⟩ := RG.len2 hl5
  repeat refine wp_seq ?_
  refine RG.region_draws (by kernel_rfl) (its := F74d_7i x1 y1 z1 x2 y2 z2 c1 c2 c3 c4 c5 c6 c7 c8 c9 c10 c11 c12 c13 c14 c15 c16 c17 c18 c19 c20 c21 c22 c23) (bl := F74d_7b x1 y1 z1 x2 y2 z2 c1 c2 c3 c4 c5 c6 c7 c8 c9 c10 c11 c12 c13 c14 c15 c16 c17 c18 c19 c20 c21 c22 c23) (olds := F74d_7o x1 y1 z1 x2 y2 z2 c1 c2 c3 c4 c5 c6 c7 c8 c9 c10 c11 c12 c13 c14 c15 c16 c17 c18 c19 c20 c21 c22 c23) hS5 (RG.Reg.mk' (by kernel_rfl) ⟨by kernel_rfl, by kernel_rfl, by kernel_rfl, by kernel_rfl, trivial⟩ ⟨?_, ?_, ?_, ?_, ?_, ?_, ?_, ?_, ?_, ?_, ?_, ?_, ?_, ?_, ?_, ?_, ?_, ?_, trivial⟩) (by kernel_rfl) (by kernel_rfl) (by kernel_rfl) ?_
  · exact RG.cert_field rfl 117 2 1 rfl 0 0 4 rfl (fun μ a K => K.old 2 (.p 0 0) (List.Mem.head _) (by kernel_rfl)) (fun k w => by kernel_rfl)
  · exact RG.cert_load rfl 0 4 _ rfl rfl (by kernel_rfl) 115 42 rfl (ws y1) rfl (fun μ a K => by have h := K.op 42 0 (List.Mem.head _) rfl; exact h) (by kernel_rfl) u115 i115
  · exact RG.cert_load rfl 4 0 _ rfl rfl (by kernel_rfl) 115 6 rfl (ws c2) rfl (fun μ a K => K.old 6 (.p 4 0) (List.Mem.tail _ (List.Mem.head _)) (by kernel_rfl)) (by kernel_rfl) u115 i115
  · exact RG.cert_call2 rfl 102 43 44 (fv y1) (fv c2) (fv c5) rfl (fun a w => by kernel_rfl) (fun μ a K => by have h := K.op 43 1 (List.Mem.head _) rfl; exact h) (fun μ a K => by have h := K.op 44 2 (List.Mem.tail _ (List.Mem.head _)) rfl; exact h) (hc5 ▸ CTimes_c C y1 c2)
  · exact RG.cert_field rfl 117 3 2 rfl 1 0 8 rfl (fun μ a K => K.old 3 (.p 1 0) (List.Mem.tail _ (List.Mem.tail _ (List.Mem.head _))) (by kernel_rfl)) (fun k w => by kernel_rfl)
  · exact RG.cert_load rfl 1 8 _ rfl rfl (by kernel_rfl) 115 46 rfl (ws z2) rfl (fun μ a K => by have h := K.op 46 4 (List.Mem.head _) rfl; exact h) (by kernel_rfl) u115 i115
  · exact RG.cert_call2 rfl 102 45 47 (fv c5) (fv z2) (fv c6) rfl (fun a w => by kernel_rfl) (fun μ a K => by have h := K.op 45 3 (List.Mem.head _) rfl; exact h) (fun μ a K => by have h := K.op 47 5 (List.Mem.tail _ (List.Mem.head _)) rfl; exact h) (hc6 ▸ CTimes_c C c5 z2)
  · exact RG.cert_field rfl 117 3 1 rfl 1 0 4 rfl (fun μ a K => K.old 3 (.p 1 0) (List.Mem.tail _ (List.Mem.tail _ (List.Mem.head _))) (by kernel_rfl)) (fun k w => by kernel_rfl)
  · exact RG.cert_load rfl 1 4 _ rfl rfl (by kernel_rfl) 115 49 rfl (ws y2) rfl (fun μ a K => by have h := K.op 49 7 (List.Mem.head _) rfl; exact h) (by kernel_rfl) u115 i115
  · exact RG.cert_load rfl 3 0 _ rfl rfl (by kernel_rfl) 115 5 rfl (ws c1) rfl (fun μ a K => K.old 5 (.p 3 0) (List.Mem.tail _ (List.Mem.tail _ (List.Mem.tail _ (List.Mem.head _)))) (by kernel_rfl)) (by kernel_rfl) u115 i115
  · exact RG.cert_call2 rfl 102 50 51 (fv y2) (fv c1) (fv c7) rfl (fun a w => by kernel_rfl) (fun μ a K => by have h := K.op 50 8 (List.Mem.head _) rfl; exact h) (fun μ a K => by have h := K.op 51 9 (List.Mem.tail _ (List.Mem.head _)) rfl; exact h) (hc7 ▸ CTimes_c C y2 c1)
  · exact RG.cert_field rfl 117 2 2 rfl 0 0 8 rfl (fun μ a K => K.old 2 (.p 0 0) (List.Mem.head _) (by kernel_rfl)) (fun k w => by kernel_rfl)
  · exact RG.cert_load rfl 0 8 _ rfl rfl (by kernel_rfl) 115 53 rfl (ws z1) rfl (fun μ a K => by have h := K.op 53 11 (List.Mem.head _) rfl; exact h) (by kernel_rfl) u115 i115
  · exact RG.cert_call2 rfl 102 52 54 (fv c7) (fv z1) (fv c8) rfl (fun a w => by kernel_rfl) (fun μ a K => by have h := K.op 52 10 (List.Mem.head _) rfl; exact h) (fun μ a K => by have h := K.op 54 12 (List.Mem.tail _ (List.Mem.head _)) rfl; exact h) (hc8 ▸ CTimes_c C c7 z1)
  · exact RG.cert_alloc 7 rfl rfl _ rfl 115 rfl (fun w => by kernel_rfl)
  · exact RG.cert_alloc 8 rfl rfl _ rfl 115 rfl (fun w => by kernel_rfl)
  · exact RG.cert_put 7 rfl _ rfl 115 (.tmp 9) (.tmp 48) rfl rfl rfl (fun μ a K => by have h := K.op 9 14 (List.Mem.head _) rfl; exact h) (fun μ a K => by have h := K.op 48 6 (List.Mem.tail _ (List.Mem.head _)) rfl; exact h) i115 rfl
  · exact RG.cert_put 8 rfl _ rfl 115 (.tmp 10) (.tmp 55) rfl rfl rfl (fun μ a K => by have h := K.op 10 15 (List.Mem.head _) rfl; exact h) (fun μ a K => by have h := K.op 55 13 (List.Mem.tail _ (List.Mem.head _)) rfl; exact h) i115 rfl
  intro new6 w6 hl6 hS6
  obtain ⟨j6, i6, rfl⟩ := RG.len2 hl6
  repeat refine wp_seq ?_
  refine RG.region_text (its := F74d_8i x1 y1 z1 x2 y2 z2 c1 c2 c3 c4 c5 c6 c7 c8 c9 c10 c11 c12 c13 c14 c15 c16 c17 c18 c19 c20 c21 c22 c23) (bl := F74d_8b x1 y1 z1 x2 y2 z2 c1 c2 c3 c4 c5 c6 c7 c8 c9 c10 c11 c12 c13 c14 c15 c16 c17 c18 c19 c20 c21 c22 c23) (olds := F74d_8o x1 y1 z1 x2 y2 z2 c1 c2 c3 c4 c5 c6 c7 c8 c9 c10 c11 c12 c13 c14 c15 c16 c17 c18 c19 c20 c21 c22 c23) hS6 (RG.Reg.mk' (by kernel_rfl) ⟨by kernel_rfl, by kernel_rfl, trivial⟩ ⟨?_, ?_, ?_, ?_, ?_, ?_, ?_, ?_, trivial⟩) (by kernel_rfl) (by kernel_rfl) (by kernel_rfl) ?_
  · exact RG.cert_load rfl 5 0 _ rfl rfl (by kernel_rfl) 115 7 rfl (ws c3) rfl (fun μ a K => K.old 7 (.p 5 0) (List.Mem.head _) (by kernel_rfl)) (by kernel_rfl) u115 i115
  · exact RG.cert_load rfl 6 0 _ rfl rfl (by kernel_rfl) 115 8 rfl (ws c4) rfl (fun μ a K => K.old 8 (.p 6 0) (List.Mem.tail _ (List.Mem.head _)) (by kernel_rfl)) (by kernel_rfl) u115 i115
  · exact RG.cert_bin rfl .eql 115 115 56 57 (fv c3) (fv c4) (.bool false) rfl rfl (fun μ a K => by have h := K.op 56 0 (List.Mem.head _) rfl; exact h) (fun μ a K => by have h := K.op 57 1 (List.Mem.tail _ (List.Mem.head _)) rfl; exact h) (fun w => by kernel_rfl) (eqC_f C (by subst_vars; exact hx))
  · exact RG.cert_move rfl 58 (Or.inl rfl) (fun μ a K => by have h := K.op 58 2 (List.Mem.head _) rfl; exact h)
  · exact RG.cert_pass rfl rfl
  · exact RG.cert_pass rfl rfl
  · exact RG.cert_pass rfl rfl
  · exact RG.cert_pick_f rfl 59 62 _ rfl (fun μ a K => by have h := K.op 59 3 (List.Mem.head _) rfl; exact h) rfl
  intro new7 w7 hl7 hS7
  obtain rfl := RG.len0 hl7
  repeat refine wp_seq ?_
  refine wp_cond_false (by kernel_rfl) ?_
  refine wp_skip ?_
  repeat refine wp_seq ?_
  refine RG.region_draws (by kernel_rfl) (its := F74d_10i x1 y1 z1 x2 y2 z2 c1 c2 c3 c4 c5 c6 c7 c8 c9 c10 c11 c12 c13 c14 c15 c16 c17 c18 c19 c20 c21 c22 c23) (bl := F74d_10b x1 y1 z1 x2 y2 z2 c1 c2 c3 c4 c5 c6 c7 c8 c9 c10 c11 c12 c13 c14 c15 c16 c17 c18 c19 c20 c21 c22 c23) (olds := F74d_10o x1 y1 z1 x2 y2 z2 c1 c2 c3 c4 c5 c6 c7 c8 c9 c10 c11 c12 c13 c14 c15 c16 c17 c18 c19 c20 c21 c22 c23) hS7 (RG.Reg.mk' (by kernel_rfl) ⟨by kernel_rfl, by kernel_rfl, by kernel_rfl, by kernel_rfl, trivial⟩ ⟨?_, ?_, ?_, ?_, ?_, ?_, ?_, ?_, ?_, ?_, trivial⟩) (by kernel_rfl) (by kernel_rfl) (by kernel_rfl) ?_
  · exact RG.cert_load rfl 6 0 _ rfl rfl (by kernel_rfl) 115 8 rfl (ws c4) rfl (fun μ a K => K.old 8 (.p 6 0) (List.Mem.head _) (by kernel_rfl)) (by kernel_rfl) u115 i115
  · exact RG.cert_load rfl 5 0 _ rfl rfl (by kernel_rfl) 115 7 rfl (ws c3) rfl (fun μ a K => K.old 7 (.p 5 0) (List.Mem.tail _ (List.Mem.head _)) (by kernel_rfl)) (by kernel_rfl) u115 i115
  · exact RG.cert_call2 rfl 104 66 67 (fv c4) (fv c3) (fv c9) rfl (fun a w => by kernel_rfl) (fun μ a K => by have h := K.op 66 0 (List.Mem.head _) rfl; exact h) (fun μ a K => by have h := K.op 67 1 (List.Mem.tail _ (List.Mem.head _)) rfl; exact h) (hc9 ▸ CMinus_c C c4 c3)
  · exact RG.cert_load rfl 8 0 _ rfl rfl (by kernel_rfl) 115 10 rfl (ws c8) rfl (fun μ a K => K.old 10 (.p 8 0) (List.Mem.tail _ (List.Mem.tail _ (List.Mem.head _))) (by kernel_rfl)) (by kernel_rfl) u115 i115
  · exact RG.cert_load rfl 7 0 _ rfl rfl (by kernel_rfl) 115 9 rfl (ws c6) rfl (fun μ a K => K.old 9 (.p 7 0) (List.Mem.tail _ (List.Mem.tail _ (List.Mem.tail _ (List.Mem.head _)))) (by kernel_rfl)) (by kernel_rfl) u115 i115
  · exact RG.cert_call2 rfl 104 69 70 (fv c8) (fv c6) (fv c10) rfl (fun a w => by kernel_rfl) (fun μ a K => by have h := K.op 69 3 (List.Mem.head _) rfl; exact h) (fun μ a K => by have h := K.op 70 4 (List.Mem.tail _ (List.Mem.head _)) rfl; exact h) (hc10 ▸ CMinus_c C c8 c6)
  · exact RG.cert_alloc 9 rfl rfl _ rfl 115 rfl (fun w => by kernel_rfl)
  · exact RG.cert_alloc 10 rfl rfl _ rfl 115 rfl (fun w => by kernel_rfl)
  · exact RG.cert_put 9 rfl _ rfl 115 (.tmp 11) (.tmp 68) rfl rfl rfl (fun μ a K => by have h := K.op 11 6 (List.Mem.head _) rfl; exact h) (fun μ a K => by have h := K.op 68 2 (List.Mem.tail _ (List.Mem.head _)) rfl; exact h) i115 rfl
  · exact RG.cert_put 10 rfl _ rfl 115 (.tmp 12) (.tmp 71) rfl rfl rfl (fun μ a K => by have h := K.op 12 7 (List.Mem.head _) rfl; exact h) (fun μ a K => by have h := K.op 71 5 (List.Mem.tail _ (List.Mem.head _)) rfl; exact h) i115 rfl
  intro new8 w8 hl8 hS8
  obtain ⟨j8, i8, rfl⟩ := RG.len2 hl8
  repeat refine wp_seq ?_
  refine RG.region_text (its := F74d_11i x1 y1 z1 x2 y2 z2 c1 c2 c3 c4 c5 c6 c7 c8 c9 c10 c11 c12 c13 c14 c15 c16 c17 c18 c19 c20 c21 c22 c23) (bl := F74d_11b x1 y1 z1 x2 y2 z2 c1 c2 c3 c4 c5 c6 c7 c8 c9 c10 c11 c12 c13 c14 c15 c16 c17 c18 c19 c20 c21 c22 c23) (olds := F74d_11o x1 y1 z1 x2 y2 z2 c1 c2 c3 c4 c5 c6 c7 c8 c9 c10 c11 c12 c13 c14 c15 c16 c17 c18 c19 c20 c21 c22 c23) hS8 (RG.Reg.mk' (by kernel_rfl) ⟨by kernel_rfl, trivial⟩ ⟨?_, ?_, ?_, ?_, ?_, trivial⟩) (by kernel_rfl) (by kernel_rfl) (by kernel_rfl) ?_
  · exact RG.cert_load rfl 9 0 _ rfl rfl (by kernel_rfl) 115 11 rfl (ws c9) rfl (fun μ a K => K.old 11 (.p 9 0) (List.Mem.head _) (by kernel_rfl)) (by kernel_rfl) u115 i115
  · exact RG.cert_load rfl 9 0 _ rfl rfl (by kernel_rfl) 115 11 rfl (ws c9) rfl (fun μ a K => K.old 11 (.p 9 0) (List.Mem.head _) (by kernel_rfl)) (by kernel_rfl) u115 i115
  · exact RG.cert_call2 rfl 102 72 73 (fv c9) (fv c9) (fv c11) rfl (fun a w => by kernel_rfl) (fun μ a K => by have h := K.op 72 0 (List.Mem.head _) rfl; exact h) (fun μ a K => by have h := K.op 73 1 (List.Mem.tail _ (List.Mem.head _)) rfl; exact h) (hc11 ▸ CTimes_c C c9 c9)
  · exact RG.cert_alloc 11 rfl rfl _ rfl 115 rfl (fun w => by kernel_rfl)
  · exact RG.cert_put 11 rfl _ rfl 115 (.tmp 13) (.tmp 74) rfl rfl rfl (fun μ a K => by have h := K.op 13 3 (List.Mem.head _) rfl; exact h) (fun μ a K => by have h := K.op 74 2 (List.Mem.tail _ (List.Mem.head _)) rfl; exact h) i115 rfl
  intro new9 w9 hl9 hS9
  obtain ⟨j9, rfl⟩ := RG.len1 hl9
  repeat refine wp_seq ?_
  refine RG.region_draws (by kernel_rfl) (its := F74d_12i x1 y1 z1 x2 y2 z2 c1 c2 c3 c4 c5 c6 c7 c8 c9 c10 c11 c12 c13 c14 c15 c16 c17 c18 c19 c20 c21 c22 c23) (bl := F74d_12b x1 y1 z1 x2 y2 z2 c1 c2 c3 c4 c5 c6 c7 c8 c9 c10 c11 c12 c13 c14 c15 c16 c17 c18 c19 c20 c21 c22 c23) (olds := F74d_12o x1 y1 z1 x2 y2 z2 c1 c2 c3 c4 c5 c6 c7 c8 c9 c10 c11 c12 c13 c14 c15 c16 c17 c18 c19 c20 c21 c22 c23) hS9 (RG.Reg.mk' (by kernel_rfl) ⟨by kernel_rfl, by kernel_rfl, by kernel_rfl, trivial⟩ ⟨?_, ?_, ?_, ?_, ?_, ?_, ?_, ?_, ?_, ?_, trivial⟩) (by kernel_rfl) (by kernel_rfl) (by kernel_rfl) ?_
  · exact RG.cert_load rfl 11 0 _ rfl rfl (by kernel_rfl) 115 13 rfl (ws c11) rfl (fun μ a K => K.old 13 (.p 11 0) (List.Mem.head _) (by kernel_rfl)) (by kernel_rfl) u115 i115
  · exact RG.cert_load rfl 9 0 _ rfl rfl (by kernel_rfl) 115 11 rfl (ws c9) rfl (fun μ a K => K.old 11 (.p 9 0) (List.Mem.tail _ (List.Mem.head _)) (by kernel_rfl)) (by kernel_rfl) u115 i115
  · exact RG.cert_call2 rfl 102 75 76 (fv c11) (fv c9) (fv c12) rfl (fun a w => by kernel_rfl) (fun μ a K => by have h := K.op 75 0 (List.Mem.head _) rfl; exact h) (fun μ a K => by have h := K.op 76 1 (List.Mem.tail _ (List.Mem.head _)) rfl; exact h) (hc12 ▸ CTimes_c C c11 c9)
  · exact RG.cert_load rfl 11 0 _ rfl rfl (by kernel_rfl) 115 13 rfl (ws c11) rfl (fun μ a K => K.old 13 (.p 11 0) (List.Mem.head _) (by kernel_rfl)) (by kernel_rfl) u115 i115
  · exact RG.cert_load rfl 5 0 _ rfl rfl (by kernel_rfl) 115 7 rfl (ws c3) rfl (fun μ a K => K.old 7 (.p 5 0) (List.Mem.tail _ (List.Mem.tail _ (List.Mem.head _))) (by kernel_rfl)) (by kernel_rfl) u115 i115
  · exact RG.cert_call2 rfl 102 78 79 (fv c11) (fv c3) (fv c13) rfl (fun a w => by kernel_rfl) (fun μ a K => by have h := K.op 78 3 (List.Mem.head _) rfl; exact h) (fun μ a K => by have h := K.op 79 4 (List.Mem.tail _ (List.Mem.head _)) rfl; exact h) (hc13 ▸ CTimes_c C c11 c3)
  · exact RG.cert_alloc 12 rfl rfl _ rfl 115 rfl (fun w => by kernel_rfl)
  · exact RG.cert_alloc 13 rfl rfl _ rfl 115 rfl (fun w => by kernel_rfl)
  · exact RG.cert_put 12 rfl _ rfl 115 (.tmp 14) (.tmp 77) rfl rfl rfl (fun μ a K => by have h := K.op 14 6 (List.Mem.head _) rfl; exact h) (fun μ a K => by have h := K.op 77 2 (List.Mem.tail _ (List.Mem.head _)) rfl; exact h) i115 rfl
  · exact RG.cert_put 13 rfl _ rfl 115 (.tmp 15) (.tmp 80) rfl rfl rfl (fun μ a K => by have h := K.op 15 7 (List.Mem.head _) rfl; exact h) (fun μ a K => by have h := K.op 80 5 (List.Mem.tail _ (List.Mem.head _)) rfl; exact h) i115 rfl
  intro new10 w10 hl10 hS10
  obtain ⟨j10, i10, rfl⟩ := RG.len2 hl10
  repeat refine wp_seq ?_
  refine RG.region_draws (by kernel_rfl) (its := F74d_13i x1 y1 z1 x2 y2 z2 c1 c2 c3 c4 c5 c6 c7 c8 c9 c10 c11 c12 c13 c14 c15 c16 c17 c18 c19 c20 c21 c22 c23) (bl := F74d_13b x1 y1 z1 x2 y2 z2 c1 c2 c3 c4 c5 c6 c7 c8 c9 c10 c11 c12 c13 c14 c15 c16 c17 c18 c19 c20 c21 c22 c23) (olds := F74d_13o x1 y1 z1 x2 y2 z2 c1 c2 c3 c4 c5 c6 c7 c8 c9 c10 c11 c12 c13 c14 c15 c16 c17 c18 c19 c20 c21 c22 c23) hS10 (RG.Reg.mk' (by kernel_rfl) ⟨by kernel_rfl, by kernel_rfl, by kernel_rfl, trivial⟩ ⟨?_, ?_, ?_, ?_, ?_, ?_, ?_, ?_, ?_, ?_, trivial⟩) (by kernel_rfl) (by kernel_rfl) (by kernel_rfl) ?_
  · exact RG.cert_load rfl 10 0 _ rfl rfl (by kernel_rfl) 115 12 rfl (ws c10) rfl (fun μ a K => K.old 12 (.p 10 0) (List.Mem.head _) (by kernel_rfl)) (by kernel_rfl) u115 i115
  · exact RG.cert_load rfl 10 0 _ rfl rfl (by kernel_rfl) 115 12 rfl (ws c10) rfl (fun μ a K => K.old 12 (.p 10 0) (List.Mem.head _) (by kernel_rfl)) (by kernel_rfl) u115 i115
  · exact RG.cert_call2 rfl 102 81 82 (fv c10) (fv c10) (fv c14) rfl (fun a w => by kernel_rfl) (fun μ a K => by have h := K.op 81 0 (List.Mem.head _) rfl; exact h) (fun μ a K => by have h := K.op 82 1 (List.Mem.tail _ (List.Mem.head _)) rfl; exact h) (hc14 ▸ CTimes_c C c10 c10)
  · exact RG.cert_load rfl 12 0 _ rfl rfl (by kernel_rfl) 115 14 rfl (ws c12) rfl (fun μ a K => K.old 14 (.p 12 0) (List.Mem.tail _ (List.Mem.head _)) (by kernel_rfl)) (by kernel_rfl) u115 i115
  · exact RG.cert_call2 rfl 104 83 84 (fv c14) (fv c12) (fv c15) rfl (fun a w => by kernel_rfl) (fun μ a K => by have h := K.op 83 2 (List.Mem.head _) rfl; exact h) (fun μ a K => by have h := K.op 84 3 (List.Mem.tail _ (List.Mem.head _)) rfl; exact h) (hc15 ▸ CMinus_c C c14 c12)
  · exact RG.cert_load rfl 13 0 _ rfl rfl (by kernel_rfl) 115 15 rfl (ws c13) rfl (fun μ a K => K.old 15 (.p 13 0) (List.Mem.tail _ (List.Mem.tail _ (List.Mem.head _))) (by kernel_rfl)) (by kernel_rfl) u115 i115
  · exact RG.cert_call1 rfl 105 86 (fv c13) (fv c16) rfl (fun a w => by kernel_rfl) (fun μ a K => by have h := K.op 86 5 (List.Mem.head _) rfl; exact h) (hc16 ▸ double_c C c13)
  · exact RG.cert_call2 rfl 104 85 87 (fv c15) (fv c16) (fv c17) rfl (fun a w => by kernel_rfl) (fun μ a K => by have h := K.op 85 4 (List.Mem.head _) rfl; exact h) (fun μ a K => by have h := K.op 87 6 (List.Mem.tail _ (List.Mem.head _)) rfl; exact h) (hc17 ▸ CMinus_c C c15 c16)
  · exact RG.cert_alloc 14 rfl rfl _ rfl 115 rfl (fun w => by kernel_rfl)
  · exact RG.cert_put 14 rfl _ rfl 115 (.tmp 16) (.tmp 88) rfl rfl rfl (fun μ a K => by have h := K.op 16 8 (List.Mem.head _) rfl; exact h) (fun μ a K => by have h := K.op 88 7 (List.Mem.tail _ (List.Mem.head _)) rfl; exact h) i115 rfl
  intro new11 w11 hl11 hS11
  obtain ⟨j11, rfl⟩ := RG.len1 hl11
  repeat refine wp_seq ?_
  refine RG.region_draws (by kernel_rfl) (its := F74d_14i x1 y1 z1 x2 y2 z2 c1 c2 c3 c4 c5 c6 c7 c8 c9 c10 c11 c12 c13 c14 c15 c16 c17 c18 c19 c20 c21 c22 c23) (bl := F74d_14b x1 y1 z1 x2 y2 z2 c1 c2 c3 c4 c5 c6 c7 c8 c9 c10 c11 c12 c13 c14 c15 c16 c17 c18 c19 c20 c21 c22 c23) (olds := F74d_14o x1 y1 z1 x2 y2 z2 c1 c2 c3 c4 c5 c6 c7 c8 c9 c10 c11 c12 c13 c14 c15 c16 c17 c18 c19 c20 c21 c22 c23) hS11 (RG.Reg.mk' (by kernel_rfl) ⟨by kernel_rfl, by kernel_rfl, by kernel_rfl, by kernel_rfl, by kernel_rfl, trivial⟩ ⟨?_, ?_, ?_, ?_, ?_, ?_, ?_, ?_, ?_, ?_, ?_, trivial⟩) (by kernel_rfl) (by kernel_rfl) (by kernel_rfl) ?_
  · exact RG.cert_load rfl 10 0 _ rfl rfl (by kernel_rfl) 115 12 rfl (ws c10) rfl (fun μ a K => K.old 12 (.p 10 0) (List.Mem.head _) (by kernel_rfl)) (by kernel_rfl) u115 i115
  · exact RG.cert_load rfl 13 0 _ rfl rfl (by kernel_rfl) 115 15 rfl (ws c13) rfl (fun μ a K => K.old 15 (.p 13 0) (List.Mem.tail _ (List.Mem.head _)) (by kernel_rfl)) (by kernel_rfl) u115 i115
  · exact RG.cert_load rfl 14 0 _ rfl rfl (by kernel_rfl) 115 16 rfl (ws c17) rfl (fun μ a K => K.old 16 (.p 14 0) (List.Mem.tail _ (List.Mem.tail _ (List.Mem.head _))) (by kernel_rfl)) (by kernel_rfl) u115 i115
  · exact RG.cert_call2 rfl 104 90 91 (fv c13) (fv c17) (fv c18) rfl (fun a w => by kernel_rfl) (fun μ a K => by have h := K.op 90 1 (List.Mem.head _) rfl; exact h) (fun μ a K => by have h := K.op 91 2 (List.Mem.tail _ (List.Mem.head _)) rfl; exact h) (hc18 ▸ CMinus_c C c13 c17)
  · exact RG.cert_call2 rfl 102 89 92 (fv c10) (fv c18) (fv c19) rfl (fun a w => by kernel_rfl) (fun μ a K => by have h := K.op 89 0 (List.Mem.head _) rfl; exact h) (fun μ a K => by have h := K.op 92 3 (List.Mem.tail _ (List.Mem.head _)) rfl; exact h) (hc19 ▸ CTimes_c C c10 c18)
  · exact RG.cert_load rfl 12 0 _ rfl rfl (by kernel_rfl) 115 14 rfl (ws c12) rfl (fun μ a K => K.old 14 (.p 12 0) (List.Mem.tail _ (List.Mem.tail _ (List.Mem.tail _ (List.Mem.head _)))) (by kernel_rfl)) (by kernel_rfl) u115 i115
  · exact RG.cert_load rfl 7 0 _ rfl rfl (by kernel_rfl) 115 9 rfl (ws c6) rfl (fun μ a K => K.old 9 (.p 7 0) (List.Mem.tail _ (List.Mem.tail _ (List.Mem.tail _ (List.Mem.tail _ (List.Mem.head _))))) (by kernel_rfl)) (by kernel_rfl) u115 i115
  · exact RG.cert_call2 rfl 102 94 95 (fv c12) (fv c6) (fv c20) rfl (fun a w => by kernel_rfl) (fun μ a K => by have h := K.op 94 5 (List.Mem.head _) rfl; exact h) (fun μ a K => by have h := K.op 95 6 (List.Mem.tail _ (List.Mem.head _)) rfl; exact h) (hc20 ▸ CTimes_c C c12 c6)
  · exact RG.cert_call2 rfl 104 93 96 (fv c19) (fv c20) (fv c21) rfl (fun a w => by kernel_rfl) (fun μ a K => by have h := K.op 93 4 (List.Mem.head _) rfl; exact h) (fun μ a K => by have h := K.op 96 7 (List.Mem.tail _ (List.Mem.head _)) rfl; exact h) (hc21 ▸ CMinus_c C c19 c20)
  · exact RG.cert_alloc 15 rfl rfl _ rfl 115 rfl (fun w => by kernel_rfl)
  · exact RG.cert_put 15 rfl _ rfl 115 (.tmp 17) (.tmp 97) rfl rfl rfl (fun μ a K => by have h := K.op 17 9 (List.Mem.head _) rfl; exact h) (fun μ a K => by have h := K.op 97 8 (List.Mem.tail _ (List.Mem.head _)) rfl; exact h) i115 rfl
  intro new12 w12 hl12 hS12
  obtain ⟨j12, rfl⟩ := RG.len1 hl12
  repeat refine wp_seq ?_
  refine RG.region_draws (by kernel_rfl) (its := F74d_15i x1 y1 z1 x2 y2 z2 c1 c2 c3 c4 c5 c6 c7 c8 c9 c10 c11 c12 c13 c14 c15 c16 c17 c18 c19 c20 c21 c22 c23) (bl := F74d_15b x1 y1 z1 x2 y2 z2 c1 c2 c3 c4 c5 c6 c7 c8 c9 c10 c11 c12 c13 c14 c15 c16 c17 c18 c19 c20 c21 c22 c23) (olds := F74d_15o x1 y1 z1 x2 y2 z2 c1 c2 c3 c4 c5 c6 c7 c8 c9 c10 c11 c12 c13 c14 c15 c16 c17 c18 c19 c20 c21 c22 c23) hS12 (RG.Reg.mk' (by kernel_rfl) ⟨by kernel_rfl, by kernel_rfl, by kernel_rfl, by kernel_rfl, by kernel_rfl, by kernel_rfl, trivial⟩ ⟨?_, ?_, ?_, ?_, ?_, ?_, ?_, ?_, ?_, ?_, ?_, trivial⟩) (by kernel_rfl) (by kernel_rfl) (by kernel_rfl) ?_
  · exact RG.cert_load rfl 14 0 _ rfl rfl (by kernel_rfl) 115 16 rfl (ws c17) rfl (fun μ a K => K.old 16 (.p 14 0) (List.Mem.head _) (by kernel_rfl)) (by kernel_rfl) u115 i115
  · exact RG.cert_load rfl 15 0 _ rfl rfl (by kernel_rfl) 115 17 rfl (ws c21) rfl (fun μ a K => K.old 17 (.p 15 0) (List.Mem.tail _ (List.Mem.head _)) (by kernel_rfl)) (by kernel_rfl) u115 i115
  · exact RG.cert_field rfl 117 2 2 rfl 0 0 8 rfl (fun μ a K => K.old 2 (.p 0 0) (List.Mem.tail _ (List.Mem.tail _ (List.Mem.head _))) (by kernel_rfl)) (fun k w => by kernel_rfl)
  · exact RG.cert_load rfl 0 8 _ rfl rfl (by kernel_rfl) 115 100 rfl (ws z1) rfl (fun μ a K => by have h := K.op 100 2 (List.Mem.head _) rfl; exact h) (by kernel_rfl) u115 i115
  · exact RG.cert_field rfl 117 3 2 rfl 1 0 8 rfl (fun μ a K => K.old 3 (.p 1 0) (List.Mem.tail _ (List.Mem.tail _ (List.Mem.tail _ (List.Mem.head _)))) (by kernel_rfl)) (fun k w => by kernel_rfl)
  · exact RG.cert_load rfl 1 8 _ rfl rfl (by kernel_rfl) 115 102 rfl (ws z2) rfl (fun μ a K => by have h := K.op 102 4 (List.Mem.head _) rfl; exact h) (by kernel_rfl) u115 i115
  · exact RG.cert_call2 rfl 102 101 103 (fv z1) (fv z2) (fv c22) rfl (fun a w => by kernel_rfl) (fun μ a K => by have h := K.op 101 3 (List.Mem.head _) rfl; exact h) (fun μ a K => by have h := K.op 103 5 (List.Mem.tail _ (List.Mem.head _)) rfl; exact h) (hc22 ▸ CTimes_c C z1 z2)
  · exact RG.cert_load rfl 9 0 _ rfl rfl (by kernel_rfl) 115 11 rfl (ws c9) rfl (fun μ a K => K.old 11 (.p 9 0) (List.Mem.tail _ (List.Mem.tail _ (List.Mem.tail _ (List.Mem.tail _ (List.Mem.head _))))) (by kernel_rfl)) (by kernel_rfl) u115 i115
  · exact RG.cert_call2 rfl 102 104 105 (fv c22) (fv c9) (fv c23) rfl (fun a w => by kernel_rfl) (fun μ a K => by have h := K.op 104 6 (List.Mem.head _) rfl; exact h) (fun μ a K => by have h := K.op 105 7 (List.Mem.tail _ (List.Mem.head _)) rfl; exact h) (hc23 ▸ CTimes_c C c22 c9)
  · exact RG.cert_build3 rfl 117 98 99 106 rfl (fv c17) (fv c21) (fv c23) (rv c17 c21 c23) rfl (fun μ a K => by have h := K.op 98 0 (List.Mem.head _) rfl; exact h) (fun μ a K => by have h := K.op 99 1 (List.Mem.tail _ (List.Mem.head _)) rfl; exact h) (fun μ a K => by have h := K.op 106 8 (List.Mem.tail _ (List.Mem.tail _ (List.Mem.head _))) rfl; exact h) (fun w => by kernel_rfl)
  · exact RG.cert_put 2 rfl _ rfl 117 (.tmp 4) (.tmp 107) rfl rfl rfl (fun μ a K => K.old 4 (.p 2 0) (List.Mem.tail _ (List.Mem.tail _ (List.Mem.tail _ (List.Mem.tail _ (List.Mem.tail _ (List.Mem.head _)))))) (by kernel_rfl)) (fun μ a K => by have h := K.op 107 9 (List.Mem.head _) rfl; exact h) i117 rfl
  intro new13 w13 hl13 hS13
  obtain rfl := RG.len0 hl13
  refine wp_ret ?_
  refine bodyPost_ret (v := (rv c17 c21 c23)) (RG.results_row hS13 4 117 rfl 2 _ rfl (by kernel_rfl) u117 i117) (by kernel_rfl) ?_
  exact ⟨_, rfl, hS13.bel.below, rfl⟩

def F74e_0i (x1 y1 z1 x2 y2 z2 c1 c2 c3 c4 c5 c6 c7 c8 c9 c10 c11 c12 c13 c14 c15 c16 c17 c18 c19 c20 c21 c22 c23 : Fin P) : List RG.It := [⟨some 2, [], (.p 0 0), .make 0⟩,
  ⟨some 3, [], (.p 1 0), .make 1⟩,
  ⟨some 4, [], (.p 2 0), .make 2⟩]
def F74e_0b (x1 y1 z1 x2 y2 z2 c1 c2 c3 c4 c5 c6 c7 c8 c9 c10 c11 c12 c13 c14 c15 c16 c17 c18 c19 c20 c21 c22 c23 : Fin P) : List RG.Bl := [⟨(ws x1 ++ (ws y1 ++ (ws z1))), (ws x1 ++ (ws y1 ++ (ws z1))), some 0, none⟩, ⟨(ws x2 ++ (ws y2 ++ (ws z2))), (ws x2 ++ (ws y2 ++ (ws z2))), some 1, none⟩, ⟨[.int .u64 0, .int .u64 0, .int .u64 0, .int .u64 0, .int .u64 0, .int .u64 0, .int .u64 0, .int .u64 0, .int .u64 0, .int .u64 0, .int .u64 0, .int .u64 0], [.int .u64 0, .int .u64 0, .int .u64 0, .int .u64 0, .int .u64 0, .int .u64 0, .int .u64 0, .int .u64 0, .int .u64 0, .int .u64 0, .int .u64 0, .int .u64 0], some 2, none⟩]
def F74e_0o (x1 y1 z1 x2 y2 z2 c1 c2 c3 c4 c5 c6 c7 c8 c9 c10 c11 c12 c13 c14 c15 c16 c17 c18 c19 c20 c21 c22 c23 : Fin P) : List (Tmp × RG.SV) := [(0, (.v (rv x1 y1 z1))), (1, (.v (rv x2 y2 z2)))]
def F74e_1i (x1 y1 z1 x2 y2 z2 c1 c2 c3 c4 c5 c6 c7 c8 c9 c10 c11 c12 c13 c14 c15 c16 c17 c18 c19 c20 c21 c22 c23 : Fin P) : List RG.It := [⟨some 18, [], (.v (rv x1 y1 z1)), .stay⟩,
  ⟨some 19, [(18, 0)], (.v (.bool false)), .call⟩]
def F74e_1b (x1 y1 z1 x2 y2 z2 c1 c2 c3 c4 c5 c6 c7 c8 c9 c10 c11 c12 c13 c14 c15 c16 c17 c18 c19 c20 c21 c22 c23 : Fin P) : List RG.Bl := [⟨(ws x1 ++ (ws y1 ++ (ws z1))), (ws x1 ++ (ws y1 ++ (ws z1))), none, none⟩, ⟨(ws x2 ++ (ws y2 ++ (ws z2))), (ws x2 ++ (ws y2 ++ (ws z2))), none, none⟩, ⟨[.int .u64 0, .int .u64 0, .int .u64 0, .int .u64 0, .int .u64 0, .int .u64 0, .int .u64 0, .int .u64 0, .int .u64 0, .int .u64 0, .int .u64 0, .int .u64 0], [.int .u64 0, .int .u64 0, .int .u64 0, .int .u64 0, .int .u64 0, .int .u64 0, .int .u64 0, .int .u64 0, .int .u64 0, .int .u64 0, .int .u64 0, .int .u64 0], none, none⟩]
def F74e_1o (x1 y1 z1 x2 y2 z2 c1 c2 c3 c4 c5 c6 c7 c8 c9 c10 c11 c12 c13 c14 c15 c16 c17 c18 c19 c20 c21 c22 c23 : Fin P) : List (Tmp × RG.SV) := [(2, (.p 0 0))]
def F74e_3i (x1 y1 z1 x2 y2 z2 c1 c2 c3 c4 c5 c6 c7 c8 c9 c10 c11 c12 c13 c14 c15 c16 c17 c18 c19 c20 c21 c22 c23 : Fin P) : List RG.It := [⟨some 21, [], (.v (rv x2 y2 z2)), .stay⟩,
  ⟨some 22, [(21, 0)], (.v (.bool false)), .call⟩]
def F74e_3b (x1 y1 z1 x2 y2 z2 c1 c2 c3 c4 c5 c6 c7 c8 c9 c10 c11 c12 c13 c14 c15 c16 c17 c18 c19 c20 c21 c22 c23 : Fin P) : List RG.Bl := [⟨(ws x1 ++ (ws y1 ++ (ws z1))), (ws x1 ++ (ws y1 ++ (ws z1))), none, none⟩, ⟨(ws x2 ++ (ws y2 ++ (ws z2))), (ws x2 ++ (ws y2 ++ (ws z2))), none, none⟩, ⟨[.int .u64 0, .int .u64 0, .int .u64 0, .int .u64 0, .int .u64 0, .int .u64 0, .int .u64 0, .int .u64 0, .int .u64 0, .int .u64 0, .int .u64 0, .int .u64 0], [.int .u64 0, .int .u64 0, .int .u64 0, .int .u64 0, .int .u64 0, .int .u64 0, .int .u64 0, .int .u64 0, .int .u64 0, .int .u64 0, .int .u64 0, .int .u64 0], none, none⟩]
def F74e_3o (x1 y1 z1 x2 y2 z2 c1 c2 c3 c4 c5 c6 c7 c8 c9 c10 c11 c12 c13 c14 c15 c16 c17 c18 c19 c20 c21 c22 c23 : Fin P) : List (Tmp × RG.SV) := [(3, (.p 1 0))]
def F74e_5i (x1 y1 z1 x2 y2 z2 c1 c2 c3 c4 c5 c6 c7 c8 c9 c10 c11 c12 c13 c14 c15 c16 c17 c18 c19 c20 c21 c22 c23 : Fin P) : List RG.It := [⟨some 24, [], (.p 0 8), .stay⟩,
  ⟨some 25, [(24, 0)], (.v (fv z1)), .stay⟩,
  ⟨some 26, [], (.p 0 8), .stay⟩,
  ⟨some 27, [(26, 2)], (.v (fv z1)), .stay⟩,
  ⟨some 28, [(25, 1), (27, 3)], (.v (fv c1)), .call⟩,
  ⟨some 29, [], (.p 1 8), .stay⟩,
  ⟨some 30, [(29, 5)], (.v (fv z2)), .stay⟩,
  ⟨some 31, [], (.p 1 8), .stay⟩,
  ⟨some 32, [(31, 7)], (.v (fv z2)), .stay⟩,
  ⟨some 33, [(30, 6), (32, 8)], (.v (fv c2)), .call⟩,
  ⟨some 5, [], (.p 3 0), .make 3⟩,
  ⟨some 6, [], (.p 4 0), .make 4⟩,
  ⟨none, [(5, 10), (28, 4)], (.v undef), .put 3⟩,
  ⟨none, [(6, 11), (33, 9)], (.v undef), .put 4⟩]
def F74e_5b (x1 y1 z1 x2 y2 z2 c1 c2 c3 c4 c5 c6 c7 c8 c9 c10 c11 c12 c13 c14 c15 c16 c17 c18 c19 c20 c21 c22 c23 : Fin P) : List RG.Bl := [⟨(ws x1 ++ (ws y1 ++ (ws z1))), (ws x1 ++ (ws y1 ++ (ws z1))), none, none⟩, ⟨(ws x2 ++ (ws y2 ++ (ws z2))), (ws x2 ++ (ws y2 ++ (ws z2))), none, none⟩, ⟨[.int .u64 0, .int .u64 0, .int .u64 0, .int .u64 0, .int .u64 0, .int .u64 0, .int .u64 0, .int .u64 0, .int .u64 0, .int .u64 0, .int .u64 0, .int .u64 0], [.int .u64 0, .int .u64 0, .int .u64 0, .int .u64 0, .int .u64 0, .int .u64 0, .int .u64 0, .int .u64 0, .int .u64 0, .int .u64 0, .int .u64 0, .int .u64 0], none, none⟩, ⟨[.int .u64 0, .int .u64 0, .int .u64 0, .int .u64 0], (ws c1), some 10, some 12⟩, ⟨[.int .u64 0, .int .u64 0, .int .u64 0, .int .u64 0], (ws c2), some 11, some 13⟩]
def F74e_5o (x1 y1 z1 x2 y2 z2 c1 c2 c3 c4 c5 c6 c7 c8 c9 c10 c11 c12 c13 c14 c15 c16 c17 c18 c19 c20 c21 c22 c23 : Fin P) : List (Tmp × RG.SV) := [(2, (.p 0 0)), (3, (.p 1 0))]
def F74e_6i (x1 y1 z1 x2 y2 z2 c1 c2 c3 c4 c5 c6 c7 c8 c9 c10 c11 c12 c13 c14 c15 c16 c17 c18 c19 c20 c21 c22 c23 : Fin P) : List RG.It := [⟨some 34, [], (.p 0 0), .stay⟩,
  ⟨some 35, [(34, 0)], (.v (fv x1)), .stay⟩,
  ⟨some 36, [], (.v (fv c2)), .stay⟩,
  ⟨some 37, [(35, 1), (36, 2)], (.v (fv c3)), .call⟩,
  ⟨some 38, [], (.p 1 0), .stay⟩,
  ⟨some 39, [(38, 4)], (.v (fv x2)), .stay⟩,
  ⟨some 40, [], (.v (fv c1)), .stay⟩,
  ⟨some 41, [(39, 5), (40, 6)], (.v (fv c4)), .call⟩,
  ⟨some 7, [], (.p 5 0), .make 5⟩,
  ⟨some 8, [], (.p 6 0), .make 6⟩,
  ⟨none, [(7, 8), (37, 3)], (.v undef), .put 5⟩,
  ⟨none, [(8, 9), (41, 7)], (.v undef), .put 6⟩]
def F74e_6b (x1 y1 z1 x2 y2 z2 c1 c2 c3 c4 c5 c6 c7 c8 c9 c10 c11 c12 c13 c14 c15 c16 c17 c18 c19 c20 c21 c22 c23 : Fin P) : List RG.Bl := [⟨(ws x1 ++ (ws y1 ++ (ws z1))), (ws x1 ++ (ws y1 ++ (ws z1))), none, none⟩, ⟨(ws x2 ++ (ws y2 ++ (ws z2))), (ws x2 ++ (ws y2 ++ (ws z2))), none, none⟩, ⟨[.int .u64 0, .int .u64 0, .int .u64 0, .int .u64 0, .int .u64 0, .int .u64 0, .int .u64 0, .int .u64 0, .int .u64 0, .int .u64 0, .int .u64 0, .int .u64 0], [.int .u64 0, .int .u64 0, .int .u64 0, .int .u64 0, .int .u64 0, .int .u64 0, .int .u64 0, .int .u64 0, .int .u64 0, .int .u64 0, .int .u64 0, .int .u64 0], none, none⟩, ⟨(ws c1), (ws c1), none, none⟩, ⟨(ws c2), (ws c2), none, none⟩, ⟨[.int .u64 0, .int .u64 0, .int .u64 0, .int .u64 0], (ws c3), some 8, some 10⟩, ⟨[.int .u64 0, .int .u64 0, .int .u64 0, .int .u64 0], (ws c4), some 9, some 11⟩]
def F74e_6o (x1 y1 z1 x2 y2 z2 c1 c2 c3 c4 c5 c6 c7 c8 c9 c10 c11 c12 c13 c14 c15 c16 c17 c18 c19 c20 c21 c22 c23 : Fin P) : List (Tmp × RG.SV) := [(2, (.p 0 0)), (6, (.p 4 0)), (3, (.p 1 0)), (5, (.p 3 0))]
def F74e_7i (x1 y1 z1 x2 y2 z2 c1 c2 c3 c4 c5 c6 c7 c8 c9 c10 c11 c12 c13 c14 c15 c16 c17 c18 c19 c20 c21 c22 c23 : Fin P) : List RG.It := [⟨some 42, [], (.p 0 4), .stay⟩,
  ⟨some 43, [(42, 0)], (.v (fv y1)), .stay⟩,
  ⟨some 44, [], (.v (fv c2)), .stay⟩,
  ⟨some 45, [(43, 1), (44, 2)], (.v (fv c5)), .call⟩,
  ⟨some 46, [], (.p 1 8), .stay⟩,
  ⟨some 47, [(46, 4)], (.v (fv z2)), .stay⟩,
  ⟨some 48, [(45, 3), (47, 5)], (.v (fv c6)), .call⟩,
  ⟨some 49, [], (.p 1 4), .stay⟩,
  ⟨some 50, [(49, 7)], (.v (fv y2)), .stay⟩,
  ⟨some 51, [], (.v (fv c1)), .stay⟩,
  ⟨some 52, [(50, 8), (51, 9)], (.v (fv c7)), .call⟩,
  ⟨some 53, [], (.p 0 8), .stay⟩,
  ⟨some 54, [(53, 11)], (.v (fv z1)), .stay⟩,
  ⟨some 55, [(52, 10), (54, 12)], (.v (fv c8)), .call⟩,
  ⟨some 9, [], (.p 7 0), .make 7⟩,
  ⟨some 10, [], (.p 8 0), .make 8⟩,
  ⟨none, [(9, 14), (48, 6)], (.v undef), .put 7⟩,
  ⟨none, [(10, 15), (55, 13)], (.v undef), .put 8⟩]
def F74e_7b (x1 y1 z1 x2 y2 z2 c1 c2 c3 c4 c5 c6 c7 c8 c9 c10 c11 c12 c13 c14 c15 c16 c17 c18 c19 c20 c21 c22 c23 : Fin P) : List RG.Bl := [⟨(ws x1 ++ (ws y1 ++ (ws z1))), (ws x1 ++ (ws y1 ++ (ws z1))), none, none⟩, ⟨(ws x2 ++ (ws y2 ++ (ws z2))), (ws x2 ++ (ws y2 ++ (ws z2))), none, none⟩, ⟨[.int .u64 0, .int .u64 0, .int .u64 0, .int .u64 0, .int .u64 0, .int .u64 0, .int .u64 0, .int .u64 0, .int .u64 0, .int .u64 0, .int .u64 0, .int .u64 0], [.int .u64 0, .int .u64 0, .int .u64 0, .int .u64 0, .int .u64 0, .int .u64 0, .int .u64 0, .int .u64 0, .int .u64 0, .int .u64 0, .int .u64 0, .int .u64 0], none, none⟩, ⟨(ws c1), (ws c1), none, none⟩, ⟨(ws c2), (ws c2), none, none⟩, ⟨(ws c3), (ws c3), none, none⟩, ⟨(ws c4), (ws c4), none, none⟩, ⟨[.int .u64 0, .int .u64 0, .int .u64 0, .int .u64 0], (ws c6), some 14, some 16⟩, ⟨[.int .u64 0, .int .u64 0, .int .u64 0, .int .u64 0], (ws c8), some 15, some 17⟩]
def F74e_7o (x1 y1 z1 x2 y2 z2 c1 c2 c3 c4 c5 c6 c7 c8 c9 c10 c11 c12 c13 c14 c15 c16 c17 c18 c19 c20 c21 c22 c23 : Fin P) : List (Tmp × RG.SV) := [(2, (.p 0 0)), (6, (.p 4 0)), (3, (.p 1 0)), (5, (.p 3 0))]
def F74e_8i (x1 y1 z1 x2 y2 z2 c1 c2 c3 c4 c5 c6 c7 c8 c9 c10 c11 c12 c13 c14 c15 c16 c17 c18 c19 c20 c21 c22 c23 : Fin P) : List RG.It := [⟨some 56, [], (.v (fv c3)), .stay⟩,
  ⟨some 57, [], (.v (fv c4)), .stay⟩,
  ⟨some 58, [(56, 0), (57, 1)], (.v (.bool true)), .stay⟩,
  ⟨some 59, [(58, 2)], (.v (.bool true)), .stay⟩,
  ⟨some 60, [], (.v (fv c6)), .stay⟩,
  ⟨some 61, [], (.v (fv c8)), .stay⟩,
  ⟨some 62, [(60, 4), (61, 5)], (.v (.bool false)), .stay⟩,
  ⟨some 63, [(59, 3), (62, 6)], (.v (.bool false)), .stay⟩]
def F74e_8b (x1 y1 z1 x2 y2 z2 c1 c2 c3 c4 c5 c6 c7 c8 c9 c10 c11 c12 c13 c14 c15 c16 c17 c18 c19 c20 c21 c22 c23 : Fin P) : List RG.Bl := [⟨(ws x1 ++ (ws y1 ++ (ws z1))), (ws x1 ++ (ws y1 ++ (ws z1))), none, none⟩, ⟨(ws x2 ++ (ws y2 ++ (ws z2))), (ws x2 ++ (ws y2 ++ (ws z2))), none, none⟩, ⟨[.int .u64 0, .int .u64 0, .int .u64 0, .int .u64 0, .int .u64 0, .int .u64 0, .int .u64 0, .int .u64 0, .int .u64 0, .int .u64 0, .int .u64 0, .int .u64 0], [.int .u64 0, .int .u64 0, .int .u64 0, .int .u64 0, .int .u64 0, .int .u64 0, .int .u64 0, .int .u64 0, .int .u64 0, .int .u64 0, .int .u64 0, .int .u64 0], none, none⟩, ⟨(ws c1), (ws c1), none, none⟩, ⟨(ws c2), (ws c2), none, none⟩, ⟨(ws c3), (ws c3), none, none⟩, ⟨(ws c4), (ws c4), none, none⟩, ⟨(ws c6), (ws c6), none, none⟩, ⟨(ws c8), (ws c8), none, none⟩]
def F74e_8o (x1 y1 z1 x2 y2 z2 c1 c2 c3 c4 c5 c6 c7 c8 c9 c10 c11 c12 c13 c14 c15 c16 c17 c18 c19 c20 c21 c22 c23 : Fin P) : List (Tmp × RG.SV) := [(7, (.p 5 0)), (8, (.p 6 0)), (9, (.p 7 0)), (10, (.p 8 0))]
def F74e_10i (x1 y1 z1 x2 y2 z2 c1 c2 c3 c4 c5 c6 c7 c8 c9 c10 c11 c12 c13 c14 c15 c16 c17 c18 c19 c20 c21 c22 c23 : Fin P) : List RG.It := [⟨some 66, [], (.v (fv c4)), .stay⟩,
  ⟨some 67, [], (.v (fv c3)), .stay⟩,
  ⟨some 68, [(66, 0), (67, 1)], (.v (fv c9)), .call⟩,
  ⟨some 69, [], (.v (fv c8)), .stay⟩,
  ⟨some 70, [], (.v (fv c6)), .stay⟩,
  ⟨some 71, [(69, 3), (70, 4)], (.v (fv c10)), .call⟩,
  ⟨some 11, [], (.p 9 0), .make 9⟩,
  ⟨some 12, [], (.p 10 0), .make 10⟩,
  ⟨none, [(11, 6), (68, 2)], (.v undef), .put 9⟩,
  ⟨none, [(12, 7), (71, 5)], (.v undef), .put 10⟩]
def F74e_10b (x1 y1 z1 x2 y2 z2 c1 c2 c3 c4 c5 c6 c7 c8 c9 c10 c11 c12 c13 c14 c15 c16 c17 c18 c19 c20 c21 c22 c23 : Fin P) : List RG.Bl := [⟨(ws x1 ++ (ws y1 ++ (ws z1))), (ws x1 ++ (ws y1 ++ (ws z1))), none, none⟩, ⟨(ws x2 ++ (ws y2 ++ (ws z2))), (ws x2 ++ (ws y2 ++ (ws z2))), none, none⟩, ⟨[.int .u64 0, .int .u64 0, .int .u64 0, .int .u64 0, .int .u64 0, .int .u64 0, .int .u64 0, .int .u64 0, .int .u64 0, .int .u64 0, .int .u64 0, .int .u64 0], [.int .u64 0, .int .u64 0, .int .u64 0, .int .u64 0, .int .u64 0, .int .u64 0, .int .u64 0, .int .u64 0, .int .u64 0, .int .u64 0, .int .u64 0, .int .u64 0], none, none⟩, ⟨(ws c1), (ws c1), none, none⟩, ⟨(ws c2), (ws c2), none, none⟩, ⟨(ws c3), (ws c3), none, none⟩, ⟨(ws c4), (ws c4), none, none⟩, ⟨(ws c6), (ws c6), none, none⟩, ⟨(ws c8), (ws c8), none, none⟩, ⟨[.int .u64 0, .int .u64 0, .int .u64 0, .int .u64 0], (ws c9), some 6, some 8⟩, ⟨[.int .u64 0, .int .u64 0, .int .u64 0, .int .u64 0], (ws c10), some 7, some 9⟩]
def F74e_10o (x1 y1 z1 x2 y2 z2 c1 c2 c3 c4 c5 c6 c7 c8 c9 c10 c11 c12 c13 c14 c15 c16 c17 c18 c19 c20 c21 c22 c23 : Fin P) : List (Tmp × RG.SV) := [(8, (.p 6 0)), (7, (.p 5 0)), (10, (.p 8 0)), (9, (.p 7 0))]
def F74e_11i (x1 y1 z1 x2 y2 z2 c1 c2 c3 c4 c5 c6 c7 c8 c9 c10 c11 c12 c13 c14 c15 c16 c17 c18 c19 c20 c21 c22 c23 : Fin P) : List RG.It := [⟨some 72, [], (.v (fv c9)), .stay⟩,
  ⟨some 73, [], (.v (fv c9)), .stay⟩,
  ⟨some 74, [(72, 0), (73, 1)], (.v (fv c11)), .call⟩,
  ⟨some 13, [], (.p 11 0), .make 11⟩,
  ⟨none, [(13, 3), (74, 2)], (.v undef), .put 11⟩]
def F74e_11b (x1 y1 z1 x2 y2 z2 c1 c2 c3 c4 c5 c6 c7 c8 c9 c10 c11 c12 c13 c14 c15 c16 c17 c18 c19 c20 c21 c22 c23 : Fin P) : List RG.Bl := [⟨(ws x1 ++ (ws y1 ++ (ws z1))), (ws x1 ++ (ws y1 ++ (ws z1))), none, none⟩, ⟨(ws x2 ++ (ws y2 ++ (ws z2))), (ws x2 ++ (ws y2 ++ (ws z2))), none, none⟩, ⟨[.int .u64 0, .int .u64 0, .int .u64 0, .int .u64 0, .int .u64 0, .int .u64 0, .int .u64 0, .int .u64 0, .int .u64 0, .int .u64 0, .int .u64 0, .int .u64 0], [.int .u64 0, .int .u64 0, .int .u64 0, .int .u64 0, .int .u64 0, .int .u64 0, .int .u64 0, .int .u64 0, .int .u64 0, .int .u64 0, .int .u64 0, .int .u64 0], none, none⟩, ⟨(ws c1), (ws c1), none, none⟩, ⟨(ws c2), (ws c2), none, none⟩, ⟨(ws c3), (ws c3), none, none⟩, ⟨(ws c4), (ws c4), none, none⟩, ⟨(ws c6), (ws c6), none, none⟩, ⟨(ws c8), (ws c8), none, none⟩, ⟨(ws c9), (ws c9), none, none⟩, ⟨(ws c10), (ws c10), none, none⟩, ⟨[.int .u64 0, .int .u64 0, .int .u64 0, .int .u64 0], (ws c11), some 3, some 4⟩]
def F74e_11o (x1 y1 z1 x2 y2 z2 c1 c2 c3 c4 c5 c6 c7 c8 c9 c10 c11 c12 c13 c14 c15 c16 c17 c18 c19 c20 c21 c22 c23 : Fin P) : List (Tmp × RG.SV) := [(11, (.p 9 0))]
def F74e_12i (x1 y1 z1 x2 y2 z2 c1 c2 c3 c4 c5 c6 c7 c8 c9 c10 c11 c12 c13 c14 c15 c16 c17 c18 c19 c20 c21 c22 c23 : Fin P) : List RG.It := [⟨some 75, [], (.v (fv c11)), .stay⟩,
  ⟨some 76, [], (.v (fv c9)), .stay⟩,
  ⟨some 77, [(75, 0), (76, 1)], (.v (fv c12)), .call⟩,
  ⟨some 78, [], (.v (fv c11)), .stay⟩,
  ⟨some 79, [], (.v (fv c3)), .stay⟩,
  ⟨some 80, [(78, 3), (79, 4)], (.v (fv c13)), .call⟩,
  ⟨some 14, [], (.p 12 0), .make 12⟩,
  ⟨some 15, [], (.p 13 0), .make 13⟩,
  ⟨none, [(14, 6), (77, 2)], (.v undef), .put 12⟩,
  ⟨none, [(15, 7), (80, 5)], (.v undef), .put 13⟩]
def F74e_12b (x1 y1 z1 x2 y2 z2 c1 c2 c3 c4 c5 c6 c7 c8 c9 c10 c11 c12 c13 c14 c15 c16 c17 c18 c19 c20 c21 c22 c23 : Fin P) : List RG.Bl := [⟨(ws x1 ++ (ws y1 ++ (ws z1))), (ws x1 ++ (ws y1 ++ (ws z1))), none, none⟩, ⟨(ws x2 ++ (ws y2 ++ (ws z2))), (ws x2 ++ (ws y2 ++ (ws z2))), none, none⟩, ⟨[.int .u64 0, .int .u64 0, .int .u64 0, .int .u64 0, .int .u64 0, .int .u64 0, .int .u64 0, .int .u64 0, .int .u64 0, .int .u64 0, .int .u64 0, .int .u64 0], [.int .u64 0, .int .u64 0, .int .u64 0, .int .u64 0, .int .u64 0, .int .u64 0, .int .u64 0, .int .u64 0, .int .u64 0, .int .u64 0, .int .u64 0, .int .u64 0], none, none⟩, ⟨(ws c1), (ws c1), none, none⟩, ⟨(ws c2), (ws c2), none, none⟩, ⟨(ws c3), (ws c3), none, none⟩, ⟨(ws c4), (ws c4), none, none⟩, ⟨(ws c6), (ws c6), none, none⟩, ⟨(ws c8), (ws c8), none, none⟩, ⟨(ws c9), (ws c9), none, none⟩, ⟨(ws c10), (ws c10), none, none⟩, ⟨(ws c11), (ws c11), none, none⟩, ⟨[.int .u64 0, .int .u64 0, .int .u64 0, .int .u64 0], (ws c12), some 6, some 8⟩, ⟨[.int .u64 0, .int .u64 0, .int .u64 0, .int .u64 0], (ws c13), some 7, some 9⟩]
def F74e_12o (x1 y1 z1 x2 y2 z2 c1 c2 c3 c4 c5 c6 c7 c8 c9 c10 c11 c12 c13 c14 c15 c16 c17 c18 c19 c20 c21 c22 c23 : Fin P) : List (Tmp × RG.SV) := [(13, (.p 11 0)), (11, (.p 9 0)), (7, (.p 5 0))]
def F74e_13i (x1 y1 z1 x2 y2 z2 c1 c2 c3 c4 c5 c6 c7 c8 c9 c10 c11 c12 c13 c14 c15 c16 c17 c18 c19 c20 c21 c22 c23 : Fin P) : List RG.It := [⟨some 81, [], (.v (fv c10)), .stay⟩,
  ⟨some 82, [], (.v (fv c10)), .stay⟩,
  ⟨some 83, [(81, 0), (82, 1)], (.v (fv c14)), .call⟩,
  ⟨some 84, [], (.v (fv c12)), .stay⟩,
  ⟨some 85, [(83, 2), (84, 3)], (.v (fv c15)), .call⟩,
  ⟨some 86, [], (.v (fv c13)), .stay⟩,
  ⟨some 87, [(86, 5)], (.v (fv c16)), .call⟩,
  ⟨some 88, [(85, 4), (87, 6)], (.v (fv c17)), .call⟩,
  ⟨some 16, [], (.p 14 0), .make 14⟩,
  ⟨none, [(16, 8), (88, 7)], (.v undef), .put 14⟩]
def F74e_13b (x1 y1 z1 x2 y2 z2 c1 c2 c3 c4 c5 c6 c7 c8 c9 c10 c11 c12 c13 c14 c15 c16 c17 c18 c19 c20 c21 c22 c23 : Fin P) : List RG.Bl := [⟨(ws x1 ++ (ws y1 ++ (ws z1))), (ws x1 ++ (ws y1 ++ (ws z1))), none, none⟩, ⟨(ws x2 ++ (ws y2 ++ (ws z2))), (ws x2 ++ (ws y2 ++ (ws z2))), none, none⟩, ⟨[.int .u64 0, .int .u64 0, .int .u64 0, .int .u64 0, .int .u64 0, .int .u64 0, .int .u64 0, .int .u64 0, .int .u64 0, .int .u64 0, .int .u64 0, .int .u64 0], [.int .u64 0, .int .u64 0, .int .u64 0, .int .u64 0, .int .u64 0, .int .u64 0, .int .u64 0, .int .u64 0, .int .u64 0, .int .u64 0, .int .u64 0, .int .u64 0], none, none⟩, ⟨(ws c1), (ws c1), none, none⟩, ⟨(ws c2), (ws c2), none, none⟩, ⟨(ws c3), (ws c3), none, none⟩, ⟨(ws c4), (ws c4), none, none⟩, ⟨(ws c6), (ws c6), none, none⟩, ⟨(ws c8), (ws c8), none, none⟩, ⟨(ws c9), (ws c9), none, none⟩, ⟨(ws c10), (ws c10), none, none⟩, ⟨(ws c11), (ws c11), none, none⟩, ⟨(ws c12), (ws c12), none, none⟩, ⟨(ws c13), (ws c13), none, none⟩, ⟨[.int .u64 0, .int .u64 0, .int .u64 0, .int .u64 0], (ws c17), some 8, some 9⟩]
def F74e_13o (x1 y1 z1 x2 y2 z2 c1 c2 c3 c4 c5 c6 c7 c8 c9 c10 c11 c12 c13 c14 c15 c16 c17 c18 c19 c20 c21 c22 c23 : Fin P) : List (Tmp × RG.SV) := [(12, (.p 10 0)), (14, (.p 12 0)), (15, (.p 13 0))]
def F74e_14i (x1 y1 z1 x2 y2 z2 c1 c2 c3 c4 c5 c6 c7 c8 c9 c10 c11 c12 c13 c14 c15 c16 c17 c18 c19 c20 c21 c22 c23 : Fin P) : List RG.It := [⟨some 89, [], (.v (fv c10)), .stay⟩,
  ⟨some 90, [], (.v (fv c13)), .stay⟩,
  ⟨some 91, [], (.v (fv c17)), .stay⟩,
  ⟨some 92, [(90, 1), (91, 2)], (.v (fv c18)), .call⟩,
  ⟨some 93, [(89, 0), (92, 3)], (.v (fv c19)), .call⟩,
  ⟨some 94, [], (.v (fv c12)), .stay⟩,
  ⟨some 95, [], (.v (fv c6)), .stay⟩,
  ⟨some 96, [(94, 5), (95, 6)], (.v (fv c20)), .call⟩,
  ⟨some 97, [(93, 4), (96, 7)], (.v (fv c21)), .call⟩,
  ⟨some 17, [], (.p 15 0), .make 15⟩,
  ⟨none, [(17, 9), (97, 8)], (.v undef), .put 15⟩]
def F74e_14b (x1 y1 z1 x2 y2 z2 c1 c2 c3 c4 c5 c6 c7 c8 c9 c10 c11 c12 c13 c14 c15 c16 c17 c18 c19 c20 c21 c22 c23 : Fin P) : List RG.Bl := [⟨(ws x1 ++ (ws y1 ++ (ws z1))), (ws x1 ++ (ws y1 ++ (ws z1))), none, none⟩, ⟨(ws x2 ++ (ws y2 ++ (ws z2))), (ws x2 ++ (ws y2 ++ (ws z2))), none, none⟩, ⟨[.int .u64 0, .int .u64 0, .int .u64 0, .int .u64 0, .int .u64 0, .int .u64 0, .int .u64 0, .int .u64 0, .int .u64 0, .int .u64 0, .int .u64 0, .int .u64 0], [.int .u64 0, .int .u64 0, .int .u64 0, .int .u64 0, .int .u64 0, .int .u64 0, .int .u64 0, .int .u64 0, .int .u64 0, .int .u64 0, .int .u64 0, .int .u64 0], none, none⟩, ⟨(ws c1), (ws c1), none, none⟩, ⟨(ws c2), (ws c2), none, none⟩, ⟨(ws c3), (ws c3), none, none⟩, ⟨(ws c4), (ws c4), none, none⟩, ⟨(ws c6), (ws c6), none, none⟩, ⟨(ws c8), (ws c8), none, none⟩, ⟨(ws c9), (ws c9), none, none⟩, ⟨(ws c10), (ws c10), none, none⟩, ⟨(ws c11), (ws c11), none, none⟩, ⟨(ws c12), (ws c12), none, none⟩, ⟨(ws c13), (ws c13), none, none⟩, ⟨(ws c17), (ws c17), none, none⟩, ⟨[.int .u64 0, .int .u64 0, .int .u64 0, .int .u64 0], (ws c21), some 9, some 10⟩]
def F74e_14o (x1 y1 z1 x2 y2 z2 c1 c2 c3 c4 c5 c6 c7 c8 c9 c10 c11 c12 c13 c14 c15 c16 c17 c18 c19 c20 c21 c22 c23 : Fin P) : List (Tmp × RG.SV) := [(12, (.p 10 0)), (15, (.p 13 0)), (16, (.p 14 0)), (14, (.p 12 0)), (9, (.p 7 0))]
def F74e_15i (x1 y1 z1 x2 y2 z2 c1 c2 c3 c4 c5 c6 c7 c8 c9 c10 c11 c12 c13 c14 c15 c16 c17 c18 c19 c20 c21 c22 c23 : Fin P) : List RG.It := [⟨some 98, [], (.v (fv c17)), .stay⟩,
  ⟨some 99, [], (.v (fv c21)), .stay⟩,
  ⟨some 100, [], (.p 0 8), .stay⟩,
  ⟨some 101, [(100, 2)], (.v (fv z1)), .stay⟩,
  ⟨some 102, [], (.p 1 8), .stay⟩,
  ⟨some 103, [(102, 4)], (.v (fv z2)), .stay⟩,
  ⟨some 104, [(101, 3), (103, 5)], (.v (fv c22)), .call⟩,
  ⟨some 105, [], (.v (fv c9)), .stay⟩,
  ⟨some 106, [(104, 6), (105, 7)], (.v (fv c23)), .call⟩,
  ⟨some 107, [(98, 0), (99, 1), (106, 8)], (.v (rv c17 c21 c23)), .stay⟩,
  ⟨none, [(107, 9)], (.v undef), .put 2⟩]
def F74e_15b (x1 y1 z1 x2 y2 z2 c1 c2 c3 c4 c5 c6 c7 c8 c9 c10 c11 c12 c13 c14 c15 c16 c17 c18 c19 c20 c21 c22 c23 : Fin P) : List RG.Bl := [⟨(ws x1 ++ (ws y1 ++ (ws z1))), (ws x1 ++ (ws y1 ++ (ws z1))), none, none⟩, ⟨(ws x2 ++ (ws y2 ++ (ws z2))), (ws x2 ++ (ws y2 ++ (ws z2))), none, none⟩, ⟨[.int .u64 0, .int .u64 0, .int .u64 0, .int .u64 0, .int .u64 0, .int .u64 0, .int .u64 0, .int .u64 0, .int .u64 0, .int .u64 0, .int .u64 0, .int .u64 0], (ws c17 ++ (ws c21 ++ (ws c23))), none, some 10⟩, ⟨(ws c1), (ws c1), none, none⟩, ⟨(ws c2), (ws c2), none, none⟩, ⟨(ws c3), (ws c3), none, none⟩, ⟨(ws c4), (ws c4), none, none⟩, ⟨(ws c6), (ws c6), none, none⟩, ⟨(ws c8), (ws c8), none, none⟩, ⟨(ws c9), (ws c9), none, none⟩, ⟨(ws c10), (ws c10), none, none⟩, ⟨(ws c11), (ws c11), none, none⟩, ⟨(ws c12), (ws c12), none, none⟩, ⟨(ws c13), (ws c13), none, none⟩, ⟨(ws c17), (ws c17), none, none⟩, ⟨(ws c21), (ws c21), none, none⟩]
def F74e_15o (x1 y1 z1 x2 y2 z2 c1 c2 c3 c4 c5 c6 c7 c8 c9 c10 c11 c12 c13 c14 c15 c16 c17 c18 c19 c20 c21 c22 c23 : Fin P) : List (Tmp × RG.SV) := [(16, (.p 14 0)), (17, (.p 15 0)), (2, (.p 0 0)), (3, (.p 1 0)), (11, (.p 9 0)), (4, (.p 2 0))]
set_option maxHeartbeats 2000000 in
set_option maxRecDepth 100000 in
theorem plus_e_c (C : Fld P) (x1 y1 z1 x2 y2 z2 : Fin P)(hz1 : ¬ z1 = 0) (hz2 : ¬ z2 = 0) (hx : EC.plAx x1 z2 = EC.plAx x2 z1) (hy : ¬ EC.plAy y1 z2 = EC.plAy y2 z1)  : Gives 74 #[(rv x1 y1 z1), (rv x2 y2 z2)] (rv (EC.plX (EC.plAx x1 z2) (EC.plAy y1 z2) (EC.plAx x2 z1) (EC.plAy y2 z1)) (EC.plY (EC.plAx x1 z2) (EC.plAy y1 z2) (EC.plAx x2 z1) (EC.plAy y2 z1)) (EC.plZ z1 z2 (EC.plAx x1 z2) (EC.plAx x2 z1))) := by
  intro w
  obtain ⟨c1, hc1⟩ : ∃ c, c = z1 * z1 := ⟨_, rfl⟩
  obtain ⟨c2, hc2⟩ : ∃ c, c = z2 * z2 := ⟨_, rfl⟩
  obtain ⟨c3, hc3⟩ : ∃ c, c = x1 * c2 := ⟨_, rfl⟩
  obtain ⟨c4, hc4⟩ : ∃ c, c = x2 * c1 := ⟨_, rfl⟩
  obtain ⟨c5, hc5⟩ : ∃ c, c = y1 * c2 := ⟨_, rfl⟩
  obtain ⟨c6, hc6⟩ : ∃ c, c = c5 * z2 := ⟨_, rfl⟩
  obtain ⟨c7, hc7⟩ : ∃ c, c = y2 * c1 := ⟨_, rfl⟩
  obtain ⟨c8, hc8⟩ : ∃ c, c = c7 * z1 := ⟨_, rfl⟩
  obtain ⟨c9, hc9⟩ : ∃ c, c = c4 - c3 := ⟨_, rfl⟩
  obtain ⟨c10, hc10⟩ : ∃ c, c = c8 - c6 := ⟨_, rfl⟩
  obtain ⟨c11, hc11⟩ : ∃ c, c = c9 * c9 := ⟨_, rfl⟩
  obtain ⟨c12, hc12⟩ : ∃ c, c = c11 * c9 := ⟨_, rfl⟩
  obtain ⟨c13, hc13⟩ : ∃ c, c = c11 * c3 := ⟨_, rfl⟩
  obtain ⟨c14, hc14⟩ : ∃ c, c = c10 * c10 := ⟨_, rfl⟩
  obtain ⟨c15, hc15⟩ : ∃ c, c = c14 - c12 := ⟨_, rfl⟩
  obtain ⟨c16, hc16⟩ : ∃ c, c = EC.dbl c13 := ⟨_, rfl⟩
  obtain ⟨c17, hc17⟩ : ∃ c, c = c15 - c16 := ⟨_, rfl⟩
  obtain ⟨c18, hc18⟩ : ∃ c, c = c13 - c17 := ⟨_, rfl⟩
  obtain ⟨c19, hc19⟩ : ∃ c, c = c10 * c18 := ⟨_, rfl⟩
  obtain ⟨c20, hc20⟩ : ∃ c, c = c12 * c6 := ⟨_, rfl⟩
  obtain ⟨c21, hc21⟩ : ∃ c, c = c19 - c20 := ⟨_, rfl⟩
  obtain ⟨c22, hc22⟩ : ∃ c, c = z1 * z2 := ⟨_, rfl⟩
  obtain ⟨c23, hc23⟩ : ∃ c, c = c22 * c9 := ⟨_, rfl⟩
  have hfin : ((rv c17 c21 c23) : Value) = (rv (EC.plX (EC.plAx x1 z2) (EC.plAy y1 z2) (EC.plAx x2 z1) (EC.plAy y2 z1)) (EC.plY (EC.plAx x1 z2) (EC.plAy y1 z2) (EC.plAx x2 z1) (EC.plAy y2 z1)) (EC.plZ z1 z2 (EC.plAx x1 z2) (EC.plAx x2 z1))) := by
    subst_vars; rfl
  rw [← hfin]
  go_enter Try.func74, Try.ntmps74
  have hS0 := RG.St.begin w
  repeat refine wp_seq ?_
  refine RG.region_text (its := F74e_0i x1 y1 z1 x2 y2 z2 c1 c2 c3 c4 c5 c6 c7 c8 c9 c10 c11 c12 c13 c14 c15 c16 c17 c18 c19 c20 c21 c22 c23) (bl := F74e_0b x1 y1 z1 x2 y2 z2 c1 c2 c3 c4 c5 c6 c7 c8 c9 c10 c11 c12 c13 c14 c15 c16 c17 c18 c19 c20 c21 c22 c23) (olds := F74e_0o x1 y1 z1 x2 y2 z2 c1 c2 c3 c4 c5 c6 c7 c8 c9 c10 c11 c12 c13 c14 c15 c16 c17 c18 c19 c20 c21 c22 c23) hS0 (RG.Reg.mk' (by kernel_rfl) ⟨by kernel_rfl, by kernel_rfl, trivial⟩ ⟨?_, ?_, ?_, trivial⟩) (by kernel_rfl) (by kernel_rfl) (by kernel_rfl) ?_
  · exact RG.cert_box 0 rfl rfl _ rfl 117 0 rfl (rv x1 y1 z1) (fun μ a K => K.old 0 (.v (rv x1 y1 z1)) (List.Mem.head _) (by kernel_rfl)) (fun w => by kernel_rfl)
  · exact RG.cert_box 1 rfl rfl _ rfl 117 1 rfl (rv x2 y2 z2) (fun μ a K => K.old 1 (.v (rv x2 y2 z2)) (List.Mem.tail _ (List.Mem.head _)) (by kernel_rfl)) (fun w => by kernel_rfl)
  · exact RG.cert_alloc 2 rfl rfl _ rfl 117 rfl (fun w => by kernel_rfl)
  intro new1 w1 hl1 hS1
  obtain ⟨j1, i1, m1, rfl⟩ := RG.len3 hl1
  repeat refine wp_seq ?_
  refine RG.region_text (its := F74e_1i x1 y1 z1 x2 y2 z2 c1 c2 c3 c4 c5 c6 c7 c8 c9 c10 c11 c12 c13 c14 c15 c16 c17 c18 c19 c20 c21 c22 c23) (bl := F74e_1b x1 y1 z1 x2 y2 z2 c1 c2 c3 c4 c5 c6 c7 c8 c9 c10 c11 c12 c13 c14 c15 c16 c17 c18 c19 c20 c21 c22 c23) (olds := F74e_1o x1 y1 z1 x2 y2 z2 c1 c2 c3 c4 c5 c6 c7 c8 c9 c10 c11 c12 c13 c14 c15 c16 c17 c18 c19 c20 c21 c22 c23) hS1 (RG.Reg.mk' (by kernel_rfl) ⟨by kernel_rfl, trivial⟩ ⟨?_, ?_, trivial⟩) (by kernel_rfl) (by kernel_rfl) (by kernel_rfl) ?_
  · exact RG.cert_load rfl 0 0 _ rfl rfl (by kernel_rfl) 117 2 rfl (ws x1 ++ (ws y1 ++ (ws z1))) rfl (fun μ a K => K.old 2 (.p 0 0) (List.Mem.head _) (by kernel_rfl)) (by kernel_rfl) u117 i117
  · exact RG.cert_call1 rfl 101 18 (rv x1 y1 z1) (.bool false) rfl (fun a w => by kernel_rfl) (fun μ a K => by have h := K.op 18 0 (List.Mem.head _) rfl; exact h) (nothing_f_c C x1 y1 z1 hz1)
  intro new2 w2 hl2 hS2
  obtain rfl := RG.len0 hl2
  repeat refine wp_seq ?_
  refine wp_cond_false (by kernel_rfl) ?_
  refine wp_skip ?_
  repeat refine wp_seq ?_
  refine RG.region_text (its := F74e_3i x1 y1 z1 x2 y2 z2 c1 c2 c3 c4 c5 c6 c7 c8 c9 c10 c11 c12 c13 c14 c15 c16 c17 c18 c19 c20 c21 c22 c23) (bl := F74e_3b x1 y1 z1 x2 y2 z2 c1 c2 c3 c4 c5 c6 c7 c8 c9 c10 c11 c12 c13 c14 c15 c16 c17 c18 c19 c20 c21 c22 c23) (olds := F74e_3o x1 y1 z1 x2 y2 z2 c1 c2 c3 c4 c5 c6 c7 c8 c9 c10 c11 c12 c13 c14 c15 c16 c17 c18 c19 c20 c21 c22 c23) hS2 (RG.Reg.mk' (by kernel_rfl) ⟨by kernel_rfl, trivial⟩ ⟨?_, ?_, trivial⟩) (by kernel_rfl) (by kernel_rfl) (by kernel_rfl) ?_
  · exact RG.cert_load rfl 1 0 _ rfl rfl (by kernel_rfl) 117 3 rfl (ws x2 ++ (ws y2 ++ (ws z2))) rfl (fun μ a K => K.old 3 (.p 1 0) (List.Mem.head _) (by kernel_rfl)) (by kernel_rfl) u117 i117
  · exact RG.cert_call1 rfl 101 21 (rv x2 y2 z2) (.bool false) rfl (fun a w => by kernel_rfl) (fun μ a K => by have h := K.op 21 0 (List.Mem.head _) rfl; exact h) (nothing_f_c C x2 y2 z2 hz2)
  intro new3 w3 hl3 hS3
  obtain rfl := RG.len0 hl3
  repeat refine wp_seq ?_
  refine wp_cond_false (by kernel_rfl) ?_
  refine wp_skip ?_
  repeat refine wp_seq ?_
  refine RG.region_draws (by kernel_rfl) (its := F74e_5i x1 y1 z1 x2 y2 z2 c1 c2 c3 c4 c5 c6 c7 c8 c9 c10 c11 c12 c13 c14 c15 c16 c17 c18 c19 c20 c21 c22 c23) (bl := F74e_5b x1 y1 z1 x2 y2 z2 c1 c2 c3 c4 c5 c6 c7 c8 c9 c10 c11 c12 c13 c14 c15 c16 c17 c18 c19 c20 c21 c22 c23) (olds := F74e_5o x1 y1 z1 x2 y2 z2 c1 c2 c3 c4 c5 c6 c7 c8 c9 c10 c11 c12 c13 c14 c15 c16 c17 c18 c19 c20 c21 c22 c23) hS3 (RG.Reg.mk' (by kernel_rfl) ⟨by kernel_rfl, by kernel_rfl, trivial⟩ ⟨?_, ?_, ?_, ?_, ?_, ?_, ?_, ?_, ?_, ?_, ?_, ?_, ?_, ?_, trivial⟩) (by kernel_rfl) (by kernel_rfl) (by kernel_rfl) ?_
  · exact RG.cert_field rfl 117 2 2 rfl 0 0 8 rfl (fun μ a K => K.old 2 (.p 0 0) (List.Mem.head _) (by kernel_rfl)) (fun k w => by kernel_rfl)
  · exact RG.cert_load rfl 0 8 _ rfl rfl (by kernel_rfl) 115 24 rfl (ws z1) rfl (fun μ a K => by have h := K.op 24 0 (List.Mem.head _) rfl; exact h) (by kernel_rfl) u115 i115
  · exact RG.cert_field rfl 117 2 2 rfl 0 0 8 rfl (fun μ a K => K.old 2 (.p 0 0) (List.Mem.head _) (by kernel_rfl)) (fun k w => by kernel_rfl)
  · exact RG.cert_load rfl 0 8 _ rfl rfl (by kernel_rfl) 115 26 rfl (ws z1) rfl (fun μ a K => by have h := K.op 26 2 (List.Mem.head _) rfl; exact h) (by kernel_rfl) u115 i115
  · exact RG.cert_call2 rfl 102 25 27 (fv z1) (fv z1) (fv c1) rfl (fun a w => by kernel_rfl) (fun μ a K => by have h := K.op 25 1 (List.Mem.head _) rfl; exact h) (fun μ a K => by have h := K.op 27 3 (List.Mem.tail _ (List.Mem.head _)) rfl; exact h) (hc1 ▸ CTimes_c C z1 z1)
  · exact RG.cert_field rfl 117 3 2 rfl 1 0 8 rfl (fun μ a K => K.old 3 (.p 1 0) (List.Mem.tail _ (List.Mem.head _)) (by kernel_rfl)) (fun k w => by kernel_rfl)
  · exact RG.cert_load rfl 1 8 _ rfl rfl (by kernel_rfl) 115 29 rfl (ws z2) rfl (fun μ a K => by have h := K.op 29 5 (List.Mem.head _) rfl; exact h) (by kernel_rfl) u115 i115
  · exact RG.cert_field rfl 117 3 2 rfl 1 0 8 rfl (fun μ a K => K.old 3 (.p 1 0) (List.Mem.tail _ (List.Mem.head _)) (by kernel_rfl)) (fun k w => by kernel_rfl)
  · exact RG.cert_load rfl 1 8 _ rfl rfl (by kernel_rfl) 115 31 rfl (ws z2) rfl (fun μ a K => by have h := K.op 31 7 (List.Mem.head _) rfl; exact h) (by kernel_rfl) u115 i115
  · exact RG.cert_call2 rfl 102 30 32 (fv z2) (fv z2) (fv c2) rfl (fun a w => by kernel_rfl) (fun μ a K => by have h := K.op 30 6 (List.Mem.head _) rfl; exact h) (fun μ a K => by have h := K.op 32 8 (List.Mem.tail _ (List.Mem.head _)) rfl; exact h) (hc2 ▸ CTimes_c C z2 z2)
  · exact RG.cert_alloc 3 rfl rfl _ rfl 115 rfl (fun w => by kernel_rfl)
  · exact RG.cert_alloc 4 rfl rfl _ rfl 115 rfl (fun w => by kernel_rfl)
  · exact RG.cert_put 3 rfl _ rfl 115 (.tmp 5) (.tmp 28) rfl rfl rfl (fun μ a K => by have h := K.op 5 10 (List.Mem.head _) rfl; exact h) (fun μ a K => by have h := K.op 28 4 (List.Mem.tail _ (List.Mem.head _)) rfl; exact h) i115 rfl
  · exact RG.cert_put 4 rfl _ rfl 115 (.tmp 6) (.tmp 33) rfl rfl rfl (fun μ a K => by have h := K.op 6 11 (List.Mem.head _) rfl; exact h) (fun μ a K => by have h := K.op 33 9 (List.Mem.tail _ (List.Mem.head _)) rfl; exact h) i115 rfl
  intro new4 w4 hl4 hS4
  obtain ⟨j4, i4, rfl⟩ := RG.len2 hl4
  repeat refine wp_seq ?_
  refine RG.region_draws (by kernel_rfl) (its := F74e_6i x1 y1 z1 x2 y2 z2 c1 c2 c3 c4 c5 c6 c7 c8 c9 c10 c11 c12 c13 c14 c15 c16 c17 c18 c19 c20 c21 c22 c23) (bl := F74e_6b x1 y1 z1 x2 y2 z2 c1 c2 c3 c4 c5 c6 c7 c8 c9 c10 c11 c12 c13 c14 c15 c16 c17 c18 c19 c20 c21 c22 c23) (olds := F74e_6o x1 y1 z1 x2 y2 z2 c1 c2 c3 c4 c5 c6 c7 c8 c9 c10 c11 c12 c13 c14 c15 c16 c17 c18 c19 c20 c21 c22 c23) hS4 (RG.Reg.mk' (by kernel_rfl) ⟨by kernel_rfl, by kernel_rfl, by kernel_rfl, by kernel_rfl, trivial⟩ ⟨?_, ?_, ?_, ?_, ?_, ?_, ?_, ?_, ?_, ?_, ?_, ?_, trivial⟩) (by kernel_rfl) (by kernel_rfl) (by kernel_rfl) ?_
  · exact RG.cert_field rfl 117 2 0 rfl 0 0 0 rfl (fun μ a K => K.old 2 (.p 0 0) (List.Mem.head _) (by kernel_rfl)) (fun k w => by kernel_rfl)
  · exact RG.cert_load rfl 0 0 _ rfl rfl (by kernel_rfl) 115 34 rfl (ws x1) rfl (fun μ a K => by have h := K.op 34 0 (List.Mem.head _) rfl; exact h) (by kernel_rfl) u115 i115
  · exact RG.cert_load rfl 4 0 _ rfl rfl (by kernel_rfl) 115 6 rfl (ws c2) rfl (fun μ a K => K.old 6 (.p 4 0) (List.Mem.tail _ (List.Mem.head _)) (by kernel_rfl)) (by kernel_rfl) u115 i115
  · exact RG.cert_call2 rfl 102 35 36 (fv x1) (fv c2) (fv c3) rfl (fun a w => by kernel_rfl) (fun μ a K => by have h := K.op 35 1 (List.Mem.head _) rfl; exact h) (fun μ a K => by have h := K.op 36 2 (List.Mem.tail _ (List.Mem.head _)) rfl; exact h) (hc3 ▸ CTimes_c C x1 c2)
  · exact RG.cert_field rfl 117 3 0 rfl 1 0 0 rfl (fun μ a K => K.old 3 (.p 1 0) (List.Mem.tail _ (List.Mem.tail _ (List.Mem.head _))) (by kernel_rfl)) (fun k w => by kernel_rfl)
  · exact RG.cert_load rfl 1 0 _ rfl rfl (by kernel_rfl) 115 38 rfl (ws x2) rfl (fun μ a K => by have h := K.op 38 4 (List.Mem.head _) rfl; exact h) (by kernel_rfl) u115 i115
  · exact RG.cert_load rfl 3 0 _ rfl rfl (by kernel_rfl) 115 5 rfl (ws c1) rfl (fun μ a K => K.old 5 (.p 3 0) (List.Mem.tail _ (List.Mem.tail _ (List.Mem.tail _ (List.Mem.head _)))) (by kernel_rfl)) (by kernel_rfl) u115 i115
  · exact RG.cert_call2 rfl 102 39 40 (fv x2) (fv c1) (fv c4) rfl (fun a w => by kernel_rfl) (fun μ a K => by have h := K.op 39 5 (List.Mem.head _) rfl; exact h) (fun μ a K => by have h := K.op 40 6 (List.Mem.tail _ (List.Mem.head _)) rfl; exact h) (hc4 ▸ CTimes_c C x2 c1)
  · exact RG.cert_alloc 5 rfl rfl _ rfl 115 rfl (fun w => by kernel_rfl)
  · exact RG.cert_alloc 6 rfl rfl _ rfl 115 rfl (fun w => by kernel_rfl)
  · exact RG.cert_put 5 rfl _ rfl 115 (.tmp 7) (.tmp 37) rfl rfl rfl (fun μ a K => by have h := K.op 7 8 (List.Mem.head _) rfl; exact h) (fun μ a K => by have h := K.op 37 3 (List.Mem.tail _ (List.Mem.head _)) rfl; exact h) i115 rfl
  · exact RG.cert_put 6 rfl _ rfl 115 (.tmp 8) (.tmp 41) rfl rfl rfl (fun μ a K => by have h := K.op 8 9 (List.Mem.head _) rfl; exact h) (fun μ a K => by have h := K.op 41 7 (List.Mem.tail _ (List.Mem.head _)) rfl; exact h) i115 rfl
  intro new5 w5 hl5 hS5
  obtain ⟨j5, i5, rfl⟩ := RG.len2 hl5
  repeat refine wp_seq ?_
  refine RG.region_draws (by kernel_rfl) (its := F74e_7i x1 y1 z1 x2 y2 z2 c1 c2 c3 c4 c5 c6 c7 c8 c9 c10 c11 c12 c13 c14 c15 c16 c17 c18 c19 c20 c21 c22 c23) (bl := F74e_7b x1 y1 z1 x2 y2 z2 c1 c2 c3 c4 c5 c6 c7 c8 c9 c10 c11 c12 c13 c14 c15 c16 c17 c18 c19 c20 c21 c22 c23) (olds := F74e_7o x1 y1 z1 x2 y2 z2 c1 c2 c3 c4 c5 c6 c7 c8 c9 c10 c11 c12 c13 c14 c15 c16 c17 c18 c19 c20 c21 c22 c23) hS5 (RG.Reg.mk' (by kernel_rfl) ⟨by kernel_rfl, by kernel_rfl, by kernel_rfl, by kernel_rfl, trivial⟩ ⟨?_, ?_, ?_, ?_, ?_, ?_, ?_, ?_, ?_, ?_, ?_, ?_, ?_, ?_, ?_, ?_, ?_, ?_, trivial⟩) (by kernel_rfl) (by kernel_rfl) (by kernel_rfl) ?_
  · exact RG.cert_field rfl 117 2 1 rfl 0 0 4 rfl (fun μ a K => K.old 2 (.p 0 0) (List.Mem.head _) (by kernel_rfl)) (fun k w => by kernel_rfl)
  · exact RG.cert_load rfl 0 4 _ rfl rfl (by kernel_rfl) 115 42 rfl (ws y1) rfl (fun μ a K => by have h := K.op 42 0 (List.Mem.head _) rfl; exact h) (by kernel_rfl) u115 i115
  · exact RG.cert_load rfl 4 0 _ rfl rfl (by kernel_rfl) 115 6 rfl (ws c2) rfl (fun μ a K => K.old 6 (.p 4 0) (List.Mem.tail _ (List.Mem.head _)) (by kernel_rfl)) (by kernel_rfl) u115 i115
  · exact RG.cert_call2 rfl 102 43 44 (fv y1) (fv c2) (fv c5) rfl (fun a w => by kernel_rfl) (fun μ a K => by have h := K.op 43 1 (List.Mem.head _) rfl; exact h) (fun μ a K => by have h := K.op 44 2 (List.Mem.tail _ (List.Mem.head _)) rfl; exact h) (hc5 ▸ CTimes_c C y1 c2)
  · exact RG.cert_field rfl 117 3 2 rfl 1 0 8 rfl (fun μ a K => K.old 3 (.p 1 0) (List.Mem.tail _ (List.Mem.tail _ (List.Mem.head _))) (by kernel_rfl)) (fun k w => by kernel_rfl)
  · exact RG.cert_load rfl 1 8 _ rfl rfl (by kernel_rfl) 115 46 rfl (ws z2) rfl (fun μ a K => by have h := K.op 46 4 (List.Mem.head _) rfl; exact h) (by kernel_rfl) u115 i115
  · exact RG.cert_call2 rfl 102 45 47 (fv c5) (fv z2) (fv c6) rfl (fun a w => by kernel_rfl) (fun μ a K => by have h := K.op 45 3 (List.Mem.head _) rfl; exact h) (fun μ a K => by have h := K.op 47 5 (List.Mem.tail _ (List.Mem.head _)) rfl; exact h) (hc6 ▸ CTimes_c C c5 z2)
  · exact RG.cert_field rfl 117 3 1 rfl 1 0 4 rfl (fun μ a K => K.old 3 (.p 1 0) (List.Mem.tail _ (List.Mem.tail _ (List.Mem.head _))) (by kernel_rfl)) (fun k w => by kernel_rfl)
  · exact RG.cert_load rfl 1 4 _ rfl rfl (by kernel_rfl) 115 49 rfl (ws y2) rfl (fun μ a K => by have h := K.op 49 7 (List.Mem.head _) rfl; exact h) (by kernel_rfl) u115 i115
  · exact RG.cert_load rfl 3 0 _ rfl rfl (by kernel_rfl) 115 5 rfl (ws c1) rfl (fun μ a K => K.old 5 (.p 3 0) (List.Mem.tail _ (List.Mem.tail _ (List.Mem.tail _ (List.Mem.head _)))) (by kernel_rfl)) (by kernel_rfl) u115 i115
  · exact RG.cert_call2 rfl 102 50 51 (fv y2) (fv c1) (fv c7) rfl (fun a w => by kernel_rfl) (fun μ a K => by have h := K.op 50 8 (List.Mem.head _) rfl; exact h) (fun μ a K => by have h := K.op 51 9 (List.Mem.tail _ (List.Mem.head _)) rfl; exact h) (hc7 ▸ CTimes_c C y2 c1)
  · exact RG.cert_field rfl 117 2 2 rfl 0 0 8 rfl (fun μ a K => K.old 2 (.p 0 0) (List.Mem.head _) (by kernel_rfl)) (fun k w => by kernel_rfl)
  · exact RG.cert_load rfl 0 8 _ rfl rfl (by kernel_rfl) 115 53 rfl (ws z1) rfl (fun μ a K => by have h := K.op 53 11 (List.Mem.head _) rfl; exact h) (by kernel_rfl) u115 i115
  · exact RG.cert_call2 rfl 102 52 54 (fv c7) (fv z1) (fv c8) rfl (fun a w => by kernel_rfl) (fun μ a K => by have h := K.op 52 10 (List.Mem.head _) rfl; exact h) (fun μ a K => by have h := K.op 54 12 (List.Mem.tail _ (List.Mem.head _)) rfl; exact h) (hc8 ▸ CTimes_c C c7 z1)
  · exact RG.cert_alloc 7 rfl rfl _ rfl 115 rfl (fun w => by kernel_rfl)
  · exact RG.cert_alloc 8 rfl rfl _ rfl 115 rfl (fun w => by kernel_rfl)
  · exact RG.cert_put 7 rfl _ rfl 115 (.tmp 9) (.tmp 48) rfl rfl rfl (fun μ a K => by have h := K.op 9 14 (List.Mem.head _) rfl; exact h) (fun μ a K => by have h := K.op 48 6 (List.Mem.tail _ (List.Mem.head _)) rfl; exact h) i115 rfl
  · exact RG.cert_put 8 rfl _ rfl 115 (.tmp 10) (.tmp 55) rfl rfl rfl (fun μ a K => by have h := K.op 10 15 (List.Mem.head _) rfl; exact h) (fun μ a K => by have h := K.op 55 13 (List.Mem.tail _ (List.Mem.head _)) rfl; exact h) i115 rfl
  intro new6 w6 hl6 hS6
  obtain ⟨j6, i6, rfl⟩ := RG.len2 hl6
  repeat refine wp_seq ?_
  refine RG.region_text (its := F74e_8i x1 y1 z1 x2 y2 z2 c1 c2 c3 c4 c5 c6 c7 c8 c9 c10 c11 c12 c13 c14 c15 c16 c17 c18 c19 c20 c21 c22 c23) (bl := F74e_8b x1 y1 z1 x2 y2 z2 c1 c2 c3 c4 c5 c6 c7 c8 c9 c10 c11 c12 c13 c14 c15 c16 c17 c18 c19 c20 c21 c22 c23) (olds := F74e_8o x1 y1 z1 x2 y2 z2 c1 c2 c3 c4 c5 c6 c7 c8 c9 c10 c11 c12 c13 c14 c15 c16 c17 c18 c19 c20 c21 c22 c23) hS6 (RG.Reg.mk' (by kernel_rfl) ⟨by kernel_rfl, by kernel_rfl, by kernel_rfl, by kernel_rfl, trivial⟩ ⟨?_, ?_, ?_, ?_, ?_, ?_, ?_, ?_, trivial⟩) (by kernel_rfl) (by kernel_rfl) (by kernel_rfl) ?_
  · exact RG.cert_load rfl 5 0 _ rfl rfl (by kernel_rfl) 115 7 rfl (ws c3) rfl (fun μ a K => K.old 7 (.p 5 0) (List.Mem.head _) (by kernel_rfl)) (by kernel_rfl) u115 i115
  · exact RG.cert_load rfl 6 0 _ rfl rfl (by kernel_rfl) 115 8 rfl (ws c4) rfl (fun μ a K => K.old 8 (.p 6 0) (List.Mem.tail _ (List.Mem.head _)) (by kernel_rfl)) (by kernel_rfl) u115 i115
  · exact RG.cert_bin rfl .eql 115 115 56 57 (fv c3) (fv c4) (.bool true) rfl rfl (fun μ a K => by have h := K.op 56 0 (List.Mem.head _) rfl; exact h) (fun μ a K => by have h := K.op 57 1 (List.Mem.tail _ (List.Mem.head _)) rfl; exact h) (fun w => by kernel_rfl) (eqC_t C (by subst_vars; exact hx))
  · exact RG.cert_move rfl 58 (Or.inl rfl) (fun μ a K => by have h := K.op 58 2 (List.Mem.head _) rfl; exact h)
  · exact RG.cert_load rfl 7 0 _ rfl rfl (by kernel_rfl) 115 9 rfl (ws c6) rfl (fun μ a K => K.old 9 (.p 7 0) (List.Mem.tail _ (List.Mem.tail _ (List.Mem.head _))) (by kernel_rfl)) (by kernel_rfl) u115 i115
  · exact RG.cert_load rfl 8 0 _ rfl rfl (by kernel_rfl) 115 10 rfl (ws c8) rfl (fun μ a K => K.old 10 (.p 8 0) (List.Mem.tail _ (List.Mem.tail _ (List.Mem.tail _ (List.Mem.head _)))) (by kernel_rfl)) (by kernel_rfl) u115 i115
  · exact RG.cert_bin rfl .eql 115 115 60 61 (fv c6) (fv c8) (.bool false) rfl rfl (fun μ a K => by have h := K.op 60 4 (List.Mem.head _) rfl; exact h) (fun μ a K => by have h := K.op 61 5 (List.Mem.tail _ (List.Mem.head _)) rfl; exact h) (fun w => by kernel_rfl) (eqC_f C (by subst_vars; exact hy))
  · exact RG.cert_pick_t rfl 59 62 _ rfl (fun μ a K => by have h := K.op 59 3 (List.Mem.head _) rfl; exact h) (fun μ a K => by have h := K.op 62 6 (List.Mem.tail _ (List.Mem.head _)) rfl; exact h)
  intro new7 w7 hl7 hS7
  obtain rfl := RG.len0 hl7
  repeat refine wp_seq ?_
  refine wp_cond_false (by kernel_rfl) ?_
  refine wp_skip ?_
  repeat refine wp_seq ?_
  refine RG.region_draws (by kernel_rfl) (its := F74e_10i x1 y1 z1 x2 y2 z2 c1 c2 c3 c4 c5 c6 c7 c8 c9 c10 c11 c12 c13 c14 c15 c16 c17 c18 c19 c20 c21 c22 c23) (bl := F74e_10b x1 y1 z1 x2 y2 z2 c1 c2 c3 c4 c5 c6 c7 c8 c9 c10 c11 c12 c13 c14 c15 c16 c17 c18 c19 c20 c21 c22 c23) (olds := F74e_10o x1 y1 z1 x2 y2 z2 c1 c2 c3 c4 c5 c6 c7 c8 c9 c10 c11 c12 c13 c14 c15 c16 c17 c18 c19 c20 c21 c22 c23) hS7 (RG.Reg.mk' (by kernel_rfl) ⟨by kernel_rfl, by kernel_rfl, by kernel_rfl, by kernel_rfl, trivial⟩ ⟨?_, ?_, ?_, ?_, ?_, ?_, ?_, ?_, ?_, ?_, trivial⟩) (by kernel_rfl) (by kernel_rfl) (by kernel_rfl) ?_
  · exact RG.cert_load rfl 6 0 _ rfl rfl (by kernel_rfl) 115 8 rfl (ws c4) rfl (fun μ a K => K.old 8 (.p 6 0) (List.Mem.head _) (by kernel_rfl)) (by kernel_rfl) u115 i115
  · exact RG.cert_load rfl 5 0 _ rfl rfl (by kernel_rfl) 115 7 rfl (ws c3) rfl (fun μ a K => K.old 7 (.p 5 0) (List.Mem.tail _ (List.Mem.head _)) (by kernel_rfl)) (by kernel_rfl) u115 i115
  · exact RG.cert_call2 rfl 104 66 67 (fv c4) (fv c3) (fv c9) rfl (fun a w => by kernel_rfl) (fun μ a K => by have h := K.op 66 0 (List.Mem.head _) rfl; exact h) (fun μ a K => by have h := K.op 67 1 (List.Mem.tail _ (List.Mem.head _)) rfl; exact h) (hc9 ▸ CMinus_c C c4 c3)
  · exact RG.cert_load rfl 8 0 _ rfl rfl (by kernel_rfl) 115 10 rfl (ws c8) rfl (fun μ a K => K.old 10 (.p 8 0) (List.Mem.tail _ (List.Mem.tail _ (List.Mem.head _))) (by kernel_rfl)) (by kernel_rfl) u115 i115
  · exact RG.cert_load rfl 7 0 _ rfl rfl (by kernel_rfl) 115 9 rfl (ws c6) rfl (fun μ a K => K.old 9 (.p 7 0) (List.Mem.tail _ (List.Mem.tail _ (List.Mem.tail _ (List.Mem.head _)))) (by kernel_rfl)) (by kernel_rfl) u115 i115
  · exact RG.cert_call2 rfl 104 69 70 (fv c8) (fv c6) (fv c10) rfl (fun a w => by kernel_rfl) (fun μ a K => by have h := K.op 69 3 (List.Mem.head _) rfl; exact h) (fun μ a K => by have h := K.op 70 4 (List.Mem.tail _ (List.Mem.head _)) rfl; exact h) (hc10 ▸ CMinus_c C c8 c6)
  · exact RG.cert_alloc 9 rfl rfl _ rfl 115 rfl (fun w => by kernel_rfl)
  · exact RG.cert_alloc 10 rfl rfl _ rfl 115 rfl (fun w => by kernel_rfl)
  · exact RG.cert_put 9 rfl _ rfl 115 (.tmp 11) (.tmp 68) rfl rfl rfl (fun μ a K => by have h := K.op 11 6 (List.Mem.head _) rfl; exact h) (fun μ a K => by have h := K.op 68 2 (List.Mem.tail _ (List.Mem.head _)) rfl; exact h) i115 rfl
  · exact RG.cert_put 10 rfl _ rfl 115 (.tmp 12) (.tmp 71) rfl rfl rfl (fun μ a K => by have h := K.op 12 7 (List.Mem.head _) rfl; exact h) (fun μ a K => by have h := K.op 71 5 (List.Mem.tail _ (List.Mem.head _)) rfl; exact h) i115 rfl
  intro new8 w8 hl8 hS8
  obtain ⟨j8, i8, rfl⟩ := RG.len2 hl8
  repeat refine wp_seq ?_
  refine RG.region_text (its := F74e_11i x1 y1 z1 x2 y2 z2 c1 c2 c3 c4 c5 c6 c7 c8 c9 c10 c11 c12 c13 c14 c15 c16 c17 c18 c19 c20 c21 c22 c23) (bl := F74e_11b x1 y1 z1 x2 y2 z2 c1 c2 c3 c4 c5 c6 c7 c8 c9 c10 c11 c12 c13 c14 c15 c16 c17 c18 c19 c20 c21 c22 c23) (olds := F74e_11o x1 y1 z1 x2 y2 z2 c1 c2 c3 c4 c5 c6 c7 c8 c9 c10 c11 c12 c13 c14 c15 c16 c17 c18 c19 c20 c21 c22 c23) hS8 (RG.Reg.mk' (by kernel_rfl) ⟨by kernel_rfl, trivial⟩ ⟨?_, ?_, ?_, ?_, ?_, trivial⟩) (by kernel_rfl) (by kernel_rfl) (by kernel_rfl) ?_
  · exact RG.cert_load rfl 9 0 _ rfl rfl (by kernel_rfl) 115 11 rfl (ws c9) rfl (fun μ a K => K.old 11 (.p 9 0) (List.Mem.head _) (by kernel_rfl)) (by kernel_rfl) u115 i115
  · exact RG.cert_load rfl 9 0 _ rfl rfl (by kernel_rfl) 115 11 rfl (ws c9) rfl (fun μ a K => K.old 11 (.p 9 0) (List.Mem.head _) (by kernel_rfl)) (by kernel_rfl) u115 i115
  · exact RG.cert_call2 rfl 102 72 73 (fv c9) (fv c9) (fv c11) rfl (fun a w => by kernel_rfl) (fun μ a K => by have h := K.op 72 0 (List.Mem.head _) rfl; exact h) (fun μ a K => by have h := K.op 73 1 (List.Mem.tail _ (List.Mem.head _)) rfl; exact h) (hc11 ▸ CTimes_c C c9 c9)
  · exact RG.cert_alloc 11 rfl rfl _ rfl 115 rfl (fun w => by kernel_rfl)
  · exact RG.cert_put 11 rfl _ rfl 115 (.tmp 13) (.tmp 74) rfl rfl rfl (fun μ a K => by have h := K.op 13 3 (List.Mem.head _) rfl; exact h) (fun μ a K => by have h := K.op 74 2 (List.Mem.tail _ (List.Mem.head _)) rfl; exact h) i115 rfl
  intro new9 w9 hl9 hS9
  obtain ⟨j9, rfl⟩ := RG.len1 hl9
  repeat refine wp_seq ?_
  refine RG.region_draws (by kernel_rfl) (its := F74e_12i x1 y1 z1 x2 y2 z2 c1 c2 c3 c4 c5 c6 c7 c8 c9 c10 c11 c12 c13 c14 c15 c16 c17 c18 c19 c20 c21 c22 c23) (bl := F74e_12b x1 y1 z1 x2 y2 z2 c1 c2 c3 c4 c5 c6 c7 c8 c9 c10 c11 c12 c13 c14 c15 c16 c17 c18 c19 c20 c21 c22 c23) (olds := F74e_12o x1 y1 z1 x2 y2 z2 c1 c2 c3 c4 c5 c6 c7 c8 c9 c10 c11 c12 c13 c14 c15 c16 c17 c18 c19 c20 c21 c22 c23) hS9 (RG.Reg.mk' (by kernel_rfl) ⟨by kernel_rfl, by kernel_rfl, by kernel_rfl, trivial⟩ ⟨?_, ?_, ?_, ?_, ?_, ?_, ?_, ?_, ?_, ?_, trivial⟩) (by kernel_rfl) (by kernel_rfl) (by kernel_rfl) ?_
  · exact RG.cert_load rfl 11 0 _ rfl rfl (by kernel_rfl) 115 13 rfl (ws c11) rfl (fun μ a K => K.old 13 (.p 11 0) (List.Mem.head _) (by kernel_rfl)) (by kernel_rfl) u115 i115
  · exact RG.cert_load rfl 9 0 _ rfl rfl (by kernel_rfl) 115 11 rfl (ws c9) rfl (fun μ a K => K.old 11 (.p 9 0) (List.Mem.tail _ (List.Mem.head _)) (by kernel_rfl)) (by kernel_rfl) u115 i115
  · exact RG.cert_call2 rfl 102 75 76 (fv c11) (fv c9) (fv c12) rfl (fun a w => by kernel_rfl) (fun μ a K => by have h := K.op 75 0 (List.Mem.head _) rfl; exact h) (fun μ a K => by have h := K.op 76 1 (List.Mem.tail _ (List.Mem.head _)) rfl; exact h) (hc12 ▸ CTimes_c C c11 c9)
  · exact RG.cert_load rfl 11 0 _ rfl rfl (by kernel_rfl) 115 13 rfl (ws c11) rfl (fun μ a K => K.old 13 (.p 11 0) (List.Mem.head _) (by kernel_rfl)) (by kernel_rfl) u115 i115
  · exact RG.cert_load rfl 5 0 _ rfl rfl (by kernel_rfl) 115 7 rfl (ws c3) rfl (fun μ a K => K.old 7 (.p 5 0) (List.Mem.tail _ (List.Mem.tail _ (List.Mem.head _))) (by kernel_rfl)) (by kernel_rfl) u115 i115
  · exact RG.cert_call2 rfl 102 78 79 (fv c11) (fv c3) (fv c13) rfl (fun a w => by kernel_rfl) (fun μ a K => by have h := K.op 78 3 (List.Mem.head _) rfl; exact h) (fun μ a K => by have h := K.op 79 4 (List.Mem.tail _ (List.Mem.head _)) rfl; exact h) (hc13 ▸ CTimes_c C c11 c3)
  · exact RG.cert_alloc 12 rfl rfl _ rfl 115 rfl (fun w => by kernel_rfl)
  · exact RG.cert_alloc 13 rfl rfl _ rfl 115 rfl (fun w => by kernel_rfl)
  · exact RG.cert_put 12 rfl _ rfl 115 (.tmp 14) (.tmp 77) rfl rfl rfl (fun μ a K => by have h := K.op 14 6 (List.Mem.head _) rfl; exact h) (fun μ a K => by have h := K.op 77 2 (List.Mem.tail _ (List.Mem.head _)) rfl; exact h) i115 rfl
  · exact RG.cert_put 13 rfl _ rfl 115 (.tmp 15) (.tmp 80) rfl rfl rfl (fun μ a K => by have h := K.op 15 7 (List.Mem.head _) rfl; exact h) (fun μ a K => by have h := K.op 80 5 (List.Mem.tail _ (List.Mem.head _)) rfl; exact h) i115 rfl
  intro new10 w10 hl10 hS10
  obtain ⟨j10, i10, rfl⟩ := RG.len2 hl10
  repeat refine wp_seq ?_
  refine RG.region_draws (by kernel_rfl) (its := F74e_13i x1 y1 z1 x2 y2 z2 c1 c2 c3 c4 c5 c6 c7 c8 c9 c10 c11 c12 c13 c14 c15 c16 c17 c18 c19 c20 c21 c22 c23) (bl := F74e_13b x1 y1 z1 x2 y2 z2 c1 c2 c3 c4 c5 c6 c7 c8 c9 c10 c11 c12 c13 c14 c15 c16 c17 c18 c19 c20 c21 c22 c23) (olds := F74e_13o x1 y1 z1 x2 y2 z2 c1 c2 c3 c4 c5 c6 c7 c8 c9 c10 c11 c12 c13 c14 c15 c16 c17 c18 c19 c20 c21 c22 c23) hS10 (RG.Reg.mk' (by kernel_rfl) ⟨by kernel_rfl, by kernel_rfl, by kernel_rfl, trivial⟩ ⟨?_, ?_, ?_, ?_, ?_, ?_, ?_, ?_, ?_, ?_, trivial⟩) (by kernel_rfl) (by kernel_rfl) (by kernel_rfl) ?_
  · exact RG.cert_load rfl 10 0 _ rfl rfl (by kernel_rfl) 115 12 rfl (ws c10) rfl (fun μ a K => K.old 12 (.p 10 0) (List.Mem.head _) (by kernel_rfl)) (by kernel_rfl) u115 i115
  · exact RG.cert_load rfl 10 0 _ rfl rfl (by kernel_rfl) 115 12 rfl (ws c10) rfl (fun μ a K => K.old 12 (.p 10 0) (List.Mem.head _) (by kernel_rfl)) (by kernel_rfl) u115 i115
  · exact RG.cert_call2 rfl 102 81 82 (fv c10) (fv c10) (fv c14) rfl (fun a w => by kernel_rfl) (fun μ a K => by have h := K.op 81 0 (List.Mem.head _) rfl; exact h) (fun μ a K => by have h := K.op 82 1 (List.Mem.tail _ (List.Mem.head _)) rfl; exact h) (hc14 ▸ CTimes_c C c10 c10)
  · exact RG.cert_load rfl 12 0 _ rfl rfl (by kernel_rfl) 115 14 rfl (ws c12) rfl (fun μ a K => K.old 14 (.p 12 0) (List.Mem.tail _ (List.Mem.head _)) (by kernel_rfl)) (by kernel_rfl) u115 i115
  · exact RG.cert_call2 rfl 104 83 84 (fv c14) (fv c12) (fv c15) rfl (fun a w => by kernel_rfl) (fun μ a K => by have h := K.op 83 2 (List.Mem.head _) rfl; exact h) (fun μ a K => by have h := K.op 84 3 (List.Mem.tail _ (List.Mem.head _)) rfl; exact h) (hc15 ▸ CMinus_c C c14 c12)
  · exact RG.cert_load rfl 13 0 _ rfl rfl (by kernel_rfl) 115 15 rfl (ws c13) rfl (fun μ a K => K.old 15 (.p 13 0) (List.Mem.tail _ (List.Mem.tail _ (List.Mem.head _))) (by kernel_rfl)) (by kernel_rfl) u115 i115
  · exact RG.cert_call1 rfl 105 86 (fv c13) (fv c16) rfl (fun a w => by kernel_rfl) (fun μ a K => by have h := K.op 86 5 (List.Mem.head _) rfl; exact h) (hc16 ▸ double_c C c13)
  · exact RG.cert_call2 rfl 104 85 87 (fv c15) (fv c16) (fv c17) rfl (fun a w => by kernel_rfl) (fun μ a K => by have h := K.op 85 4 (List.Mem.head _) rfl; exact h) (fun μ a K => by have h := K.op 87 6 (List.Mem.tail _ (List.Mem.head _)) rfl; exact h) (hc17 ▸ CMinus_c C c15 c16)
  · exact RG.cert_alloc 14 rfl rfl _ rfl 115 rfl (fun w => by kernel_rfl)
  · exact RG.cert_put 14 rfl _ rfl 115 (.tmp 16) (.tmp 88) rfl rfl rfl (fun μ a K => by have h := K.op 16 8 (List.Mem.head _) rfl; exact h) (fun μ a K => by have h := K.op 88 7 (List.Mem.tail _ (List.Mem.head _)) rfl; exact h) i115 rfl
  intro new11 w11 hl11 hS11
  obtain ⟨j11, rfl⟩ := RG.len1 hl11
  repeat refine wp_seq ?_
  refine RG.region_draws (by kernel_rfl) (its := F74e_14i x1 y1 z1 x2 y2 z2 c1 c2 c3 c4 c5 c6 c7 c8 c9 c10 c11 c12 c13 c14 c15 c16 c17 c18 c19 c20 c21 c22 c23) (bl := F74e_14b x1 y1 z1 x2 y2 z2 c1 c2 c3 c4 c5 c6 c7 c8 c9 c10 c11 c12 c13 c14 c15 c16 c17 c18 c19 c20 c21 c22 c23) (olds := F74e_14o x1 y1 z1 x2 y2 z2 c1 c2 c3 c4 c5 c6 c7 c8 c9 c10 c11 c12 c13 c14 c15 c16 c17 c18 c19 c20 c21 c22 c23) hS11 (RG.Reg.mk' (by kernel_rfl) ⟨by kernel_rfl, by kernel_rfl, by kernel_rfl, by kernel_rfl, by kernel_rfl, trivial⟩ ⟨?_, ?_, ?_, ?_, ?_, ?_, ?_, ?_, ?_, ?_, ?_, trivial⟩) (by kernel_rfl) (by kernel_rfl) (by kernel_rfl) ?_
  · exact RG.cert_load rfl 10 0 _ rfl rfl (by kernel_rfl) 115 12 rfl (ws c10) rfl (fun μ a K => K.old 12 (.p 10 0) (List.Mem.head _) (by kernel_rfl)) (by kernel_rfl) u115 i115
  · exact RG.cert_load rfl 13 0 _ rfl rfl (by kernel_rfl) 115 15 rfl (ws c13) rfl (fun μ a K => K.old 15 (.p 13 0) (List.Mem.tail _ (List.Mem.head _)) (by kernel_rfl)) (by kernel_rfl) u115 i115
  · exact RG.cert_load rfl 14 0 _ rfl rfl (by kernel_rfl) 115 16 rfl (ws c17) rfl (fun μ a K => K.old 16 (.p 14 0) (List.Mem.tail _ (List.Mem.tail _ (List.Mem.head _))) (by kernel_rfl)) (by kernel_rfl) u115 i115
  · exact RG.cert_call2 rfl 104 90 91 (fv c13) (fv c17) (fv c18) rfl (fun a w => by kernel_rfl) (fun μ a K => by have h := K.op 90 1 (List.Mem.head _) rfl; exact h) (fun μ a K => by have h := K.op 91 2 (List.Mem.tail _ (List.Mem.head _)) rfl; exact h) (hc18 ▸ CMinus_c C c13 c17)
  · exact RG.cert_call2 rfl 102 89 92 (fv c10) (fv c18) (fv c19) rfl (fun a w => by kernel_rfl) (fun μ a K => by have h := K.op 89 0 (List.Mem.head _) rfl; exact h) (fun μ a K => by have h := K.op 92 3 (List.Mem.tail _ (List.Mem.head _)) rfl; exact h) (hc19 ▸ CTimes_c C c10 c18)
  · exact RG.cert_load rfl 12 0 _ rfl rfl (by kernel_rfl) 115 14 rfl (ws c12) rfl (fun μ a K => K.old 14 (.p 12 0) (List.Mem.tail _ (List.Mem.tail _ (List.Mem.tail _ (List.Mem.head _)))) (by kernel_rfl)) (by kernel_rfl) u115 i115
  · exact RG.cert_load rfl 7 0 _ rfl rfl (by kernel_rfl) 115 9 rfl (ws c6) rfl (fun μ a K => K.old 9 (.p 7 0) (List.Mem.tail _ (List.Mem.tail _ (List.Mem.tail _ (List.Mem.tail _ (List.Mem.head _))))) (by kernel_rfl)) (by kernel_rfl) u115 i115
  · exact RG.cert_call2 rfl 102 94 95 (fv c12) (fv c6) (fv c20) rfl (fun a w => by kernel_rfl) (fun μ a K => by have h := K.op 94 5 (List.Mem.head _) rfl; exact h) (fun μ a K => by have h := K.op 95 6 (List.Mem.tail _ (List.Mem.head _)) rfl; exact h) (hc20 ▸ CTimes_c C c12 c6)
  · exact RG.cert_call2 rfl 104 93 96 (fv c19) (fv c20) (fv c21) rfl (fun a w => by kernel_rfl) (fun μ a K => by have h := K.op 93 4 (List.Mem.head _) rfl; exact h) (fun μ a K => by have h := K.op 96 7 (List.Mem.tail _ (List.Mem.head _)) rfl; exact h) (hc21 ▸ CMinus_c C c19 c20)
  · exact RG.cert_alloc 15 rfl rfl _ rfl 115 rfl (fun w => by kernel_rfl)
  · exact RG.cert_put 15 rfl _ rfl 115 (.tmp 17) (.tmp 97) rfl rfl rfl (fun μ a K => by have h := K.op 17 9 (List.Mem.head _) rfl; exact h) (fun μ a K => by have h := K.op 97 8 (List.Mem.tail _ (List.Mem.head _)) rfl; exact h) i115 rfl
  intro new12 w12 hl12 hS12
  obtain ⟨j12, rfl⟩ := RG.len1 hl12
  repeat refine wp_seq ?_
  refine RG.region_draws (by kernel_rfl) (its := F74e_15i x1 y1 z1 x2 y2 z2 c1 c2 c3 c4 c5 c6 c7 c8 c9 c10 c11 c12 c13 c14 c15 c16 c17 c18 c19 c20 c21 c22 c23) (bl := F74e_15b x1 y1 z1 x2 y2 z2 c1 c2 c3 c4 c5 c6 c7 c8 c9 c10 c11 c12 c13 c14 c15 c16 c17 c18 c19 c20 c21 c22 c23) (olds := F74e_15o x1 y1 z1 x2 y2 z2 c1 c2 c3 c4 c5 c6 c7 c8 c9 c10 c11 c12 c13 c14 c15 c16 c17 c18 c19 c20 c21 c22 c23) hS12 (RG.Reg.mk' (by kernel_rfl) ⟨by kernel_rfl, by kernel_rfl, by kernel_rfl, by kernel_rfl, by kernel_rfl, by kernel_rfl, trivial⟩ ⟨?_, ?_, ?_, ?_, ?_, ?_, ?_, ?_, ?_, ?_, ?_, trivial⟩) (by kernel_rfl) (by kernel_rfl) (by kernel_rfl) ?_
  · exact RG.cert_load rfl 14 0 _ rfl rfl (by kernel_rfl) 115 16 rfl (ws c17) rfl (fun μ a K => K.old 16 (.p 14 0) (List.Mem.head _) (by kernel_rfl)) (by kernel_rfl) u115 i115
  · exact RG.cert_load rfl 15 0 _ rfl rfl (by kernel_rfl) 115 17 rfl (ws c21) rfl (fun μ a K => K.old 17 (.p 15 0) (List.Mem.tail _ (List.Mem.head _)) (by kernel_rfl)) (by kernel_rfl) u115 i115
  · exact RG.cert_field rfl 117 2 2 rfl 0 0 8 rfl (fun μ a K => K.old 2 (.p 0 0) (List.Mem.tail _ (List.Mem.tail _ (List.Mem.head _))) (by kernel_rfl)) (fun k w => by kernel_rfl)
  · exact RG.cert_load rfl 0 8 _ rfl rfl (by kernel_rfl) 115 100 rfl (ws z1) rfl (fun μ a K => by have h := K.op 100 2 (List.Mem.head _) rfl; exact h) (by kernel_rfl) u115 i115
  · exact RG.cert_field rfl 117 3 2 rfl 1 0 8 rfl (fun μ a K => K.old 3 (.p 1 0) (List.Mem.tail _ (List.Mem.tail _ (List.Mem.tail _ (List.Mem.head _)))) (by kernel_rfl)) (fun k w => by kernel_rfl)
  · exact RG.cert_load rfl 1 8 _ rfl rfl (by kernel_rfl) 115 102 rfl (ws z2) rfl (fun μ a K => by have h := K.op 102 4 (List.Mem.head _) rfl; exact h) (by kernel_rfl) u115 i115
  · exact RG.cert_call2 rfl 102 101 103 (fv z1) (fv z2) (fv c22) rfl (fun a w => by kernel_rfl) (fun μ a K => by have h := K.op 101 3 (List.Mem.head _) rfl; exact h) (fun μ a K => by have h := K.op 103 5 (List.Mem.tail _ (List.Mem.head _)) rfl; exact h) (hc22 ▸ CTimes_c C z1 z2)
  · exact RG.cert_load rfl 9 0 _ rfl rfl (by kernel_rfl) 115 11 rfl (ws c9) rfl (fun μ a K => K.old 11 (.p 9 0) (List.Mem.tail _ (List.Mem.tail _ (List.Mem.tail _ (List.Mem.tail _ (List.Mem.head _))))) (by kernel_rfl)) (by kernel_rfl) u115 i115
  · exact RG.cert_call2 rfl 102 104 105 (fv c22) (fv c9) (fv c23) rfl (fun a w => by kernel_rfl) (fun μ a K => by have h := K.op 104 6 (List.Mem.head _) rfl; exact h) (fun μ a K => by have h := K.op 105 7 (List.Mem.tail _ (List.Mem.head _)) rfl; exact h) (hc23 ▸ CTimes_c C c22 c9)
  · exact RG.cert_build3 rfl 117 98 99 106 rfl (fv c17) (fv c21) (fv c23) (rv c17 c21 c23) rfl (fun μ a K => by have h := K.op 98 0 (List.Mem.head _) rfl; exact h) (fun μ a K => by have h := K.op 99 1 (List.Mem.tail _ (List.Mem.head _)) rfl; exact h) (fun μ a K => by have h := K.op 106 8 (List.Mem.tail _ (List.Mem.tail _ (List.Mem.head _))) rfl; exact h) (fun w => by kernel_rfl)
  · exact RG.cert_put 2 rfl _ rfl 117 (.tmp 4) (.tmp 107) rfl rfl rfl (fun μ a K => K.old 4 (.p 2 0) (List.Mem.tail _ (List.Mem.tail _ (List.Mem.tail _ (List.Mem.tail _ (List.Mem.tail _ (List.Mem.head _)))))) (by kernel_rfl)) (fun μ a K => by have h := K.op 107 9 (List.Mem.head _) rfl; exact h) i117 rfl
  intro new13 w13 hl13 hS13
  obtain rfl := RG.len0 hl13
  refine wp_ret ?_
  refine bodyPost_ret (v := (rv c17 c21 c23)) (RG.results_row hS13 4 117 rfl 2 _ rfl (by kernel_rfl) u117 i117) (by kernel_rfl) ?_
  exact ⟨_, rfl, hS13.bel.below, rfl⟩

end Go.Proofs.Ytdeidgbknlmhjab
