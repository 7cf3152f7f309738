import Derived.Test.YtdeidgbknlmhjabRO
import Derived.Test.YtdeidgbknlmhjabCP
set_option linter.unusedVariables false
set_option linter.unusedSimpArgs false
namespace Go.Proofs.Ytdeidgbknlmhjab
open Go.RowKit Go.Sort
variable {P : Nat} [NeZero P]

theorem u33 : (Try.prog.underlying 33).map (·.isRow) = some true := by kernel_rfl
theorem i33 : (Try.prog.info? 33).map (·.size) = some 4 := by kernel_rfl
theorem u56 : (Try.prog.underlying 56).map (·.isRow) = some true := by kernel_rfl
theorem i56 : (Try.prog.info? 56).map (·.size) = some 12 := by kernel_rfl
theorem u35 : (Try.prog.underlying 35).map (·.isRow) = some true := by kernel_rfl
theorem i35 : (Try.prog.info? 35).map (·.size) = some 8 := by kernel_rfl

def F69_0i  : List RG.It := [⟨some 0, [], (.p 0 0), .make 0⟩]
def F69_0b  : List RG.Bl := [⟨[.int .u64 0, .int .u64 0, .int .u64 0, .int .u64 0, .int .u64 0, .int .u64 0, .int .u64 0, .int .u64 0], [.int .u64 0, .int .u64 0, .int .u64 0, .int .u64 0, .int .u64 0, .int .u64 0, .int .u64 0, .int .u64 0], some 0, none⟩]
def F69_0o  : List (Tmp × RG.SV) := []
def F69_1i  : List RG.It := [⟨some 1, [], (.v rv0), .call⟩,
  ⟨none, [(1, 0)], (.v undef), .put 0⟩]
def F69_1b  : List RG.Bl := [⟨[.int .u64 0, .int .u64 0, .int .u64 0, .int .u64 0, .int .u64 0, .int .u64 0, .int .u64 0, .int .u64 0], rl0, none, some 1⟩]
def F69_1o  : List (Tmp × RG.SV) := [(0, (.p 0 0))]
set_option maxHeartbeats 2000000 in
set_option maxRecDepth 100000 in
theorem F3_c  : Gives 69 #[] rv0 := by
  intro w
  have hfin : (rv0 : Value) = rv0 := by
    subst_vars; rfl
  rw [← hfin]
  go_enter Try.func69, Try.ntmps69
  have hS0 := RG.St.begin w
  repeat refine wp_seq ?_
  refine RG.region_text (its := F69_0i) (bl := F69_0b) (olds := F69_0o) hS0 (RG.Reg.mk' (by kernel_rfl) trivial ⟨?_, trivial⟩) (by kernel_rfl) (by kernel_rfl) (by kernel_rfl) ?_
  · exact RG.cert_alloc 0 rfl rfl _ rfl 35 rfl (fun w => by kernel_rfl)
  intro new1 w1 hl1 hS1
  obtain ⟨j1, rfl⟩ := RG.len1 hl1
  repeat refine wp_seq ?_
  refine RG.region_text (its := F69_1i) (bl := F69_1b) (olds := F69_1o) hS1 (RG.Reg.mk' (by kernel_rfl) ⟨by kernel_rfl, trivial⟩ ⟨?_, ?_, trivial⟩) (by kernel_rfl) (by kernel_rfl) (by kernel_rfl) ?_
  · exact RG.cert_call rfl 16 #[(.int .i64 0)] rv0 rfl (fun μ a w _ _ => by kernel_rfl) (fun w _ => (rMake_c) w)
  · exact RG.cert_put 0 rfl _ rfl 35 (.tmp 0) (.tmp 1) rfl rfl rfl (fun μ a K => K.old 0 (.p 0 0) (List.Mem.head _) (by kernel_rfl)) (fun μ a K => by have h := K.op 1 0 (List.Mem.head _) rfl; exact h) i35 rfl
  intro new2 w2 hl2 hS2
  obtain rfl := RG.len0 hl2
  refine wp_ret ?_
  refine bodyPost_ret (v := rv0) (RG.results_row hS2 0 35 rfl 0 _ rfl (by kernel_rfl) u35 i35) (by kernel_rfl) ?_
  exact ⟨_, rfl, hS2.bel.below, rfl⟩

def F68_0i  : List RG.It := [⟨some 0, [], (.p 0 0), .make 0⟩]
def F68_0b  : List RG.Bl := [⟨[.int .u64 0, .int .u64 0, .int .u64 0, .int .u64 0, .int .u64 0, .int .u64 0, .int .u64 0, .int .u64 0, .int .u64 0, .int .u64 0, .int .u64 0, .int .u64 0], [.int .u64 0, .int .u64 0, .int .u64 0, .int .u64 0, .int .u64 0, .int .u64 0, .int .u64 0, .int .u64 0, .int .u64 0, .int .u64 0, .int .u64 0, .int .u64 0], some 0, none⟩]
def F68_0o  : List (Tmp × RG.SV) := []
def F68_1i  : List RG.It := [⟨some 1, [], (.v (fv (1 : Fin P))), .call⟩,
  ⟨some 2, [(1, 0)], (.v (rv (0 : Fin P) (1 : Fin P) (0 : Fin P))), .stay⟩,
  ⟨none, [(2, 1)], (.v undef), .put 0⟩]
def F68_1b  : List RG.Bl := [⟨[.int .u64 0, .int .u64 0, .int .u64 0, .int .u64 0, .int .u64 0, .int .u64 0, .int .u64 0, .int .u64 0, .int .u64 0, .int .u64 0, .int .u64 0, .int .u64 0], (ws (0 : Fin P) ++ (ws (1 : Fin P) ++ (ws (0 : Fin P)))), none, some 2⟩]
def F68_1o  : List (Tmp × RG.SV) := [(0, (.p 0 0))]
set_option maxHeartbeats 2000000 in
set_option maxRecDepth 100000 in
theorem None_c (C : Fl3 P)  : Gives 68 #[] (rv (0 : Fin P) 1 0) := by
  intro w
  have hfin : ((rv (0 : Fin P) (1 : Fin P) (0 : Fin P)) : Value) = (rv (0 : Fin P) 1 0) := by
    subst_vars; rfl
  rw [← hfin]
  go_enter Try.func68, Try.ntmps68
  have hS0 := RG.St.begin w
  repeat refine wp_seq ?_
  refine RG.region_text (its := F68_0i) (bl := F68_0b) (olds := F68_0o) hS0 (RG.Reg.mk' (by kernel_rfl) trivial ⟨?_, trivial⟩) (by kernel_rfl) (by kernel_rfl) (by kernel_rfl) ?_
  · exact RG.cert_alloc 0 rfl rfl _ rfl 56 rfl (fun w => by kernel_rfl)
  intro new1 w1 hl1 hS1
  obtain ⟨j1, rfl⟩ := RG.len1 hl1
  repeat refine wp_seq ?_
  refine RG.region_text (its := F68_1i (P := P)) (bl := F68_1b (P := P)) (olds := F68_1o) hS1 (RG.Reg.mk' (by kernel_rfl) ⟨by kernel_rfl, trivial⟩ ⟨?_, ?_, ?_, trivial⟩) (by kernel_rfl) (by kernel_rfl) (by kernel_rfl) ?_
  · exact RG.cert_call rfl 66 #[(.int .u64 1)] (fv (1 : Fin P)) rfl (fun μ a w _ _ => by kernel_rfl) (fun w _ => (rSmall1_c C) w)
  · exact RG.cert_build1 rfl 56 1 1 rfl (fv (1 : Fin P)) (rv (0 : Fin P) (1 : Fin P) (0 : Fin P)) rfl (fun μ a K => by have h := K.op 1 0 (List.Mem.head _) rfl; exact h) (build_none C.toFld)
  · exact RG.cert_put 0 rfl _ rfl 56 (.tmp 0) (.tmp 2) rfl rfl rfl (fun μ a K => K.old 0 (.p 0 0) (List.Mem.head _) (by kernel_rfl)) (fun μ a K => by have h := K.op 2 1 (List.Mem.head _) rfl; exact h) i56 rfl
  intro new2 w2 hl2 hS2
  obtain rfl := RG.len0 hl2
  refine wp_ret ?_
  refine bodyPost_ret (v := (rv (0 : Fin P) (1 : Fin P) (0 : Fin P))) (RG.results_row hS2 0 56 rfl 0 _ rfl (by kernel_rfl) u56 i56) (by kernel_rfl) ?_
  exact ⟨_, rfl, hS2.bel.below, rfl⟩

def F78t_0i (x y z : Fin P) : List RG.It := [⟨some 1, [], (.p 0 0), .make 0⟩,
  ⟨some 2, [], (.v (.bool false)), .stay⟩]
def F78t_0b (x y z : Fin P) : List RG.Bl := [⟨(ws x ++ (ws y ++ (ws z))), (ws x ++ (ws y ++ (ws z))), some 0, none⟩]
def F78t_0o (x y z : Fin P) : List (Tmp × RG.SV) := [(0, (.v (rv x y z)))]
def F78t_1i (x y z : Fin P) : List RG.It := [⟨some 3, [], (.p 0 8), .stay⟩,
  ⟨some 4, [(3, 0)], (.v (fv z)), .stay⟩,
  ⟨some 5, [(4, 1)], (.v (.bool true)), .call⟩,
  ⟨some 2, [(5, 2)], (.v (.bool true)), .stay⟩]
def F78t_1b (x y z : Fin P) : List RG.Bl := [⟨(ws x ++ (ws y ++ (ws z))), (ws x ++ (ws y ++ (ws z))), none, none⟩]
def F78t_1o (x y z : Fin P) : List (Tmp × RG.SV) := [(1, (.p 0 0))]
set_option maxHeartbeats 2000000 in
set_option maxRecDepth 100000 in
theorem Is_t_c (C : Fl3 P) (x y z : Fin P)(hz : z = 0)  : Gives 78 #[(rv x y z)] (.bool true) := by
  intro w
  have hfin : ((.bool true) : Value) = (.bool true) := by
    subst_vars; rfl
  rw [← hfin]
  go_enter Try.func78, Try.ntmps78
  have hS0 := RG.St.begin w
  repeat refine wp_seq ?_
  refine RG.region_text (its := F78t_0i x y z) (bl := F78t_0b x y z) (olds := F78t_0o x y z) hS0 (RG.Reg.mk' (by kernel_rfl) ⟨by kernel_rfl, trivial⟩ ⟨?_, ?_, trivial⟩) (by kernel_rfl) (by kernel_rfl) (by kernel_rfl) ?_
  · exact RG.cert_box 0 rfl rfl _ rfl 56 0 rfl (rv x y z) (fun μ a K => K.old 0 (.v (rv x y z)) (List.Mem.head _) (by kernel_rfl)) (fun w => by kernel_rfl)
  · exact RG.cert_stay rfl (fun μ a w _ _ => by kernel_rfl)
  intro new1 w1 hl1 hS1
  obtain ⟨j1, rfl⟩ := RG.len1 hl1
  repeat refine wp_seq ?_
  refine RG.region_text (its := F78t_1i x y z) (bl := F78t_1b x y z) (olds := F78t_1o x y z) hS1 (RG.Reg.mk' (by kernel_rfl) ⟨by kernel_rfl, trivial⟩ ⟨?_, ?_, ?_, ?_, trivial⟩) (by kernel_rfl) (by kernel_rfl) (by kernel_rfl) ?_
  · exact RG.cert_field rfl 56 1 2 rfl 0 0 8 rfl (fun μ a K => K.old 1 (.p 0 0) (List.Mem.head _) (by kernel_rfl)) (fun k w => by kernel_rfl)
  · exact RG.cert_load rfl 0 8 _ rfl rfl (by kernel_rfl) 33 3 rfl (ws z) rfl (fun μ a K => by have h := K.op 3 0 (List.Mem.head _) rfl; exact h) (by kernel_rfl) u33 i33
  · exact RG.cert_call1 rfl 79 4 (fv z) (.bool true) rfl (fun a w => by kernel_rfl) (fun μ a K => by have h := K.op 4 1 (List.Mem.head _) rfl; exact h) (rZero_t C hz)
  · exact RG.cert_move rfl 5 (Or.inr rfl) (fun μ a K => by have h := K.op 5 2 (List.Mem.head _) rfl; exact h)
  intro new2 w2 hl2 hS2
  obtain rfl := RG.len0 hl2
  refine wp_ret ?_
  refine bodyPost_ret (v := (.bool true)) (RG.results_t 2 rfl _ (by kernel_rfl)) (by kernel_rfl) ?_
  exact ⟨_, rfl, hS2.bel.below, rfl⟩

def F78f_0i (x y z : Fin P) : List RG.It := [⟨some 1, [], (.p 0 0), .make 0⟩,
  ⟨some 2, [], (.v (.bool false)), .stay⟩]
def F78f_0b (x y z : Fin P) : List RG.Bl := [⟨(ws x ++ (ws y ++ (ws z))), (ws x ++ (ws y ++ (ws z))), some 0, none⟩]
def F78f_0o (x y z : Fin P) : List (Tmp × RG.SV) := [(0, (.v (rv x y z)))]
def F78f_1i (x y z : Fin P) : List RG.It := [⟨some 3, [], (.p 0 8), .stay⟩,
  ⟨some 4, [(3, 0)], (.v (fv z)), .stay⟩,
  ⟨some 5, [(4, 1)], (.v (.bool false)), .call⟩,
  ⟨some 2, [(5, 2)], (.v (.bool false)), .stay⟩]
def F78f_1b (x y z : Fin P) : List RG.Bl := [⟨(ws x ++ (ws y ++ (ws z))), (ws x ++ (ws y ++ (ws z))), none, none⟩]
def F78f_1o (x y z : Fin P) : List (Tmp × RG.SV) := [(1, (.p 0 0))]
set_option maxHeartbeats 2000000 in
set_option maxRecDepth 100000 in
theorem Is_f_c (C : Fl3 P) (x y z : Fin P)(hz : ¬ z = 0)  : Gives 78 #[(rv x y z)] (.bool false) := by
  intro w
  have hfin : ((.bool false) : Value) = (.bool false) := by
    subst_vars; rfl
  rw [← hfin]
  go_enter Try.func78, Try.ntmps78
  have hS0 := RG.St.begin w
  repeat refine wp_seq ?_
  refine RG.region_text (its := F78f_0i x y z) (bl := F78f_0b x y z) (olds := F78f_0o x y z) hS0 (RG.Reg.mk' (by kernel_rfl) ⟨by kernel_rfl, trivial⟩ ⟨?_, ?_, trivial⟩) (by kernel_rfl) (by kernel_rfl) (by kernel_rfl) ?_
  · exact RG.cert_box 0 rfl rfl _ rfl 56 0 rfl (rv x y z) (fun μ a K => K.old 0 (.v (rv x y z)) (List.Mem.head _) (by kernel_rfl)) (fun w => by kernel_rfl)
  · exact RG.cert_stay rfl (fun μ a w _ _ => by kernel_rfl)
  intro new1 w1 hl1 hS1
  obtain ⟨j1, rfl⟩ := RG.len1 hl1
  repeat refine wp_seq ?_
  refine RG.region_text (its := F78f_1i x y z) (bl := F78f_1b x y z) (olds := F78f_1o x y z) hS1 (RG.Reg.mk' (by kernel_rfl) ⟨by kernel_rfl, trivial⟩ ⟨?_, ?_, ?_, ?_, trivial⟩) (by kernel_rfl) (by kernel_rfl) (by kernel_rfl) ?_
  · exact RG.cert_field rfl 56 1 2 rfl 0 0 8 rfl (fun μ a K => K.old 1 (.p 0 0) (List.Mem.head _) (by kernel_rfl)) (fun k w => by kernel_rfl)
  · exact RG.cert_load rfl 0 8 _ rfl rfl (by kernel_rfl) 33 3 rfl (ws z) rfl (fun μ a K => by have h := K.op 3 0 (List.Mem.head _) rfl; exact h) (by kernel_rfl) u33 i33
  · exact RG.cert_call1 rfl 79 4 (fv z) (.bool false) rfl (fun a w => by kernel_rfl) (fun μ a K => by have h := K.op 4 1 (List.Mem.head _) rfl; exact h) (rZero_f C hz)
  · exact RG.cert_move rfl 5 (Or.inr rfl) (fun μ a K => by have h := K.op 5 2 (List.Mem.head _) rfl; exact h)
  intro new2 w2 hl2 hS2
  obtain rfl := RG.len0 hl2
  refine wp_ret ?_
  refine bodyPost_ret (v := (.bool false)) (RG.results_t 2 rfl _ (by kernel_rfl)) (by kernel_rfl) ?_
  exact ⟨_, rfl, hS2.bel.below, rfl⟩

def F80_0i (x y z c1 c2 c3 c4 c5 c6 c7 c8 c9 c10 c11 c12 c13 c14 c15 c16 c17 c18 c19 : Fin P) : List RG.It := [⟨some 1, [], (.p 0 0), .make 0⟩,
  ⟨some 2, [], (.p 1 0), .make 1⟩]
def F80_0b (x y z c1 c2 c3 c4 c5 c6 c7 c8 c9 c10 c11 c12 c13 c14 c15 c16 c17 c18 c19 : Fin P) : List RG.Bl := [⟨(ws x ++ (ws y ++ (ws z))), (ws x ++ (ws y ++ (ws z))), some 0, none⟩, ⟨[.int .u64 0, .int .u64 0, .int .u64 0, .int .u64 0, .int .u64 0, .int .u64 0, .int .u64 0, .int .u64 0, .int .u64 0, .int .u64 0, .int .u64 0, .int .u64 0], [.int .u64 0, .int .u64 0, .int .u64 0, .int .u64 0, .int .u64 0, .int .u64 0, .int .u64 0, .int .u64 0, .int .u64 0, .int .u64 0, .int .u64 0, .int .u64 0], some 1, none⟩]
def F80_0o (x y z c1 c2 c3 c4 c5 c6 c7 c8 c9 c10 c11 c12 c13 c14 c15 c16 c17 c18 c19 : Fin P) : List (Tmp × RG.SV) := [(0, (.v (rv x y z)))]
def F80_1i (x y z c1 c2 c3 c4 c5 c6 c7 c8 c9 c10 c11 c12 c13 c14 c15 c16 c17 c18 c19 : Fin P) : List RG.It := [⟨some 11, [], (.v rv0), .call⟩,
  ⟨some 12, [], (.p 0 0), .stay⟩,
  ⟨some 13, [(12, 1)], (.v (fv x)), .stay⟩,
  ⟨some 14, [], (.p 0 0), .stay⟩,
  ⟨some 15, [(14, 3)], (.v (fv x)), .stay⟩,
  ⟨some 16, [(11, 0), (13, 2), (15, 4)], (.v (fv c1)), .call⟩,
  ⟨some 3, [], (.p 2 0), .make 2⟩,
  ⟨none, [(3, 6), (16, 5)], (.v undef), .put 2⟩]
def F80_1b (x y z c1 c2 c3 c4 c5 c6 c7 c8 c9 c10 c11 c12 c13 c14 c15 c16 c17 c18 c19 : Fin P) : List RG.Bl := [⟨(ws x ++ (ws y ++ (ws z))), (ws x ++ (ws y ++ (ws z))), none, none⟩, ⟨[.int .u64 0, .int .u64 0, .int .u64 0, .int .u64 0, .int .u64 0, .int .u64 0, .int .u64 0, .int .u64 0, .int .u64 0, .int .u64 0, .int .u64 0, .int .u64 0], [.int .u64 0, .int .u64 0, .int .u64 0, .int .u64 0, .int .u64 0, .int .u64 0, .int .u64 0, .int .u64 0, .int .u64 0, .int .u64 0, .int .u64 0, .int .u64 0], none, none⟩, ⟨[.int .u64 0, .int .u64 0, .int .u64 0, .int .u64 0], (ws c1), some 6, some 7⟩]
def F80_1o (x y z c1 c2 c3 c4 c5 c6 c7 c8 c9 c10 c11 c12 c13 c14 c15 c16 c17 c18 c19 : Fin P) : List (Tmp × RG.SV) := [(1, (.p 0 0))]
def F80_2i (x y z c1 c2 c3 c4 c5 c6 c7 c8 c9 c10 c11 c12 c13 c14 c15 c16 c17 c18 c19 : Fin P) : List RG.It := [⟨some 17, [], (.v rv0), .call⟩,
  ⟨some 18, [], (.v rv0), .call⟩,
  ⟨some 19, [], (.v (fv c1)), .stay⟩,
  ⟨some 20, [], (.v (fv c1)), .stay⟩,
  ⟨some 21, [(18, 1), (19, 2), (20, 3)], (.v (fv c2)), .call⟩,
  ⟨some 22, [], (.v (fv c1)), .stay⟩,
  ⟨some 23, [(17, 0), (21, 4), (22, 5)], (.v (fv c3)), .call⟩,
  ⟨some 4, [], (.p 3 0), .make 3⟩,
  ⟨none, [(4, 7), (23, 6)], (.v undef), .put 3⟩]
def F80_2b (x y z c1 c2 c3 c4 c5 c6 c7 c8 c9 c10 c11 c12 c13 c14 c15 c16 c17 c18 c19 : Fin P) : List RG.Bl := [⟨(ws x ++ (ws y ++ (ws z))), (ws x ++ (ws y ++ (ws z))), none, none⟩, ⟨[.int .u64 0, .int .u64 0, .int .u64 0, .int .u64 0, .int .u64 0, .int .u64 0, .int .u64 0, .int .u64 0, .int .u64 0, .int .u64 0, .int .u64 0, .int .u64 0], [.int .u64 0, .int .u64 0, .int .u64 0, .int .u64 0, .int .u64 0, .int .u64 0, .int .u64 0, .int .u64 0, .int .u64 0, .int .u64 0, .int .u64 0, .int .u64 0], none, none⟩, ⟨(ws c1), (ws c1), none, none⟩, ⟨[.int .u64 0, .int .u64 0, .int .u64 0, .int .u64 0], (ws c3), some 7, some 8⟩]
def F80_2o (x y z c1 c2 c3 c4 c5 c6 c7 c8 c9 c10 c11 c12 c13 c14 c15 c16 c17 c18 c19 : Fin P) : List (Tmp × RG.SV) := [(3, (.p 2 0))]
def F80_3i (x y z c1 c2 c3 c4 c5 c6 c7 c8 c9 c10 c11 c12 c13 c14 c15 c16 c17 c18 c19 : Fin P) : List RG.It := [⟨some 24, [], (.v rv0), .call⟩,
  ⟨some 25, [], (.v rv0), .call⟩,
  ⟨some 26, [], (.p 0 4), .stay⟩,
  ⟨some 27, [(26, 2)], (.v (fv y)), .stay⟩,
  ⟨some 28, [], (.p 0 4), .stay⟩,
  ⟨some 29, [(28, 4)], (.v (fv y)), .stay⟩,
  ⟨some 30, [(25, 1), (27, 3), (29, 5)], (.v (fv c4)), .call⟩,
  ⟨some 31, [], (.p 0 8), .stay⟩,
  ⟨some 32, [(31, 7)], (.v (fv z)), .stay⟩,
  ⟨some 33, [(24, 0), (30, 6), (32, 8)], (.v (fv c5)), .call⟩,
  ⟨some 5, [], (.p 4 0), .make 4⟩,
  ⟨none, [(5, 10), (33, 9)], (.v undef), .put 4⟩]
def F80_3b (x y z c1 c2 c3 c4 c5 c6 c7 c8 c9 c10 c11 c12 c13 c14 c15 c16 c17 c18 c19 : Fin P) : List RG.Bl := [⟨(ws x ++ (ws y ++ (ws z))), (ws x ++ (ws y ++ (ws z))), none, none⟩, ⟨[.int .u64 0, .int .u64 0, .int .u64 0, .int .u64 0, .int .u64 0, .int .u64 0, .int .u64 0, .int .u64 0, .int .u64 0, .int .u64 0, .int .u64 0, .int .u64 0], [.int .u64 0, .int .u64 0, .int .u64 0, .int .u64 0, .int .u64 0, .int .u64 0, .int .u64 0, .int .u64 0, .int .u64 0, .int .u64 0, .int .u64 0, .int .u64 0], none, none⟩, ⟨(ws c1), (ws c1), none, none⟩, ⟨(ws c3), (ws c3), none, none⟩, ⟨[.int .u64 0, .int .u64 0, .int .u64 0, .int .u64 0], (ws c5), some 10, some 11⟩]
def F80_3o (x y z c1 c2 c3 c4 c5 c6 c7 c8 c9 c10 c11 c12 c13 c14 c15 c16 c17 c18 c19 : Fin P) : List (Tmp × RG.SV) := [(1, (.p 0 0))]
def F80_4i (x y z c1 c2 c3 c4 c5 c6 c7 c8 c9 c10 c11 c12 c13 c14 c15 c16 c17 c18 c19 : Fin P) : List RG.It := [⟨some 34, [], (.v rv0), .call⟩,
  ⟨some 35, [], (.v (fv c5)), .stay⟩,
  ⟨some 36, [], (.v (fv c5)), .stay⟩,
  ⟨some 37, [(34, 0), (35, 1), (36, 2)], (.v (fv c6)), .call⟩,
  ⟨some 6, [], (.p 5 0), .make 5⟩,
  ⟨none, [(6, 4), (37, 3)], (.v undef), .put 5⟩]
def F80_4b (x y z c1 c2 c3 c4 c5 c6 c7 c8 c9 c10 c11 c12 c13 c14 c15 c16 c17 c18 c19 : Fin P) : List RG.Bl := [⟨(ws x ++ (ws y ++ (ws z))), (ws x ++ (ws y ++ (ws z))), none, none⟩, ⟨[.int .u64 0, .int .u64 0, .int .u64 0, .int .u64 0, .int .u64 0, .int .u64 0, .int .u64 0, .int .u64 0, .int .u64 0, .int .u64 0, .int .u64 0, .int .u64 0], [.int .u64 0, .int .u64 0, .int .u64 0, .int .u64 0, .int .u64 0, .int .u64 0, .int .u64 0, .int .u64 0, .int .u64 0, .int .u64 0, .int .u64 0, .int .u64 0], none, none⟩, ⟨(ws c1), (ws c1), none, none⟩, ⟨(ws c3), (ws c3), none, none⟩, ⟨(ws c5), (ws c5), none, none⟩, ⟨[.int .u64 0, .int .u64 0, .int .u64 0, .int .u64 0], (ws c6), some 4, some 5⟩]
def F80_4o (x y z c1 c2 c3 c4 c5 c6 c7 c8 c9 c10 c11 c12 c13 c14 c15 c16 c17 c18 c19 : Fin P) : List (Tmp × RG.SV) := [(5, (.p 4 0))]
def F80_5i (x y z c1 c2 c3 c4 c5 c6 c7 c8 c9 c10 c11 c12 c13 c14 c15 c16 c17 c18 c19 : Fin P) : List RG.It := [⟨some 38, [], (.v rv0), .call⟩,
  ⟨some 39, [], (.v (fv c6)), .stay⟩,
  ⟨some 40, [], (.v (fv c5)), .stay⟩,
  ⟨some 41, [(38, 0), (39, 1), (40, 2)], (.v (fv c7)), .call⟩,
  ⟨some 7, [], (.p 6 0), .make 6⟩,
  ⟨none, [(7, 4), (41, 3)], (.v undef), .put 6⟩]
def F80_5b (x y z c1 c2 c3 c4 c5 c6 c7 c8 c9 c10 c11 c12 c13 c14 c15 c16 c17 c18 c19 : Fin P) : List RG.Bl := [⟨(ws x ++ (ws y ++ (ws z))), (ws x ++ (ws y ++ (ws z))), none, none⟩, ⟨[.int .u64 0, .int .u64 0, .int .u64 0, .int .u64 0, .int .u64 0, .int .u64 0, .int .u64 0, .int .u64 0, .int .u64 0, .int .u64 0, .int .u64 0, .int .u64 0], [.int .u64 0, .int .u64 0, .int .u64 0, .int .u64 0, .int .u64 0, .int .u64 0, .int .u64 0, .int .u64 0, .int .u64 0, .int .u64 0, .int .u64 0, .int .u64 0], none, none⟩, ⟨(ws c1), (ws c1), none, none⟩, ⟨(ws c3), (ws c3), none, none⟩, ⟨(ws c5), (ws c5), none, none⟩, ⟨(ws c6), (ws c6), none, none⟩, ⟨[.int .u64 0, .int .u64 0, .int .u64 0, .int .u64 0], (ws c7), some 4, some 5⟩]
def F80_5o (x y z c1 c2 c3 c4 c5 c6 c7 c8 c9 c10 c11 c12 c13 c14 c15 c16 c17 c18 c19 : Fin P) : List (Tmp × RG.SV) := [(6, (.p 5 0)), (5, (.p 4 0))]
def F80_6i (x y z c1 c2 c3 c4 c5 c6 c7 c8 c9 c10 c11 c12 c13 c14 c15 c16 c17 c18 c19 : Fin P) : List RG.It := [⟨some 42, [], (.v rv0), .call⟩,
  ⟨some 43, [], (.v rv0), .call⟩,
  ⟨some 44, [], (.v rv0), .call⟩,
  ⟨some 45, [], (.v (fv c3)), .stay⟩,
  ⟨some 46, [], (.v (fv c3)), .stay⟩,
  ⟨some 47, [(44, 2), (45, 3), (46, 4)], (.v (fv c8)), .call⟩,
  ⟨some 48, [], (.p 0 8), .stay⟩,
  ⟨some 49, [(48, 6)], (.v (fv z)), .stay⟩,
  ⟨some 50, [(43, 1), (47, 5), (49, 7)], (.v (fv c9)), .call⟩,
  ⟨some 51, [], (.v rv0), .call⟩,
  ⟨some 52, [], (.v rv0), .call⟩,
  ⟨some 53, [], (.p 0 0), .stay⟩,
  ⟨some 54, [(53, 11)], (.v (fv x)), .stay⟩,
  ⟨some 55, [], (.p 0 0), .stay⟩,
  ⟨some 56, [(55, 13)], (.v (fv x)), .stay⟩,
  ⟨some 57, [(52, 10), (54, 12), (56, 14)], (.v (fv c10)), .call⟩,
  ⟨some 58, [], (.v (fv c6)), .stay⟩,
  ⟨some 59, [(51, 9), (57, 15), (58, 16)], (.v (fv c11)), .call⟩,
  ⟨some 60, [(42, 0), (50, 8), (59, 17)], (.v (fv c12)), .call⟩,
  ⟨some 8, [], (.p 7 0), .make 7⟩,
  ⟨none, [(8, 19), (60, 18)], (.v undef), .put 7⟩]
def F80_6b (x y z c1 c2 c3 c4 c5 c6 c7 c8 c9 c10 c11 c12 c13 c14 c15 c16 c17 c18 c19 : Fin P) : List RG.Bl := [⟨(ws x ++ (ws y ++ (ws z))), (ws x ++ (ws y ++ (ws z))), none, none⟩, ⟨[.int .u64 0, .int .u64 0, .int .u64 0, .int .u64 0, .int .u64 0, .int .u64 0, .int .u64 0, .int .u64 0, .int .u64 0, .int .u64 0, .int .u64 0, .int .u64 0], [.int .u64 0, .int .u64 0, .int .u64 0, .int .u64 0, .int .u64 0, .int .u64 0, .int .u64 0, .int .u64 0, .int .u64 0, .int .u64 0, .int .u64 0, .int .u64 0], none, none⟩, ⟨(ws c1), (ws c1), none, none⟩, ⟨(ws c3), (ws c3), none, none⟩, ⟨(ws c5), (ws c5), none, none⟩, ⟨(ws c6), (ws c6), none, none⟩, ⟨(ws c7), (ws c7), none, none⟩, ⟨[.int .u64 0, .int .u64 0, .int .u64 0, .int .u64 0], (ws c12), some 19, some 20⟩]
def F80_6o (x y z c1 c2 c3 c4 c5 c6 c7 c8 c9 c10 c11 c12 c13 c14 c15 c16 c17 c18 c19 : Fin P) : List (Tmp × RG.SV) := [(4, (.p 3 0)), (1, (.p 0 0)), (6, (.p 5 0))]
def F80_7i (x y z c1 c2 c3 c4 c5 c6 c7 c8 c9 c10 c11 c12 c13 c14 c15 c16 c17 c18 c19 : Fin P) : List RG.It := [⟨some 61, [], (.v rv0), .call⟩,
  ⟨some 62, [], (.v (fv c5)), .stay⟩,
  ⟨some 63, [], (.v (fv c12)), .stay⟩,
  ⟨some 64, [(61, 0), (62, 1), (63, 2)], (.v (fv c13)), .call⟩,
  ⟨some 9, [], (.p 8 0), .make 8⟩,
  ⟨none, [(9, 4), (64, 3)], (.v undef), .put 8⟩]
def F80_7b (x y z c1 c2 c3 c4 c5 c6 c7 c8 c9 c10 c11 c12 c13 c14 c15 c16 c17 c18 c19 : Fin P) : List RG.Bl := [⟨(ws x ++ (ws y ++ (ws z))), (ws x ++ (ws y ++ (ws z))), none, none⟩, ⟨[.int .u64 0, .int .u64 0, .int .u64 0, .int .u64 0, .int .u64 0, .int .u64 0, .int .u64 0, .int .u64 0, .int .u64 0, .int .u64 0, .int .u64 0, .int .u64 0], [.int .u64 0, .int .u64 0, .int .u64 0, .int .u64 0, .int .u64 0, .int .u64 0, .int .u64 0, .int .u64 0, .int .u64 0, .int .u64 0, .int .u64 0, .int .u64 0], none, none⟩, ⟨(ws c1), (ws c1), none, none⟩, ⟨(ws c3), (ws c3), none, none⟩, ⟨(ws c5), (ws c5), none, none⟩, ⟨(ws c6), (ws c6), none, none⟩, ⟨(ws c7), (ws c7), none, none⟩, ⟨(ws c12), (ws c12), none, none⟩, ⟨[.int .u64 0, .int .u64 0, .int .u64 0, .int .u64 0], (ws c13), some 4, some 5⟩]
def F80_7o (x y z c1 c2 c3 c4 c5 c6 c7 c8 c9 c10 c11 c12 c13 c14 c15 c16 c17 c18 c19 : Fin P) : List (Tmp × RG.SV) := [(5, (.p 4 0)), (8, (.p 7 0))]
def F80_8i (x y z c1 c2 c3 c4 c5 c6 c7 c8 c9 c10 c11 c12 c13 c14 c15 c16 c17 c18 c19 : Fin P) : List RG.It := [⟨some 65, [], (.v rv0), .call⟩,
  ⟨some 66, [], (.v rv0), .call⟩,
  ⟨some 67, [], (.v (fv c3)), .stay⟩,
  ⟨some 68, [], (.v rv0), .call⟩,
  ⟨some 69, [], (.v rv0), .call⟩,
  ⟨some 70, [], (.p 0 0), .stay⟩,
  ⟨some 71, [(70, 5)], (.v (fv x)), .stay⟩,
  ⟨some 72, [], (.v (fv c6)), .stay⟩,
  ⟨some 73, [(69, 4), (71, 6), (72, 7)], (.v (fv c14)), .call⟩,
  ⟨some 74, [], (.v (fv c12)), .stay⟩,
  ⟨some 75, [(68, 3), (73, 8), (74, 9)], (.v (fv c15)), .call⟩,
  ⟨some 76, [(66, 1), (67, 2), (75, 10)], (.v (fv c16)), .call⟩,
  ⟨some 77, [], (.v rv0), .call⟩,
  ⟨some 78, [], (.p 0 4), .stay⟩,
  ⟨some 79, [(78, 13)], (.v (fv y)), .stay⟩,
  ⟨some 80, [], (.v (fv c7)), .stay⟩,
  ⟨some 81, [(77, 12), (79, 14), (80, 15)], (.v (fv c17)), .call⟩,
  ⟨some 82, [(65, 0), (76, 11), (81, 16)], (.v (fv c18)), .call⟩,
  ⟨some 10, [], (.p 9 0), .make 9⟩,
  ⟨none, [(10, 18), (82, 17)], (.v undef), .put 9⟩]
def F80_8b (x y z c1 c2 c3 c4 c5 c6 c7 c8 c9 c10 c11 c12 c13 c14 c15 c16 c17 c18 c19 : Fin P) : List RG.Bl := [⟨(ws x ++ (ws y ++ (ws z))), (ws x ++ (ws y ++ (ws z))), none, none⟩, ⟨[.int .u64 0, .int .u64 0, .int .u64 0, .int .u64 0, .int .u64 0, .int .u64 0, .int .u64 0, .int .u64 0, .int .u64 0, .int .u64 0, .int .u64 0, .int .u64 0], [.int .u64 0, .int .u64 0, .int .u64 0, .int .u64 0, .int .u64 0, .int .u64 0, .int .u64 0, .int .u64 0, .int .u64 0, .int .u64 0, .int .u64 0, .int .u64 0], none, none⟩, ⟨(ws c1), (ws c1), none, none⟩, ⟨(ws c3), (ws c3), none, none⟩, ⟨(ws c5), (ws c5), none, none⟩, ⟨(ws c6), (ws c6), none, none⟩, ⟨(ws c7), (ws c7), none, none⟩, ⟨(ws c12), (ws c12), none, none⟩, ⟨(ws c13), (ws c13), none, none⟩, ⟨[.int .u64 0, .int .u64 0, .int .u64 0, .int .u64 0], (ws c18), some 18, some 19⟩]
def F80_8o (x y z c1 c2 c3 c4 c5 c6 c7 c8 c9 c10 c11 c12 c13 c14 c15 c16 c17 c18 c19 : Fin P) : List (Tmp × RG.SV) := [(4, (.p 3 0)), (1, (.p 0 0)), (6, (.p 5 0)), (8, (.p 7 0)), (7, (.p 6 0))]
def F80_9i (x y z c1 c2 c3 c4 c5 c6 c7 c8 c9 c10 c11 c12 c13 c14 c15 c16 c17 c18 c19 : Fin P) : List RG.It := [⟨some 83, [], (.v (fv c13)), .stay⟩,
  ⟨some 84, [], (.v (fv c18)), .stay⟩,
  ⟨some 85, [], (.v rv0), .call⟩,
  ⟨some 86, [], (.v (fv c7)), .stay⟩,
  ⟨some 87, [], (.p 0 8), .stay⟩,
  ⟨some 88, [(87, 4)], (.v (fv z)), .stay⟩,
  ⟨some 89, [(85, 2), (86, 3), (88, 5)], (.v (fv c19)), .call⟩,
  ⟨some 90, [(83, 0), (84, 1), (89, 6)], (.v (rv c13 c18 c19)), .stay⟩,
  ⟨none, [(90, 7)], (.v undef), .put 1⟩]
def F80_9b (x y z c1 c2 c3 c4 c5 c6 c7 c8 c9 c10 c11 c12 c13 c14 c15 c16 c17 c18 c19 : Fin P) : List RG.Bl := [⟨(ws x ++ (ws y ++ (ws z))), (ws x ++ (ws y ++ (ws z))), none, none⟩, ⟨[.int .u64 0, .int .u64 0, .int .u64 0, .int .u64 0, .int .u64 0, .int .u64 0, .int .u64 0, .int .u64 0, .int .u64 0, .int .u64 0, .int .u64 0, .int .u64 0], (ws c13 ++ (ws c18 ++ (ws c19))), none, some 8⟩, ⟨(ws c1), (ws c1), none, none⟩, ⟨(ws c3), (ws c3), none, none⟩, ⟨(ws c5), (ws c5), none, none⟩, ⟨(ws c6), (ws c6), none, none⟩, ⟨(ws c7), (ws c7), none, none⟩, ⟨(ws c12), (ws c12), none, none⟩, ⟨(ws c13), (ws c13), none, none⟩, ⟨(ws c18), (ws c18), none, none⟩]
def F80_9o (x y z c1 c2 c3 c4 c5 c6 c7 c8 c9 c10 c11 c12 c13 c14 c15 c16 c17 c18 c19 : Fin P) : List (Tmp × RG.SV) := [(9, (.p 8 0)), (10, (.p 9 0)), (7, (.p 6 0)), (1, (.p 0 0)), (2, (.p 1 0))]
set_option maxHeartbeats 2000000 in
set_option maxRecDepth 100000 in
theorem rdouble_c (C : Fl3 P) (x y z : Fin P) : Gives 80 #[(rv x y z)] (rv ((EC.fdE y z) * (EC.fdT x y z)) ((EC.fdD x) * (x * ((EC.fdE y z) * (EC.fdE y z)) - (EC.fdT x y z)) - y * ((EC.fdE y z) * (EC.fdE y z) * (EC.fdE y z))) ((EC.fdE y z) * (EC.fdE y z) * (EC.fdE y z) * z)) := by
  intro w
  obtain ⟨c1, hc1⟩ : ∃ c, c = x * x := ⟨_, rfl⟩
  obtain ⟨c2, hc2⟩ : ∃ c, c = c1 + c1 := ⟨_, rfl⟩
  obtain ⟨c3, hc3⟩ : ∃ c, c = c2 + c1 := ⟨_, rfl⟩
  obtain ⟨c4, hc4⟩ : ∃ c, c = y + y := ⟨_, rfl⟩
  obtain ⟨c5, hc5⟩ : ∃ c, c = c4 * z := ⟨_, rfl⟩
  obtain ⟨c6, hc6⟩ : ∃ c, c = c5 * c5 := ⟨_, rfl⟩
  obtain ⟨c7, hc7⟩ : ∃ c, c = c6 * c5 := ⟨_, rfl⟩
  obtain ⟨c8, hc8⟩ : ∃ c, c = c3 * c3 := ⟨_, rfl⟩
  obtain ⟨c9, hc9⟩ : ∃ c, c = c8 * z := ⟨_, rfl⟩
  obtain ⟨c10, hc10⟩ : ∃ c, c = x + x := ⟨_, rfl⟩
  obtain ⟨c11, hc11⟩ : ∃ c, c = c10 * c6 := ⟨_, rfl⟩
  obtain ⟨c12, hc12⟩ : ∃ c, c = c9 - c11 := ⟨_, rfl⟩
  obtain ⟨c13, hc13⟩ : ∃ c, c = c5 * c12 := ⟨_, rfl⟩
  obtain ⟨c14, hc14⟩ : ∃ c, c = x * c6 := ⟨_, rfl⟩
  obtain ⟨c15, hc15⟩ : ∃ c, c = c14 - c12 := ⟨_, rfl⟩
  obtain ⟨c16, hc16⟩ : ∃ c, c = c3 * c15 := ⟨_, rfl⟩
  obtain ⟨c17, hc17⟩ : ∃ c, c = y * c7 := ⟨_, rfl⟩
  obtain ⟨c18, hc18⟩ : ∃ c, c = c16 - c17 := ⟨_, rfl⟩
  obtain ⟨c19, hc19⟩ : ∃ c, c = c7 * z := ⟨_, rfl⟩
  have hfin : ((rv c13 c18 c19) : Value) = (rv ((EC.fdE y z) * (EC.fdT x y z)) ((EC.fdD x) * (x * ((EC.fdE y z) * (EC.fdE y z)) - (EC.fdT x y z)) - y * ((EC.fdE y z) * (EC.fdE y z) * (EC.fdE y z))) ((EC.fdE y z) * (EC.fdE y z) * (EC.fdE y z) * z)) := by
    subst_vars; rfl
  rw [← hfin]
  go_enter Try.func80, Try.ntmps80
  have hS0 := RG.St.begin w
  repeat refine wp_seq ?_
  refine RG.region_text (its := F80_0i x y z c1 c2 c3 c4 c5 c6 c7 c8 c9 c10 c11 c12 c13 c14 c15 c16 c17 c18 c19) (bl := F80_0b x y z c1 c2 c3 c4 c5 c6 c7 c8 c9 c10 c11 c12 c13 c14 c15 c16 c17 c18 c19) (olds := F80_0o x y z c1 c2 c3 c4 c5 c6 c7 c8 c9 c10 c11 c12 c13 c14 c15 c16 c17 c18 c19) hS0 (RG.Reg.mk' (by kernel_rfl) ⟨by kernel_rfl, trivial⟩ ⟨?_, ?_, trivial⟩) (by kernel_rfl) (by kernel_rfl) (by kernel_rfl) ?_
  · exact RG.cert_box 0 rfl rfl _ rfl 56 0 rfl (rv x y z) (fun μ a K => K.old 0 (.v (rv x y z)) (List.Mem.head _) (by kernel_rfl)) (fun w => by kernel_rfl)
  · exact RG.cert_alloc 1 rfl rfl _ rfl 56 rfl (fun w => by kernel_rfl)
  intro new1 w1 hl1 hS1
  obtain ⟨j1, i1, rfl⟩ := RG.len2 hl1
  repeat refine wp_seq ?_
  refine RG.region_draws (by kernel_rfl) (its := F80_1i x y z c1 c2 c3 c4 c5 c6 c7 c8 c9 c10 c11 c12 c13 c14 c15 c16 c17 c18 c19) (bl := F80_1b x y z c1 c2 c3 c4 c5 c6 c7 c8 c9 c10 c11 c12 c13 c14 c15 c16 c17 c18 c19) (olds := F80_1o x y z c1 c2 c3 c4 c5 c6 c7 c8 c9 c10 c11 c12 c13 c14 c15 c16 c17 c18 c19) hS1 (RG.Reg.mk' (by kernel_rfl) ⟨by kernel_rfl, trivial⟩ ⟨?_, ?_, ?_, ?_, ?_, ?_, ?_, ?_, trivial⟩) (by kernel_rfl) (by kernel_rfl) (by kernel_rfl) ?_
  · exact RG.cert_call0 rfl 69 rv0 rfl (fun a w => by kernel_rfl) (F3_c)
  · exact RG.cert_field rfl 56 1 0 rfl 0 0 0 rfl (fun μ a K => K.old 1 (.p 0 0) (List.Mem.head _) (by kernel_rfl)) (fun k w => by kernel_rfl)
  · exact RG.cert_load rfl 0 0 _ rfl rfl (by kernel_rfl) 33 12 rfl (ws x) rfl (fun μ a K => by have h := K.op 12 1 (List.Mem.head _) rfl; exact h) (by kernel_rfl) u33 i33
  · exact RG.cert_field rfl 56 1 0 rfl 0 0 0 rfl (fun μ a K => K.old 1 (.p 0 0) (List.Mem.head _) (by kernel_rfl)) (fun k w => by kernel_rfl)
  · exact RG.cert_load rfl 0 0 _ rfl rfl (by kernel_rfl) 33 14 rfl (ws x) rfl (fun μ a K => by have h := K.op 14 3 (List.Mem.head _) rfl; exact h) (by kernel_rfl) u33 i33
  · exact RG.cert_call3 rfl 20 11 13 15 rv0 (fv x) (fv x) (fv c1) rfl (fun a w => by kernel_rfl) (fun μ a K => by have h := K.op 11 0 (List.Mem.head _) rfl; exact h) (fun μ a K => by have h := K.op 13 2 (List.Mem.tail _ (List.Mem.head _)) rfl; exact h) (fun μ a K => by have h := K.op 15 4 (List.Mem.tail _ (List.Mem.tail _ (List.Mem.head _))) rfl; exact h) (hc1 ▸ rMul_c C x x)
  · exact RG.cert_alloc 2 rfl rfl _ rfl 33 rfl (fun w => by kernel_rfl)
  · exact RG.cert_put 2 rfl _ rfl 33 (.tmp 3) (.tmp 16) rfl rfl rfl (fun μ a K => by have h := K.op 3 6 (List.Mem.head _) rfl; exact h) (fun μ a K => by have h := K.op 16 5 (List.Mem.tail _ (List.Mem.head _)) rfl; exact h) i33 rfl
  intro new2 w2 hl2 hS2
  obtain ⟨j2, rfl⟩ := RG.len1 hl2
  repeat refine wp_seq ?_
  refine RG.region_draws (by kernel_rfl) (its := F80_2i x y z c1 c2 c3 c4 c5 c6 c7 c8 c9 c10 c11 c12 c13 c14 c15 c16 c17 c18 c19) (bl := F80_2b x y z c1 c2 c3 c4 c5 c6 c7 c8 c9 c10 c11 c12 c13 c14 c15 c16 c17 c18 c19) (olds := F80_2o x y z c1 c2 c3 c4 c5 c6 c7 c8 c9 c10 c11 c12 c13 c14 c15 c16 c17 c18 c19) hS2 (RG.Reg.mk' (by kernel_rfl) ⟨by kernel_rfl, trivial⟩ ⟨?_, ?_, ?_, ?_, ?_, ?_, ?_, ?_, ?_, trivial⟩) (by kernel_rfl) (by kernel_rfl) (by kernel_rfl) ?_
  · exact RG.cert_call0 rfl 69 rv0 rfl (fun a w => by kernel_rfl) (F3_c)
  · exact RG.cert_call0 rfl 69 rv0 rfl (fun a w => by kernel_rfl) (F3_c)
  · exact RG.cert_load rfl 2 0 _ rfl rfl (by kernel_rfl) 33 3 rfl (ws c1) rfl (fun μ a K => K.old 3 (.p 2 0) (List.Mem.head _) (by kernel_rfl)) (by kernel_rfl) u33 i33
  · exact RG.cert_load rfl 2 0 _ rfl rfl (by kernel_rfl) 33 3 rfl (ws c1) rfl (fun μ a K => K.old 3 (.p 2 0) (List.Mem.head _) (by kernel_rfl)) (by kernel_rfl) u33 i33
  · exact RG.cert_call3 rfl 18 18 19 20 rv0 (fv c1) (fv c1) (fv c2) rfl (fun a w => by kernel_rfl) (fun μ a K => by have h := K.op 18 1 (List.Mem.head _) rfl; exact h) (fun μ a K => by have h := K.op 19 2 (List.Mem.tail _ (List.Mem.head _)) rfl; exact h) (fun μ a K => by have h := K.op 20 3 (List.Mem.tail _ (List.Mem.tail _ (List.Mem.head _))) rfl; exact h) (hc2 ▸ rAdd_c C c1 c1)
  · exact RG.cert_load rfl 2 0 _ rfl rfl (by kernel_rfl) 33 3 rfl (ws c1) rfl (fun μ a K => K.old 3 (.p 2 0) (List.Mem.head _) (by kernel_rfl)) (by kernel_rfl) u33 i33
  · exact RG.cert_call3 rfl 18 17 21 22 rv0 (fv c2) (fv c1) (fv c3) rfl (fun a w => by kernel_rfl) (fun μ a K => by have h := K.op 17 0 (List.Mem.head _) rfl; exact h) (fun μ a K => by have h := K.op 21 4 (List.Mem.tail _ (List.Mem.head _)) rfl; exact h) (fun μ a K => by have h := K.op 22 5 (List.Mem.tail _ (List.Mem.tail _ (List.Mem.head _))) rfl; exact h) (hc3 ▸ rAdd_c C c2 c1)
  · exact RG.cert_alloc 3 rfl rfl _ rfl 33 rfl (fun w => by kernel_rfl)
  · exact RG.cert_put 3 rfl _ rfl 33 (.tmp 4) (.tmp 23) rfl rfl rfl (fun μ a K => by have h := K.op 4 7 (List.Mem.head _) rfl; exact h) (fun μ a K => by have h := K.op 23 6 (List.Mem.tail _ (List.Mem.head _)) rfl; exact h) i33 rfl
  intro new3 w3 hl3 hS3
  obtain ⟨j3, rfl⟩ := RG.len1 hl3
  repeat refine wp_seq ?_
  refine RG.region_draws (by kernel_rfl) (its := F80_3i x y z c1 c2 c3 c4 c5 c6 c7 c8 c9 c10 c11 c12 c13 c14 c15 c16 c17 c18 c19) (bl := F80_3b x y z c1 c2 c3 c4 c5 c6 c7 c8 c9 c10 c11 c12 c13 c14 c15 c16 c17 c18 c19) (olds := F80_3o x y z c1 c2 c3 c4 c5 c6 c7 c8 c9 c10 c11 c12 c13 c14 c15 c16 c17 c18 c19) hS3 (RG.Reg.mk' (by kernel_rfl) ⟨by kernel_rfl, trivial⟩ ⟨?_, ?_, ?_, ?_, ?_, ?_, ?_, ?_, ?_, ?_, ?_, ?_, trivial⟩) (by kernel_rfl) (by kernel_rfl) (by kernel_rfl) ?_
  · exact RG.cert_call0 rfl 69 rv0 rfl (fun a w => by kernel_rfl) (F3_c)
  · exact RG.cert_call0 rfl 69 rv0 rfl (fun a w => by kernel_rfl) (F3_c)
  · exact RG.cert_field rfl 56 1 1 rfl 0 0 4 rfl (fun μ a K => K.old 1 (.p 0 0) (List.Mem.head _) (by kernel_rfl)) (fun k w => by kernel_rfl)
  · exact RG.cert_load rfl 0 4 _ rfl rfl (by kernel_rfl) 33 26 rfl (ws y) rfl (fun μ a K => by have h := K.op 26 2 (List.Mem.head _) rfl; exact h) (by kernel_rfl) u33 i33
  · exact RG.cert_field rfl 56 1 1 rfl 0 0 4 rfl (fun μ a K => K.old 1 (.p 0 0) (List.Mem.head _) (by kernel_rfl)) (fun k w => by kernel_rfl)
  · exact RG.cert_load rfl 0 4 _ rfl rfl (by kernel_rfl) 33 28 rfl (ws y) rfl (fun μ a K => by have h := K.op 28 4 (List.Mem.head _) rfl; exact h) (by kernel_rfl) u33 i33
  · exact RG.cert_call3 rfl 18 25 27 29 rv0 (fv y) (fv y) (fv c4) rfl (fun a w => by kernel_rfl) (fun μ a K => by have h := K.op 25 1 (List.Mem.head _) rfl; exact h) (fun μ a K => by have h := K.op 27 3 (List.Mem.tail _ (List.Mem.head _)) rfl; exact h) (fun μ a K => by have h := K.op 29 5 (List.Mem.tail _ (List.Mem.tail _ (List.Mem.head _))) rfl; exact h) (hc4 ▸ rAdd_c C y y)
  · exact RG.cert_field rfl 56 1 2 rfl 0 0 8 rfl (fun μ a K => K.old 1 (.p 0 0) (List.Mem.head _) (by kernel_rfl)) (fun k w => by kernel_rfl)
  · exact RG.cert_load rfl 0 8 _ rfl rfl (by kernel_rfl) 33 31 rfl (ws z) rfl (fun μ a K => by have h := K.op 31 7 (List.Mem.head _) rfl; exact h) (by kernel_rfl) u33 i33
  · exact RG.cert_call3 rfl 20 24 30 32 rv0 (fv c4) (fv z) (fv c5) rfl (fun a w => by kernel_rfl) (fun μ a K => by have h := K.op 24 0 (List.Mem.head _) rfl; exact h) (fun μ a K => by have h := K.op 30 6 (List.Mem.tail _ (List.Mem.head _)) rfl; exact h) (fun μ a K => by have h := K.op 32 8 (List.Mem.tail _ (List.Mem.tail _ (List.Mem.head _))) rfl; exact h) (hc5 ▸ rMul_c C c4 z)
  · exact RG.cert_alloc 4 rfl rfl _ rfl 33 rfl (fun w => by kernel_rfl)
  · exact RG.cert_put 4 rfl _ rfl 33 (.tmp 5) (.tmp 33) rfl rfl rfl (fun μ a K => by have h := K.op 5 10 (List.Mem.head _) rfl; exact h) (fun μ a K => by have h := K.op 33 9 (List.Mem.tail _ (List.Mem.head _)) rfl; exact h) i33 rfl
  intro new4 w4 hl4 hS4
  obtain ⟨j4, rfl⟩ := RG.len1 hl4
  repeat refine wp_seq ?_
  refine RG.region_draws (by kernel_rfl) (its := F80_4i x y z c1 c2 c3 c4 c5 c6 c7 c8 c9 c10 c11 c12 c13 c14 c15 c16 c17 c18 c19) (bl := F80_4b x y z c1 c2 c3 c4 c5 c6 c7 c8 c9 c10 c11 c12 c13 c14 c15 c16 c17 c18 c19) (olds := F80_4o x y z c1 c2 c3 c4 c5 c6 c7 c8 c9 c10 c11 c12 c13 c14 c15 c16 c17 c18 c19) hS4 (RG.Reg.mk' (by kernel_rfl) ⟨by kernel_rfl, trivial⟩ ⟨?_, ?_, ?_, ?_, ?_, ?_, trivial⟩) (by kernel_rfl) (by kernel_rfl) (by kernel_rfl) ?_
  · exact RG.cert_call0 rfl 69 rv0 rfl (fun a w => by kernel_rfl) (F3_c)
  · exact RG.cert_load rfl 4 0 _ rfl rfl (by kernel_rfl) 33 5 rfl (ws c5) rfl (fun μ a K => K.old 5 (.p 4 0) (List.Mem.head _) (by kernel_rfl)) (by kernel_rfl) u33 i33
  · exact RG.cert_load rfl 4 0 _ rfl rfl (by kernel_rfl) 33 5 rfl (ws c5) rfl (fun μ a K => K.old 5 (.p 4 0) (List.Mem.head _) (by kernel_rfl)) (by kernel_rfl) u33 i33
  · exact RG.cert_call3 rfl 20 34 35 36 rv0 (fv c5) (fv c5) (fv c6) rfl (fun a w => by kernel_rfl) (fun μ a K => by have h := K.op 34 0 (List.Mem.head _) rfl; exact h) (fun μ a K => by have h := K.op 35 1 (List.Mem.tail _ (List.Mem.head _)) rfl; exact h) (fun μ a K => by have h := K.op 36 2 (List.Mem.tail _ (List.Mem.tail _ (List.Mem.head _))) rfl; exact h) (hc6 ▸ rMul_c C c5 c5)
  · exact RG.cert_alloc 5 rfl rfl _ rfl 33 rfl (fun w => by kernel_rfl)
  · exact RG.cert_put 5 rfl _ rfl 33 (.tmp 6) (.tmp 37) rfl rfl rfl (fun μ a K => by have h := K.op 6 4 (List.Mem.head _) rfl; exact h) (fun μ a K => by have h := K.op 37 3 (List.Mem.tail _ (List.Mem.head _)) rfl; exact h) i33 rfl
  intro new5 w5 hl5 hS5
  obtain ⟨j5, rfl⟩ := RG.len1 hl5
  repeat refine wp_seq ?_
  refine RG.region_draws (by kernel_rfl) (its := F80_5i x y z c1 c2 c3 c4 c5 c6 c7 c8 c9 c10 c11 c12 c13 c14 c15 c16 c17 c18 c19) (bl := F80_5b x y z c1 c2 c3 c4 c5 c6 c7 c8 c9 c10 c11 c12 c13 c14 c15 c16 c17 c18 c19) (olds := F80_5o x y z c1 c2 c3 c4 c5 c6 c7 c8 c9 c10 c11 c12 c13 c14 c15 c16 c17 c18 c19) hS5 (RG.Reg.mk' (by kernel_rfl) ⟨by kernel_rfl, by kernel_rfl, trivial⟩ ⟨?_, ?_, ?_, ?_, ?_, ?_, trivial⟩) (by kernel_rfl) (by kernel_rfl) (by kernel_rfl) ?_
  · exact RG.cert_call0 rfl 69 rv0 rfl (fun a w => by kernel_rfl) (F3_c)
  · exact RG.cert_load rfl 5 0 _ rfl rfl (by kernel_rfl) 33 6 rfl (ws c6) rfl (fun μ a K => K.old 6 (.p 5 0) (List.Mem.head _) (by kernel_rfl)) (by kernel_rfl) u33 i33
  · exact RG.cert_load rfl 4 0 _ rfl rfl (by kernel_rfl) 33 5 rfl (ws c5) rfl (fun μ a K => K.old 5 (.p 4 0) (List.Mem.tail _ (List.Mem.head _)) (by kernel_rfl)) (by kernel_rfl) u33 i33
  · exact RG.cert_call3 rfl 20 38 39 40 rv0 (fv c6) (fv c5) (fv c7) rfl (fun a w => by kernel_rfl) (fun μ a K => by have h := K.op 38 0 (List.Mem.head _) rfl; exact h) (fun μ a K => by have h := K.op 39 1 (List.Mem.tail _ (List.Mem.head _)) rfl; exact h) (fun μ a K => by have h := K.op 40 2 (List.Mem.tail _ (List.Mem.tail _ (List.Mem.head _))) rfl; exact h) (hc7 ▸ rMul_c C c6 c5)
  · exact RG.cert_alloc 6 rfl rfl _ rfl 33 rfl (fun w => by kernel_rfl)
  · exact RG.cert_put 6 rfl _ rfl 33 (.tmp 7) (.tmp 41) rfl rfl rfl (fun μ a K => by have h := K.op 7 4 (List.Mem.head _) rfl; exact h) (fun μ a K => by have h := K.op 41 3 (List.Mem.tail _ (List.Mem.head _)) rfl; exact h) i33 rfl
  intro new6 w6 hl6 hS6
  obtain ⟨j6, rfl⟩ := RG.len1 hl6
  repeat refine wp_seq ?_
  refine RG.region_draws (by kernel_rfl) (its := F80_6i x y z c1 c2 c3 c4 c5 c6 c7 c8 c9 c10 c11 c12 c13 c14 c15 c16 c17 c18 c19) (bl := F80_6b x y z c1 c2 c3 c4 c5 c6 c7 c8 c9 c10 c11 c12 c13 c14 c15 c16 c17 c18 c19) (olds := F80_6o x y z c1 c2 c3 c4 c5 c6 c7 c8 c9 c10 c11 c12 c13 c14 c15 c16 c17 c18 c19) hS6 (RG.Reg.mk' (by kernel_rfl) ⟨by kernel_rfl, by kernel_rfl, by kernel_rfl, trivial⟩ ⟨?_, ?_, ?_, ?_, ?_, ?_, ?_, ?_, ?_, ?_, ?_, ?_, ?_, ?_, ?_, ?_, ?_, ?_, ?_, ?_, ?_, trivial⟩) (by kernel_rfl) (by kernel_rfl) (by kernel_rfl) ?_
  · exact RG.cert_call0 rfl 69 rv0 rfl (fun a w => by kernel_rfl) (F3_c)
  · exact RG.cert_call0 rfl 69 rv0 rfl (fun a w => by kernel_rfl) (F3_c)
  · exact RG.cert_call0 rfl 69 rv0 rfl (fun a w => by kernel_rfl) (F3_c)
  · exact RG.cert_load rfl 3 0 _ rfl rfl (by kernel_rfl) 33 4 rfl (ws c3) rfl (fun μ a K => K.old 4 (.p 3 0) (List.Mem.head _) (by kernel_rfl)) (by kernel_rfl) u33 i33
  · exact RG.cert_load rfl 3 0 _ rfl rfl (by kernel_rfl) 33 4 rfl (ws c3) rfl (fun μ a K => K.old 4 (.p 3 0) (List.Mem.head _) (by kernel_rfl)) (by kernel_rfl) u33 i33
  · exact RG.cert_call3 rfl 20 44 45 46 rv0 (fv c3) (fv c3) (fv c8) rfl (fun a w => by kernel_rfl) (fun μ a K => by have h := K.op 44 2 (List.Mem.head _) rfl; exact h) (fun μ a K => by have h := K.op 45 3 (List.Mem.tail _ (List.Mem.head _)) rfl; exact h) (fun μ a K => by have h := K.op 46 4 (List.Mem.tail _ (List.Mem.tail _ (List.Mem.head _))) rfl; exact h) (hc8 ▸ rMul_c C c3 c3)
  · exact RG.cert_field rfl 56 1 2 rfl 0 0 8 rfl (fun μ a K => K.old 1 (.p 0 0) (List.Mem.tail _ (List.Mem.head _)) (by kernel_rfl)) (fun k w => by kernel_rfl)
  · exact RG.cert_load rfl 0 8 _ rfl rfl (by kernel_rfl) 33 48 rfl (ws z) rfl (fun μ a K => by have h := K.op 48 6 (List.Mem.head _) rfl; exact h) (by kernel_rfl) u33 i33
  · exact RG.cert_call3 rfl 20 43 47 49 rv0 (fv c8) (fv z) (fv c9) rfl (fun a w => by kernel_rfl) (fun μ a K => by have h := K.op 43 1 (List.Mem.head _) rfl; exact h) (fun μ a K => by have h := K.op 47 5 (List.Mem.tail _ (List.Mem.head _)) rfl; exact h) (fun μ a K => by have h := K.op 49 7 (List.Mem.tail _ (List.Mem.tail _ (List.Mem.head _))) rfl; exact h) (hc9 ▸ rMul_c C c8 z)
  · exact RG.cert_call0 rfl 69 rv0 rfl (fun a w => by kernel_rfl) (F3_c)
  · exact RG.cert_call0 rfl 69 rv0 rfl (fun a w => by kernel_rfl) (F3_c)
  · exact RG.cert_field rfl 56 1 0 rfl 0 0 0 rfl (fun μ a K => K.old 1 (.p 0 0) (List.Mem.tail _ (List.Mem.head _)) (by kernel_rfl)) (fun k w => by kernel_rfl)
  · exact RG.cert_load rfl 0 0 _ rfl rfl (by kernel_rfl) 33 53 rfl (ws x) rfl (fun μ a K => by have h := K.op 53 11 (List.Mem.head _) rfl; exact h) (by kernel_rfl) u33 i33
  · exact RG.cert_field rfl 56 1 0 rfl 0 0 0 rfl (fun μ a K => K.old 1 (.p 0 0) (List.Mem.tail _ (List.Mem.head _)) (by kernel_rfl)) (fun k w => by kernel_rfl)
  · exact RG.cert_load rfl 0 0 _ rfl rfl (by kernel_rfl) 33 55 rfl (ws x) rfl (fun μ a K => by have h := K.op 55 13 (List.Mem.head _) rfl; exact h) (by kernel_rfl) u33 i33
  · exact RG.cert_call3 rfl 18 52 54 56 rv0 (fv x) (fv x) (fv c10) rfl (fun a w => by kernel_rfl) (fun μ a K => by have h := K.op 52 10 (List.Mem.head _) rfl; exact h) (fun μ a K => by have h := K.op 54 12 (List.Mem.tail _ (List.Mem.head _)) rfl; exact h) (fun μ a K => by have h := K.op 56 14 (List.Mem.tail _ (List.Mem.tail _ (List.Mem.head _))) rfl; exact h) (hc10 ▸ rAdd_c C x x)
  · exact RG.cert_load rfl 5 0 _ rfl rfl (by kernel_rfl) 33 6 rfl (ws c6) rfl (fun μ a K => K.old 6 (.p 5 0) (List.Mem.tail _ (List.Mem.tail _ (List.Mem.head _))) (by kernel_rfl)) (by kernel_rfl) u33 i33
  · exact RG.cert_call3 rfl 20 51 57 58 rv0 (fv c10) (fv c6) (fv c11) rfl (fun a w => by kernel_rfl) (fun μ a K => by have h := K.op 51 9 (List.Mem.head _) rfl; exact h) (fun μ a K => by have h := K.op 57 15 (List.Mem.tail _ (List.Mem.head _)) rfl; exact h) (fun μ a K => by have h := K.op 58 16 (List.Mem.tail _ (List.Mem.tail _ (List.Mem.head _))) rfl; exact h) (hc11 ▸ rMul_c C c10 c6)
  · exact RG.cert_call3 rfl 19 42 50 59 rv0 (fv c9) (fv c11) (fv c12) rfl (fun a w => by kernel_rfl) (fun μ a K => by have h := K.op 42 0 (List.Mem.head _) rfl; exact h) (fun μ a K => by have h := K.op 50 8 (List.Mem.tail _ (List.Mem.head _)) rfl; exact h) (fun μ a K => by have h := K.op 59 17 (List.Mem.tail _ (List.Mem.tail _ (List.Mem.head _))) rfl; exact h) (hc12 ▸ rSub_c C c9 c11)
  · exact RG.cert_alloc 7 rfl rfl _ rfl 33 rfl (fun w => by kernel_rfl)
  · exact RG.cert_put 7 rfl _ rfl 33 (.tmp 8) (.tmp 60) rfl rfl rfl (fun μ a K => by have h := K.op 8 19 (List.Mem.head _) rfl; exact h) (fun μ a K => by have h := K.op 60 18 (List.Mem.tail _ (List.Mem.head _)) rfl; exact h) i33 rfl
  intro new7 w7 hl7 hS7
  obtain ⟨j7, rfl⟩ := RG.len1 hl7
  repeat refine wp_seq ?_
  refine RG.region_draws (by kernel_rfl) (its := F80_7i x y z c1 c2 c3 c4 c5 c6 c7 c8 c9 c10 c11 c12 c13 c14 c15 c16 c17 c18 c19) (bl := F80_7b x y z c1 c2 c3 c4 c5 c6 c7 c8 c9 c10 c11 c12 c13 c14 c15 c16 c17 c18 c19) (olds := F80_7o x y z c1 c2 c3 c4 c5 c6 c7 c8 c9 c10 c11 c12 c13 c14 c15 c16 c17 c18 c19) hS7 (RG.Reg.mk' (by kernel_rfl) ⟨by kernel_rfl, by kernel_rfl, trivial⟩ ⟨?_, ?_, ?_, ?_, ?_, ?_, trivial⟩) (by kernel_rfl) (by kernel_rfl) (by kernel_rfl) ?_
  · exact RG.cert_call0 rfl 69 rv0 rfl (fun a w => by kernel_rfl) (F3_c)
  · exact RG.cert_load rfl 4 0 _ rfl rfl (by kernel_rfl) 33 5 rfl (ws c5) rfl (fun μ a K => K.old 5 (.p 4 0) (List.Mem.head _) (by kernel_rfl)) (by kernel_rfl) u33 i33
  · exact RG.cert_load rfl 7 0 _ rfl rfl (by kernel_rfl) 33 8 rfl (ws c12) rfl (fun μ a K => K.old 8 (.p 7 0) (List.Mem.tail _ (List.Mem.head _)) (by kernel_rfl)) (by kernel_rfl) u33 i33
  · exact RG.cert_call3 rfl 20 61 62 63 rv0 (fv c5) (fv c12) (fv c13) rfl (fun a w => by kernel_rfl) (fun μ a K => by have h := K.op 61 0 (List.Mem.head _) rfl; exact h) (fun μ a K => by have h := K.op 62 1 (List.Mem.tail _ (List.Mem.head _)) rfl; exact h) (fun μ a K => by have h := K.op 63 2 (List.Mem.tail _ (List.Mem.tail _ (List.Mem.head _))) rfl; exact h) (hc13 ▸ rMul_c C c5 c12)
  · exact RG.cert_alloc 8 rfl rfl _ rfl 33 rfl (fun w => by kernel_rfl)
  · exact RG.cert_put 8 rfl _ rfl 33 (.tmp 9) (.tmp 64) rfl rfl rfl (fun μ a K => by have h := K.op 9 4 (List.Mem.head _) rfl; exact h) (fun μ a K => by have h := K.op 64 3 (List.Mem.tail _ (List.Mem.head _)) rfl; exact h) i33 rfl
  intro new8 w8 hl8 hS8
  obtain ⟨j8, rfl⟩ := RG.len1 hl8
  repeat refine wp_seq ?_
  refine RG.region_draws (by kernel_rfl) (its := F80_8i x y z c1 c2 c3 c4 c5 c6 c7 c8 c9 c10 c11 c12 c13 c14 c15 c16 c17 c18 c19) (bl := F80_8b x y z c1 c2 c3 c4 c5 c6 c7 c8 c9 c10 c11 c12 c13 c14 c15 c16 c17 c18 c19) (olds := F80_8o x y z c1 c2 c3 c4 c5 c6 c7 c8 c9 c10 c11 c12 c13 c14 c15 c16 c17 c18 c19) hS8 (RG.Reg.mk' (by kernel_rfl) ⟨by kernel_rfl, by kernel_rfl, by kernel_rfl, by kernel_rfl, by kernel_rfl, trivial⟩ ⟨?_, ?_, ?_, ?_, ?_, ?_, ?_, ?_, ?_, ?_, ?_, ?_, ?_, ?_, ?_, ?_, ?_, ?_, ?_, ?_, trivial⟩) (by kernel_rfl) (by kernel_rfl) (by kernel_rfl) ?_
  · exact RG.cert_call0 rfl 69 rv0 rfl (fun a w => by kernel_rfl) (F3_c)
  · exact RG.cert_call0 rfl 69 rv0 rfl (fun a w => by kernel_rfl) (F3_c)
  · exact RG.cert_load rfl 3 0 _ rfl rfl (by kernel_rfl) 33 4 rfl (ws c3) rfl (fun μ a K => K.old 4 (.p 3 0) (List.Mem.head _) (by kernel_rfl)) (by kernel_rfl) u33 i33
  · exact RG.cert_call0 rfl 69 rv0 rfl (fun a w => by kernel_rfl) (F3_c)
  · exact RG.cert_call0 rfl 69 rv0 rfl (fun a w => by kernel_rfl) (F3_c)
  · exact RG.cert_field rfl 56 1 0 rfl 0 0 0 rfl (fun μ a K => K.old 1 (.p 0 0) (List.Mem.tail _ (List.Mem.head _)) (by kernel_rfl)) (fun k w => by kernel_rfl)
  · exact RG.cert_load rfl 0 0 _ rfl rfl (by kernel_rfl) 33 70 rfl (ws x) rfl (fun μ a K => by have h := K.op 70 5 (List.Mem.head _) rfl; exact h) (by kernel_rfl) u33 i33
  · exact RG.cert_load rfl 5 0 _ rfl rfl (by kernel_rfl) 33 6 rfl (ws c6) rfl (fun μ a K => K.old 6 (.p 5 0) (List.Mem.tail _ (List.Mem.tail _ (List.Mem.head _))) (by kernel_rfl)) (by kernel_rfl) u33 i33
  · exact RG.cert_call3 rfl 20 69 71 72 rv0 (fv x) (fv c6) (fv c14) rfl (fun a w => by kernel_rfl) (fun μ a K => by have h := K.op 69 4 (List.Mem.head _) rfl; exact h) (fun μ a K => by have h := K.op 71 6 (List.Mem.tail _ (List.Mem.head _)) rfl; exact h) (fun μ a K => by have h := K.op 72 7 (List.Mem.tail _ (List.Mem.tail _ (List.Mem.head _))) rfl; exact h) (hc14 ▸ rMul_c C x c6)
  · exact RG.cert_load rfl 7 0 _ rfl rfl (by kernel_rfl) 33 8 rfl (ws c12) rfl (fun μ a K => K.old 8 (.p 7 0) (List.Mem.tail _ (List.Mem.tail _ (List.Mem.tail _ (List.Mem.head _)))) (by kernel_rfl)) (by kernel_rfl) u33 i33
  · exact RG.cert_call3 rfl 19 68 73 74 rv0 (fv c14) (fv c12) (fv c15) rfl (fun a w => by kernel_rfl) (fun μ a K => by have h := K.op 68 3 (List.Mem.head _) rfl; exact h) (fun μ a K => by have h := K.op 73 8 (List.Mem.tail _ (List.Mem.head _)) rfl; exact h) (fun μ a K => by have h := K.op 74 9 (List.Mem.tail _ (List.Mem.tail _ (List.Mem.head _))) rfl; exact h) (hc15 ▸ rSub_c C c14 c12)
  · exact RG.cert_call3 rfl 20 66 67 75 rv0 (fv c3) (fv c15) (fv c16) rfl (fun a w => by kernel_rfl) (fun μ a K => by have h := K.op 66 1 (List.Mem.head _) rfl; exact h) (fun μ a K => by have h := K.op 67 2 (List.Mem.tail _ (List.Mem.head _)) rfl; exact h) (fun μ a K => by have h := K.op 75 10 (List.Mem.tail _ (List.Mem.tail _ (List.Mem.head _))) rfl; exact h) (hc16 ▸ rMul_c C c3 c15)
  · exact RG.cert_call0 rfl 69 rv0 rfl (fun a w => by kernel_rfl) (F3_c)
  · exact RG.cert_field rfl 56 1 1 rfl 0 0 4 rfl (fun μ a K => K.old 1 (.p 0 0) (List.Mem.tail _ (List.Mem.head _)) (by kernel_rfl)) (fun k w => by kernel_rfl)
  · exact RG.cert_load rfl 0 4 _ rfl rfl (by kernel_rfl) 33 78 rfl (ws y) rfl (fun μ a K => by have h := K.op 78 13 (List.Mem.head _) rfl; exact h) (by kernel_rfl) u33 i33
  · exact RG.cert_load rfl 6 0 _ rfl rfl (by kernel_rfl) 33 7 rfl (ws c7) rfl (fun μ a K => K.old 7 (.p 6 0) (List.Mem.tail _ (List.Mem.tail _ (List.Mem.tail _ (List.Mem.tail _ (List.Mem.head _))))) (by kernel_rfl)) (by kernel_rfl) u33 i33
  · exact RG.cert_call3 rfl 20 77 79 80 rv0 (fv y) (fv c7) (fv c17) rfl (fun a w => by kernel_rfl) (fun μ a K => by have h := K.op 77 12 (List.Mem.head _) rfl; exact h) (fun μ a K => by have h := K.op 79 14 (List.Mem.tail _ (List.Mem.head _)) rfl; exact h) (fun μ a K => by have h := K.op 80 15 (List.Mem.tail _ (List.Mem.tail _ (List.Mem.head _))) rfl; exact h) (hc17 ▸ rMul_c C y c7)
  · exact RG.cert_call3 rfl 19 65 76 81 rv0 (fv c16) (fv c17) (fv c18) rfl (fun a w => by kernel_rfl) (fun μ a K => by have h := K.op 65 0 (List.Mem.head _) rfl; exact h) (fun μ a K => by have h := K.op 76 11 (List.Mem.tail _ (List.Mem.head _)) rfl; exact h) (fun μ a K => by have h := K.op 81 16 (List.Mem.tail _ (List.Mem.tail _ (List.Mem.head _))) rfl; exact h) (hc18 ▸ rSub_c C c16 c17)
  · exact RG.cert_alloc 9 rfl rfl _ rfl 33 rfl (fun w => by kernel_rfl)
  · exact RG.cert_put 9 rfl _ rfl 33 (.tmp 10) (.tmp 82) rfl rfl rfl (fun μ a K => by have h := K.op 10 18 (List.Mem.head _) rfl; exact h) (fun μ a K => by have h := K.op 82 17 (List.Mem.tail _ (List.Mem.head _)) rfl; exact h) i33 rfl
  intro new9 w9 hl9 hS9
  obtain ⟨j9, rfl⟩ := RG.len1 hl9
  repeat refine wp_seq ?_
  refine RG.region_draws (by kernel_rfl) (its := F80_9i x y z c1 c2 c3 c4 c5 c6 c7 c8 c9 c10 c11 c12 c13 c14 c15 c16 c17 c18 c19) (bl := F80_9b x y z c1 c2 c3 c4 c5 c6 c7 c8 c9 c10 c11 c12 c13 c14 c15 c16 c17 c18 c19) (olds := F80_9o x y z c1 c2 c3 c4 c5 c6 c7 c8 c9 c10 c11 c12 c13 c14 c15 c16 c17 c18 c19) hS9 (RG.Reg.mk' (by kernel_rfl) ⟨by kernel_rfl, by kernel_rfl, by kernel_rfl, by kernel_rfl, by kernel_rfl, trivial⟩ ⟨?_, ?_, ?_, ?_, ?_, ?_, ?_, ?_, ?_, trivial⟩) (by kernel_rfl) (by kernel_rfl) (by kernel_rfl) ?_
  · exact RG.cert_load rfl 8 0 _ rfl rfl (by kernel_rfl) 33 9 rfl (ws c13) rfl (fun μ a K => K.old 9 (.p 8 0) (List.Mem.head _) (by kernel_rfl)) (by kernel_rfl) u33 i33
  · exact RG.cert_load rfl 9 0 _ rfl rfl (by kernel_rfl) 33 10 rfl (ws c18) rfl (fun μ a K => K.old 10 (.p 9 0) (List.Mem.tail _ (List.Mem.head _)) (by kernel_rfl)) (by kernel_rfl) u33 i33
  · exact RG.cert_call0 rfl 69 rv0 rfl (fun a w => by kernel_rfl) (F3_c)
  · exact RG.cert_load rfl 6 0 _ rfl rfl (by kernel_rfl) 33 7 rfl (ws c7) rfl (fun μ a K => K.old 7 (.p 6 0) (List.Mem.tail _ (List.Mem.tail _ (List.Mem.head _))) (by kernel_rfl)) (by kernel_rfl) u33 i33
  · exact RG.cert_field rfl 56 1 2 rfl 0 0 8 rfl (fun μ a K => K.old 1 (.p 0 0) (List.Mem.tail _ (List.Mem.tail _ (List.Mem.tail _ (List.Mem.head _)))) (by kernel_rfl)) (fun k w => by kernel_rfl)
  · exact RG.cert_load rfl 0 8 _ rfl rfl (by kernel_rfl) 33 87 rfl (ws z) rfl (fun μ a K => by have h := K.op 87 4 (List.Mem.head _) rfl; exact h) (by kernel_rfl) u33 i33
  · exact RG.cert_call3 rfl 20 85 86 88 rv0 (fv c7) (fv z) (fv c19) rfl (fun a w => by kernel_rfl) (fun μ a K => by have h := K.op 85 2 (List.Mem.head _) rfl; exact h) (fun μ a K => by have h := K.op 86 3 (List.Mem.tail _ (List.Mem.head _)) rfl; exact h) (fun μ a K => by have h := K.op 88 5 (List.Mem.tail _ (List.Mem.tail _ (List.Mem.head _))) rfl; exact h) (hc19 ▸ rMul_c C c7 z)
  · exact RG.cert_build3 rfl 56 83 84 89 rfl (fv c13) (fv c18) (fv c19) (rv c13 c18 c19) rfl (fun μ a K => by have h := K.op 83 0 (List.Mem.head _) rfl; exact h) (fun μ a K => by have h := K.op 84 1 (List.Mem.tail _ (List.Mem.head _)) rfl; exact h) (fun μ a K => by have h := K.op 89 6 (List.Mem.tail _ (List.Mem.tail _ (List.Mem.head _))) rfl; exact h) (fun w => by kernel_rfl)
  · exact RG.cert_put 1 rfl _ rfl 56 (.tmp 2) (.tmp 90) rfl rfl rfl (fun μ a K => K.old 2 (.p 1 0) (List.Mem.tail _ (List.Mem.tail _ (List.Mem.tail _ (List.Mem.tail _ (List.Mem.head _))))) (by kernel_rfl)) (fun μ a K => by have h := K.op 90 7 (List.Mem.head _) rfl; exact h) i56 rfl
  intro new10 w10 hl10 hS10
  obtain rfl := RG.len0 hl10
  refine wp_ret ?_
  refine bodyPost_ret (v := (rv c13 c18 c19)) (RG.results_row hS10 2 56 rfl 1 _ rfl (by kernel_rfl) u56 i56) (by kernel_rfl) ?_
  exact ⟨_, rfl, hS10.bel.below, rfl⟩

def F37_0i (x y z c1 : Fin P) : List RG.It := [⟨some 1, [], (.p 0 0), .make 0⟩,
  ⟨some 2, [], (.p 1 0), .make 1⟩]
def F37_0b (x y z c1 : Fin P) : List RG.Bl := [⟨(ws x ++ (ws y ++ (ws z))), (ws x ++ (ws y ++ (ws z))), some 0, none⟩, ⟨[.int .u64 0, .int .u64 0, .int .u64 0, .int .u64 0, .int .u64 0, .int .u64 0, .int .u64 0, .int .u64 0, .int .u64 0, .int .u64 0, .int .u64 0, .int .u64 0], [.int .u64 0, .int .u64 0, .int .u64 0, .int .u64 0, .int .u64 0, .int .u64 0, .int .u64 0, .int .u64 0, .int .u64 0, .int .u64 0, .int .u64 0, .int .u64 0], some 1, none⟩]
def F37_0o (x y z c1 : Fin P) : List (Tmp × RG.SV) := [(0, (.v (rv x y z)))]
def F37_1i (x y z c1 : Fin P) : List RG.It := [⟨some 3, [], (.p 0 0), .stay⟩,
  ⟨some 4, [(3, 0)], (.v (fv x)), .stay⟩,
  ⟨some 5, [], (.v rv0), .call⟩,
  ⟨some 6, [], (.p 0 4), .stay⟩,
  ⟨some 7, [(6, 3)], (.v (fv y)), .stay⟩,
  ⟨some 8, [(5, 2), (7, 4)], (.v (fv c1)), .call⟩,
  ⟨some 9, [], (.p 0 8), .stay⟩,
  ⟨some 10, [(9, 6)], (.v (fv z)), .stay⟩,
  ⟨some 11, [(4, 1), (8, 5), (10, 7)], (.v (rv x c1 z)), .stay⟩,
  ⟨none, [(11, 8)], (.v undef), .put 1⟩]
def F37_1b (x y z c1 : Fin P) : List RG.Bl := [⟨(ws x ++ (ws y ++ (ws z))), (ws x ++ (ws y ++ (ws z))), none, none⟩, ⟨[.int .u64 0, .int .u64 0, .int .u64 0, .int .u64 0, .int .u64 0, .int .u64 0, .int .u64 0, .int .u64 0, .int .u64 0, .int .u64 0, .int .u64 0, .int .u64 0], (ws x ++ (ws c1 ++ (ws z))), none, some 9⟩]
def F37_1o (x y z c1 : Fin P) : List (Tmp × RG.SV) := [(1, (.p 0 0)), (2, (.p 1 0))]
set_option maxHeartbeats 2000000 in
set_option maxRecDepth 100000 in
theorem rNeg3_c (C : Fl3 P) (x y z : Fin P) : Gives 37 #[(rv x y z)] (rv x (0 - y) z) := by
  intro w
  obtain ⟨c1, hc1⟩ : ∃ c, c = 0 - y := ⟨_, rfl⟩
  have hfin : ((rv x c1 z) : Value) = (rv x (0 - y) z) := by
    subst_vars; rfl
  rw [← hfin]
  go_enter Try.func37, Try.ntmps37
  have hS0 := RG.St.begin w
  repeat refine wp_seq ?_
  refine RG.region_text (its := F37_0i x y z c1) (bl := F37_0b x y z c1) (olds := F37_0o x y z c1) hS0 (RG.Reg.mk' (by kernel_rfl) ⟨by kernel_rfl, trivial⟩ ⟨?_, ?_, trivial⟩) (by kernel_rfl) (by kernel_rfl) (by kernel_rfl) ?_
  · exact RG.cert_box 0 rfl rfl _ rfl 56 0 rfl (rv x y z) (fun μ a K => K.old 0 (.v (rv x y z)) (List.Mem.head _) (by kernel_rfl)) (fun w => by kernel_rfl)
  · exact RG.cert_alloc 1 rfl rfl _ rfl 56 rfl (fun w => by kernel_rfl)
  intro new1 w1 hl1 hS1
  obtain ⟨j1, i1, rfl⟩ := RG.len2 hl1
  repeat refine wp_seq ?_
  refine RG.region_draws (by kernel_rfl) (its := F37_1i x y z c1) (bl := F37_1b x y z c1) (olds := F37_1o x y z c1) hS1 (RG.Reg.mk' (by kernel_rfl) ⟨by kernel_rfl, by kernel_rfl, trivial⟩ ⟨?_, ?_, ?_, ?_, ?_, ?_, ?_, ?_, ?_, ?_, trivial⟩) (by kernel_rfl) (by kernel_rfl) (by kernel_rfl) ?_
  · exact RG.cert_field rfl 56 1 0 rfl 0 0 0 rfl (fun μ a K => K.old 1 (.p 0 0) (List.Mem.head _) (by kernel_rfl)) (fun k w => by kernel_rfl)
  · exact RG.cert_load rfl 0 0 _ rfl rfl (by kernel_rfl) 33 3 rfl (ws x) rfl (fun μ a K => by have h := K.op 3 0 (List.Mem.head _) rfl; exact h) (by kernel_rfl) u33 i33
  · exact RG.cert_call0 rfl 69 rv0 rfl (fun a w => by kernel_rfl) (F3_c)
  · exact RG.cert_field rfl 56 1 1 rfl 0 0 4 rfl (fun μ a K => K.old 1 (.p 0 0) (List.Mem.head _) (by kernel_rfl)) (fun k w => by kernel_rfl)
  · exact RG.cert_load rfl 0 4 _ rfl rfl (by kernel_rfl) 33 6 rfl (ws y) rfl (fun μ a K => by have h := K.op 6 3 (List.Mem.head _) rfl; exact h) (by kernel_rfl) u33 i33
  · exact RG.cert_call2 rfl 57 5 7 rv0 (fv y) (fv c1) rfl (fun a w => by kernel_rfl) (fun μ a K => by have h := K.op 5 2 (List.Mem.head _) rfl; exact h) (fun μ a K => by have h := K.op 7 4 (List.Mem.tail _ (List.Mem.head _)) rfl; exact h) (hc1 ▸ rNeg_c C y)
  · exact RG.cert_field rfl 56 1 2 rfl 0 0 8 rfl (fun μ a K => K.old 1 (.p 0 0) (List.Mem.head _) (by kernel_rfl)) (fun k w => by kernel_rfl)
  · exact RG.cert_load rfl 0 8 _ rfl rfl (by kernel_rfl) 33 9 rfl (ws z) rfl (fun μ a K => by have h := K.op 9 6 (List.Mem.head _) rfl; exact h) (by kernel_rfl) u33 i33
  · exact RG.cert_build3 rfl 56 4 8 10 rfl (fv x) (fv c1) (fv z) (rv x c1 z) rfl (fun μ a K => by have h := K.op 4 1 (List.Mem.head _) rfl; exact h) (fun μ a K => by have h := K.op 8 5 (List.Mem.tail _ (List.Mem.head _)) rfl; exact h) (fun μ a K => by have h := K.op 10 7 (List.Mem.tail _ (List.Mem.tail _ (List.Mem.head _))) rfl; exact h) (fun w => by kernel_rfl)
  · exact RG.cert_put 1 rfl _ rfl 56 (.tmp 2) (.tmp 11) rfl rfl rfl (fun μ a K => K.old 2 (.p 1 0) (List.Mem.tail _ (List.Mem.head _)) (by kernel_rfl)) (fun μ a K => by have h := K.op 11 8 (List.Mem.head _) rfl; exact h) i56 rfl
  intro new2 w2 hl2 hS2
  obtain rfl := RG.len0 hl2
  refine wp_ret ?_
  refine bodyPost_ret (v := (rv x c1 z)) (RG.results_row hS2 2 56 rfl 1 _ rfl (by kernel_rfl) u56 i56) (by kernel_rfl) ?_
  exact ⟨_, rfl, hS2.bel.below, rfl⟩

def F39a_0i (x1 y1 z1 x2 y2 z2 : Fin P) : List RG.It := [⟨some 2, [], (.p 0 0), .make 0⟩,
  ⟨some 3, [], (.p 1 0), .make 1⟩,
  ⟨some 4, [], (.p 2 0), .make 2⟩]
def F39a_0b (x1 y1 z1 x2 y2 z2 : Fin P) : List RG.Bl := [⟨(ws x1 ++ (ws y1 ++ (ws z1))), (ws x1 ++ (ws y1 ++ (ws z1))), some 0, none⟩, ⟨(ws x2 ++ (ws y2 ++ (ws z2))), (ws x2 ++ (ws y2 ++ (ws z2))), some 1, none⟩, ⟨[.int .u64 0, .int .u64 0, .int .u64 0, .int .u64 0, .int .u64 0, .int .u64 0, .int .u64 0, .int .u64 0, .int .u64 0, .int .u64 0, .int .u64 0, .int .u64 0], [.int .u64 0, .int .u64 0, .int .u64 0, .int .u64 0, .int .u64 0, .int .u64 0, .int .u64 0, .int .u64 0, .int .u64 0, .int .u64 0, .int .u64 0, .int .u64 0], some 2, none⟩]
def F39a_0o (x1 y1 z1 x2 y2 z2 : Fin P) : List (Tmp × RG.SV) := [(0, (.v (rv x1 y1 z1))), (1, (.v (rv x2 y2 z2)))]
def F39a_1i (x1 y1 z1 x2 y2 z2 : Fin P) : List RG.It := [⟨some 16, [], (.v (rv x1 y1 z1)), .stay⟩,
  ⟨some 17, [(16, 0)], (.v (.bool true)), .call⟩,
  ⟨some 5, [(17, 1)], (.v (.bool true)), .stay⟩]
def F39a_1b (x1 y1 z1 x2 y2 z2 : Fin P) : List RG.Bl := [⟨(ws x1 ++ (ws y1 ++ (ws z1))), (ws x1 ++ (ws y1 ++ (ws z1))), none, none⟩, ⟨(ws x2 ++ (ws y2 ++ (ws z2))), (ws x2 ++ (ws y2 ++ (ws z2))), none, none⟩, ⟨[.int .u64 0, .int .u64 0, .int .u64 0, .int .u64 0, .int .u64 0, .int .u64 0, .int .u64 0, .int .u64 0, .int .u64 0, .int .u64 0, .int .u64 0, .int .u64 0], [.int .u64 0, .int .u64 0, .int .u64 0, .int .u64 0, .int .u64 0, .int .u64 0, .int .u64 0, .int .u64 0, .int .u64 0, .int .u64 0, .int .u64 0, .int .u64 0], none, none⟩]
def F39a_1o (x1 y1 z1 x2 y2 z2 : Fin P) : List (Tmp × RG.SV) := [(2, (.p 0 0))]
def F39a_2i (x1 y1 z1 x2 y2 z2 : Fin P) : List RG.It := [⟨some 18, [], (.v (.bool true)), .stay⟩]
def F39a_2b (x1 y1 z1 x2 y2 z2 : Fin P) : List RG.Bl := [⟨(ws x1 ++ (ws y1 ++ (ws z1))), (ws x1 ++ (ws y1 ++ (ws z1))), none, none⟩, ⟨(ws x2 ++ (ws y2 ++ (ws z2))), (ws x2 ++ (ws y2 ++ (ws z2))), none, none⟩, ⟨[.int .u64 0, .int .u64 0, .int .u64 0, .int .u64 0, .int .u64 0, .int .u64 0, .int .u64 0, .int .u64 0, .int .u64 0, .int .u64 0, .int .u64 0, .int .u64 0], [.int .u64 0, .int .u64 0, .int .u64 0, .int .u64 0, .int .u64 0, .int .u64 0, .int .u64 0, .int .u64 0, .int .u64 0, .int .u64 0, .int .u64 0, .int .u64 0], none, none⟩]
def F39a_2o (x1 y1 z1 x2 y2 z2 : Fin P) : List (Tmp × RG.SV) := [(5, (.v (.bool true)))]
def F39a_3i (x1 y1 z1 x2 y2 z2 : Fin P) : List RG.It := [⟨some 19, [], (.v (rv x2 y2 z2)), .stay⟩,
  ⟨none, [(19, 0)], (.v undef), .put 2⟩]
def F39a_3b (x1 y1 z1 x2 y2 z2 : Fin P) : List RG.Bl := [⟨(ws x1 ++ (ws y1 ++ (ws z1))), (ws x1 ++ (ws y1 ++ (ws z1))), none, none⟩, ⟨(ws x2 ++ (ws y2 ++ (ws z2))), (ws x2 ++ (ws y2 ++ (ws z2))), none, none⟩, ⟨[.int .u64 0, .int .u64 0, .int .u64 0, .int .u64 0, .int .u64 0, .int .u64 0, .int .u64 0, .int .u64 0, .int .u64 0, .int .u64 0, .int .u64 0, .int .u64 0], (ws x2 ++ (ws y2 ++ (ws z2))), none, some 1⟩]
def F39a_3o (x1 y1 z1 x2 y2 z2 : Fin P) : List (Tmp × RG.SV) := [(3, (.p 1 0)), (4, (.p 2 0))]
set_option maxHeartbeats 2000000 in
set_option maxRecDepth 100000 in
theorem rPlus_a_c (C : Fl3 P) (x1 y1 z1 x2 y2 z2 : Fin P)(hz1 : z1 = 0)  : Gives 39 #[(rv x1 y1 z1), (rv x2 y2 z2)] (rv x2 y2 z2) := by
  intro w
  have hfin : ((rv x2 y2 z2) : Value) = (rv x2 y2 z2) := by
    subst_vars; rfl
  rw [← hfin]
  go_enter Try.func39, Try.ntmps39
  have hS0 := RG.St.begin w
  repeat refine wp_seq ?_
  refine RG.region_text (its := F39a_0i x1 y1 z1 x2 y2 z2) (bl := F39a_0b x1 y1 z1 x2 y2 z2) (olds := F39a_0o x1 y1 z1 x2 y2 z2) hS0 (RG.Reg.mk' (by kernel_rfl) ⟨by kernel_rfl, by kernel_rfl, trivial⟩ ⟨?_, ?_, ?_, trivial⟩) (by kernel_rfl) (by kernel_rfl) (by kernel_rfl) ?_
  · exact RG.cert_box 0 rfl rfl _ rfl 56 0 rfl (rv x1 y1 z1) (fun μ a K => K.old 0 (.v (rv x1 y1 z1)) (List.Mem.head _) (by kernel_rfl)) (fun w => by kernel_rfl)
  · exact RG.cert_box 1 rfl rfl _ rfl 56 1 rfl (rv x2 y2 z2) (fun μ a K => K.old 1 (.v (rv x2 y2 z2)) (List.Mem.tail _ (List.Mem.head _)) (by kernel_rfl)) (fun w => by kernel_rfl)
  · exact RG.cert_alloc 2 rfl rfl _ rfl 56 rfl (fun w => by kernel_rfl)
  intro new1 w1 hl1 hS1
  obtain ⟨j1, i1, m1, rfl⟩ := RG.len3 hl1
  repeat refine wp_seq ?_
  refine RG.region_text (its := F39a_1i x1 y1 z1 x2 y2 z2) (bl := F39a_1b x1 y1 z1 x2 y2 z2) (olds := F39a_1o x1 y1 z1 x2 y2 z2) hS1 (RG.Reg.mk' (by kernel_rfl) ⟨by kernel_rfl, trivial⟩ ⟨?_, ?_, ?_, trivial⟩) (by kernel_rfl) (by kernel_rfl) (by kernel_rfl) ?_
  · exact RG.cert_load rfl 0 0 _ rfl rfl (by kernel_rfl) 56 2 rfl (ws x1 ++ (ws y1 ++ (ws z1))) rfl (fun μ a K => K.old 2 (.p 0 0) (List.Mem.head _) (by kernel_rfl)) (by kernel_rfl) u56 i56
  · exact RG.cert_call1 rfl 78 16 (rv x1 y1 z1) (.bool true) rfl (fun a w => by kernel_rfl) (fun μ a K => by have h := K.op 16 0 (List.Mem.head _) rfl; exact h) (Is_t_c C x1 y1 z1 hz1)
  · exact RG.cert_move rfl 17 (Or.inr rfl) (fun μ a K => by have h := K.op 17 1 (List.Mem.head _) rfl; exact h)
  intro new2 w2 hl2 hS2
  obtain rfl := RG.len0 hl2
  repeat refine wp_seq ?_
  refine RG.region_text (its := F39a_2i x1 y1 z1 x2 y2 z2) (bl := F39a_2b x1 y1 z1 x2 y2 z2) (olds := F39a_2o x1 y1 z1 x2 y2 z2) hS2 (RG.Reg.mk' (by kernel_rfl) ⟨by kernel_rfl, trivial⟩ ⟨?_, trivial⟩) (by kernel_rfl) (by kernel_rfl) (by kernel_rfl) ?_
  · exact RG.cert_move rfl 5 (Or.inl rfl) (fun μ a K => K.old 5 (.v (.bool true)) (List.Mem.head _) (by kernel_rfl))
  intro new3 w3 hl3 hS3
  obtain rfl := RG.len0 hl3
  repeat refine wp_seq ?_
  refine wp_cond_true (by kernel_rfl) ?_
  repeat refine wp_seq ?_
  refine RG.region_text (its := F39a_3i x1 y1 z1 x2 y2 z2) (bl := F39a_3b x1 y1 z1 x2 y2 z2) (olds := F39a_3o x1 y1 z1 x2 y2 z2) hS3 (RG.Reg.mk' (by kernel_rfl) ⟨by kernel_rfl, by kernel_rfl, trivial⟩ ⟨?_, ?_, trivial⟩) (by kernel_rfl) (by kernel_rfl) (by kernel_rfl) ?_
  · exact RG.cert_load rfl 1 0 _ rfl rfl (by kernel_rfl) 56 3 rfl (ws x2 ++ (ws y2 ++ (ws z2))) rfl (fun μ a K => K.old 3 (.p 1 0) (List.Mem.head _) (by kernel_rfl)) (by kernel_rfl) u56 i56
  · exact RG.cert_put 2 rfl _ rfl 56 (.tmp 4) (.tmp 19) rfl rfl rfl (fun μ a K => K.old 4 (.p 2 0) (List.Mem.tail _ (List.Mem.head _)) (by kernel_rfl)) (fun μ a K => by have h := K.op 19 0 (List.Mem.head _) rfl; exact h) i56 rfl
  intro new4 w4 hl4 hS4
  obtain rfl := RG.len0 hl4
  refine wp_ret ?_
  refine bodyPost_ret (v := (rv x2 y2 z2)) (RG.results_row hS4 4 56 rfl 2 _ rfl (by kernel_rfl) u56 i56) (by kernel_rfl) ?_
  exact ⟨_, rfl, hS4.bel.below, rfl⟩

def F39b_0i (x1 y1 z1 x2 y2 z2 : Fin P) : List RG.It := [⟨some 2, [], (.p 0 0), .make 0⟩,
  ⟨some 3, [], (.p 1 0), .make 1⟩,
  ⟨some 4, [], (.p 2 0), .make 2⟩]
def F39b_0b (x1 y1 z1 x2 y2 z2 : Fin P) : List RG.Bl := [⟨(ws x1 ++ (ws y1 ++ (ws z1))), (ws x1 ++ (ws y1 ++ (ws z1))), some 0, none⟩, ⟨(ws x2 ++ (ws y2 ++ (ws z2))), (ws x2 ++ (ws y2 ++ (ws z2))), some 1, none⟩, ⟨[.int .u64 0, .int .u64 0, .int .u64 0, .int .u64 0, .int .u64 0, .int .u64 0, .int .u64 0, .int .u64 0, .int .u64 0, .int .u64 0, .int .u64 0, .int .u64 0], [.int .u64 0, .int .u64 0, .int .u64 0, .int .u64 0, .int .u64 0, .int .u64 0, .int .u64 0, .int .u64 0, .int .u64 0, .int .u64 0, .int .u64 0, .int .u64 0], some 2, none⟩]
def F39b_0o (x1 y1 z1 x2 y2 z2 : Fin P) : List (Tmp × RG.SV) := [(0, (.v (rv x1 y1 z1))), (1, (.v (rv x2 y2 z2)))]
def F39b_1i (x1 y1 z1 x2 y2 z2 : Fin P) : List RG.It := [⟨some 16, [], (.v (rv x1 y1 z1)), .stay⟩,
  ⟨some 17, [(16, 0)], (.v (.bool false)), .call⟩,
  ⟨some 5, [(17, 1)], (.v (.bool false)), .stay⟩]
def F39b_1b (x1 y1 z1 x2 y2 z2 : Fin P) : List RG.Bl := [⟨(ws x1 ++ (ws y1 ++ (ws z1))), (ws x1 ++ (ws y1 ++ (ws z1))), none, none⟩, ⟨(ws x2 ++ (ws y2 ++ (ws z2))), (ws x2 ++ (ws y2 ++ (ws z2))), none, none⟩, ⟨[.int .u64 0, .int .u64 0, .int .u64 0, .int .u64 0, .int .u64 0, .int .u64 0, .int .u64 0, .int .u64 0, .int .u64 0, .int .u64 0, .int .u64 0, .int .u64 0], [.int .u64 0, .int .u64 0, .int .u64 0, .int .u64 0, .int .u64 0, .int .u64 0, .int .u64 0, .int .u64 0, .int .u64 0, .int .u64 0, .int .u64 0, .int .u64 0], none, none⟩]
def F39b_1o (x1 y1 z1 x2 y2 z2 : Fin P) : List (Tmp × RG.SV) := [(2, (.p 0 0))]
def F39b_2i (x1 y1 z1 x2 y2 z2 : Fin P) : List RG.It := [⟨some 18, [], (.v (.bool false)), .stay⟩]
def F39b_2b (x1 y1 z1 x2 y2 z2 : Fin P) : List RG.Bl := [⟨(ws x1 ++ (ws y1 ++ (ws z1))), (ws x1 ++ (ws y1 ++ (ws z1))), none, none⟩, ⟨(ws x2 ++ (ws y2 ++ (ws z2))), (ws x2 ++ (ws y2 ++ (ws z2))), none, none⟩, ⟨[.int .u64 0, .int .u64 0, .int .u64 0, .int .u64 0, .int .u64 0, .int .u64 0, .int .u64 0, .int .u64 0, .int .u64 0, .int .u64 0, .int .u64 0, .int .u64 0], [.int .u64 0, .int .u64 0, .int .u64 0, .int .u64 0, .int .u64 0, .int .u64 0, .int .u64 0, .int .u64 0, .int .u64 0, .int .u64 0, .int .u64 0, .int .u64 0], none, none⟩]
def F39b_2o (x1 y1 z1 x2 y2 z2 : Fin P) : List (Tmp × RG.SV) := [(5, (.v (.bool false)))]
def F39b_4i (x1 y1 z1 x2 y2 z2 : Fin P) : List RG.It := [⟨some 20, [], (.v (rv x2 y2 z2)), .stay⟩,
  ⟨some 21, [(20, 0)], (.v (.bool true)), .call⟩,
  ⟨some 5, [(21, 1)], (.v (.bool true)), .stay⟩]
def F39b_4b (x1 y1 z1 x2 y2 z2 : Fin P) : List RG.Bl := [⟨(ws x1 ++ (ws y1 ++ (ws z1))), (ws x1 ++ (ws y1 ++ (ws z1))), none, none⟩, ⟨(ws x2 ++ (ws y2 ++ (ws z2))), (ws x2 ++ (ws y2 ++ (ws z2))), none, none⟩, ⟨[.int .u64 0, .int .u64 0, .int .u64 0, .int .u64 0, .int .u64 0, .int .u64 0, .int .u64 0, .int .u64 0, .int .u64 0, .int .u64 0, .int .u64 0, .int .u64 0], [.int .u64 0, .int .u64 0, .int .u64 0, .int .u64 0, .int .u64 0, .int .u64 0, .int .u64 0, .int .u64 0, .int .u64 0, .int .u64 0, .int .u64 0, .int .u64 0], none, none⟩]
def F39b_4o (x1 y1 z1 x2 y2 z2 : Fin P) : List (Tmp × RG.SV) := [(3, (.p 1 0))]
def F39b_5i (x1 y1 z1 x2 y2 z2 : Fin P) : List RG.It := [⟨some 22, [], (.v (.bool true)), .stay⟩]
def F39b_5b (x1 y1 z1 x2 y2 z2 : Fin P) : List RG.Bl := [⟨(ws x1 ++ (ws y1 ++ (ws z1))), (ws x1 ++ (ws y1 ++ (ws z1))), none, none⟩, ⟨(ws x2 ++ (ws y2 ++ (ws z2))), (ws x2 ++ (ws y2 ++ (ws z2))), none, none⟩, ⟨[.int .u64 0, .int .u64 0, .int .u64 0, .int .u64 0, .int .u64 0, .int .u64 0, .int .u64 0, .int .u64 0, .int .u64 0, .int .u64 0, .int .u64 0, .int .u64 0], [.int .u64 0, .int .u64 0, .int .u64 0, .int .u64 0, .int .u64 0, .int .u64 0, .int .u64 0, .int .u64 0, .int .u64 0, .int .u64 0, .int .u64 0, .int .u64 0], none, none⟩]
def F39b_5o (x1 y1 z1 x2 y2 z2 : Fin P) : List (Tmp × RG.SV) := [(5, (.v (.bool true)))]
def F39b_6i (x1 y1 z1 x2 y2 z2 : Fin P) : List RG.It := [⟨some 23, [], (.v (rv x1 y1 z1)), .stay⟩,
  ⟨none, [(23, 0)], (.v undef), .put 2⟩]
def F39b_6b (x1 y1 z1 x2 y2 z2 : Fin P) : List RG.Bl := [⟨(ws x1 ++ (ws y1 ++ (ws z1))), (ws x1 ++ (ws y1 ++ (ws z1))), none, none⟩, ⟨(ws x2 ++ (ws y2 ++ (ws z2))), (ws x2 ++ (ws y2 ++ (ws z2))), none, none⟩, ⟨[.int .u64 0, .int .u64 0, .int .u64 0, .int .u64 0, .int .u64 0, .int .u64 0, .int .u64 0, .int .u64 0, .int .u64 0, .int .u64 0, .int .u64 0, .int .u64 0], (ws x1 ++ (ws y1 ++ (ws z1))), none, some 1⟩]
def F39b_6o (x1 y1 z1 x2 y2 z2 : Fin P) : List (Tmp × RG.SV) := [(2, (.p 0 0)), (4, (.p 2 0))]
set_option maxHeartbeats 2000000 in
set_option maxRecDepth 100000 in
theorem rPlus_b_c (C : Fl3 P) (x1 y1 z1 x2 y2 z2 : Fin P)(hz1 : ¬ z1 = 0) (hz2 : z2 = 0)  : Gives 39 #[(rv x1 y1 z1), (rv x2 y2 z2)] (rv x1 y1 z1) := by
  intro w
  have hfin : ((rv x1 y1 z1) : Value) = (rv x1 y1 z1) := by
    subst_vars; rfl
  rw [← hfin]
  go_enter Try.func39, Try.ntmps39
  have hS0 := RG.St.begin w
  repeat refine wp_seq ?_
  refine RG.region_text (its := F39b_0i x1 y1 z1 x2 y2 z2) (bl := F39b_0b x1 y1 z1 x2 y2 z2) (olds := F39b_0o x1 y1 z1 x2 y2 z2) hS0 (RG.Reg.mk' (by kernel_rfl) ⟨by kernel_rfl, by kernel_rfl, trivial⟩ ⟨?_, ?_, ?_, trivial⟩) (by kernel_rfl) (by kernel_rfl) (by kernel_rfl) ?_
  · exact RG.cert_box 0 rfl rfl _ rfl 56 0 rfl (rv x1 y1 z1) (fun μ a K => K.old 0 (.v (rv x1 y1 z1)) (List.Mem.head _) (by kernel_rfl)) (fun w => by kernel_rfl)
  · exact RG.cert_box 1 rfl rfl _ rfl 56 1 rfl (rv x2 y2 z2) (fun μ a K => K.old 1 (.v (rv x2 y2 z2)) (List.Mem.tail _ (List.Mem.head _)) (by kernel_rfl)) (fun w => by kernel_rfl)
  · exact RG.cert_alloc 2 rfl rfl _ rfl 56 rfl (fun w => by kernel_rfl)
  intro new1 w1 hl1 hS1
  obtain ⟨j1, i1, m1, rfl⟩ := RG.len3 hl1
  repeat refine wp_seq ?_
  refine RG.region_text (its := F39b_1i x1 y1 z1 x2 y2 z2) (bl := F39b_1b x1 y1 z1 x2 y2 z2) (olds := F39b_1o x1 y1 z1 x2 y2 z2) hS1 (RG.Reg.mk' (by kernel_rfl) ⟨by kernel_rfl, trivial⟩ ⟨?_, ?_, ?_, trivial⟩) (by kernel_rfl) (by kernel_rfl) (by kernel_rfl) ?_
  · exact RG.cert_load rfl 0 0 _ rfl rfl (by kernel_rfl) 56 2 rfl (ws x1 ++ (ws y1 ++ (ws z1))) rfl (fun μ a K => K.old 2 (.p 0 0) (List.Mem.head _) (by kernel_rfl)) (by kernel_rfl) u56 i56
  · exact RG.cert_call1 rfl 78 16 (rv x1 y1 z1) (.bool false) rfl (fun a w => by kernel_rfl) (fun μ a K => by have h := K.op 16 0 (List.Mem.head _) rfl; exact h) (Is_f_c C x1 y1 z1 hz1)
  · exact RG.cert_move rfl 17 (Or.inr rfl) (fun μ a K => by have h := K.op 17 1 (List.Mem.head _) rfl; exact h)
  intro new2 w2 hl2 hS2
  obtain rfl := RG.len0 hl2
  repeat refine wp_seq ?_
  refine RG.region_text (its := F39b_2i x1 y1 z1 x2 y2 z2) (bl := F39b_2b x1 y1 z1 x2 y2 z2) (olds := F39b_2o x1 y1 z1 x2 y2 z2) hS2 (RG.Reg.mk' (by kernel_rfl) ⟨by kernel_rfl, trivial⟩ ⟨?_, trivial⟩) (by kernel_rfl) (by kernel_rfl) (by kernel_rfl) ?_
  · exact RG.cert_move rfl 5 (Or.inl rfl) (fun μ a K => K.old 5 (.v (.bool false)) (List.Mem.head _) (by kernel_rfl))
  intro new3 w3 hl3 hS3
  obtain rfl := RG.len0 hl3
  repeat refine wp_seq ?_
  refine wp_cond_false (by kernel_rfl) ?_
  refine wp_skip ?_
  repeat refine wp_seq ?_
  refine RG.region_text (its := F39b_4i x1 y1 z1 x2 y2 z2) (bl := F39b_4b x1 y1 z1 x2 y2 z2) (olds := F39b_4o x1 y1 z1 x2 y2 z2) hS3 (RG.Reg.mk' (by kernel_rfl) ⟨by kernel_rfl, trivial⟩ ⟨?_, ?_, ?_, trivial⟩) (by kernel_rfl) (by kernel_rfl) (by kernel_rfl) ?_
  · exact RG.cert_load rfl 1 0 _ rfl rfl (by kernel_rfl) 56 3 rfl (ws x2 ++ (ws y2 ++ (ws z2))) rfl (fun μ a K => K.old 3 (.p 1 0) (List.Mem.head _) (by kernel_rfl)) (by kernel_rfl) u56 i56
  · exact RG.cert_call1 rfl 78 20 (rv x2 y2 z2) (.bool true) rfl (fun a w => by kernel_rfl) (fun μ a K => by have h := K.op 20 0 (List.Mem.head _) rfl; exact h) (Is_t_c C x2 y2 z2 hz2)
  · exact RG.cert_move rfl 21 (Or.inr rfl) (fun μ a K => by have h := K.op 21 1 (List.Mem.head _) rfl; exact h)
  intro new4 w4 hl4 hS4
  obtain rfl := RG.len0 hl4
  repeat refine wp_seq ?_
  refine RG.region_text (its := F39b_5i x1 y1 z1 x2 y2 z2) (bl := F39b_5b x1 y1 z1 x2 y2 z2) (olds := F39b_5o x1 y1 z1 x2 y2 z2) hS4 (RG.Reg.mk' (by kernel_rfl) ⟨by kernel_rfl, trivial⟩ ⟨?_, trivial⟩) (by kernel_rfl) (by kernel_rfl) (by kernel_rfl) ?_
  · exact RG.cert_move rfl 5 (Or.inl rfl) (fun μ a K => K.old 5 (.v (.bool true)) (List.Mem.head _) (by kernel_rfl))
  intro new5 w5 hl5 hS5
  obtain rfl := RG.len0 hl5
  repeat refine wp_seq ?_
  refine wp_cond_true (by kernel_rfl) ?_
  repeat refine wp_seq ?_
  refine RG.region_text (its := F39b_6i x1 y1 z1 x2 y2 z2) (bl := F39b_6b x1 y1 z1 x2 y2 z2) (olds := F39b_6o x1 y1 z1 x2 y2 z2) hS5 (RG.Reg.mk' (by kernel_rfl) ⟨by kernel_rfl, by kernel_rfl, trivial⟩ ⟨?_, ?_, trivial⟩) (by kernel_rfl) (by kernel_rfl) (by kernel_rfl) ?_
  · exact RG.cert_load rfl 0 0 _ rfl rfl (by kernel_rfl) 56 2 rfl (ws x1 ++ (ws y1 ++ (ws z1))) rfl (fun μ a K => K.old 2 (.p 0 0) (List.Mem.head _) (by kernel_rfl)) (by kernel_rfl) u56 i56
  · exact RG.cert_put 2 rfl _ rfl 56 (.tmp 4) (.tmp 23) rfl rfl rfl (fun μ a K => K.old 4 (.p 2 0) (List.Mem.tail _ (List.Mem.head _)) (by kernel_rfl)) (fun μ a K => by have h := K.op 23 0 (List.Mem.head _) rfl; exact h) i56 rfl
  intro new6 w6 hl6 hS6
  obtain rfl := RG.len0 hl6
  refine wp_ret ?_
  refine bodyPost_ret (v := (rv x1 y1 z1)) (RG.results_row hS6 4 56 rfl 2 _ rfl (by kernel_rfl) u56 i56) (by kernel_rfl) ?_
  exact ⟨_, rfl, hS6.bel.below, rfl⟩

def F39c_0i (x1 y1 z1 x2 y2 z2 c1 c2 c3 c4 : Fin P) : List RG.It := [⟨some 2, [], (.p 0 0), .make 0⟩,
  ⟨some 3, [], (.p 1 0), .make 1⟩,
  ⟨some 4, [], (.p 2 0), .make 2⟩]
def F39c_0b (x1 y1 z1 x2 y2 z2 c1 c2 c3 c4 : Fin P) : List RG.Bl := [⟨(ws x1 ++ (ws y1 ++ (ws z1))), (ws x1 ++ (ws y1 ++ (ws z1))), some 0, none⟩, ⟨(ws x2 ++ (ws y2 ++ (ws z2))), (ws x2 ++ (ws y2 ++ (ws z2))), some 1, none⟩, ⟨[.int .u64 0, .int .u64 0, .int .u64 0, .int .u64 0, .int .u64 0, .int .u64 0, .int .u64 0, .int .u64 0, .int .u64 0, .int .u64 0, .int .u64 0, .int .u64 0], [.int .u64 0, .int .u64 0, .int .u64 0, .int .u64 0, .int .u64 0, .int .u64 0, .int .u64 0, .int .u64 0, .int .u64 0, .int .u64 0, .int .u64 0, .int .u64 0], some 2, none⟩]
def F39c_0o (x1 y1 z1 x2 y2 z2 c1 c2 c3 c4 : Fin P) : List (Tmp × RG.SV) := [(0, (.v (rv x1 y1 z1))), (1, (.v (rv x2 y2 z2)))]
def F39c_1i (x1 y1 z1 x2 y2 z2 c1 c2 c3 c4 : Fin P) : List RG.It := [⟨some 16, [], (.v (rv x1 y1 z1)), .stay⟩,
  ⟨some 17, [(16, 0)], (.v (.bool false)), .call⟩,
  ⟨some 5, [(17, 1)], (.v (.bool false)), .stay⟩]
def F39c_1b (x1 y1 z1 x2 y2 z2 c1 c2 c3 c4 : Fin P) : List RG.Bl := [⟨(ws x1 ++ (ws y1 ++ (ws z1))), (ws x1 ++ (ws y1 ++ (ws z1))), none, none⟩, ⟨(ws x2 ++ (ws y2 ++ (ws z2))), (ws x2 ++ (ws y2 ++ (ws z2))), none, none⟩, ⟨[.int .u64 0, .int .u64 0, .int .u64 0, .int .u64 0, .int .u64 0, .int .u64 0, .int .u64 0, .int .u64 0, .int .u64 0, .int .u64 0, .int .u64 0, .int .u64 0], [.int .u64 0, .int .u64 0, .int .u64 0, .int .u64 0, .int .u64 0, .int .u64 0, .int .u64 0, .int .u64 0, .int .u64 0, .int .u64 0, .int .u64 0, .int .u64 0], none, none⟩]
def F39c_1o (x1 y1 z1 x2 y2 z2 c1 c2 c3 c4 : Fin P) : List (Tmp × RG.SV) := [(2, (.p 0 0))]
def F39c_2i (x1 y1 z1 x2 y2 z2 c1 c2 c3 c4 : Fin P) : List RG.It := [⟨some 18, [], (.v (.bool false)), .stay⟩]
def F39c_2b (x1 y1 z1 x2 y2 z2 c1 c2 c3 c4 : Fin P) : List RG.Bl := [⟨(ws x1 ++ (ws y1 ++ (ws z1))), (ws x1 ++ (ws y1 ++ (ws z1))), none, none⟩, ⟨(ws x2 ++ (ws y2 ++ (ws z2))), (ws x2 ++ (ws y2 ++ (ws z2))), none, none⟩, ⟨[.int .u64 0, .int .u64 0, .int .u64 0, .int .u64 0, .int .u64 0, .int .u64 0, .int .u64 0, .int .u64 0, .int .u64 0, .int .u64 0, .int .u64 0, .int .u64 0], [.int .u64 0, .int .u64 0, .int .u64 0, .int .u64 0, .int .u64 0, .int .u64 0, .int .u64 0, .int .u64 0, .int .u64 0, .int .u64 0, .int .u64 0, .int .u64 0], none, none⟩]
def F39c_2o (x1 y1 z1 x2 y2 z2 c1 c2 c3 c4 : Fin P) : List (Tmp × RG.SV) := [(5, (.v (.bool false)))]
def F39c_4i (x1 y1 z1 x2 y2 z2 c1 c2 c3 c4 : Fin P) : List RG.It := [⟨some 20, [], (.v (rv x2 y2 z2)), .stay⟩,
  ⟨some 21, [(20, 0)], (.v (.bool false)), .call⟩,
  ⟨some 5, [(21, 1)], (.v (.bool false)), .stay⟩]
def F39c_4b (x1 y1 z1 x2 y2 z2 c1 c2 c3 c4 : Fin P) : List RG.Bl := [⟨(ws x1 ++ (ws y1 ++ (ws z1))), (ws x1 ++ (ws y1 ++ (ws z1))), none, none⟩, ⟨(ws x2 ++ (ws y2 ++ (ws z2))), (ws x2 ++ (ws y2 ++ (ws z2))), none, none⟩, ⟨[.int .u64 0, .int .u64 0, .int .u64 0, .int .u64 0, .int .u64 0, .int .u64 0, .int .u64 0, .int .u64 0, .int .u64 0, .int .u64 0, .int .u64 0, .int .u64 0], [.int .u64 0, .int .u64 0, .int .u64 0, .int .u64 0, .int .u64 0, .int .u64 0, .int .u64 0, .int .u64 0, .int .u64 0, .int .u64 0, .int .u64 0, .int .u64 0], none, none⟩]
def F39c_4o (x1 y1 z1 x2 y2 z2 c1 c2 c3 c4 : Fin P) : List (Tmp × RG.SV) := [(3, (.p 1 0))]
def F39c_5i (x1 y1 z1 x2 y2 z2 c1 c2 c3 c4 : Fin P) : List RG.It := [⟨some 22, [], (.v (.bool false)), .stay⟩]
def F39c_5b (x1 y1 z1 x2 y2 z2 c1 c2 c3 c4 : Fin P) : List RG.Bl := [⟨(ws x1 ++ (ws y1 ++ (ws z1))), (ws x1 ++ (ws y1 ++ (ws z1))), none, none⟩, ⟨(ws x2 ++ (ws y2 ++ (ws z2))), (ws x2 ++ (ws y2 ++ (ws z2))), none, none⟩, ⟨[.int .u64 0, .int .u64 0, .int .u64 0, .int .u64 0, .int .u64 0, .int .u64 0, .int .u64 0, .int .u64 0, .int .u64 0, .int .u64 0, .int .u64 0, .int .u64 0], [.int .u64 0, .int .u64 0, .int .u64 0, .int .u64 0, .int .u64 0, .int .u64 0, .int .u64 0, .int .u64 0, .int .u64 0, .int .u64 0, .int .u64 0, .int .u64 0], none, none⟩]
def F39c_5o (x1 y1 z1 x2 y2 z2 c1 c2 c3 c4 : Fin P) : List (Tmp × RG.SV) := [(5, (.v (.bool false)))]
def F39c_7i (x1 y1 z1 x2 y2 z2 c1 c2 c3 c4 : Fin P) : List RG.It := [⟨some 24, [], (.v rv0), .call⟩,
  ⟨some 25, [], (.p 1 4), .stay⟩,
  ⟨some 26, [(25, 1)], (.v (fv y2)), .stay⟩,
  ⟨some 27, [], (.p 0 8), .stay⟩,
  ⟨some 28, [(27, 3)], (.v (fv z1)), .stay⟩,
  ⟨some 29, [(24, 0), (26, 2), (28, 4)], (.v (fv c1)), .call⟩,
  ⟨some 6, [], (.p 3 0), .make 3⟩,
  ⟨none, [(6, 6), (29, 5)], (.v undef), .put 3⟩]
def F39c_7b (x1 y1 z1 x2 y2 z2 c1 c2 c3 c4 : Fin P) : List RG.Bl := [⟨(ws x1 ++ (ws y1 ++ (ws z1))), (ws x1 ++ (ws y1 ++ (ws z1))), none, none⟩, ⟨(ws x2 ++ (ws y2 ++ (ws z2))), (ws x2 ++ (ws y2 ++ (ws z2))), none, none⟩, ⟨[.int .u64 0, .int .u64 0, .int .u64 0, .int .u64 0, .int .u64 0, .int .u64 0, .int .u64 0, .int .u64 0, .int .u64 0, .int .u64 0, .int .u64 0, .int .u64 0], [.int .u64 0, .int .u64 0, .int .u64 0, .int .u64 0, .int .u64 0, .int .u64 0, .int .u64 0, .int .u64 0, .int .u64 0, .int .u64 0, .int .u64 0, .int .u64 0], none, none⟩, ⟨[.int .u64 0, .int .u64 0, .int .u64 0, .int .u64 0], (ws c1), some 6, some 7⟩]
def F39c_7o (x1 y1 z1 x2 y2 z2 c1 c2 c3 c4 : Fin P) : List (Tmp × RG.SV) := [(3, (.p 1 0)), (2, (.p 0 0))]
def F39c_8i (x1 y1 z1 x2 y2 z2 c1 c2 c3 c4 : Fin P) : List RG.It := [⟨some 30, [], (.v rv0), .call⟩,
  ⟨some 31, [], (.p 1 0), .stay⟩,
  ⟨some 32, [(31, 1)], (.v (fv x2)), .stay⟩,
  ⟨some 33, [], (.p 0 8), .stay⟩,
  ⟨some 34, [(33, 3)], (.v (fv z1)), .stay⟩,
  ⟨some 35, [(30, 0), (32, 2), (34, 4)], (.v (fv c2)), .call⟩,
  ⟨some 7, [], (.p 4 0), .make 4⟩,
  ⟨none, [(7, 6), (35, 5)], (.v undef), .put 4⟩]
def F39c_8b (x1 y1 z1 x2 y2 z2 c1 c2 c3 c4 : Fin P) : List RG.Bl := [⟨(ws x1 ++ (ws y1 ++ (ws z1))), (ws x1 ++ (ws y1 ++ (ws z1))), none, none⟩, ⟨(ws x2 ++ (ws y2 ++ (ws z2))), (ws x2 ++ (ws y2 ++ (ws z2))), none, none⟩, ⟨[.int .u64 0, .int .u64 0, .int .u64 0, .int .u64 0, .int .u64 0, .int .u64 0, .int .u64 0, .int .u64 0, .int .u64 0, .int .u64 0, .int .u64 0, .int .u64 0], [.int .u64 0, .int .u64 0, .int .u64 0, .int .u64 0, .int .u64 0, .int .u64 0, .int .u64 0, .int .u64 0, .int .u64 0, .int .u64 0, .int .u64 0, .int .u64 0], none, none⟩, ⟨(ws c1), (ws c1), none, none⟩, ⟨[.int .u64 0, .int .u64 0, .int .u64 0, .int .u64 0], (ws c2), some 6, some 7⟩]
def F39c_8o (x1 y1 z1 x2 y2 z2 c1 c2 c3 c4 : Fin P) : List (Tmp × RG.SV) := [(3, (.p 1 0)), (2, (.p 0 0))]
def F39c_9i (x1 y1 z1 x2 y2 z2 c1 c2 c3 c4 : Fin P) : List RG.It := [⟨some 36, [], (.v rv0), .call⟩,
  ⟨some 37, [], (.p 0 4), .stay⟩,
  ⟨some 38, [(37, 1)], (.v (fv y1)), .stay⟩,
  ⟨some 39, [], (.p 1 8), .stay⟩,
  ⟨some 40, [(39, 3)], (.v (fv z2)), .stay⟩,
  ⟨some 41, [(36, 0), (38, 2), (40, 4)], (.v (fv c3)), .call⟩,
  ⟨some 8, [], (.p 5 0), .make 5⟩,
  ⟨none, [(8, 6), (41, 5)], (.v undef), .put 5⟩]
def F39c_9b (x1 y1 z1 x2 y2 z2 c1 c2 c3 c4 : Fin P) : List RG.Bl := [⟨(ws x1 ++ (ws y1 ++ (ws z1))), (ws x1 ++ (ws y1 ++ (ws z1))), none, none⟩, ⟨(ws x2 ++ (ws y2 ++ (ws z2))), (ws x2 ++ (ws y2 ++ (ws z2))), none, none⟩, ⟨[.int .u64 0, .int .u64 0, .int .u64 0, .int .u64 0, .int .u64 0, .int .u64 0, .int .u64 0, .int .u64 0, .int .u64 0, .int .u64 0, .int .u64 0, .int .u64 0], [.int .u64 0, .int .u64 0, .int .u64 0, .int .u64 0, .int .u64 0, .int .u64 0, .int .u64 0, .int .u64 0, .int .u64 0, .int .u64 0, .int .u64 0, .int .u64 0], none, none⟩, ⟨(ws c1), (ws c1), none, none⟩, ⟨(ws c2), (ws c2), none, none⟩, ⟨[.int .u64 0, .int .u64 0, .int .u64 0, .int .u64 0], (ws c3), some 6, some 7⟩]
def F39c_9o (x1 y1 z1 x2 y2 z2 c1 c2 c3 c4 : Fin P) : List (Tmp × RG.SV) := [(2, (.p 0 0)), (3, (.p 1 0))]
def F39c_10i (x1 y1 z1 x2 y2 z2 c1 c2 c3 c4 : Fin P) : List RG.It := [⟨some 42, [], (.v rv0), .call⟩,
  ⟨some 43, [], (.p 0 0), .stay⟩,
  ⟨some 44, [(43, 1)], (.v (fv x1)), .stay⟩,
  ⟨some 45, [], (.p 1 8), .stay⟩,
  ⟨some 46, [(45, 3)], (.v (fv z2)), .stay⟩,
  ⟨some 47, [(42, 0), (44, 2), (46, 4)], (.v (fv c4)), .call⟩,
  ⟨some 9, [], (.p 6 0), .make 6⟩,
  ⟨none, [(9, 6), (47, 5)], (.v undef), .put 6⟩]
def F39c_10b (x1 y1 z1 x2 y2 z2 c1 c2 c3 c4 : Fin P) : List RG.Bl := [⟨(ws x1 ++ (ws y1 ++ (ws z1))), (ws x1 ++ (ws y1 ++ (ws z1))), none, none⟩, ⟨(ws x2 ++ (ws y2 ++ (ws z2))), (ws x2 ++ (ws y2 ++ (ws z2))), none, none⟩, ⟨[.int .u64 0, .int .u64 0, .int .u64 0, .int .u64 0, .int .u64 0, .int .u64 0, .int .u64 0, .int .u64 0, .int .u64 0, .int .u64 0, .int .u64 0, .int .u64 0], [.int .u64 0, .int .u64 0, .int .u64 0, .int .u64 0, .int .u64 0, .int .u64 0, .int .u64 0, .int .u64 0, .int .u64 0, .int .u64 0, .int .u64 0, .int .u64 0], none, none⟩, ⟨(ws c1), (ws c1), none, none⟩, ⟨(ws c2), (ws c2), none, none⟩, ⟨(ws c3), (ws c3), none, none⟩, ⟨[.int .u64 0, .int .u64 0, .int .u64 0, .int .u64 0], (ws c4), some 6, some 7⟩]
def F39c_10o (x1 y1 z1 x2 y2 z2 c1 c2 c3 c4 : Fin P) : List (Tmp × RG.SV) := [(2, (.p 0 0)), (3, (.p 1 0))]
def F39c_11i (x1 y1 z1 x2 y2 z2 c1 c2 c3 c4 : Fin P) : List RG.It := [⟨some 48, [], (.v (fv c2)), .stay⟩,
  ⟨some 49, [], (.v (fv c4)), .stay⟩,
  ⟨some 50, [(48, 0), (49, 1)], (.v (.bool true)), .stay⟩]
def F39c_11b (x1 y1 z1 x2 y2 z2 c1 c2 c3 c4 : Fin P) : List RG.Bl := [⟨(ws x1 ++ (ws y1 ++ (ws z1))), (ws x1 ++ (ws y1 ++ (ws z1))), none, none⟩, ⟨(ws x2 ++ (ws y2 ++ (ws z2))), (ws x2 ++ (ws y2 ++ (ws z2))), none, none⟩, ⟨[.int .u64 0, .int .u64 0, .int .u64 0, .int .u64 0, .int .u64 0, .int .u64 0, .int .u64 0, .int .u64 0, .int .u64 0, .int .u64 0, .int .u64 0, .int .u64 0], [.int .u64 0, .int .u64 0, .int .u64 0, .int .u64 0, .int .u64 0, .int .u64 0, .int .u64 0, .int .u64 0, .int .u64 0, .int .u64 0, .int .u64 0, .int .u64 0], none, none⟩, ⟨(ws c1), (ws c1), none, none⟩, ⟨(ws c2), (ws c2), none, none⟩, ⟨(ws c3), (ws c3), none, none⟩, ⟨(ws c4), (ws c4), none, none⟩]
def F39c_11o (x1 y1 z1 x2 y2 z2 c1 c2 c3 c4 : Fin P) : List (Tmp × RG.SV) := [(7, (.p 4 0)), (9, (.p 6 0))]
def F39c_12i (x1 y1 z1 x2 y2 z2 c1 c2 c3 c4 : Fin P) : List RG.It := [⟨some 51, [], (.v (fv c1)), .stay⟩,
  ⟨some 52, [], (.v (fv c3)), .stay⟩,
  ⟨some 53, [(51, 0), (52, 1)], (.v (.bool true)), .stay⟩,
  ⟨some 54, [(53, 2)], (.v (.bool true)), .stay⟩,
  ⟨some 55, [], (.v undef), .pass⟩,
  ⟨some 56, [], (.v undef), .pass⟩,
  ⟨some 57, [(54, 3)], (.v (.bool true)), .stay⟩]
def F39c_12b (x1 y1 z1 x2 y2 z2 c1 c2 c3 c4 : Fin P) : List RG.Bl := [⟨(ws x1 ++ (ws y1 ++ (ws z1))), (ws x1 ++ (ws y1 ++ (ws z1))), none, none⟩, ⟨(ws x2 ++ (ws y2 ++ (ws z2))), (ws x2 ++ (ws y2 ++ (ws z2))), none, none⟩, ⟨[.int .u64 0, .int .u64 0, .int .u64 0, .int .u64 0, .int .u64 0, .int .u64 0, .int .u64 0, .int .u64 0, .int .u64 0, .int .u64 0, .int .u64 0, .int .u64 0], [.int .u64 0, .int .u64 0, .int .u64 0, .int .u64 0, .int .u64 0, .int .u64 0, .int .u64 0, .int .u64 0, .int .u64 0, .int .u64 0, .int .u64 0, .int .u64 0], none, none⟩, ⟨(ws c1), (ws c1), none, none⟩, ⟨(ws c2), (ws c2), none, none⟩, ⟨(ws c3), (ws c3), none, none⟩, ⟨(ws c4), (ws c4), none, none⟩]
def F39c_12o (x1 y1 z1 x2 y2 z2 c1 c2 c3 c4 : Fin P) : List (Tmp × RG.SV) := [(6, (.p 3 0)), (8, (.p 5 0))]
def F39c_13i (x1 y1 z1 x2 y2 z2 c1 c2 c3 c4 : Fin P) : List RG.It := [⟨some 58, [], (.v (rv (0 : Fin P) (1 : Fin P) (0 : Fin P))), .call⟩,
  ⟨none, [(58, 0)], (.v undef), .put 2⟩]
def F39c_13b (x1 y1 z1 x2 y2 z2 c1 c2 c3 c4 : Fin P) : List RG.Bl := [⟨(ws x1 ++ (ws y1 ++ (ws z1))), (ws x1 ++ (ws y1 ++ (ws z1))), none, none⟩, ⟨(ws x2 ++ (ws y2 ++ (ws z2))), (ws x2 ++ (ws y2 ++ (ws z2))), none, none⟩, ⟨[.int .u64 0, .int .u64 0, .int .u64 0, .int .u64 0, .int .u64 0, .int .u64 0, .int .u64 0, .int .u64 0, .int .u64 0, .int .u64 0, .int .u64 0, .int .u64 0], (ws (0 : Fin P) ++ (ws (1 : Fin P) ++ (ws (0 : Fin P)))), none, some 1⟩, ⟨(ws c1), (ws c1), none, none⟩, ⟨(ws c2), (ws c2), none, none⟩, ⟨(ws c3), (ws c3), none, none⟩, ⟨(ws c4), (ws c4), none, none⟩]
def F39c_13o (x1 y1 z1 x2 y2 z2 c1 c2 c3 c4 : Fin P) : List (Tmp × RG.SV) := [(4, (.p 2 0))]
set_option maxHeartbeats 2000000 in
set_option maxRecDepth 100000 in
theorem rPlus_c_c (C : Fl3 P) (x1 y1 z1 x2 y2 z2 : Fin P)(hz1 : ¬ z1 = 0) (hz2 : ¬ z2 = 0) (hv : x2 * z1 = x1 * z2) (hu : ¬ y2 * z1 = y1 * z2)  : Gives 39 #[(rv x1 y1 z1), (rv x2 y2 z2)] (rv (0 : Fin P) 1 0) := by
  intro w
  obtain ⟨c1, hc1⟩ : ∃ c, c = y2 * z1 := ⟨_, rfl⟩
  obtain ⟨c2, hc2⟩ : ∃ c, c = x2 * z1 := ⟨_, rfl⟩
  obtain ⟨c3, hc3⟩ : ∃ c, c = y1 * z2 := ⟨_, rfl⟩
  obtain ⟨c4, hc4⟩ : ∃ c, c = x1 * z2 := ⟨_, rfl⟩
  have hfin : ((rv (0 : Fin P) (1 : Fin P) (0 : Fin P)) : Value) = (rv (0 : Fin P) 1 0) := by
    subst_vars; rfl
  rw [← hfin]
  go_enter Try.func39, Try.ntmps39
  have hS0 := RG.St.begin w
  repeat refine wp_seq ?_
  refine RG.region_text (its := F39c_0i x1 y1 z1 x2 y2 z2 c1 c2 c3 c4) (bl := F39c_0b x1 y1 z1 x2 y2 z2 c1 c2 c3 c4) (olds := F39c_0o x1 y1 z1 x2 y2 z2 c1 c2 c3 c4) hS0 (RG.Reg.mk' (by kernel_rfl) ⟨by kernel_rfl, by kernel_rfl, trivial⟩ ⟨?_, ?_, ?_, trivial⟩) (by kernel_rfl) (by kernel_rfl) (by kernel_rfl) ?_
  · exact RG.cert_box 0 rfl rfl _ rfl 56 0 rfl (rv x1 y1 z1) (fun μ a K => K.old 0 (.v (rv x1 y1 z1)) (List.Mem.head _) (by kernel_rfl)) (fun w => by kernel_rfl)
  · exact RG.cert_box 1 rfl rfl _ rfl 56 1 rfl (rv x2 y2 z2) (fun μ a K => K.old 1 (.v (rv x2 y2 z2)) (List.Mem.tail _ (List.Mem.head _)) (by kernel_rfl)) (fun w => by kernel_rfl)
  · exact RG.cert_alloc 2 rfl rfl _ rfl 56 rfl (fun w => by kernel_rfl)
  intro new1 w1 hl1 hS1
  obtain ⟨j1, i1, m1, rfl⟩ := RG.len3 hl1
  repeat refine wp_seq ?_
  refine RG.region_text (its := F39c_1i x1 y1 z1 x2 y2 z2 c1 c2 c3 c4) (bl := F39c_1b x1 y1 z1 x2 y2 z2 c1 c2 c3 c4) (olds := F39c_1o x1 y1 z1 x2 y2 z2 c1 c2 c3 c4) hS1 (RG.Reg.mk' (by kernel_rfl) ⟨by kernel_rfl, trivial⟩ ⟨?_, ?_, ?_, trivial⟩) (by kernel_rfl) (by kernel_rfl) (by kernel_rfl) ?_
  · exact RG.cert_load rfl 0 0 _ rfl rfl (by kernel_rfl) 56 2 rfl (ws x1 ++ (ws y1 ++ (ws z1))) rfl (fun μ a K => K.old 2 (.p 0 0) (List.Mem.head _) (by kernel_rfl)) (by kernel_rfl) u56 i56
  · exact RG.cert_call1 rfl 78 16 (rv x1 y1 z1) (.bool false) rfl (fun a w => by kernel_rfl) (fun μ a K => by have h := K.op 16 0 (List.Mem.head _) rfl; exact h) (Is_f_c C x1 y1 z1 hz1)
  · exact RG.cert_move rfl 17 (Or.inr rfl) (fun μ a K => by have h := K.op 17 1 (List.Mem.head _) rfl; exact h)
  intro new2 w2 hl2 hS2
  obtain rfl := RG.len0 hl2
  repeat refine wp_seq ?_
  refine RG.region_text (its := F39c_2i x1 y1 z1 x2 y2 z2 c1 c2 c3 c4) (bl := F39c_2b x1 y1 z1 x2 y2 z2 c1 c2 c3 c4) (olds := F39c_2o x1 y1 z1 x2 y2 z2 c1 c2 c3 c4) hS2 (RG.Reg.mk' (by kernel_rfl) ⟨by kernel_rfl, trivial⟩ ⟨?_, trivial⟩) (by kernel_rfl) (by kernel_rfl) (by kernel_rfl) ?_
  · exact RG.cert_move rfl 5 (Or.inl rfl) (fun μ a K => K.old 5 (.v (.bool false)) (List.Mem.head _) (by kernel_rfl))
  intro new3 w3 hl3 hS3
  obtain rfl := RG.len0 hl3
  repeat refine wp_seq ?_
  refine wp_cond_false (by kernel_rfl) ?_
  refine wp_skip ?_
  repeat refine wp_seq ?_
  refine RG.region_text (its := F39c_4i x1 y1 z1 x2 y2 z2 c1 c2 c3 c4) (bl := F39c_4b x1 y1 z1 x2 y2 z2 c1 c2 c3 c4) (olds := F39c_4o x1 y1 z1 x2 y2 z2 c1 c2 c3 c4) hS3 (RG.Reg.mk' (by kernel_rfl) ⟨by kernel_rfl, trivial⟩ ⟨?_, ?_, ?_, trivial⟩) (by kernel_rfl) (by kernel_rfl) (by kernel_rfl) ?_
  · exact RG.cert_load rfl 1 0 _ rfl rfl (by kernel_rfl) 56 3 rfl (ws x2 ++ (ws y2 ++ (ws z2))) rfl (fun μ a K => K.old 3 (.p 1 0) (List.Mem.head _) (by kernel_rfl)) (by kernel_rfl) u56 i56
  · exact RG.cert_call1 rfl 78 20 (rv x2 y2 z2) (.bool false) rfl (fun a w => by kernel_rfl) (fun μ a K => by have h := K.op 20 0 (List.Mem.head _) rfl; exact h) (Is_f_c C x2 y2 z2 hz2)
  · exact RG.cert_move rfl 21 (Or.inr rfl) (fun μ a K => by have h := K.op 21 1 (List.Mem.head _) rfl; exact h)
  intro new4 w4 hl4 hS4
  obtain rfl := RG.len0 hl4
  repeat refine wp_seq ?_
  refine RG.region_text (its := F39c_5i x1 y1 z1 x2 y2 z2 c1 c2 c3 c4) (bl := F39c_5b x1 y1 z1 x2 y2 z2 c1 c2 c3 c4) (olds := F39c_5o x1 y1 z1 x2 y2 z2 c1 c2 c3 c4) hS4 (RG.Reg.mk' (by kernel_rfl) ⟨by kernel_rfl, trivial⟩ ⟨?_, trivial⟩) (by kernel_rfl) (by kernel_rfl) (by kernel_rfl) ?_
  · exact RG.cert_move rfl 5 (Or.inl rfl) (fun μ a K => K.old 5 (.v (.bool false)) (List.Mem.head _) (by kernel_rfl))
  intro new5 w5 hl5 hS5
  obtain rfl := RG.len0 hl5
  repeat refine wp_seq ?_
  refine wp_cond_false (by kernel_rfl) ?_
  refine wp_skip ?_
  repeat refine wp_seq ?_
  refine RG.region_draws (by kernel_rfl) (its := F39c_7i x1 y1 z1 x2 y2 z2 c1 c2 c3 c4) (bl := F39c_7b x1 y1 z1 x2 y2 z2 c1 c2 c3 c4) (olds := F39c_7o x1 y1 z1 x2 y2 z2 c1 c2 c3 c4) hS5 (RG.Reg.mk' (by kernel_rfl) ⟨by kernel_rfl, by kernel_rfl, trivial⟩ ⟨?_, ?_, ?_, ?_, ?_, ?_, ?_, ?_, trivial⟩) (by kernel_rfl) (by kernel_rfl) (by kernel_rfl) ?_
  · exact RG.cert_call0 rfl 69 rv0 rfl (fun a w => by kernel_rfl) (F3_c)
  · exact RG.cert_field rfl 56 3 1 rfl 1 0 4 rfl (fun μ a K => K.old 3 (.p 1 0) (List.Mem.head _) (by kernel_rfl)) (fun k w => by kernel_rfl)
  · exact RG.cert_load rfl 1 4 _ rfl rfl (by kernel_rfl) 33 25 rfl (ws y2) rfl (fun μ a K => by have h := K.op 25 1 (List.Mem.head _) rfl; exact h) (by kernel_rfl) u33 i33
  · exact RG.cert_field rfl 56 2 2 rfl 0 0 8 rfl (fun μ a K => K.old 2 (.p 0 0) (List.Mem.tail _ (List.Mem.head _)) (by kernel_rfl)) (fun k w => by kernel_rfl)
  · exact RG.cert_load rfl 0 8 _ rfl rfl (by kernel_rfl) 33 27 rfl (ws z1) rfl (fun μ a K => by have h := K.op 27 3 (List.Mem.head _) rfl; exact h) (by kernel_rfl) u33 i33
  · exact RG.cert_call3 rfl 20 24 26 28 rv0 (fv y2) (fv z1) (fv c1) rfl (fun a w => by kernel_rfl) (fun μ a K => by have h := K.op 24 0 (List.Mem.head _) rfl; exact h) (fun μ a K => by have h := K.op 26 2 (List.Mem.tail _ (List.Mem.head _)) rfl; exact h) (fun μ a K => by have h := K.op 28 4 (List.Mem.tail _ (List.Mem.tail _ (List.Mem.head _))) rfl; exact h) (hc1 ▸ rMul_c C y2 z1)
  · exact RG.cert_alloc 3 rfl rfl _ rfl 33 rfl (fun w => by kernel_rfl)
  · exact RG.cert_put 3 rfl _ rfl 33 (.tmp 6) (.tmp 29) rfl rfl rfl (fun μ a K => by have h := K.op 6 6 (List.Mem.head _) rfl; exact h) (fun μ a K => by have h := K.op 29 5 (List.Mem.tail _ (List.Mem.head _)) rfl; exact h) i33 rfl
  intro new6 w6 hl6 hS6
  obtain ⟨j6, rfl⟩ := RG.len1 hl6
  repeat refine wp_seq ?_
  refine RG.region_draws (by kernel_rfl) (its := F39c_8i x1 y1 z1 x2 y2 z2 c1 c2 c3 c4) (bl := F39c_8b x1 y1 z1 x2 y2 z2 c1 c2 c3 c4) (olds := F39c_8o x1 y1 z1 x2 y2 z2 c1 c2 c3 c4) hS6 (RG.Reg.mk' (by kernel_rfl) ⟨by kernel_rfl, by kernel_rfl, trivial⟩ ⟨?_, ?_, ?_, ?_, ?_, ?_, ?_, ?_, trivial⟩) (by kernel_rfl) (by kernel_rfl) (by kernel_rfl) ?_
  · exact RG.cert_call0 rfl 69 rv0 rfl (fun a w => by kernel_rfl) (F3_c)
  · exact RG.cert_field rfl 56 3 0 rfl 1 0 0 rfl (fun μ a K => K.old 3 (.p 1 0) (List.Mem.head _) (by kernel_rfl)) (fun k w => by kernel_rfl)
  · exact RG.cert_load rfl 1 0 _ rfl rfl (by kernel_rfl) 33 31 rfl (ws x2) rfl (fun μ a K => by have h := K.op 31 1 (List.Mem.head _) rfl; exact h) (by kernel_rfl) u33 i33
  · exact RG.cert_field rfl 56 2 2 rfl 0 0 8 rfl (fun μ a K => K.old 2 (.p 0 0) (List.Mem.tail _ (List.Mem.head _)) (by kernel_rfl)) (fun k w => by kernel_rfl)
  · exact RG.cert_load rfl 0 8 _ rfl rfl (by kernel_rfl) 33 33 rfl (ws z1) rfl (fun μ a K => by have h := K.op 33 3 (List.Mem.head _) rfl; exact h) (by kernel_rfl) u33 i33
  · exact RG.cert_call3 rfl 20 30 32 34 rv0 (fv x2) (fv z1) (fv c2) rfl (fun a w => by kernel_rfl) (fun μ a K => by have h := K.op 30 0 (List.Mem.head _) rfl; exact h) (fun μ a K => by have h := K.op 32 2 (List.Mem.tail _ (List.Mem.head _)) rfl; exact h) (fun μ a K => by have h := K.op 34 4 (List.Mem.tail _ (List.Mem.tail _ (List.Mem.head _))) rfl; exact h) (hc2 ▸ rMul_c C x2 z1)
  · exact RG.cert_alloc 4 rfl rfl _ rfl 33 rfl (fun w => by kernel_rfl)
  · exact RG.cert_put 4 rfl _ rfl 33 (.tmp 7) (.tmp 35) rfl rfl rfl (fun μ a K => by have h := K.op 7 6 (List.Mem.head _) rfl; exact h) (fun μ a K => by have h := K.op 35 5 (List.Mem.tail _ (List.Mem.head _)) rfl; exact h) i33 rfl
  intro new7 w7 hl7 hS7
  obtain ⟨j7, rfl⟩ := RG.len1 hl7
  repeat refine wp_seq ?_
  refine RG.region_draws (by kernel_rfl) (its := F39c_9i x1 y1 z1 x2 y2 z2 c1 c2 c3 c4) (bl := F39c_9b x1 y1 z1 x2 y2 z2 c1 c2 c3 c4) (olds := F39c_9o x1 y1 z1 x2 y2 z2 c1 c2 c3 c4) hS7 (RG.Reg.mk' (by kernel_rfl) ⟨by kernel_rfl, by kernel_rfl, trivial⟩ ⟨?_, ?_, ?_, ?_, ?_, ?_, ?_, ?_, trivial⟩) (by kernel_rfl) (by kernel_rfl) (by kernel_rfl) ?_
  · exact RG.cert_call0 rfl 69 rv0 rfl (fun a w => by kernel_rfl) (F3_c)
  · exact RG.cert_field rfl 56 2 1 rfl 0 0 4 rfl (fun μ a K => K.old 2 (.p 0 0) (List.Mem.head _) (by kernel_rfl)) (fun k w => by kernel_rfl)
  · exact RG.cert_load rfl 0 4 _ rfl rfl (by kernel_rfl) 33 37 rfl (ws y1) rfl (fun μ a K => by have h := K.op 37 1 (List.Mem.head _) rfl; exact h) (by kernel_rfl) u33 i33
  · exact RG.cert_field rfl 56 3 2 rfl 1 0 8 rfl (fun μ a K => K.old 3 (.p 1 0) (List.Mem.tail _ (List.Mem.head _)) (by kernel_rfl)) (fun k w => by kernel_rfl)
  · exact RG.cert_load rfl 1 8 _ rfl rfl (by kernel_rfl) 33 39 rfl (ws z2) rfl (fun μ a K => by have h := K.op 39 3 (List.Mem.head _) rfl; exact h) (by kernel_rfl) u33 i33
  · exact RG.cert_call3 rfl 20 36 38 40 rv0 (fv y1) (fv z2) (fv c3) rfl (fun a w => by kernel_rfl) (fun μ a K => by have h := K.op 36 0 (List.Mem.head _) rfl; exact h) (fun μ a K => by have h := K.op 38 2 (List.Mem.tail _ (List.Mem.head _)) rfl; exact h) (fun μ a K => by have h := K.op 40 4 (List.Mem.tail _ (List.Mem.tail _ (List.Mem.head _))) rfl; exact h) (hc3 ▸ rMul_c C y1 z2)
  · exact RG.cert_alloc 5 rfl rfl _ rfl 33 rfl (fun w => by kernel_rfl)
  · exact RG.cert_put 5 rfl _ rfl 33 (.tmp 8) (.tmp 41) rfl rfl rfl (fun μ a K => by have h := K.op 8 6 (List.Mem.head _) rfl; exact h) (fun μ a K => by have h := K.op 41 5 (List.Mem.tail _ (List.Mem.head _)) rfl; exact h) i33 rfl
  intro new8 w8 hl8 hS8
  obtain ⟨j8, rfl⟩ := RG.len1 hl8
  repeat refine wp_seq ?_
  refine RG.region_draws (by kernel_rfl) (its := F39c_10i x1 y1 z1 x2 y2 z2 c1 c2 c3 c4) (bl := F39c_10b x1 y1 z1 x2 y2 z2 c1 c2 c3 c4) (olds := F39c_10o x1 y1 z1 x2 y2 z2 c1 c2 c3 c4) hS8 (RG.Reg.mk' (by kernel_rfl) ⟨by kernel_rfl, by kernel_rfl, trivial⟩ ⟨?_, ?_, ?_, ?_, ?_, ?_, ?_, ?_, trivial⟩) (by kernel_rfl) (by kernel_rfl) (by kernel_rfl) ?_
  · exact RG.cert_call0 rfl 69 rv0 rfl (fun a w => by kernel_rfl) (F3_c)
  · exact RG.cert_field rfl 56 2 0 rfl 0 0 0 rfl (fun μ a K => K.old 2 (.p 0 0) (List.Mem.head _) (by kernel_rfl)) (fun k w => by kernel_rfl)
  · exact RG.cert_load rfl 0 0 _ rfl rfl (by kernel_rfl) 33 43 rfl (ws x1) rfl (fun μ a K => by have h := K.op 43 1 (List.Mem.head _) rfl; exact h) (by kernel_rfl) u33 i33
  · exact RG.cert_field rfl 56 3 2 rfl 1 0 8 rfl (fun μ a K => K.old 3 (.p 1 0) (List.Mem.tail _ (List.Mem.head _)) (by kernel_rfl)) (fun k w => by kernel_rfl)
  · exact RG.cert_load rfl 1 8 _ rfl rfl (by kernel_rfl) 33 45 rfl (ws z2) rfl (fun μ a K => by have h := K.op 45 3 (List.Mem.head _) rfl; exact h) (by kernel_rfl) u33 i33
  · exact RG.cert_call3 rfl 20 42 44 46 rv0 (fv x1) (fv z2) (fv c4) rfl (fun a w => by kernel_rfl) (fun μ a K => by have h := K.op 42 0 (List.Mem.head _) rfl; exact h) (fun μ a K => by have h := K.op 44 2 (List.Mem.tail _ (List.Mem.head _)) rfl; exact h) (fun μ a K => by have h := K.op 46 4 (List.Mem.tail _ (List.Mem.tail _ (List.Mem.head _))) rfl; exact h) (hc4 ▸ rMul_c C x1 z2)
  · exact RG.cert_alloc 6 rfl rfl _ rfl 33 rfl (fun w => by kernel_rfl)
  · exact RG.cert_put 6 rfl _ rfl 33 (.tmp 9) (.tmp 47) rfl rfl rfl (fun μ a K => by have h := K.op 9 6 (List.Mem.head _) rfl; exact h) (fun μ a K => by have h := K.op 47 5 (List.Mem.tail _ (List.Mem.head _)) rfl; exact h) i33 rfl
  intro new9 w9 hl9 hS9
  obtain ⟨j9, rfl⟩ := RG.len1 hl9
  repeat refine wp_seq ?_
  refine RG.region_text (its := F39c_11i x1 y1 z1 x2 y2 z2 c1 c2 c3 c4) (bl := F39c_11b x1 y1 z1 x2 y2 z2 c1 c2 c3 c4) (olds := F39c_11o x1 y1 z1 x2 y2 z2 c1 c2 c3 c4) hS9 (RG.Reg.mk' (by kernel_rfl) ⟨by kernel_rfl, by kernel_rfl, trivial⟩ ⟨?_, ?_, ?_, trivial⟩) (by kernel_rfl) (by kernel_rfl) (by kernel_rfl) ?_
  · exact RG.cert_load rfl 4 0 _ rfl rfl (by kernel_rfl) 33 7 rfl (ws c2) rfl (fun μ a K => K.old 7 (.p 4 0) (List.Mem.head _) (by kernel_rfl)) (by kernel_rfl) u33 i33
  · exact RG.cert_load rfl 6 0 _ rfl rfl (by kernel_rfl) 33 9 rfl (ws c4) rfl (fun μ a K => K.old 9 (.p 6 0) (List.Mem.tail _ (List.Mem.head _)) (by kernel_rfl)) (by kernel_rfl) u33 i33
  · exact RG.cert_bin rfl .eql 33 33 48 49 (fv c2) (fv c4) (.bool true) rfl rfl (fun μ a K => by have h := K.op 48 0 (List.Mem.head _) rfl; exact h) (fun μ a K => by have h := K.op 49 1 (List.Mem.tail _ (List.Mem.head _)) rfl; exact h) (fun w => by kernel_rfl) (eqR_t C.toFld (by subst_vars; exact hv))
  intro new10 w10 hl10 hS10
  obtain rfl := RG.len0 hl10
  repeat refine wp_seq ?_
  refine wp_cond_true (by kernel_rfl) ?_
  repeat refine wp_seq ?_
  refine RG.region_text (its := F39c_12i x1 y1 z1 x2 y2 z2 c1 c2 c3 c4) (bl := F39c_12b x1 y1 z1 x2 y2 z2 c1 c2 c3 c4) (olds := F39c_12o x1 y1 z1 x2 y2 z2 c1 c2 c3 c4) hS10 (RG.Reg.mk' (by kernel_rfl) ⟨by kernel_rfl, by kernel_rfl, trivial⟩ ⟨?_, ?_, ?_, ?_, ?_, ?_, ?_, trivial⟩) (by kernel_rfl) (by kernel_rfl) (by kernel_rfl) ?_
  · exact RG.cert_load rfl 3 0 _ rfl rfl (by kernel_rfl) 33 6 rfl (ws c1) rfl (fun μ a K => K.old 6 (.p 3 0) (List.Mem.head _) (by kernel_rfl)) (by kernel_rfl) u33 i33
  · exact RG.cert_load rfl 5 0 _ rfl rfl (by kernel_rfl) 33 8 rfl (ws c3) rfl (fun μ a K => K.old 8 (.p 5 0) (List.Mem.tail _ (List.Mem.head _)) (by kernel_rfl)) (by kernel_rfl) u33 i33
  · exact RG.cert_bin rfl .neq 33 33 51 52 (fv c1) (fv c3) (.bool true) rfl rfl (fun μ a K => by have h := K.op 51 0 (List.Mem.head _) rfl; exact h) (fun μ a K => by have h := K.op 52 1 (List.Mem.tail _ (List.Mem.head _)) rfl; exact h) (fun w => by kernel_rfl) (neR_t C.toFld (by subst_vars; exact hu))
  · exact RG.cert_move rfl 53 (Or.inl rfl) (fun μ a K => by have h := K.op 53 2 (List.Mem.head _) rfl; exact h)
  · exact RG.cert_pass rfl rfl
  · exact RG.cert_pass rfl rfl
  · exact RG.cert_pick_ct rfl 54 _ _ rfl (fun μ a K => by have h := K.op 54 3 (List.Mem.head _) rfl; exact h) rfl
  intro new11 w11 hl11 hS11
  obtain rfl := RG.len0 hl11
  repeat refine wp_seq ?_
  refine wp_cond_true (by kernel_rfl) ?_
  repeat refine wp_seq ?_
  refine RG.region_text (its := F39c_13i x1 y1 z1 x2 y2 z2 c1 c2 c3 c4) (bl := F39c_13b x1 y1 z1 x2 y2 z2 c1 c2 c3 c4) (olds := F39c_13o x1 y1 z1 x2 y2 z2 c1 c2 c3 c4) hS11 (RG.Reg.mk' (by kernel_rfl) ⟨by kernel_rfl, trivial⟩ ⟨?_, ?_, trivial⟩) (by kernel_rfl) (by kernel_rfl) (by kernel_rfl) ?_
  · exact RG.cert_call0 rfl 68 (rv (0 : Fin P) (1 : Fin P) (0 : Fin P)) rfl (fun a w => by kernel_rfl) (None_c C)
  · exact RG.cert_put 2 rfl _ rfl 56 (.tmp 4) (.tmp 58) rfl rfl rfl (fun μ a K => K.old 4 (.p 2 0) (List.Mem.head _) (by kernel_rfl)) (fun μ a K => by have h := K.op 58 0 (List.Mem.head _) rfl; exact h) i56 rfl
  intro new12 w12 hl12 hS12
  obtain rfl := RG.len0 hl12
  refine wp_ret ?_
  refine bodyPost_ret (v := (rv (0 : Fin P) (1 : Fin P) (0 : Fin P))) (RG.results_row hS12 4 56 rfl 2 _ rfl (by kernel_rfl) u56 i56) (by kernel_rfl) ?_
  exact ⟨_, rfl, hS12.bel.below, rfl⟩

def F39d_0i (x1 y1 z1 x2 y2 z2 c1 c2 c3 c4 c5 c6 c7 : Fin P) : List RG.It := [⟨some 2, [], (.p 0 0), .make 0⟩,
  ⟨some 3, [], (.p 1 0), .make 1⟩,
  ⟨some 4, [], (.p 2 0), .make 2⟩]
def F39d_0b (x1 y1 z1 x2 y2 z2 c1 c2 c3 c4 c5 c6 c7 : Fin P) : List RG.Bl := [⟨(ws x1 ++ (ws y1 ++ (ws z1))), (ws x1 ++ (ws y1 ++ (ws z1))), some 0, none⟩, ⟨(ws x2 ++ (ws y2 ++ (ws z2))), (ws x2 ++ (ws y2 ++ (ws z2))), some 1, none⟩, ⟨[.int .u64 0, .int .u64 0, .int .u64 0, .int .u64 0, .int .u64 0, .int .u64 0, .int .u64 0, .int .u64 0, .int .u64 0, .int .u64 0, .int .u64 0, .int .u64 0], [.int .u64 0, .int .u64 0, .int .u64 0, .int .u64 0, .int .u64 0, .int .u64 0, .int .u64 0, .int .u64 0, .int .u64 0, .int .u64 0, .int .u64 0, .int .u64 0], some 2, none⟩]
def F39d_0o (x1 y1 z1 x2 y2 z2 c1 c2 c3 c4 c5 c6 c7 : Fin P) : List (Tmp × RG.SV) := [(0, (.v (rv x1 y1 z1))), (1, (.v (rv x2 y2 z2)))]
def F39d_1i (x1 y1 z1 x2 y2 z2 c1 c2 c3 c4 c5 c6 c7 : Fin P) : List RG.It := [⟨some 16, [], (.v (rv x1 y1 z1)), .stay⟩,
  ⟨some 17, [(16, 0)], (.v (.bool false)), .call⟩,
  ⟨some 5, [(17, 1)], (.v (.bool false)), .stay⟩]
def F39d_1b (x1 y1 z1 x2 y2 z2 c1 c2 c3 c4 c5 c6 c7 : Fin P) : List RG.Bl := [⟨(ws x1 ++ (ws y1 ++ (ws z1))), (ws x1 ++ (ws y1 ++ (ws z1))), none, none⟩, ⟨(ws x2 ++ (ws y2 ++ (ws z2))), (ws x2 ++ (ws y2 ++ (ws z2))), none, none⟩, ⟨[.int .u64 0, .int .u64 0, .int .u64 0, .int .u64 0, .int .u64 0, .int .u64 0, .int .u64 0, .int .u64 0, .int .u64 0, .int .u64 0, .int .u64 0, .int .u64 0], [.int .u64 0, .int .u64 0, .int .u64 0, .int .u64 0, .int .u64 0, .int .u64 0, .int .u64 0, .int .u64 0, .int .u64 0, .int .u64 0, .int .u64 0, .int .u64 0], none, none⟩]
def F39d_1o (x1 y1 z1 x2 y2 z2 c1 c2 c3 c4 c5 c6 c7 : Fin P) : List (Tmp × RG.SV) := [(2, (.p 0 0))]
def F39d_2i (x1 y1 z1 x2 y2 z2 c1 c2 c3 c4 c5 c6 c7 : Fin P) : List RG.It := [⟨some 18, [], (.v (.bool false)), .stay⟩]
def F39d_2b (x1 y1 z1 x2 y2 z2 c1 c2 c3 c4 c5 c6 c7 : Fin P) : List RG.Bl := [⟨(ws x1 ++ (ws y1 ++ (ws z1))), (ws x1 ++ (ws y1 ++ (ws z1))), none, none⟩, ⟨(ws x2 ++ (ws y2 ++ (ws z2))), (ws x2 ++ (ws y2 ++ (ws z2))), none, none⟩, ⟨[.int .u64 0, .int .u64 0, .int .u64 0, .int .u64 0, .int .u64 0, .int .u64 0, .int .u64 0, .int .u64 0, .int .u64 0, .int .u64 0, .int .u64 0, .int .u64 0], [.int .u64 0, .int .u64 0, .int .u64 0, .int .u64 0, .int .u64 0, .int .u64 0, .int .u64 0, .int .u64 0, .int .u64 0, .int .u64 0, .int .u64 0, .int .u64 0], none, none⟩]
def F39d_2o (x1 y1 z1 x2 y2 z2 c1 c2 c3 c4 c5 c6 c7 : Fin P) : List (Tmp × RG.SV) := [(5, (.v (.bool false)))]
def F39d_4i (x1 y1 z1 x2 y2 z2 c1 c2 c3 c4 c5 c6 c7 : Fin P) : List RG.It := [⟨some 20, [], (.v (rv x2 y2 z2)), .stay⟩,
  ⟨some 21, [(20, 0)], (.v (.bool false)), .call⟩,
  ⟨some 5, [(21, 1)], (.v (.bool false)), .stay⟩]
def F39d_4b (x1 y1 z1 x2 y2 z2 c1 c2 c3 c4 c5 c6 c7 : Fin P) : List RG.Bl := [⟨(ws x1 ++ (ws y1 ++ (ws z1))), (ws x1 ++ (ws y1 ++ (ws z1))), none, none⟩, ⟨(ws x2 ++ (ws y2 ++ (ws z2))), (ws x2 ++ (ws y2 ++ (ws z2))), none, none⟩, ⟨[.int .u64 0, .int .u64 0, .int .u64 0, .int .u64 0, .int .u64 0, .int .u64 0, .int .u64 0, .int .u64 0, .int .u64 0, .int .u64 0, .int .u64 0, .int .u64 0], [.int .u64 0, .int .u64 0, .int .u64 0, .int .u64 0, .int .u64 0, .int .u64 0, .int .u64 0, .int .u64 0, .int .u64 0, .int .u64 0, .int .u64 0, .int .u64 0], none, none⟩]
def F39d_4o (x1 y1 z1 x2 y2 z2 c1 c2 c3 c4 c5 c6 c7 : Fin P) : List (Tmp × RG.SV) := [(3, (.p 1 0))]
def F39d_5i (x1 y1 z1 x2 y2 z2 c1 c2 c3 c4 c5 c6 c7 : Fin P) : List RG.It := [⟨some 22, [], (.v (.bool false)), .stay⟩]
def F39d_5b (x1 y1 z1 x2 y2 z2 c1 c2 c3 c4 c5 c6 c7 : Fin P) : List RG.Bl := [⟨(ws x1 ++ (ws y1 ++ (ws z1))), (ws x1 ++ (ws y1 ++ (ws z1))), none, none⟩, ⟨(ws x2 ++ (ws y2 ++ (ws z2))), (ws x2 ++ (ws y2 ++ (ws z2))), none, none⟩, ⟨[.int .u64 0, .int .u64 0, .int .u64 0, .int .u64 0, .int .u64 0, .int .u64 0, .int .u64 0, .int .u64 0, .int .u64 0, .int .u64 0, .int .u64 0, .int .u64 0], [.int .u64 0, .int .u64 0, .int .u64 0, .int .u64 0, .int .u64 0, .int .u64 0, .int .u64 0, .int .u64 0, .int .u64 0, .int .u64 0, .int .u64 0, .int .u64 0], none, none⟩]
def F39d_5o (x1 y1 z1 x2 y2 z2 c1 c2 c3 c4 c5 c6 c7 : Fin P) : List (Tmp × RG.SV) := [(5, (.v (.bool false)))]
def F39d_7i (x1 y1 z1 x2 y2 z2 c1 c2 c3 c4 c5 c6 c7 : Fin P) : List RG.It := [⟨some 24, [], (.v rv0), .call⟩,
  ⟨some 25, [], (.p 1 4), .stay⟩,
  ⟨some 26, [(25, 1)], (.v (fv y2)), .stay⟩,
  ⟨some 27, [], (.p 0 8), .stay⟩,
  ⟨some 28, [(27, 3)], (.v (fv z1)), .stay⟩,
  ⟨some 29, [(24, 0), (26, 2), (28, 4)], (.v (fv c1)), .call⟩,
  ⟨some 6, [], (.p 3 0), .make 3⟩,
  ⟨none, [(6, 6), (29, 5)], (.v undef), .put 3⟩]
def F39d_7b (x1 y1 z1 x2 y2 z2 c1 c2 c3 c4 c5 c6 c7 : Fin P) : List RG.Bl := [⟨(ws x1 ++ (ws y1 ++ (ws z1))), (ws x1 ++ (ws y1 ++ (ws z1))), none, none⟩, ⟨(ws x2 ++ (ws y2 ++ (ws z2))), (ws x2 ++ (ws y2 ++ (ws z2))), none, none⟩, ⟨[.int .u64 0, .int .u64 0, .int .u64 0, .int .u64 0, .int .u64 0, .int .u64 0, .int .u64 0, .int .u64 0, .int .u64 0, .int .u64 0, .int .u64 0, .int .u64 0], [.int .u64 0, .int .u64 0, .int .u64 0, .int .u64 0, .int .u64 0, .int .u64 0, .int .u64 0, .int .u64 0, .int .u64 0, .int .u64 0, .int .u64 0, .int .u64 0], none, none⟩, ⟨[.int .u64 0, .int .u64 0, .int .u64 0, .int .u64 0], (ws c1), some 6, some 7⟩]
def F39d_7o (x1 y1 z1 x2 y2 z2 c1 c2 c3 c4 c5 c6 c7 : Fin P) : List (Tmp × RG.SV) := [(3, (.p 1 0)), (2, (.p 0 0))]
def F39d_8i (x1 y1 z1 x2 y2 z2 c1 c2 c3 c4 c5 c6 c7 : Fin P) : List RG.It := [⟨some 30, [], (.v rv0), .call⟩,
  ⟨some 31, [], (.p 1 0), .stay⟩,
  ⟨some 32, [(31, 1)], (.v (fv x2)), .stay⟩,
  ⟨some 33, [], (.p 0 8), .stay⟩,
  ⟨some 34, [(33, 3)], (.v (fv z1)), .stay⟩,
  ⟨some 35, [(30, 0), (32, 2), (34, 4)], (.v (fv c2)), .call⟩,
  ⟨some 7, [], (.p 4 0), .make 4⟩,
  ⟨none, [(7, 6), (35, 5)], (.v undef), .put 4⟩]
def F39d_8b (x1 y1 z1 x2 y2 z2 c1 c2 c3 c4 c5 c6 c7 : Fin P) : List RG.Bl := [⟨(ws x1 ++ (ws y1 ++ (ws z1))), (ws x1 ++ (ws y1 ++ (ws z1))), none, none⟩, ⟨(ws x2 ++ (ws y2 ++ (ws z2))), (ws x2 ++ (ws y2 ++ (ws z2))), none, none⟩, ⟨[.int .u64 0, .int .u64 0, .int .u64 0, .int .u64 0, .int .u64 0, .int .u64 0, .int .u64 0, .int .u64 0, .int .u64 0, .int .u64 0, .int .u64 0, .int .u64 0], [.int .u64 0, .int .u64 0, .int .u64 0, .int .u64 0, .int .u64 0, .int .u64 0, .int .u64 0, .int .u64 0, .int .u64 0, .int .u64 0, .int .u64 0, .int .u64 0], none, none⟩, ⟨(ws c1), (ws c1), none, none⟩, ⟨[.int .u64 0, .int .u64 0, .int .u64 0, .int .u64 0], (ws c2), some 6, some 7⟩]
def F39d_8o (x1 y1 z1 x2 y2 z2 c1 c2 c3 c4 c5 c6 c7 : Fin P) : List (Tmp × RG.SV) := [(3, (.p 1 0)), (2, (.p 0 0))]
def F39d_9i (x1 y1 z1 x2 y2 z2 c1 c2 c3 c4 c5 c6 c7 : Fin P) : List RG.It := [⟨some 36, [], (.v rv0), .call⟩,
  ⟨some 37, [], (.p 0 4), .stay⟩,
  ⟨some 38, [(37, 1)], (.v (fv y1)), .stay⟩,
  ⟨some 39, [], (.p 1 8), .stay⟩,
  ⟨some 40, [(39, 3)], (.v (fv z2)), .stay⟩,
  ⟨some 41, [(36, 0), (38, 2), (40, 4)], (.v (fv c3)), .call⟩,
  ⟨some 8, [], (.p 5 0), .make 5⟩,
  ⟨none, [(8, 6), (41, 5)], (.v undef), .put 5⟩]
def F39d_9b (x1 y1 z1 x2 y2 z2 c1 c2 c3 c4 c5 c6 c7 : Fin P) : List RG.Bl := [⟨(ws x1 ++ (ws y1 ++ (ws z1))), (ws x1 ++ (ws y1 ++ (ws z1))), none, none⟩, ⟨(ws x2 ++ (ws y2 ++ (ws z2))), (ws x2 ++ (ws y2 ++ (ws z2))), none, none⟩, ⟨[.int .u64 0, .int .u64 0, .int .u64 0, .int .u64 0, .int .u64 0, .int .u64 0, .int .u64 0, .int .u64 0, .int .u64 0, .int .u64 0, .int .u64 0, .int .u64 0], [.int .u64 0, .int .u64 0, .int .u64 0, .int .u64 0, .int .u64 0, .int .u64 0, .int .u64 0, .int .u64 0, .int .u64 0, .int .u64 0, .int .u64 0, .int .u64 0], none, none⟩, ⟨(ws c1), (ws c1), none, none⟩, ⟨(ws c2), (ws c2), none, none⟩, ⟨[.int .u64 0, .int .u64 0, .int .u64 0, .int .u64 0], (ws c3), some 6, some 7⟩]
def F39d_9o (x1 y1 z1 x2 y2 z2 c1 c2 c3 c4 c5 c6 c7 : Fin P) : List (Tmp × RG.SV) := [(2, (.p 0 0)), (3, (.p 1 0))]
def F39d_10i (x1 y1 z1 x2 y2 z2 c1 c2 c3 c4 c5 c6 c7 : Fin P) : List RG.It := [⟨some 42, [], (.v rv0), .call⟩,
  ⟨some 43, [], (.p 0 0), .stay⟩,
  ⟨some 44, [(43, 1)], (.v (fv x1)), .stay⟩,
  ⟨some 45, [], (.p 1 8), .stay⟩,
  ⟨some 46, [(45, 3)], (.v (fv z2)), .stay⟩,
  ⟨some 47, [(42, 0), (44, 2), (46, 4)], (.v (fv c4)), .call⟩,
  ⟨some 9, [], (.p 6 0), .make 6⟩,
  ⟨none, [(9, 6), (47, 5)], (.v undef), .put 6⟩]
def F39d_10b (x1 y1 z1 x2 y2 z2 c1 c2 c3 c4 c5 c6 c7 : Fin P) : List RG.Bl := [⟨(ws x1 ++ (ws y1 ++ (ws z1))), (ws x1 ++ (ws y1 ++ (ws z1))), none, none⟩, ⟨(ws x2 ++ (ws y2 ++ (ws z2))), (ws x2 ++ (ws y2 ++ (ws z2))), none, none⟩, ⟨[.int .u64 0, .int .u64 0, .int .u64 0, .int .u64 0, .int .u64 0, .int .u64 0, .int .u64 0, .int .u64 0, .int .u64 0, .int .u64 0, .int .u64 0, .int .u64 0], [.int .u64 0, .int .u64 0, .int .u64 0, .int .u64 0, .int .u64 0, .int .u64 0, .int .u64 0, .int .u64 0, .int .u64 0, .int .u64 0, .int .u64 0, .int .u64 0], none, none⟩, ⟨(ws c1), (ws c1), none, none⟩, ⟨(ws c2), (ws c2), none, none⟩, ⟨(ws c3), (ws c3), none, none⟩, ⟨[.int .u64 0, .int .u64 0, .int .u64 0, .int .u64 0], (ws c4), some 6, some 7⟩]
def F39d_10o (x1 y1 z1 x2 y2 z2 c1 c2 c3 c4 c5 c6 c7 : Fin P) : List (Tmp × RG.SV) := [(2, (.p 0 0)), (3, (.p 1 0))]
def F39d_11i (x1 y1 z1 x2 y2 z2 c1 c2 c3 c4 c5 c6 c7 : Fin P) : List RG.It := [⟨some 48, [], (.v (fv c2)), .stay⟩,
  ⟨some 49, [], (.v (fv c4)), .stay⟩,
  ⟨some 50, [(48, 0), (49, 1)], (.v (.bool true)), .stay⟩]
def F39d_11b (x1 y1 z1 x2 y2 z2 c1 c2 c3 c4 c5 c6 c7 : Fin P) : List RG.Bl := [⟨(ws x1 ++ (ws y1 ++ (ws z1))), (ws x1 ++ (ws y1 ++ (ws z1))), none, none⟩, ⟨(ws x2 ++ (ws y2 ++ (ws z2))), (ws x2 ++ (ws y2 ++ (ws z2))), none, none⟩, ⟨[.int .u64 0, .int .u64 0, .int .u64 0, .int .u64 0, .int .u64 0, .int .u64 0, .int .u64 0, .int .u64 0, .int .u64 0, .int .u64 0, .int .u64 0, .int .u64 0], [.int .u64 0, .int .u64 0, .int .u64 0, .int .u64 0, .int .u64 0, .int .u64 0, .int .u64 0, .int .u64 0, .int .u64 0, .int .u64 0, .int .u64 0, .int .u64 0], none, none⟩, ⟨(ws c1), (ws c1), none, none⟩, ⟨(ws c2), (ws c2), none, none⟩, ⟨(ws c3), (ws c3), none, none⟩, ⟨(ws c4), (ws c4), none, none⟩]
def F39d_11o (x1 y1 z1 x2 y2 z2 c1 c2 c3 c4 c5 c6 c7 : Fin P) : List (Tmp × RG.SV) := [(7, (.p 4 0)), (9, (.p 6 0))]
def F39d_12i (x1 y1 z1 x2 y2 z2 c1 c2 c3 c4 c5 c6 c7 : Fin P) : List RG.It := [⟨some 51, [], (.v (fv c1)), .stay⟩,
  ⟨some 52, [], (.v (fv c3)), .stay⟩,
  ⟨some 53, [(51, 0), (52, 1)], (.v (.bool false)), .stay⟩,
  ⟨some 54, [(53, 2)], (.v (.bool false)), .stay⟩,
  ⟨some 55, [], (.v (fv c1)), .stay⟩,
  ⟨some 56, [(55, 4)], (.v (.bool false)), .call⟩,
  ⟨some 57, [(54, 3), (56, 5)], (.v (.bool false)), .stay⟩]
def F39d_12b (x1 y1 z1 x2 y2 z2 c1 c2 c3 c4 c5 c6 c7 : Fin P) : List RG.Bl := [⟨(ws x1 ++ (ws y1 ++ (ws z1))), (ws x1 ++ (ws y1 ++ (ws z1))), none, none⟩, ⟨(ws x2 ++ (ws y2 ++ (ws z2))), (ws x2 ++ (ws y2 ++ (ws z2))), none, none⟩, ⟨[.int .u64 0, .int .u64 0, .int .u64 0, .int .u64 0, .int .u64 0, .int .u64 0, .int .u64 0, .int .u64 0, .int .u64 0, .int .u64 0, .int .u64 0, .int .u64 0], [.int .u64 0, .int .u64 0, .int .u64 0, .int .u64 0, .int .u64 0, .int .u64 0, .int .u64 0, .int .u64 0, .int .u64 0, .int .u64 0, .int .u64 0, .int .u64 0], none, none⟩, ⟨(ws c1), (ws c1), none, none⟩, ⟨(ws c2), (ws c2), none, none⟩, ⟨(ws c3), (ws c3), none, none⟩, ⟨(ws c4), (ws c4), none, none⟩]
def F39d_12o (x1 y1 z1 x2 y2 z2 c1 c2 c3 c4 c5 c6 c7 : Fin P) : List (Tmp × RG.SV) := [(6, (.p 3 0)), (8, (.p 5 0))]
def F39d_14i (x1 y1 z1 x2 y2 z2 c1 c2 c3 c4 c5 c6 c7 : Fin P) : List RG.It := [⟨some 59, [], (.v (rv x1 y1 z1)), .stay⟩,
  ⟨some 60, [(59, 0)], (.v (rv c5 c6 c7)), .call⟩,
  ⟨none, [(60, 1)], (.v undef), .put 2⟩]
def F39d_14b (x1 y1 z1 x2 y2 z2 c1 c2 c3 c4 c5 c6 c7 : Fin P) : List RG.Bl := [⟨(ws x1 ++ (ws y1 ++ (ws z1))), (ws x1 ++ (ws y1 ++ (ws z1))), none, none⟩, ⟨(ws x2 ++ (ws y2 ++ (ws z2))), (ws x2 ++ (ws y2 ++ (ws z2))), none, none⟩, ⟨[.int .u64 0, .int .u64 0, .int .u64 0, .int .u64 0, .int .u64 0, .int .u64 0, .int .u64 0, .int .u64 0, .int .u64 0, .int .u64 0, .int .u64 0, .int .u64 0], (ws c5 ++ (ws c6 ++ (ws c7))), none, some 2⟩, ⟨(ws c1), (ws c1), none, none⟩, ⟨(ws c2), (ws c2), none, none⟩, ⟨(ws c3), (ws c3), none, none⟩, ⟨(ws c4), (ws c4), none, none⟩]
def F39d_14o (x1 y1 z1 x2 y2 z2 c1 c2 c3 c4 c5 c6 c7 : Fin P) : List (Tmp × RG.SV) := [(2, (.p 0 0)), (4, (.p 2 0))]
set_option maxHeartbeats 2000000 in
set_option maxRecDepth 100000 in
theorem rPlus_d_c (C : Fl3 P) (x1 y1 z1 x2 y2 z2 : Fin P)(hz1 : ¬ z1 = 0) (hz2 : ¬ z2 = 0) (hv : x2 * z1 = x1 * z2) (hu : y2 * z1 = y1 * z2) (hn : ¬ y2 * z1 = 0)  : Gives 39 #[(rv x1 y1 z1), (rv x2 y2 z2)] (rv ((EC.fdE y1 z1) * (EC.fdT x1 y1 z1)) ((EC.fdD x1) * (x1 * ((EC.fdE y1 z1) * (EC.fdE y1 z1)) - (EC.fdT x1 y1 z1)) - y1 * ((EC.fdE y1 z1) * (EC.fdE y1 z1) * (EC.fdE y1 z1))) ((EC.fdE y1 z1) * (EC.fdE y1 z1) * (EC.fdE y1 z1) * z1)) := by
  intro w
  obtain ⟨c1, hc1⟩ : ∃ c, c = y2 * z1 := ⟨_, rfl⟩
  obtain ⟨c2, hc2⟩ : ∃ c, c = x2 * z1 := ⟨_, rfl⟩
  obtain ⟨c3, hc3⟩ : ∃ c, c = y1 * z2 := ⟨_, rfl⟩
  obtain ⟨c4, hc4⟩ : ∃ c, c = x1 * z2 := ⟨_, rfl⟩
  obtain ⟨c5, hc5⟩ : ∃ c, c = (EC.fdE y1 z1) * (EC.fdT x1 y1 z1) := ⟨_, rfl⟩
  obtain ⟨c6, hc6⟩ : ∃ c, c = (EC.fdD x1) * (x1 * ((EC.fdE y1 z1) * (EC.fdE y1 z1)) - (EC.fdT x1 y1 z1)) - y1 * ((EC.fdE y1 z1) * (EC.fdE y1 z1) * (EC.fdE y1 z1)) := ⟨_, rfl⟩
  obtain ⟨c7, hc7⟩ : ∃ c, c = (EC.fdE y1 z1) * (EC.fdE y1 z1) * (EC.fdE y1 z1) * z1 := ⟨_, rfl⟩
  have hfin : ((rv c5 c6 c7) : Value) = (rv ((EC.fdE y1 z1) * (EC.fdT x1 y1 z1)) ((EC.fdD x1) * (x1 * ((EC.fdE y1 z1) * (EC.fdE y1 z1)) - (EC.fdT x1 y1 z1)) - y1 * ((EC.fdE y1 z1) * (EC.fdE y1 z1) * (EC.fdE y1 z1))) ((EC.fdE y1 z1) * (EC.fdE y1 z1) * (EC.fdE y1 z1) * z1)) := by
    subst_vars; rfl
  rw [← hfin]
  go_enter Try.func39, Try.ntmps39
  have hS0 := RG.St.begin w
  repeat refine wp_seq ?_
  refine RG.region_text (its := F39d_0i x1 y1 z1 x2 y2 z2 c1 c2 c3 c4 c5 c6 c7) (bl := F39d_0b x1 y1 z1 x2 y2 z2 c1 c2 c3 c4 c5 c6 c7) (olds := F39d_0o x1 y1 z1 x2 y2 z2 c1 c2 c3 c4 c5 c6 c7) hS0 (RG.Reg.mk' (by kernel_rfl) ⟨by kernel_rfl, by kernel_rfl, trivial⟩ ⟨?_, ?_, ?_, trivial⟩) (by kernel_rfl) (by kernel_rfl) (by kernel_rfl) ?_
  · exact RG.cert_box 0 rfl rfl _ rfl 56 0 rfl (rv x1 y1 z1) (fun μ a K => K.old 0 (.v (rv x1 y1 z1)) (List.Mem.head _) (by kernel_rfl)) (fun w => by kernel_rfl)
  · exact RG.cert_box 1 rfl rfl _ rfl 56 1 rfl (rv x2 y2 z2) (fun μ a K => K.old 1 (.v (rv x2 y2 z2)) (List.Mem.tail _ (List.Mem.head _)) (by kernel_rfl)) (fun w => by kernel_rfl)
  · exact RG.cert_alloc 2 rfl rfl _ rfl 56 rfl (fun w => by kernel_rfl)
  intro new1 w1 hl1 hS1
  obtain ⟨j1, i1, m1, rfl⟩ := RG.len3 hl1
  repeat refine wp_seq ?_
  refine RG.region_text (its := F39d_1i x1 y1 z1 x2 y2 z2 c1 c2 c3 c4 c5 c6 c7) (bl := F39d_1b x1 y1 z1 x2 y2 z2 c1 c2 c3 c4 c5 c6 c7) (olds := F39d_1o x1 y1 z1 x2 y2 z2 c1 c2 c3 c4 c5 c6 c7) hS1 (RG.Reg.mk' (by kernel_rfl) ⟨by kernel_rfl, trivial⟩ ⟨?_, ?_, ?_, trivial⟩) (by kernel_rfl) (by kernel_rfl) (by kernel_rfl) ?_
  · exact RG.cert_load rfl 0 0 _ rfl rfl (by kernel_rfl) 56 2 rfl (ws x1 ++ (ws y1 ++ (ws z1))) rfl (fun μ a K => K.old 2 (.p 0 0) (List.Mem.head _) (by kernel_rfl)) (by kernel_rfl) u56 i56
  · exact RG.cert_call1 rfl 78 16 (rv x1 y1 z1) (.bool false) rfl (fun a w => by kernel_rfl) (fun μ a K => by have h := K.op 16 0 (List.Mem.head _) rfl; exact h) (Is_f_c C x1 y1 z1 hz1)
  · exact RG.cert_move rfl 17 (Or.inr rfl) (fun μ a K => by have h := K.op 17 1 (List.Mem.head _) rfl; exact h)
  intro new2 w2 hl2 hS2
  obtain rfl := RG.len0 hl2
  repeat refine wp_seq ?_
  refine RG.region_text (its := F39d_2i x1 y1 z1 x2 y2 z2 c1 c2 c3 c4 c5 c6 c7) (bl := F39d_2b x1 y1 z1 x2 y2 z2 c1 c2 c3 c4 c5 c6 c7) (olds := F39d_2o x1 y1 z1 x2 y2 z2 c1 c2 c3 c4 c5 c6 c7) hS2 (RG.Reg.mk' (by kernel_rfl) ⟨by kernel_rfl, trivial⟩ ⟨?_, trivial⟩) (by kernel_rfl) (by kernel_rfl) (by kernel_rfl) ?_
  · exact RG.cert_move rfl 5 (Or.inl rfl) (fun μ a K => K.old 5 (.v (.bool false)) (List.Mem.head _) (by kernel_rfl))
  intro new3 w3 hl3 hS3
  obtain rfl := RG.len0 hl3
  repeat refine wp_seq ?_
  refine wp_cond_false (by kernel_rfl) ?_
  refine wp_skip ?_
  repeat refine wp_seq ?_
  refine RG.region_text (its := F39d_4i x1 y1 z1 x2 y2 z2 c1 c2 c3 c4 c5 c6 c7) (bl := F39d_4b x1 y1 z1 x2 y2 z2 c1 c2 c3 c4 c5 c6 c7) (olds := F39d_4o x1 y1 z1 x2 y2 z2 c1 c2 c3 c4 c5 c6 c7) hS3 (RG.Reg.mk' (by kernel_rfl) ⟨by kernel_rfl, trivial⟩ ⟨?_, ?_, ?_, trivial⟩) (by kernel_rfl) (by kernel_rfl) (by kernel_rfl) ?_
  · exact RG.cert_load rfl 1 0 _ rfl rfl (by kernel_rfl) 56 3 rfl (ws x2 ++ (ws y2 ++ (ws z2))) rfl (fun μ a K => K.old 3 (.p 1 0) (List.Mem.head _) (by kernel_rfl)) (by kernel_rfl) u56 i56
  · exact RG.cert_call1 rfl 78 20 (rv x2 y2 z2) (.bool false) rfl (fun a w => by kernel_rfl) (fun μ a K => by have h := K.op 20 0 (List.Mem.head _) rfl; exact h) (Is_f_c C x2 y2 z2 hz2)
  · exact RG.cert_move rfl 21 (Or.inr rfl) (fun μ a K => by have h := K.op 21 1 (List.Mem.head _) rfl; exact h)
  intro new4 w4 hl4 hS4
  obtain rfl := RG.len0 hl4
  repeat refine wp_seq ?_
  refine RG.region_text (its := F39d_5i x1 y1 z1 x2 y2 z2 c1 c2 c3 c4 c5 c6 c7) (bl := F39d_5b x1 y1 z1 x2 y2 z2 c1 c2 c3 c4 c5 c6 c7) (olds := F39d_5o x1 y1 z1 x2 y2 z2 c1 c2 c3 c4 c5 c6 c7) hS4 (RG.Reg.mk' (by kernel_rfl) ⟨by kernel_rfl, trivial⟩ ⟨?_, trivial⟩) (by kernel_rfl) (by kernel_rfl) (by kernel_rfl) ?_
  · exact RG.cert_move rfl 5 (Or.inl rfl) (fun μ a K => K.old 5 (.v (.bool false)) (List.Mem.head _) (by kernel_rfl))
  intro new5 w5 hl5 hS5
  obtain rfl := RG.len0 hl5
  repeat refine wp_seq ?_
  refine wp_cond_false (by kernel_rfl) ?_
  refine wp_skip ?_
  repeat refine wp_seq ?_
  refine RG.region_draws (by kernel_rfl) (its := F39d_7i x1 y1 z1 x2 y2 z2 c1 c2 c3 c4 c5 c6 c7) (bl := F39d_7b x1 y1 z1 x2 y2 z2 c1 c2 c3 c4 c5 c6 c7) (olds := F39d_7o x1 y1 z1 x2 y2 z2 c1 c2 c3 c4 c5 c6 c7) hS5 (RG.Reg.mk' (by kernel_rfl) ⟨by kernel_rfl, by kernel_rfl, trivial⟩ ⟨?_, ?_, ?_, ?_, ?_, ?_, ?_, ?_, trivial⟩) (by kernel_rfl) (by kernel_rfl) (by kernel_rfl) ?_
  · exact RG.cert_call0 rfl 69 rv0 rfl (fun a w => by kernel_rfl) (F3_c)
  · exact RG.cert_field rfl 56 3 1 rfl 1 0 4 rfl (fun μ a K => K.old 3 (.p 1 0) (List.Mem.head _) (by kernel_rfl)) (fun k w => by kernel_rfl)
  · exact RG.cert_load rfl 1 4 _ rfl rfl (by kernel_rfl) 33 25 rfl (ws y2) rfl (fun μ a K => by have h := K.op 25 1 (List.Mem.head _) rfl; exact h) (by kernel_rfl) u33 i33
  · exact RG.cert_field rfl 56 2 2 rfl 0 0 8 rfl (fun μ a K => K.old 2 (.p 0 0) (List.Mem.tail _ (List.Mem.head _)) (by kernel_rfl)) (fun k w => by kernel_rfl)
  · exact RG.cert_load rfl 0 8 _ rfl rfl (by kernel_rfl) 33 27 rfl (ws z1) rfl (fun μ a K => by have h := K.op 27 3 (List.Mem.head _) rfl; exact h) (by kernel_rfl) u33 i33
  · exact RG.cert_call3 rfl 20 24 26 28 rv0 (fv y2) (fv z1) (fv c1) rfl (fun a w => by kernel_rfl) (fun μ a K => by have h := K.op 24 0 (List.Mem.head _) rfl; exact h) (fun μ a K => by have h := K.op 26 2 (List.Mem.tail _ (List.Mem.head _)) rfl; exact h) (fun μ a K => by have h := K.op 28 4 (List.Mem.tail _ (List.Mem.tail _ (List.Mem.head _))) rfl; exact h) (hc1 ▸ rMul_c C y2 z1)
  · exact RG.cert_alloc 3 rfl rfl _ rfl 33 rfl (fun w => by kernel_rfl)
  · exact RG.cert_put 3 rfl _ rfl 33 (.tmp 6) (.tmp 29) rfl rfl rfl (fun μ a K => by have h := K.op 6 6 (List.Mem.head _) rfl; exact h) (fun μ a K => by have h := K.op 29 5 (List.Mem.tail _ (List.Mem.head _)) rfl; exact h) i33 rfl
  intro new6 w6 hl6 hS6
  obtain ⟨j6, rfl⟩ := RG.len1 hl6
  repeat refine wp_seq ?_
  refine RG.region_draws (by kernel_rfl) (its := F39d_8i x1 y1 z1 x2 y2 z2 c1 c2 c3 c4 c5 c6 c7) (bl := F39d_8b x1 y1 z1 x2 y2 z2 c1 c2 c3 c4 c5 c6 c7) (olds := F39d_8o x1 y1 z1 x2 y2 z2 c1 c2 c3 c4 c5 c6 c7) hS6 (RG.Reg.mk' (by kernel_rfl) ⟨by kernel_rfl, by kernel_rfl, trivial⟩ ⟨?_, ?_, ?_, ?_, ?_, ?_, ?_, ?_, trivial⟩) (by kernel_rfl) (by kernel_rfl) (by kernel_rfl) ?_
  · exact RG.cert_call0 rfl 69 rv0 rfl (fun a w => by kernel_rfl) (F3_c)
  · exact RG.cert_field rfl 56 3 0 rfl 1 0 0 rfl (fun μ a K => K.old 3 (.p 1 0) (List.Mem.head _) (by kernel_rfl)) (fun k w => by kernel_rfl)
  · exact RG.cert_load rfl 1 0 _ rfl rfl (by kernel_rfl) 33 31 rfl (ws x2) rfl (fun μ a K => by have h := K.op 31 1 (List.Mem.head _) rfl; exact h) (by kernel_rfl) u33 i33
  · exact RG.cert_field rfl 56 2 2 rfl 0 0 8 rfl (fun μ a K => K.old 2 (.p 0 0) (List.Mem.tail _ (List.Mem.head _)) (by kernel_rfl)) (fun k w => by kernel_rfl)
  · exact RG.cert_load rfl 0 8 _ rfl rfl (by kernel_rfl) 33 33 rfl (ws z1) rfl (fun μ a K => by have h := K.op 33 3 (List.Mem.head _) rfl; exact h) (by kernel_rfl) u33 i33
  · exact RG.cert_call3 rfl 20 30 32 34 rv0 (fv x2) (fv z1) (fv c2) rfl (fun a w => by kernel_rfl) (fun μ a K => by have h := K.op 30 0 (List.Mem.head _) rfl; exact h) (fun μ a K => by have h := K.op 32 2 (List.Mem.tail _ (List.Mem.head _)) rfl; exact h) (fun μ a K => by have h := K.op 34 4 (List.Mem.tail _ (List.Mem.tail _ (List.Mem.head _))) rfl; exact h) (hc2 ▸ rMul_c C x2 z1)
  · exact RG.cert_alloc 4 rfl rfl _ rfl 33 rfl (fun w => by kernel_rfl)
  · exact RG.cert_put 4 rfl _ rfl 33 (.tmp 7) (.tmp 35) rfl rfl rfl (fun μ a K => by have h := K.op 7 6 (List.Mem.head _) rfl; exact h) (fun μ a K => by have h := K.op 35 5 (List.Mem.tail _ (List.Mem.head _)) rfl; exact h) i33 rfl
  intro new7 w7 hl7 hS7
  obtain ⟨j7, rfl⟩ := RG.len1 hl7
  repeat refine wp_seq ?_
  refine RG.region_draws (by kernel_rfl) (its := F39d_9i x1 y1 z1 x2 y2 z2 c1 c2 c3 c4 c5 c6 c7) (bl := F39d_9b x1 y1 z1 x2 y2 z2 c1 c2 c3 c4 c5 c6 c7) (olds := F39d_9o x1 y1 z1 x2 y2 z2 c1 c2 c3 c4 c5 c6 c7) hS7 (RG.Reg.mk' (by kernel_rfl) ⟨by kernel_rfl, by kernel_rfl, trivial⟩ ⟨?_, ?_, ?_, ?_, ?_, ?_, ?_, ?_, trivial⟩) (by kernel_rfl) (by kernel_rfl) (by kernel_rfl) ?_
  · exact RG.cert_call0 rfl 69 rv0 rfl (fun a w => by kernel_rfl) (F3_c)
  · exact RG.cert_field rfl 56 2 1 rfl 0 0 4 rfl (fun μ a K => K.old 2 (.p 0 0) (List.Mem.head _) (by kernel_rfl)) (fun k w => by kernel_rfl)
  · exact RG.cert_load rfl 0 4 _ rfl rfl (by kernel_rfl) 33 37 rfl (ws y1) rfl (fun μ a K => by have h := K.op 37 1 (List.Mem.head _) rfl; exact h) (by kernel_rfl) u33 i33
  · exact RG.cert_field rfl 56 3 2 rfl 1 0 8 rfl (fun μ a K => K.old 3 (.p 1 0) (List.Mem.tail _ (List.Mem.head _)) (by kernel_rfl)) (fun k w => by kernel_rfl)
  · exact RG.cert_load rfl 1 8 _ rfl rfl (by kernel_rfl) 33 39 rfl (ws z2) rfl (fun μ a K => by have h := K.op 39 3 (List.Mem.head _) rfl; exact h) (by kernel_rfl) u33 i33
  · exact RG.cert_call3 rfl 20 36 38 40 rv0 (fv y1) (fv z2) (fv c3) rfl (fun a w => by kernel_rfl) (fun μ a K => by have h := K.op 36 0 (List.Mem.head _) rfl; exact h) (fun μ a K => by have h := K.op 38 2 (List.Mem.tail _ (List.Mem.head _)) rfl; exact h) (fun μ a K => by have h := K.op 40 4 (List.Mem.tail _ (List.Mem.tail _ (List.Mem.head _))) rfl; exact h) (hc3 ▸ rMul_c C y1 z2)
  · exact RG.cert_alloc 5 rfl rfl _ rfl 33 rfl (fun w => by kernel_rfl)
  · exact RG.cert_put 5 rfl _ rfl 33 (.tmp 8) (.tmp 41) rfl rfl rfl (fun μ a K => by have h := K.op 8 6 (List.Mem.head _) rfl; exact h) (fun μ a K => by have h := K.op 41 5 (List.Mem.tail _ (List.Mem.head _)) rfl; exact h) i33 rfl
  intro new8 w8 hl8 hS8
  obtain ⟨j8, rfl⟩ := RG.len1 hl8
  repeat refine wp_seq ?_
  refine RG.region_draws (by kernel_rfl) (its := F39d_10i x1 y1 z1 x2 y2 z2 c1 c2 c3 c4 c5 c6 c7) (bl := F39d_10b x1 y1 z1 x2 y2 z2 c1 c2 c3 c4 c5 c6 c7) (olds := F39d_10o x1 y1 z1 x2 y2 z2 c1 c2 c3 c4 c5 c6 c7) hS8 (RG.Reg.mk' (by kernel_rfl) ⟨by kernel_rfl, by kernel_rfl, trivial⟩ ⟨?_, ?_, ?_, ?_, ?_, ?_, ?_, ?_, trivial⟩) (by kernel_rfl) (by kernel_rfl) (by kernel_rfl) ?_
  · exact RG.cert_call0 rfl 69 rv0 rfl (fun a w => by kernel_rfl) (F3_c)
  · exact RG.cert_field rfl 56 2 0 rfl 0 0 0 rfl (fun μ a K => K.old 2 (.p 0 0) (List.Mem.head _) (by kernel_rfl)) (fun k w => by kernel_rfl)
  · exact RG.cert_load rfl 0 0 _ rfl rfl (by kernel_rfl) 33 43 rfl (ws x1) rfl (fun μ a K => by have h := K.op 43 1 (List.Mem.head _) rfl; exact h) (by kernel_rfl) u33 i33
  · exact RG.cert_field rfl 56 3 2 rfl 1 0 8 rfl (fun μ a K => K.old 3 (.p 1 0) (List.Mem.tail _ (List.Mem.head _)) (by kernel_rfl)) (fun k w => by kernel_rfl)
  · exact RG.cert_load rfl 1 8 _ rfl rfl (by kernel_rfl) 33 45 rfl (ws z2) rfl (fun μ a K => by have h := K.op 45 3 (List.Mem.head _) rfl; exact h) (by kernel_rfl) u33 i33
  · exact RG.cert_call3 rfl 20 42 44 46 rv0 (fv x1) (fv z2) (fv c4) rfl (fun a w => by kernel_rfl) (fun μ a K => by have h := K.op 42 0 (List.Mem.head _) rfl; exact h) (fun μ a K => by have h := K.op 44 2 (List.Mem.tail _ (List.Mem.head _)) rfl; exact h) (fun μ a K => by have h := K.op 46 4 (List.Mem.tail _ (List.Mem.tail _ (List.Mem.head _))) rfl; exact h) (hc4 ▸ rMul_c C x1 z2)
  · exact RG.cert_alloc 6 rfl rfl _ rfl 33 rfl (fun w => by kernel_rfl)
  · exact RG.cert_put 6 rfl _ rfl 33 (.tmp 9) (.tmp 47) rfl rfl rfl (fun μ a K => by have h := K.op 9 6 (List.Mem.head _) rfl; exact h) (fun μ a K => by have h := K.op 47 5 (List.Mem.tail _ (List.Mem.head _)) rfl; exact h) i33 rfl
  intro new9 w9 hl9 hS9
  obtain ⟨j9, rfl⟩ := RG.len1 hl9
  repeat refine wp_seq ?_
  refine RG.region_text (its := F39d_11i x1 y1 z1 x2 y2 z2 c1 c2 c3 c4 c5 c6 c7) (bl := F39d_11b x1 y1 z1 x2 y2 z2 c1 c2 c3 c4 c5 c6 c7) (olds := F39d_11o x1 y1 z1 x2 y2 z2 c1 c2 c3 c4 c5 c6 c7) hS9 (RG.Reg.mk' (by kernel_rfl) ⟨by kernel_rfl, by kernel_rfl, trivial⟩ ⟨?_, ?_, ?_, trivial⟩) (by kernel_rfl) (by kernel_rfl) (by kernel_rfl) ?_
  · exact RG.cert_load rfl 4 0 _ rfl rfl (by kernel_rfl) 33 7 rfl (ws c2) rfl (fun μ a K => K.old 7 (.p 4 0) (List.Mem.head _) (by kernel_rfl)) (by kernel_rfl) u33 i33
  · exact RG.cert_load rfl 6 0 _ rfl rfl (by kernel_rfl) 33 9 rfl (ws c4) rfl (fun μ a K => K.old 9 (.p 6 0) (List.Mem.tail _ (List.Mem.head _)) (by kernel_rfl)) (by kernel_rfl) u33 i33
  · exact RG.cert_bin rfl .eql 33 33 48 49 (fv c2) (fv c4) (.bool true) rfl rfl (fun μ a K => by have h := K.op 48 0 (List.Mem.head _) rfl; exact h) (fun μ a K => by have h := K.op 49 1 (List.Mem.tail _ (List.Mem.head _)) rfl; exact h) (fun w => by kernel_rfl) (eqR_t C.toFld (by subst_vars; exact hv))
  intro new10 w10 hl10 hS10
  obtain rfl := RG.len0 hl10
  repeat refine wp_seq ?_
  refine wp_cond_true (by kernel_rfl) ?_
  repeat refine wp_seq ?_
  refine RG.region_text (its := F39d_12i x1 y1 z1 x2 y2 z2 c1 c2 c3 c4 c5 c6 c7) (bl := F39d_12b x1 y1 z1 x2 y2 z2 c1 c2 c3 c4 c5 c6 c7) (olds := F39d_12o x1 y1 z1 x2 y2 z2 c1 c2 c3 c4 c5 c6 c7) hS10 (RG.Reg.mk' (by kernel_rfl) ⟨by kernel_rfl, by kernel_rfl, trivial⟩ ⟨?_, ?_, ?_, ?_, ?_, ?_, ?_, trivial⟩) (by kernel_rfl) (by kernel_rfl) (by kernel_rfl) ?_
  · exact RG.cert_load rfl 3 0 _ rfl rfl (by kernel_rfl) 33 6 rfl (ws c1) rfl (fun μ a K => K.old 6 (.p 3 0) (List.Mem.head _) (by kernel_rfl)) (by kernel_rfl) u33 i33
  · exact RG.cert_load rfl 5 0 _ rfl rfl (by kernel_rfl) 33 8 rfl (ws c3) rfl (fun μ a K => K.old 8 (.p 5 0) (List.Mem.tail _ (List.Mem.head _)) (by kernel_rfl)) (by kernel_rfl) u33 i33
  · exact RG.cert_bin rfl .neq 33 33 51 52 (fv c1) (fv c3) (.bool false) rfl rfl (fun μ a K => by have h := K.op 51 0 (List.Mem.head _) rfl; exact h) (fun μ a K => by have h := K.op 52 1 (List.Mem.tail _ (List.Mem.head _)) rfl; exact h) (fun w => by kernel_rfl) (neR_f C.toFld (by subst_vars; exact hu))
  · exact RG.cert_move rfl 53 (Or.inl rfl) (fun μ a K => by have h := K.op 53 2 (List.Mem.head _) rfl; exact h)
  · exact RG.cert_load rfl 3 0 _ rfl rfl (by kernel_rfl) 33 6 rfl (ws c1) rfl (fun μ a K => K.old 6 (.p 3 0) (List.Mem.head _) (by kernel_rfl)) (by kernel_rfl) u33 i33
  · exact RG.cert_call1 rfl 79 55 (fv c1) (.bool false) rfl (fun a w => by kernel_rfl) (fun μ a K => by have h := K.op 55 4 (List.Mem.head _) rfl; exact h) (rZero_f C (by subst_vars; exact hn))
  · exact RG.cert_pick_cf rfl 54 56 _ rfl (fun μ a K => by have h := K.op 54 3 (List.Mem.head _) rfl; exact h) (fun μ a K => by have h := K.op 56 5 (List.Mem.tail _ (List.Mem.head _)) rfl; exact h)
  intro new11 w11 hl11 hS11
  obtain rfl := RG.len0 hl11
  repeat refine wp_seq ?_
  refine wp_cond_false (by kernel_rfl) ?_
  refine wp_skip ?_
  repeat refine wp_seq ?_
  refine RG.region_text (its := F39d_14i x1 y1 z1 x2 y2 z2 c1 c2 c3 c4 c5 c6 c7) (bl := F39d_14b x1 y1 z1 x2 y2 z2 c1 c2 c3 c4 c5 c6 c7) (olds := F39d_14o x1 y1 z1 x2 y2 z2 c1 c2 c3 c4 c5 c6 c7) hS11 (RG.Reg.mk' (by kernel_rfl) ⟨by kernel_rfl, by kernel_rfl, trivial⟩ ⟨?_, ?_, ?_, trivial⟩) (by kernel_rfl) (by kernel_rfl) (by kernel_rfl) ?_
  · exact RG.cert_load rfl 0 0 _ rfl rfl (by kernel_rfl) 56 2 rfl (ws x1 ++ (ws y1 ++ (ws z1))) rfl (fun μ a K => K.old 2 (.p 0 0) (List.Mem.head _) (by kernel_rfl)) (by kernel_rfl) u56 i56
  · exact RG.cert_call1 rfl 80 59 (rv x1 y1 z1) (rv c5 c6 c7) rfl (fun a w => by kernel_rfl) (fun μ a K => by have h := K.op 59 0 (List.Mem.head _) rfl; exact h) (hc5 ▸ hc6 ▸ hc7 ▸ rdouble_c C x1 y1 z1)
  · exact RG.cert_put 2 rfl _ rfl 56 (.tmp 4) (.tmp 60) rfl rfl rfl (fun μ a K => K.old 4 (.p 2 0) (List.Mem.tail _ (List.Mem.head _)) (by kernel_rfl)) (fun μ a K => by have h := K.op 60 1 (List.Mem.head _) rfl; exact h) i56 rfl
  intro new12 w12 hl12 hS12
  obtain rfl := RG.len0 hl12
  refine wp_ret ?_
  refine bodyPost_ret (v := (rv c5 c6 c7)) (RG.results_row hS12 4 56 rfl 2 _ rfl (by kernel_rfl) u56 i56) (by kernel_rfl) ?_
  exact ⟨_, rfl, hS12.bel.below, rfl⟩

def F39e_0i (x1 y1 z1 x2 y2 z2 c1 c2 c3 c4 c5 c6 c7 c8 c9 c10 c11 c12 c13 c14 c15 c16 c17 c18 c19 c20 c21 c22 : Fin P) : List RG.It := [⟨some 2, [], (.p 0 0), .make 0⟩,
  ⟨some 3, [], (.p 1 0), .make 1⟩,
  ⟨some 4, [], (.p 2 0), .make 2⟩]
def F39e_0b (x1 y1 z1 x2 y2 z2 c1 c2 c3 c4 c5 c6 c7 c8 c9 c10 c11 c12 c13 c14 c15 c16 c17 c18 c19 c20 c21 c22 : Fin P) : List RG.Bl := [⟨(ws x1 ++ (ws y1 ++ (ws z1))), (ws x1 ++ (ws y1 ++ (ws z1))), some 0, none⟩, ⟨(ws x2 ++ (ws y2 ++ (ws z2))), (ws x2 ++ (ws y2 ++ (ws z2))), some 1, none⟩, ⟨[.int .u64 0, .int .u64 0, .int .u64 0, .int .u64 0, .int .u64 0, .int .u64 0, .int .u64 0, .int .u64 0, .int .u64 0, .int .u64 0, .int .u64 0, .int .u64 0], [.int .u64 0, .int .u64 0, .int .u64 0, .int .u64 0, .int .u64 0, .int .u64 0, .int .u64 0, .int .u64 0, .int .u64 0, .int .u64 0, .int .u64 0, .int .u64 0], some 2, none⟩]
def F39e_0o (x1 y1 z1 x2 y2 z2 c1 c2 c3 c4 c5 c6 c7 c8 c9 c10 c11 c12 c13 c14 c15 c16 c17 c18 c19 c20 c21 c22 : Fin P) : List (Tmp × RG.SV) := [(0, (.v (rv x1 y1 z1))), (1, (.v (rv x2 y2 z2)))]
def F39e_1i (x1 y1 z1 x2 y2 z2 c1 c2 c3 c4 c5 c6 c7 c8 c9 c10 c11 c12 c13 c14 c15 c16 c17 c18 c19 c20 c21 c22 : Fin P) : List RG.It := [⟨some 16, [], (.v (rv x1 y1 z1)), .stay⟩,
  ⟨some 17, [(16, 0)], (.v (.bool false)), .call⟩,
  ⟨some 5, [(17, 1)], (.v (.bool false)), .stay⟩]
def F39e_1b (x1 y1 z1 x2 y2 z2 c1 c2 c3 c4 c5 c6 c7 c8 c9 c10 c11 c12 c13 c14 c15 c16 c17 c18 c19 c20 c21 c22 : Fin P) : List RG.Bl := [⟨(ws x1 ++ (ws y1 ++ (ws z1))), (ws x1 ++ (ws y1 ++ (ws z1))), none, none⟩, ⟨(ws x2 ++ (ws y2 ++ (ws z2))), (ws x2 ++ (ws y2 ++ (ws z2))), none, none⟩, ⟨[.int .u64 0, .int .u64 0, .int .u64 0, .int .u64 0, .int .u64 0, .int .u64 0, .int .u64 0, .int .u64 0, .int .u64 0, .int .u64 0, .int .u64 0, .int .u64 0], [.int .u64 0, .int .u64 0, .int .u64 0, .int .u64 0, .int .u64 0, .int .u64 0, .int .u64 0, .int .u64 0, .int .u64 0, .int .u64 0, .int .u64 0, .int .u64 0], none, none⟩]
def F39e_1o (x1 y1 z1 x2 y2 z2 c1 c2 c3 c4 c5 c6 c7 c8 c9 c10 c11 c12 c13 c14 c15 c16 c17 c18 c19 c20 c21 c22 : Fin P) : List (Tmp × RG.SV) := [(2, (.p 0 0))]
def F39e_2i (x1 y1 z1 x2 y2 z2 c1 c2 c3 c4 c5 c6 c7 c8 c9 c10 c11 c12 c13 c14 c15 c16 c17 c18 c19 c20 c21 c22 : Fin P) : List RG.It := [⟨some 18, [], (.v (.bool false)), .stay⟩]
def F39e_2b (x1 y1 z1 x2 y2 z2 c1 c2 c3 c4 c5 c6 c7 c8 c9 c10 c11 c12 c13 c14 c15 c16 c17 c18 c19 c20 c21 c22 : Fin P) : List RG.Bl := [⟨(ws x1 ++ (ws y1 ++ (ws z1))), (ws x1 ++ (ws y1 ++ (ws z1))), none, none⟩, ⟨(ws x2 ++ (ws y2 ++ (ws z2))), (ws x2 ++ (ws y2 ++ (ws z2))), none, none⟩, ⟨[.int .u64 0, .int .u64 0, .int .u64 0, .int .u64 0, .int .u64 0, .int .u64 0, .int .u64 0, .int .u64 0, .int .u64 0, .int .u64 0, .int .u64 0, .int .u64 0], [.int .u64 0, .int .u64 0, .int .u64 0, .int .u64 0, .int .u64 0, .int .u64 0, .int .u64 0, .int .u64 0, .int .u64 0, .int .u64 0, .int .u64 0, .int .u64 0], none, none⟩]
def F39e_2o (x1 y1 z1 x2 y2 z2 c1 c2 c3 c4 c5 c6 c7 c8 c9 c10 c11 c12 c13 c14 c15 c16 c17 c18 c19 c20 c21 c22 : Fin P) : List (Tmp × RG.SV) := [(5, (.v (.bool false)))]
def F39e_4i (x1 y1 z1 x2 y2 z2 c1 c2 c3 c4 c5 c6 c7 c8 c9 c10 c11 c12 c13 c14 c15 c16 c17 c18 c19 c20 c21 c22 : Fin P) : List RG.It := [⟨some 20, [], (.v (rv x2 y2 z2)), .stay⟩,
  ⟨some 21, [(20, 0)], (.v (.bool false)), .call⟩,
  ⟨some 5, [(21, 1)], (.v (.bool false)), .stay⟩]
def F39e_4b (x1 y1 z1 x2 y2 z2 c1 c2 c3 c4 c5 c6 c7 c8 c9 c10 c11 c12 c13 c14 c15 c16 c17 c18 c19 c20 c21 c22 : Fin P) : List RG.Bl := [⟨(ws x1 ++ (ws y1 ++ (ws z1))), (ws x1 ++ (ws y1 ++ (ws z1))), none, none⟩, ⟨(ws x2 ++ (ws y2 ++ (ws z2))), (ws x2 ++ (ws y2 ++ (ws z2))), none, none⟩, ⟨[.int .u64 0, .int .u64 0, .int .u64 0, .int .u64 0, .int .u64 0, .int .u64 0, .int .u64 0, .int .u64 0, .int .u64 0, .int .u64 0, .int .u64 0, .int .u64 0], [.int .u64 0, .int .u64 0, .int .u64 0, .int .u64 0, .int .u64 0, .int .u64 0, .int .u64 0, .int .u64 0, .int .u64 0, .int .u64 0, .int .u64 0, .int .u64 0], none, none⟩]
def F39e_4o (x1 y1 z1 x2 y2 z2 c1 c2 c3 c4 c5 c6 c7 c8 c9 c10 c11 c12 c13 c14 c15 c16 c17 c18 c19 c20 c21 c22 : Fin P) : List (Tmp × RG.SV) := [(3, (.p 1 0))]
def F39e_5i (x1 y1 z1 x2 y2 z2 c1 c2 c3 c4 c5 c6 c7 c8 c9 c10 c11 c12 c13 c14 c15 c16 c17 c18 c19 c20 c21 c22 : Fin P) : List RG.It := [⟨some 22, [], (.v (.bool false)), .stay⟩]
def F39e_5b (x1 y1 z1 x2 y2 z2 c1 c2 c3 c4 c5 c6 c7 c8 c9 c10 c11 c12 c13 c14 c15 c16 c17 c18 c19 c20 c21 c22 : Fin P) : List RG.Bl := [⟨(ws x1 ++ (ws y1 ++ (ws z1))), (ws x1 ++ (ws y1 ++ (ws z1))), none, none⟩, ⟨(ws x2 ++ (ws y2 ++ (ws z2))), (ws x2 ++ (ws y2 ++ (ws z2))), none, none⟩, ⟨[.int .u64 0, .int .u64 0, .int .u64 0, .int .u64 0, .int .u64 0, .int .u64 0, .int .u64 0, .int .u64 0, .int .u64 0, .int .u64 0, .int .u64 0, .int .u64 0], [.int .u64 0, .int .u64 0, .int .u64 0, .int .u64 0, .int .u64 0, .int .u64 0, .int .u64 0, .int .u64 0, .int .u64 0, .int .u64 0, .int .u64 0, .int .u64 0], none, none⟩]
def F39e_5o (x1 y1 z1 x2 y2 z2 c1 c2 c3 c4 c5 c6 c7 c8 c9 c10 c11 c12 c13 c14 c15 c16 c17 c18 c19 c20 c21 c22 : Fin P) : List (Tmp × RG.SV) := [(5, (.v (.bool false)))]
def F39e_7i (x1 y1 z1 x2 y2 z2 c1 c2 c3 c4 c5 c6 c7 c8 c9 c10 c11 c12 c13 c14 c15 c16 c17 c18 c19 c20 c21 c22 : Fin P) : List RG.It := [⟨some 24, [], (.v rv0), .call⟩,
  ⟨some 25, [], (.p 1 4), .stay⟩,
  ⟨some 26, [(25, 1)], (.v (fv y2)), .stay⟩,
  ⟨some 27, [], (.p 0 8), .stay⟩,
  ⟨some 28, [(27, 3)], (.v (fv z1)), .stay⟩,
  ⟨some 29, [(24, 0), (26, 2), (28, 4)], (.v (fv c1)), .call⟩,
  ⟨some 6, [], (.p 3 0), .make 3⟩,
  ⟨none, [(6, 6), (29, 5)], (.v undef), .put 3⟩]
def F39e_7b (x1 y1 z1 x2 y2 z2 c1 c2 c3 c4 c5 c6 c7 c8 c9 c10 c11 c12 c13 c14 c15 c16 c17 c18 c19 c20 c21 c22 : Fin P) : List RG.Bl := [⟨(ws x1 ++ (ws y1 ++ (ws z1))), (ws x1 ++ (ws y1 ++ (ws z1))), none, none⟩, ⟨(ws x2 ++ (ws y2 ++ (ws z2))), (ws x2 ++ (ws y2 ++ (ws z2))), none, none⟩, ⟨[.int .u64 0, .int .u64 0, .int .u64 0, .int .u64 0, .int .u64 0, .int .u64 0, .int .u64 0, .int .u64 0, .int .u64 0, .int .u64 0, .int .u64 0, .int .u64 0], [.int .u64 0, .int .u64 0, .int .u64 0, .int .u64 0, .int .u64 0, .int .u64 0, .int .u64 0, .int .u64 0, .int .u64 0, .int .u64 0, .int .u64 0, .int .u64 0], none, none⟩, ⟨[.int .u64 0, .int .u64 0, .int .u64 0, .int .u64 0], (ws c1), some 6, some 7⟩]
def F39e_7o (x1 y1 z1 x2 y2 z2 c1 c2 c3 c4 c5 c6 c7 c8 c9 c10 c11 c12 c13 c14 c15 c16 c17 c18 c19 c20 c21 c22 : Fin P) : List (Tmp × RG.SV) := [(3, (.p 1 0)), (2, (.p 0 0))]
def F39e_8i (x1 y1 z1 x2 y2 z2 c1 c2 c3 c4 c5 c6 c7 c8 c9 c10 c11 c12 c13 c14 c15 c16 c17 c18 c19 c20 c21 c22 : Fin P) : List RG.It := [⟨some 30, [], (.v rv0), .call⟩,
  ⟨some 31, [], (.p 1 0), .stay⟩,
  ⟨some 32, [(31, 1)], (.v (fv x2)), .stay⟩,
  ⟨some 33, [], (.p 0 8), .stay⟩,
  ⟨some 34, [(33, 3)], (.v (fv z1)), .stay⟩,
  ⟨some 35, [(30, 0), (32, 2), (34, 4)], (.v (fv c2)), .call⟩,
  ⟨some 7, [], (.p 4 0), .make 4⟩,
  ⟨none, [(7, 6), (35, 5)], (.v undef), .put 4⟩]
def F39e_8b (x1 y1 z1 x2 y2 z2 c1 c2 c3 c4 c5 c6 c7 c8 c9 c10 c11 c12 c13 c14 c15 c16 c17 c18 c19 c20 c21 c22 : Fin P) : List RG.Bl := [⟨(ws x1 ++ (ws y1 ++ (ws z1))), (ws x1 ++ (ws y1 ++ (ws z1))), none, none⟩, ⟨(ws x2 ++ (ws y2 ++ (ws z2))), (ws x2 ++ (ws y2 ++ (ws z2))), none, none⟩, ⟨[.int .u64 0, .int .u64 0, .int .u64 0, .int .u64 0, .int .u64 0, .int .u64 0, .int .u64 0, .int .u64 0, .int .u64 0, .int .u64 0, .int .u64 0, .int .u64 0], [.int .u64 0, .int .u64 0, .int .u64 0, .int .u64 0, .int .u64 0, .int .u64 0, .int .u64 0, .int .u64 0, .int .u64 0, .int .u64 0, .int .u64 0, .int .u64 0], none, none⟩, ⟨(ws c1), (ws c1), none, none⟩, ⟨[.int .u64 0, .int .u64 0, .int .u64 0, .int .u64 0], (ws c2), some 6, some 7⟩]
def F39e_8o (x1 y1 z1 x2 y2 z2 c1 c2 c3 c4 c5 c6 c7 c8 c9 c10 c11 c12 c13 c14 c15 c16 c17 c18 c19 c20 c21 c22 : Fin P) : List (Tmp × RG.SV) := [(3, (.p 1 0)), (2, (.p 0 0))]
def F39e_9i (x1 y1 z1 x2 y2 z2 c1 c2 c3 c4 c5 c6 c7 c8 c9 c10 c11 c12 c13 c14 c15 c16 c17 c18 c19 c20 c21 c22 : Fin P) : List RG.It := [⟨some 36, [], (.v rv0), .call⟩,
  ⟨some 37, [], (.p 0 4), .stay⟩,
  ⟨some 38, [(37, 1)], (.v (fv y1)), .stay⟩,
  ⟨some 39, [], (.p 1 8), .stay⟩,
  ⟨some 40, [(39, 3)], (.v (fv z2)), .stay⟩,
  ⟨some 41, [(36, 0), (38, 2), (40, 4)], (.v (fv c3)), .call⟩,
  ⟨some 8, [], (.p 5 0), .make 5⟩,
  ⟨none, [(8, 6), (41, 5)], (.v undef), .put 5⟩]
def F39e_9b (x1 y1 z1 x2 y2 z2 c1 c2 c3 c4 c5 c6 c7 c8 c9 c10 c11 c12 c13 c14 c15 c16 c17 c18 c19 c20 c21 c22 : Fin P) : List RG.Bl := [⟨(ws x1 ++ (ws y1 ++ (ws z1))), (ws x1 ++ (ws y1 ++ (ws z1))), none, none⟩, ⟨(ws x2 ++ (ws y2 ++ (ws z2))), (ws x2 ++ (ws y2 ++ (ws z2))), none, none⟩, ⟨[.int .u64 0, .int .u64 0, .int .u64 0, .int .u64 0, .int .u64 0, .int .u64 0, .int .u64 0, .int .u64 0, .int .u64 0, .int .u64 0, .int .u64 0, .int .u64 0], [.int .u64 0, .int .u64 0, .int .u64 0, .int .u64 0, .int .u64 0, .int .u64 0, .int .u64 0, .int .u64 0, .int .u64 0, .int .u64 0, .int .u64 0, .int .u64 0], none, none⟩, ⟨(ws c1), (ws c1), none, none⟩, ⟨(ws c2), (ws c2), none, none⟩, ⟨[.int .u64 0, .int .u64 0, .int .u64 0, .int .u64 0], (ws c3), some 6, some 7⟩]
def F39e_9o (x1 y1 z1 x2 y2 z2 c1 c2 c3 c4 c5 c6 c7 c8 c9 c10 c11 c12 c13 c14 c15 c16 c17 c18 c19 c20 c21 c22 : Fin P) : List (Tmp × RG.SV) := [(2, (.p 0 0)), (3, (.p 1 0))]
def F39e_10i (x1 y1 z1 x2 y2 z2 c1 c2 c3 c4 c5 c6 c7 c8 c9 c10 c11 c12 c13 c14 c15 c16 c17 c18 c19 c20 c21 c22 : Fin P) : List RG.It := [⟨some 42, [], (.v rv0), .call⟩,
  ⟨some 43, [], (.p 0 0), .stay⟩,
  ⟨some 44, [(43, 1)], (.v (fv x1)), .stay⟩,
  ⟨some 45, [], (.p 1 8), .stay⟩,
  ⟨some 46, [(45, 3)], (.v (fv z2)), .stay⟩,
  ⟨some 47, [(42, 0), (44, 2), (46, 4)], (.v (fv c4)), .call⟩,
  ⟨some 9, [], (.p 6 0), .make 6⟩,
  ⟨none, [(9, 6), (47, 5)], (.v undef), .put 6⟩]
def F39e_10b (x1 y1 z1 x2 y2 z2 c1 c2 c3 c4 c5 c6 c7 c8 c9 c10 c11 c12 c13 c14 c15 c16 c17 c18 c19 c20 c21 c22 : Fin P) : List RG.Bl := [⟨(ws x1 ++ (ws y1 ++ (ws z1))), (ws x1 ++ (ws y1 ++ (ws z1))), none, none⟩, ⟨(ws x2 ++ (ws y2 ++ (ws z2))), (ws x2 ++ (ws y2 ++ (ws z2))), none, none⟩, ⟨[.int .u64 0, .int .u64 0, .int .u64 0, .int .u64 0, .int .u64 0, .int .u64 0, .int .u64 0, .int .u64 0, .int .u64 0, .int .u64 0, .int .u64 0, .int .u64 0], [.int .u64 0, .int .u64 0, .int .u64 0, .int .u64 0, .int .u64 0, .int .u64 0, .int .u64 0, .int .u64 0, .int .u64 0, .int .u64 0, .int .u64 0, .int .u64 0], none, none⟩, ⟨(ws c1), (ws c1), none, none⟩, ⟨(ws c2), (ws c2), none, none⟩, ⟨(ws c3), (ws c3), none, none⟩, ⟨[.int .u64 0, .int .u64 0, .int .u64 0, .int .u64 0], (ws c4), some 6, some 7⟩]
def F39e_10o (x1 y1 z1 x2 y2 z2 c1 c2 c3 c4 c5 c6 c7 c8 c9 c10 c11 c12 c13 c14 c15 c16 c17 c18 c19 c20 c21 c22 : Fin P) : List (Tmp × RG.SV) := [(2, (.p 0 0)), (3, (.p 1 0))]
def F39e_11i (x1 y1 z1 x2 y2 z2 c1 c2 c3 c4 c5 c6 c7 c8 c9 c10 c11 c12 c13 c14 c15 c16 c17 c18 c19 c20 c21 c22 : Fin P) : List RG.It := [⟨some 48, [], (.v (fv c2)), .stay⟩,
  ⟨some 49, [], (.v (fv c4)), .stay⟩,
  ⟨some 50, [(48, 0), (49, 1)], (.v (.bool false)), .stay⟩]
def F39e_11b (x1 y1 z1 x2 y2 z2 c1 c2 c3 c4 c5 c6 c7 c8 c9 c10 c11 c12 c13 c14 c15 c16 c17 c18 c19 c20 c21 c22 : Fin P) : List RG.Bl := [⟨(ws x1 ++ (ws y1 ++ (ws z1))), (ws x1 ++ (ws y1 ++ (ws z1))), none, none⟩, ⟨(ws x2 ++ (ws y2 ++ (ws z2))), (ws x2 ++ (ws y2 ++ (ws z2))), none, none⟩, ⟨[.int .u64 0, .int .u64 0, .int .u64 0, .int .u64 0, .int .u64 0, .int .u64 0, .int .u64 0, .int .u64 0, .int .u64 0, .int .u64 0, .int .u64 0, .int .u64 0], [.int .u64 0, .int .u64 0, .int .u64 0, .int .u64 0, .int .u64 0, .int .u64 0, .int .u64 0, .int .u64 0, .int .u64 0, .int .u64 0, .int .u64 0, .int .u64 0], none, none⟩, ⟨(ws c1), (ws c1), none, none⟩, ⟨(ws c2), (ws c2), none, none⟩, ⟨(ws c3), (ws c3), none, none⟩, ⟨(ws c4), (ws c4), none, none⟩]
def F39e_11o (x1 y1 z1 x2 y2 z2 c1 c2 c3 c4 c5 c6 c7 c8 c9 c10 c11 c12 c13 c14 c15 c16 c17 c18 c19 c20 c21 c22 : Fin P) : List (Tmp × RG.SV) := [(7, (.p 4 0)), (9, (.p 6 0))]
def F39e_15i (x1 y1 z1 x2 y2 z2 c1 c2 c3 c4 c5 c6 c7 c8 c9 c10 c11 c12 c13 c14 c15 c16 c17 c18 c19 c20 c21 c22 : Fin P) : List RG.It := [⟨some 61, [], (.v rv0), .call⟩,
  ⟨some 62, [], (.v (fv c1)), .stay⟩,
  ⟨some 63, [], (.v (fv c3)), .stay⟩,
  ⟨some 64, [(61, 0), (62, 1), (63, 2)], (.v (fv c5)), .call⟩,
  ⟨some 10, [], (.p 7 0), .make 7⟩,
  ⟨none, [(10, 4), (64, 3)], (.v undef), .put 7⟩]
def F39e_15b (x1 y1 z1 x2 y2 z2 c1 c2 c3 c4 c5 c6 c7 c8 c9 c10 c11 c12 c13 c14 c15 c16 c17 c18 c19 c20 c21 c22 : Fin P) : List RG.Bl := [⟨(ws x1 ++ (ws y1 ++ (ws z1))), (ws x1 ++ (ws y1 ++ (ws z1))), none, none⟩, ⟨(ws x2 ++ (ws y2 ++ (ws z2))), (ws x2 ++ (ws y2 ++ (ws z2))), none, none⟩, ⟨[.int .u64 0, .int .u64 0, .int .u64 0, .int .u64 0, .int .u64 0, .int .u64 0, .int .u64 0, .int .u64 0, .int .u64 0, .int .u64 0, .int .u64 0, .int .u64 0], [.int .u64 0, .int .u64 0, .int .u64 0, .int .u64 0, .int .u64 0, .int .u64 0, .int .u64 0, .int .u64 0, .int .u64 0, .int .u64 0, .int .u64 0, .int .u64 0], none, none⟩, ⟨(ws c1), (ws c1), none, none⟩, ⟨(ws c2), (ws c2), none, none⟩, ⟨(ws c3), (ws c3), none, none⟩, ⟨(ws c4), (ws c4), none, none⟩, ⟨[.int .u64 0, .int .u64 0, .int .u64 0, .int .u64 0], (ws c5), some 4, some 5⟩]
def F39e_15o (x1 y1 z1 x2 y2 z2 c1 c2 c3 c4 c5 c6 c7 c8 c9 c10 c11 c12 c13 c14 c15 c16 c17 c18 c19 c20 c21 c22 : Fin P) : List (Tmp × RG.SV) := [(6, (.p 3 0)), (8, (.p 5 0))]
def F39e_16i (x1 y1 z1 x2 y2 z2 c1 c2 c3 c4 c5 c6 c7 c8 c9 c10 c11 c12 c13 c14 c15 c16 c17 c18 c19 c20 c21 c22 : Fin P) : List RG.It := [⟨some 65, [], (.v rv0), .call⟩,
  ⟨some 66, [], (.v (fv c2)), .stay⟩,
  ⟨some 67, [], (.v (fv c4)), .stay⟩,
  ⟨some 68, [(65, 0), (66, 1), (67, 2)], (.v (fv c6)), .call⟩,
  ⟨some 11, [], (.p 8 0), .make 8⟩,
  ⟨none, [(11, 4), (68, 3)], (.v undef), .put 8⟩]
def F39e_16b (x1 y1 z1 x2 y2 z2 c1 c2 c3 c4 c5 c6 c7 c8 c9 c10 c11 c12 c13 c14 c15 c16 c17 c18 c19 c20 c21 c22 : Fin P) : List RG.Bl := [⟨(ws x1 ++ (ws y1 ++ (ws z1))), (ws x1 ++ (ws y1 ++ (ws z1))), none, none⟩, ⟨(ws x2 ++ (ws y2 ++ (ws z2))), (ws x2 ++ (ws y2 ++ (ws z2))), none, none⟩, ⟨[.int .u64 0, .int .u64 0, .int .u64 0, .int .u64 0, .int .u64 0, .int .u64 0, .int .u64 0, .int .u64 0, .int .u64 0, .int .u64 0, .int .u64 0, .int .u64 0], [.int .u64 0, .int .u64 0, .int .u64 0, .int .u64 0, .int .u64 0, .int .u64 0, .int .u64 0, .int .u64 0, .int .u64 0, .int .u64 0, .int .u64 0, .int .u64 0], none, none⟩, ⟨(ws c1), (ws c1), none, none⟩, ⟨(ws c2), (ws c2), none, none⟩, ⟨(ws c3), (ws c3), none, none⟩, ⟨(ws c4), (ws c4), none, none⟩, ⟨(ws c5), (ws c5), none, none⟩, ⟨[.int .u64 0, .int .u64 0, .int .u64 0, .int .u64 0], (ws c6), some 4, some 5⟩]
def F39e_16o (x1 y1 z1 x2 y2 z2 c1 c2 c3 c4 c5 c6 c7 c8 c9 c10 c11 c12 c13 c14 c15 c16 c17 c18 c19 c20 c21 c22 : Fin P) : List (Tmp × RG.SV) := [(7, (.p 4 0)), (9, (.p 6 0))]
def F39e_17i (x1 y1 z1 x2 y2 z2 c1 c2 c3 c4 c5 c6 c7 c8 c9 c10 c11 c12 c13 c14 c15 c16 c17 c18 c19 c20 c21 c22 : Fin P) : List RG.It := [⟨some 69, [], (.v rv0), .call⟩,
  ⟨some 70, [], (.p 0 8), .stay⟩,
  ⟨some 71, [(70, 1)], (.v (fv z1)), .stay⟩,
  ⟨some 72, [], (.p 1 8), .stay⟩,
  ⟨some 73, [(72, 3)], (.v (fv z2)), .stay⟩,
  ⟨some 74, [(69, 0), (71, 2), (73, 4)], (.v (fv c7)), .call⟩,
  ⟨some 12, [], (.p 9 0), .make 9⟩,
  ⟨none, [(12, 6), (74, 5)], (.v undef), .put 9⟩]
def F39e_17b (x1 y1 z1 x2 y2 z2 c1 c2 c3 c4 c5 c6 c7 c8 c9 c10 c11 c12 c13 c14 c15 c16 c17 c18 c19 c20 c21 c22 : Fin P) : List RG.Bl := [⟨(ws x1 ++ (ws y1 ++ (ws z1))), (ws x1 ++ (ws y1 ++ (ws z1))), none, none⟩, ⟨(ws x2 ++ (ws y2 ++ (ws z2))), (ws x2 ++ (ws y2 ++ (ws z2))), none, none⟩, ⟨[.int .u64 0, .int .u64 0, .int .u64 0, .int .u64 0, .int .u64 0, .int .u64 0, .int .u64 0, .int .u64 0, .int .u64 0, .int .u64 0, .int .u64 0, .int .u64 0], [.int .u64 0, .int .u64 0, .int .u64 0, .int .u64 0, .int .u64 0, .int .u64 0, .int .u64 0, .int .u64 0, .int .u64 0, .int .u64 0, .int .u64 0, .int .u64 0], none, none⟩, ⟨(ws c1), (ws c1), none, none⟩, ⟨(ws c2), (ws c2), none, none⟩, ⟨(ws c3), (ws c3), none, none⟩, ⟨(ws c4), (ws c4), none, none⟩, ⟨(ws c5), (ws c5), none, none⟩, ⟨(ws c6), (ws c6), none, none⟩, ⟨[.int .u64 0, .int .u64 0, .int .u64 0, .int .u64 0], (ws c7), some 6, some 7⟩]
def F39e_17o (x1 y1 z1 x2 y2 z2 c1 c2 c3 c4 c5 c6 c7 c8 c9 c10 c11 c12 c13 c14 c15 c16 c17 c18 c19 c20 c21 c22 : Fin P) : List (Tmp × RG.SV) := [(2, (.p 0 0)), (3, (.p 1 0))]
def F39e_18i (x1 y1 z1 x2 y2 z2 c1 c2 c3 c4 c5 c6 c7 c8 c9 c10 c11 c12 c13 c14 c15 c16 c17 c18 c19 c20 c21 c22 : Fin P) : List RG.It := [⟨some 75, [], (.v rv0), .call⟩,
  ⟨some 76, [], (.v (fv c6)), .stay⟩,
  ⟨some 77, [], (.v (fv c6)), .stay⟩,
  ⟨some 78, [(75, 0), (76, 1), (77, 2)], (.v (fv c8)), .call⟩,
  ⟨some 13, [], (.p 10 0), .make 10⟩,
  ⟨none, [(13, 4), (78, 3)], (.v undef), .put 10⟩]
def F39e_18b (x1 y1 z1 x2 y2 z2 c1 c2 c3 c4 c5 c6 c7 c8 c9 c10 c11 c12 c13 c14 c15 c16 c17 c18 c19 c20 c21 c22 : Fin P) : List RG.Bl := [⟨(ws x1 ++ (ws y1 ++ (ws z1))), (ws x1 ++ (ws y1 ++ (ws z1))), none, none⟩, ⟨(ws x2 ++ (ws y2 ++ (ws z2))), (ws x2 ++ (ws y2 ++ (ws z2))), none, none⟩, ⟨[.int .u64 0, .int .u64 0, .int .u64 0, .int .u64 0, .int .u64 0, .int .u64 0, .int .u64 0, .int .u64 0, .int .u64 0, .int .u64 0, .int .u64 0, .int .u64 0], [.int .u64 0, .int .u64 0, .int .u64 0, .int .u64 0, .int .u64 0, .int .u64 0, .int .u64 0, .int .u64 0, .int .u64 0, .int .u64 0, .int .u64 0, .int .u64 0], none, none⟩, ⟨(ws c1), (ws c1), none, none⟩, ⟨(ws c2), (ws c2), none, none⟩, ⟨(ws c3), (ws c3), none, none⟩, ⟨(ws c4), (ws c4), none, none⟩, ⟨(ws c5), (ws c5), none, none⟩, ⟨(ws c6), (ws c6), none, none⟩, ⟨(ws c7), (ws c7), none, none⟩, ⟨[.int .u64 0, .int .u64 0, .int .u64 0, .int .u64 0], (ws c8), some 4, some 5⟩]
def F39e_18o (x1 y1 z1 x2 y2 z2 c1 c2 c3 c4 c5 c6 c7 c8 c9 c10 c11 c12 c13 c14 c15 c16 c17 c18 c19 c20 c21 c22 : Fin P) : List (Tmp × RG.SV) := [(11, (.p 8 0))]
def F39e_19i (x1 y1 z1 x2 y2 z2 c1 c2 c3 c4 c5 c6 c7 c8 c9 c10 c11 c12 c13 c14 c15 c16 c17 c18 c19 c20 c21 c22 : Fin P) : List RG.It := [⟨some 79, [], (.v rv0), .call⟩,
  ⟨some 80, [], (.v (fv c8)), .stay⟩,
  ⟨some 81, [], (.v (fv c6)), .stay⟩,
  ⟨some 82, [(79, 0), (80, 1), (81, 2)], (.v (fv c9)), .call⟩,
  ⟨some 14, [], (.p 11 0), .make 11⟩,
  ⟨none, [(14, 4), (82, 3)], (.v undef), .put 11⟩]
def F39e_19b (x1 y1 z1 x2 y2 z2 c1 c2 c3 c4 c5 c6 c7 c8 c9 c10 c11 c12 c13 c14 c15 c16 c17 c18 c19 c20 c21 c22 : Fin P) : List RG.Bl := [⟨(ws x1 ++ (ws y1 ++ (ws z1))), (ws x1 ++ (ws y1 ++ (ws z1))), none, none⟩, ⟨(ws x2 ++ (ws y2 ++ (ws z2))), (ws x2 ++ (ws y2 ++ (ws z2))), none, none⟩, ⟨[.int .u64 0, .int .u64 0, .int .u64 0, .int .u64 0, .int .u64 0, .int .u64 0, .int .u64 0, .int .u64 0, .int .u64 0, .int .u64 0, .int .u64 0, .int .u64 0], [.int .u64 0, .int .u64 0, .int .u64 0, .int .u64 0, .int .u64 0, .int .u64 0, .int .u64 0, .int .u64 0, .int .u64 0, .int .u64 0, .int .u64 0, .int .u64 0], none, none⟩, ⟨(ws c1), (ws c1), none, none⟩, ⟨(ws c2), (ws c2), none, none⟩, ⟨(ws c3), (ws c3), none, none⟩, ⟨(ws c4), (ws c4), none, none⟩, ⟨(ws c5), (ws c5), none, none⟩, ⟨(ws c6), (ws c6), none, none⟩, ⟨(ws c7), (ws c7), none, none⟩, ⟨(ws c8), (ws c8), none, none⟩, ⟨[.int .u64 0, .int .u64 0, .int .u64 0, .int .u64 0], (ws c9), some 4, some 5⟩]
def F39e_19o (x1 y1 z1 x2 y2 z2 c1 c2 c3 c4 c5 c6 c7 c8 c9 c10 c11 c12 c13 c14 c15 c16 c17 c18 c19 c20 c21 c22 : Fin P) : List (Tmp × RG.SV) := [(13, (.p 10 0)), (11, (.p 8 0))]
def F39e_20i (x1 y1 z1 x2 y2 z2 c1 c2 c3 c4 c5 c6 c7 c8 c9 c10 c11 c12 c13 c14 c15 c16 c17 c18 c19 c20 c21 c22 : Fin P) : List RG.It := [⟨some 83, [], (.v rv0), .call⟩,
  ⟨some 84, [], (.v rv0), .call⟩,
  ⟨some 85, [], (.v rv0), .call⟩,
  ⟨some 86, [], (.v rv0), .call⟩,
  ⟨some 87, [], (.v (fv c5)), .stay⟩,
  ⟨some 88, [], (.v (fv c5)), .stay⟩,
  ⟨some 89, [(86, 3), (87, 4), (88, 5)], (.v (fv c10)), .call⟩,
  ⟨some 90, [], (.v (fv c7)), .stay⟩,
  ⟨some 91, [(85, 2), (89, 6), (90, 7)], (.v (fv c11)), .call⟩,
  ⟨some 92, [], (.v (fv c9)), .stay⟩,
  ⟨some 93, [(84, 1), (91, 8), (92, 9)], (.v (fv c12)), .call⟩,
  ⟨some 94, [], (.v rv0), .call⟩,
  ⟨some 95, [], (.v rv0), .call⟩,
  ⟨some 96, [], (.v (fv c4)), .stay⟩,
  ⟨some 97, [], (.v (fv c4)), .stay⟩,
  ⟨some 98, [(95, 12), (96, 13), (97, 14)], (.v (fv c13)), .call⟩,
  ⟨some 99, [], (.v (fv c8)), .stay⟩,
  ⟨some 100, [(94, 11), (98, 15), (99, 16)], (.v (fv c14)), .call⟩,
  ⟨some 101, [(83, 0), (93, 10), (100, 17)], (.v (fv c15)), .call⟩,
  ⟨some 15, [], (.p 12 0), .make 12⟩,
  ⟨none, [(15, 19), (101, 18)], (.v undef), .put 12⟩]
def F39e_20b (x1 y1 z1 x2 y2 z2 c1 c2 c3 c4 c5 c6 c7 c8 c9 c10 c11 c12 c13 c14 c15 c16 c17 c18 c19 c20 c21 c22 : Fin P) : List RG.Bl := [⟨(ws x1 ++ (ws y1 ++ (ws z1))), (ws x1 ++ (ws y1 ++ (ws z1))), none, none⟩, ⟨(ws x2 ++ (ws y2 ++ (ws z2))), (ws x2 ++ (ws y2 ++ (ws z2))), none, none⟩, ⟨[.int .u64 0, .int .u64 0, .int .u64 0, .int .u64 0, .int .u64 0, .int .u64 0, .int .u64 0, .int .u64 0, .int .u64 0, .int .u64 0, .int .u64 0, .int .u64 0], [.int .u64 0, .int .u64 0, .int .u64 0, .int .u64 0, .int .u64 0, .int .u64 0, .int .u64 0, .int .u64 0, .int .u64 0, .int .u64 0, .int .u64 0, .int .u64 0], none, none⟩, ⟨(ws c1), (ws c1), none, none⟩, ⟨(ws c2), (ws c2), none, none⟩, ⟨(ws c3), (ws c3), none, none⟩, ⟨(ws c4), (ws c4), none, none⟩, ⟨(ws c5), (ws c5), none, none⟩, ⟨(ws c6), (ws c6), none, none⟩, ⟨(ws c7), (ws c7), none, none⟩, ⟨(ws c8), (ws c8), none, none⟩, ⟨(ws c9), (ws c9), none, none⟩, ⟨[.int .u64 0, .int .u64 0, .int .u64 0, .int .u64 0], (ws c15), some 19, some 20⟩]
def F39e_20o (x1 y1 z1 x2 y2 z2 c1 c2 c3 c4 c5 c6 c7 c8 c9 c10 c11 c12 c13 c14 c15 c16 c17 c18 c19 c20 c21 c22 : Fin P) : List (Tmp × RG.SV) := [(10, (.p 7 0)), (12, (.p 9 0)), (14, (.p 11 0)), (9, (.p 6 0)), (13, (.p 10 0))]
def F39e_21i (x1 y1 z1 x2 y2 z2 c1 c2 c3 c4 c5 c6 c7 c8 c9 c10 c11 c12 c13 c14 c15 c16 c17 c18 c19 c20 c21 c22 : Fin P) : List RG.It := [⟨some 102, [], (.v rv0), .call⟩,
  ⟨some 103, [], (.v (fv c6)), .stay⟩,
  ⟨some 104, [], (.v (fv c15)), .stay⟩,
  ⟨some 105, [(102, 0), (103, 1), (104, 2)], (.v (fv c16)), .call⟩,
  ⟨some 106, [], (.v rv0), .call⟩,
  ⟨some 107, [], (.v rv0), .call⟩,
  ⟨some 108, [], (.v (fv c5)), .stay⟩,
  ⟨some 109, [], (.v rv0), .call⟩,
  ⟨some 110, [], (.v rv0), .call⟩,
  ⟨some 111, [], (.v (fv c4)), .stay⟩,
  ⟨some 112, [], (.v (fv c8)), .stay⟩,
  ⟨some 113, [(110, 8), (111, 9), (112, 10)], (.v (fv c17)), .call⟩,
  ⟨some 114, [], (.v (fv c15)), .stay⟩,
  ⟨some 115, [(109, 7), (113, 11), (114, 12)], (.v (fv c18)), .call⟩,
  ⟨some 116, [(107, 5), (108, 6), (115, 13)], (.v (fv c19)), .call⟩,
  ⟨some 117, [], (.v rv0), .call⟩,
  ⟨some 118, [], (.v (fv c3)), .stay⟩,
  ⟨some 119, [], (.v (fv c9)), .stay⟩,
  ⟨some 120, [(117, 15), (118, 16), (119, 17)], (.v (fv c20)), .call⟩,
  ⟨some 121, [(106, 4), (116, 14), (120, 18)], (.v (fv c21)), .call⟩,
  ⟨some 122, [], (.v rv0), .call⟩,
  ⟨some 123, [], (.v (fv c9)), .stay⟩,
  ⟨some 124, [], (.v (fv c7)), .stay⟩,
  ⟨some 125, [(122, 20), (123, 21), (124, 22)], (.v (fv c22)), .call⟩,
  ⟨some 126, [(105, 3), (121, 19), (125, 23)], (.v (rv c16 c21 c22)), .stay⟩,
  ⟨none, [(126, 24)], (.v undef), .put 2⟩]
def F39e_21b (x1 y1 z1 x2 y2 z2 c1 c2 c3 c4 c5 c6 c7 c8 c9 c10 c11 c12 c13 c14 c15 c16 c17 c18 c19 c20 c21 c22 : Fin P) : List RG.Bl := [⟨(ws x1 ++ (ws y1 ++ (ws z1))), (ws x1 ++ (ws y1 ++ (ws z1))), none, none⟩, ⟨(ws x2 ++ (ws y2 ++ (ws z2))), (ws x2 ++ (ws y2 ++ (ws z2))), none, none⟩, ⟨[.int .u64 0, .int .u64 0, .int .u64 0, .int .u64 0, .int .u64 0, .int .u64 0, .int .u64 0, .int .u64 0, .int .u64 0, .int .u64 0, .int .u64 0, .int .u64 0], (ws c16 ++ (ws c21 ++ (ws c22))), none, some 25⟩, ⟨(ws c1), (ws c1), none, none⟩, ⟨(ws c2), (ws c2), none, none⟩, ⟨(ws c3), (ws c3), none, none⟩, ⟨(ws c4), (ws c4), none, none⟩, ⟨(ws c5), (ws c5), none, none⟩, ⟨(ws c6), (ws c6), none, none⟩, ⟨(ws c7), (ws c7), none, none⟩, ⟨(ws c8), (ws c8), none, none⟩, ⟨(ws c9), (ws c9), none, none⟩, ⟨(ws c15), (ws c15), none, none⟩]
def F39e_21o (x1 y1 z1 x2 y2 z2 c1 c2 c3 c4 c5 c6 c7 c8 c9 c10 c11 c12 c13 c14 c15 c16 c17 c18 c19 c20 c21 c22 : Fin P) : List (Tmp × RG.SV) := [(11, (.p 8 0)), (15, (.p 12 0)), (10, (.p 7 0)), (9, (.p 6 0)), (13, (.p 10 0)), (8, (.p 5 0)), (14, (.p 11 0)), (12, (.p 9 0)), (4, (.p 2 0))]
set_option maxHeartbeats 2000000 in
set_option maxRecDepth 100000 in
theorem rPlus_e_c (C : Fl3 P) (x1 y1 z1 x2 y2 z2 : Fin P)(hz1 : ¬ z1 = 0) (hz2 : ¬ z2 = 0) (hv : ¬ x2 * z1 = x1 * z2)  : Gives 39 #[(rv x1 y1 z1), (rv x2 y2 z2)] (rv ((x2 * z1 - x1 * z2) * EC.frT (y2 * z1 - y1 * z2) (x2 * z1 - x1 * z2) (z1 * z2) (x1 * z2)) ((y2 * z1 - y1 * z2) * (x1 * z2 * ((x2 * z1 - x1 * z2) * (x2 * z1 - x1 * z2)) - EC.frT (y2 * z1 - y1 * z2) (x2 * z1 - x1 * z2) (z1 * z2) (x1 * z2)) - y1 * z2 * ((x2 * z1 - x1 * z2) * (x2 * z1 - x1 * z2) * (x2 * z1 - x1 * z2))) ((x2 * z1 - x1 * z2) * (x2 * z1 - x1 * z2) * (x2 * z1 - x1 * z2) * (z1 * z2))) := by
  intro w
  obtain ⟨c1, hc1⟩ : ∃ c, c = y2 * z1 := ⟨_, rfl⟩
  obtain ⟨c2, hc2⟩ : ∃ c, c = x2 * z1 := ⟨_, rfl⟩
  obtain ⟨c3, hc3⟩ : ∃ c, c = y1 * z2 := ⟨_, rfl⟩
  obtain ⟨c4, hc4⟩ : ∃ c, c = x1 * z2 := ⟨_, rfl⟩
  obtain ⟨c5, hc5⟩ : ∃ c, c = c1 - c3 := ⟨_, rfl⟩
  obtain ⟨c6, hc6⟩ : ∃ c, c = c2 - c4 := ⟨_, rfl⟩
  obtain ⟨c7, hc7⟩ : ∃ c, c = z1 * z2 := ⟨_, rfl⟩
  obtain ⟨c8, hc8⟩ : ∃ c, c = c6 * c6 := ⟨_, rfl⟩
  obtain ⟨c9, hc9⟩ : ∃ c, c = c8 * c6 := ⟨_, rfl⟩
  obtain ⟨c10, hc10⟩ : ∃ c, c = c5 * c5 := ⟨_, rfl⟩
  obtain ⟨c11, hc11⟩ : ∃ c, c = c10 * c7 := ⟨_, rfl⟩
  obtain ⟨c12, hc12⟩ : ∃ c, c = c11 - c9 := ⟨_, rfl⟩
  obtain ⟨c13, hc13⟩ : ∃ c, c = c4 + c4 := ⟨_, rfl⟩
  obtain ⟨c14, hc14⟩ : ∃ c, c = c13 * c8 := ⟨_, rfl⟩
  obtain ⟨c15, hc15⟩ : ∃ c, c = c12 - c14 := ⟨_, rfl⟩
  obtain ⟨c16, hc16⟩ : ∃ c, c = c6 * c15 := ⟨_, rfl⟩
  obtain ⟨c17, hc17⟩ : ∃ c, c = c4 * c8 := ⟨_, rfl⟩
  obtain ⟨c18, hc18⟩ : ∃ c, c = c17 - c15 := ⟨_, rfl⟩
  obtain ⟨c19, hc19⟩ : ∃ c, c = c5 * c18 := ⟨_, rfl⟩
  obtain ⟨c20, hc20⟩ : ∃ c, c = c3 * c9 := ⟨_, rfl⟩
  obtain ⟨c21, hc21⟩ : ∃ c, c = c19 - c20 := ⟨_, rfl⟩
  obtain ⟨c22, hc22⟩ : ∃ c, c = c9 * c7 := ⟨_, rfl⟩
  have hfin : ((rv c16 c21 c22) : Value) = (rv ((x2 * z1 - x1 * z2) * EC.frT (y2 * z1 - y1 * z2) (x2 * z1 - x1 * z2) (z1 * z2) (x1 * z2)) ((y2 * z1 - y1 * z2) * (x1 * z2 * ((x2 * z1 - x1 * z2) * (x2 * z1 - x1 * z2)) - EC.frT (y2 * z1 - y1 * z2) (x2 * z1 - x1 * z2) (z1 * z2) (x1 * z2)) - y1 * z2 * ((x2 * z1 - x1 * z2) * (x2 * z1 - x1 * z2) * (x2 * z1 - x1 * z2))) ((x2 * z1 - x1 * z2) * (x2 * z1 - x1 * z2) * (x2 * z1 - x1 * z2) * (z1 * z2))) := by
    subst_vars; rfl
  rw [← hfin]
  go_enter Try.func39, Try.ntmps39
  have hS0 := RG.St.begin w
  repeat refine wp_seq ?_
  refine RG.region_text (its := F39e_0i x1 y1 z1 x2 y2 z2 c1 c2 c3 c4 c5 c6 c7 c8 c9 c10 c11 c12 c13 c14 c15 c16 c17 c18 c19 c20 c21 c22) (bl := F39e_0b x1 y1 z1 x2 y2 z2 c1 c2 c3 c4 c5 c6 c7 c8 c9 c10 c11 c12 c13 c14 c15 c16 c17 c18 c19 c20 c21 c22) (olds := F39e_0o x1 y1 z1 x2 y2 z2 c1 c2 c3 c4 c5 c6 c7 c8 c9 c10 c11 c12 c13 c14 c15 c16 c17 c18 c19 c20 c21 c22) hS0 (RG.Reg.mk' (by kernel_rfl) ⟨by kernel_rfl, by kernel_rfl, trivial⟩ ⟨?_, ?_, ?_, trivial⟩) (by kernel_rfl) (by kernel_rfl) (by kernel_rfl) ?_
  · exact RG.cert_box 0 rfl rfl _ rfl 56 0 rfl (rv x1 y1 z1) (fun μ a K => K.old 0 (.v (rv x1 y1 z1)) (List.Mem.head _) (by kernel_rfl)) (fun w => by kernel_rfl)
  · exact RG.cert_box 1 rfl rfl _ rfl 56 1 rfl (rv x2 y2 z2) (fun μ a K => K.old 1 (.v (rv x2 y2 z2)) (List.Mem.tail _ (List.Mem.head _)) (by kernel_rfl)) (fun w => by kernel_rfl)
  · exact RG.cert_alloc 2 rfl rfl _ rfl 56 rfl (fun w => by kernel_rfl)
  intro new1 w1 hl1 hS1
  obtain ⟨j1, i1, m1, rfl⟩ := RG.len3 hl1
  repeat refine wp_seq ?_
  refine RG.region_text (its := F39e_1i x1 y1 z1 x2 y2 z2 c1 c2 c3 c4 c5 c6 c7 c8 c9 c10 c11 c12 c13 c14 c15 c16 c17 c18 c19 c20 c21 c22) (bl := F39e_1b x1 y1 z1 x2 y2 z2 c1 c2 c3 c4 c5 c6 c7 c8 c9 c10 c11 c12 c13 c14 c15 c16 c17 c18 c19 c20 c21 c22) (olds := F39e_1o x1 y1 z1 x2 y2 z2 c1 c2 c3 c4 c5 c6 c7 c8 c9 c10 c11 c12 c13 c14 c15 c16 c17 c18 c19 c20 c21 c22) hS1 (RG.Reg.mk' (by kernel_rfl) ⟨by kernel_rfl, trivial⟩ ⟨?_, ?_, ?_, trivial⟩) (by kernel_rfl) (by kernel_rfl) (by kernel_rfl) ?_
  · exact RG.cert_load rfl 0 0 _ rfl rfl (by kernel_rfl) 56 2 rfl (ws x1 ++ (ws y1 ++ (ws z1))) rfl (fun μ a K => K.old 2 (.p 0 0) (List.Mem.head _) (by kernel_rfl)) (by kernel_rfl) u56 i56
  · exact RG.cert_call1 rfl 78 16 (rv x1 y1 z1) (.bool false) rfl (fun a w => by kernel_rfl) (fun μ a K => by have h := K.op 16 0 (List.Mem.head _) rfl; exact h) (Is_f_c C x1 y1 z1 hz1)
  · exact RG.cert_move rfl 17 (Or.inr rfl) (fun μ a K => by have h := K.op 17 1 (List.Mem.head _) rfl; exact h)
  intro new2 w2 hl2 hS2
  obtain rfl := RG.len0 hl2
  repeat refine wp_seq ?_
  refine RG.region_text (its := F39e_2i x1 y1 z1 x2 y2 z2 c1 c2 c3 c4 c5 c6 c7 c8 c9 c10 c11 c12 c13 c14 c15 c16 c17 c18 c19 c20 c21 c22) (bl := F39e_2b x1 y1 z1 x2 y2 z2 c1 c2 c3 c4 c5 c6 c7 c8 c9 c10 c11 c12 c13 c14 c15 c16 c17 c18 c19 c20 c21 c22) (olds := F39e_2o x1 y1 z1 x2 y2 z2 c1 c2 c3 c4 c5 c6 c7 c8 c9 c10 c11 c12 c13 c14 c15 c16 c17 c18 c19 c20 c21 c22) hS2 (RG.Reg.mk' (by kernel_rfl) ⟨by kernel_rfl, trivial⟩ ⟨?_, trivial⟩) (by kernel_rfl) (by kernel_rfl) (by kernel_rfl) ?_
  · exact RG.cert_move rfl 5 (Or.inl rfl) (fun μ a K => K.old 5 (.v (.bool false)) (List.Mem.head _) (by kernel_rfl))
  intro new3 w3 hl3 hS3
  obtain rfl := RG.len0 hl3
  repeat refine wp_seq ?_
  refine wp_cond_false (by kernel_rfl) ?_
  refine wp_skip ?_
  repeat refine wp_seq ?_
  refine RG.region_text (its := F39e_4i x1 y1 z1 x2 y2 z2 c1 c2 c3 c4 c5 c6 c7 c8 c9 c10 c11 c12 c13 c14 c15 c16 c17 c18 c19 c20 c21 c22) (bl := F39e_4b x1 y1 z1 x2 y2 z2 c1 c2 c3 c4 c5 c6 c7 c8 c9 c10 c11 c12 c13 c14 c15 c16 c17 c18 c19 c20 c21 c22) (olds := F39e_4o x1 y1 z1 x2 y2 z2 c1 c2 c3 c4 c5 c6 c7 c8 c9 c10 c11 c12 c13 c14 c15 c16 c17 c18 c19 c20 c21 c22) hS3 (RG.Reg.mk' (by kernel_rfl) ⟨by kernel_rfl, trivial⟩ ⟨?_, ?_, ?_, trivial⟩) (by kernel_rfl) (by kernel_rfl) (by kernel_rfl) ?_
  · exact RG.cert_load rfl 1 0 _ rfl rfl (by kernel_rfl) 56 3 rfl (ws x2 ++ (ws y2 ++ (ws z2))) rfl (fun μ a K => K.old 3 (.p 1 0) (List.Mem.head _) (by kernel_rfl)) (by kernel_rfl) u56 i56
  · exact RG.cert_call1 rfl 78 20 (rv x2 y2 z2) (.bool false) rfl (fun a w => by kernel_rfl) (fun μ a K => by have h := K.op 20 0 (List.Mem.head _) rfl; exact h) (Is_f_c C x2 y2 z2 hz2)
  · exact RG.cert_move rfl 21 (Or.inr rfl) (fun μ a K => by have h := K.op 21 1 (List.Mem.head _) rfl; exact h)
  intro new4 w4 hl4 hS4
  obtain rfl := RG.len0 hl4
  repeat refine wp_seq ?_
  refine RG.region_text (its := F39e_5i x1 y1 z1 x2 y2 z2 c1 c2 c3 c4 c5 c6 c7 c8 c9 c10 c11 c12 c13 c14 c15 c16 c17 c18 c19 c20 c21 c22) (bl := F39e_5b x1 y1 z1 x2 y2 z2 c1 c2 c3 c4 c5 c6 c7 c8 c9 c10 c11 c12 c13 c14 c15 c16 c17 c18 c19 c20 c21 c22) (olds := F39e_5o x1 y1 z1 x2 y2 z2 c1 c2 c3 c4 c5 c6 c7 c8 c9 c10 c11 c12 c13 c14 c15 c16 c17 c18 c19 c20 c21 c22) hS4 (RG.Reg.mk' (by kernel_rfl) ⟨by kernel_rfl, trivial⟩ ⟨?_, trivial⟩) (by kernel_rfl) (by kernel_rfl) (by kernel_rfl) ?_
  · exact RG.cert_move rfl 5 (Or.inl rfl) (fun μ a K => K.old 5 (.v (.bool false)) (List.Mem.head _) (by kernel_rfl))
  intro new5 w5 hl5 hS5
  obtain rfl := RG.len0 hl5
  repeat refine wp_seq ?_
  refine wp_cond_false (by kernel_rfl) ?_
  refine wp_skip ?_
  repeat refine wp_seq ?_
  refine RG.region_draws (by kernel_rfl) (its := F39e_7i x1 y1 z1 x2 y2 z2 c1 c2 c3 c4 c5 c6 c7 c8 c9 c10 c11 c12 c13 c14 c15 c16 c17 c18 c19 c20 c21 c22) (bl := F39e_7b x1 y1 z1 x2 y2 z2 c1 c2 c3 c4 c5 c6 c7 c8 c9 c10 c11 c12 c13 c14 c15 c16 c17 c18 c19 c20 c21 c22) (olds := F39e_7o x1 y1 z1 x2 y2 z2 c1 c2 c3 c4 c5 c6 c7 c8 c9 c10 c11 c12 c13 c14 c15 c16 c17 c18 c19 c20 c21 c22) hS5 (RG.Reg.mk' (by kernel_rfl) ⟨by kernel_rfl, by kernel_rfl, trivial⟩ ⟨?_, ?_, ?_, ?_, ?_, ?_, ?_, ?_, trivial⟩) (by kernel_rfl) (by kernel_rfl) (by kernel_rfl) ?_
  · exact RG.cert_call0 rfl 69 rv0 rfl (fun a w => by kernel_rfl) (F3_c)
  · exact RG.cert_field rfl 56 3 1 rfl 1 0 4 rfl (fun μ a K => K.old 3 (.p 1 0) (List.Mem.head _) (by kernel_rfl)) (fun k w => by kernel_rfl)
  · exact RG.cert_load rfl 1 4 _ rfl rfl (by kernel_rfl) 33 25 rfl (ws y2) rfl (fun μ a K => by have h := K.op 25 1 (List.Mem.head _) rfl; exact h) (by kernel_rfl) u33 i33
  · exact RG.cert_field rfl 56 2 2 rfl 0 0 8 rfl (fun μ a K => K.old 2 (.p 0 0) (List.Mem.tail _ (List.Mem.head _)) (by kernel_rfl)) (fun k w => by kernel_rfl)
  · exact RG.cert_load rfl 0 8 _ rfl rfl (by kernel_rfl) 33 27 rfl (ws z1) rfl (fun μ a K => by have h := K.op 27 3 (List.Mem.head _) rfl; exact h) (by kernel_rfl) u33 i33
  · exact RG.cert_call3 rfl 20 24 26 28 rv0 (fv y2) (fv z1) (fv c1) rfl (fun a w => by kernel_rfl) (fun μ a K => by have h := K.op 24 0 (List.Mem.head _) rfl; exact h) (fun μ a K => by have h := K.op 26 2 (List.Mem.tail _ (List.Mem.head _)) rfl; exact h) (fun μ a K => by have h := K.op 28 4 (List.Mem.tail _ (List.Mem.tail _ (List.Mem.head _))) rfl; exact h) (hc1 ▸ rMul_c C y2 z1)
  · exact RG.cert_alloc 3 rfl rfl _ rfl 33 rfl (fun w => by kernel_rfl)
  · exact RG.cert_put 3 rfl _ rfl 33 (.tmp 6) (.tmp 29) rfl rfl rfl (fun μ a K => by have h := K.op 6 6 (List.Mem.head _) rfl; exact h) (fun μ a K => by have h := K.op 29 5 (List.Mem.tail _ (List.Mem.head _)) rfl; exact h) i33 rfl
  intro new6 w6 hl6 hS6
  obtain ⟨j6, rfl⟩ := RG.len1 hl6
  repeat refine wp_seq ?_
  refine RG.region_draws (by kernel_rfl) (its := F39e_8i x1 y1 z1 x2 y2 z2 c1 c2 c3 c4 c5 c6 c7 c8 c9 c10 c11 c12 c13 c14 c15 c16 c17 c18 c19 c20 c21 c22) (bl := F39e_8b x1 y1 z1 x2 y2 z2 c1 c2 c3 c4 c5 c6 c7 c8 c9 c10 c11 c12 c13 c14 c15 c16 c17 c18 c19 c20 c21 c22) (olds := F39e_8o x1 y1 z1 x2 y2 z2 c1 c2 c3 c4 c5 c6 c7 c8 c9 c10 c11 c12 c13 c14 c15 c16 c17 c18 c19 c20 c21 c22) hS6 (RG.Reg.mk' (by kernel_rfl) ⟨by kernel_rfl, by kernel_rfl, trivial⟩ ⟨?_, ?_, ?_, ?_, ?_, ?_, ?_, ?_, trivial⟩) (by kernel_rfl) (by kernel_rfl) (by kernel_rfl) ?_
  · exact RG.cert_call0 rfl 69 rv0 rfl (fun a w => by kernel_rfl) (F3_c)
  · exact RG.cert_field rfl 56 3 0 rfl 1 0 0 rfl (fun μ a K => K.old 3 (.p 1 0) (List.Mem.head _) (by kernel_rfl)) (fun k w => by kernel_rfl)
  · exact RG.cert_load rfl 1 0 _ rfl rfl (by kernel_rfl) 33 31 rfl (ws x2) rfl (fun μ a K => by have h := K.op 31 1 (List.Mem.head _) rfl; exact h) (by kernel_rfl) u33 i33
  · exact RG.cert_field rfl 56 2 2 rfl 0 0 8 rfl (fun μ a K => K.old 2 (.p 0 0) (List.Mem.tail _ (List.Mem.head _)) (by kernel_rfl)) (fun k w => by kernel_rfl)
  · exact RG.cert_load rfl 0 8 _ rfl rfl (by kernel_rfl) 33 33 rfl (ws z1) rfl (fun μ a K => by have h := K.op 33 3 (List.Mem.head _) rfl; exact h) (by kernel_rfl) u33 i33
  · exact RG.cert_call3 rfl 20 30 32 34 rv0 (fv x2) (fv z1) (fv c2) rfl (fun a w => by kernel_rfl) (fun μ a K => by have h := K.op 30 0 (List.Mem.head _) rfl; exact h) (fun μ a K => by have h := K.op 32 2 (List.Mem.tail _ (List.Mem.head _)) rfl; exact h) (fun μ a K => by have h := K.op 34 4 (List.Mem.tail _ (List.Mem.tail _ (List.Mem.head _))) rfl; exact h) (hc2 ▸ rMul_c C x2 z1)
  · exact RG.cert_alloc 4 rfl rfl _ rfl 33 rfl (fun w => by kernel_rfl)
  · exact RG.cert_put 4 rfl _ rfl 33 (.tmp 7) (.tmp 35) rfl rfl rfl (fun μ a K => by have h := K.op 7 6 (List.Mem.head _) rfl; exact h) (fun μ a K => by have h := K.op 35 5 (List.Mem.tail _ (List.Mem.head _)) rfl; exact h) i33 rfl
  intro new7 w7 hl7 hS7
  obtain ⟨j7, rfl⟩ := RG.len1 hl7
  repeat refine wp_seq ?_
  refine RG.region_draws (by kernel_rfl) (its := F39e_9i x1 y1 z1 x2 y2 z2 c1 c2 c3 c4 c5 c6 c7 c8 c9 c10 c11 c12 c13 c14 c15 c16 c17 c18 c19 c20 c21 c22) (bl := F39e_9b x1 y1 z1 x2 y2 z2 c1 c2 c3 c4 c5 c6 c7 c8 c9 c10 c11 c12 c13 c14 c15 c16 c17 c18 c19 c20 c21 c22) (olds := F39e_9o x1 y1 z1 x2 y2 z2 c1 c2 c3 c4 c5 c6 c7 c8 c9 c10 c11 c12 c13 c14 c15 c16 c17 c18 c19 c20 c21 c22) hS7 (RG.Reg.mk' (by kernel_rfl) ⟨by kernel_rfl, by kernel_rfl, trivial⟩ ⟨?_, ?_, ?_, ?_, ?_, ?_, ?_, ?_, trivial⟩) (by kernel_rfl) (by kernel_rfl) (by kernel_rfl) ?_
  · exact RG.cert_call0 rfl 69 rv0 rfl (fun a w => by kernel_rfl) (F3_c)
  · exact RG.cert_field rfl 56 2 1 rfl 0 0 4 rfl (fun μ a K => K.old 2 (.p 0 0) (List.Mem.head _) (by kernel_rfl)) (fun k w => by kernel_rfl)
  · exact RG.cert_load rfl 0 4 _ rfl rfl (by kernel_rfl) 33 37 rfl (ws y1) rfl (fun μ a K => by have h := K.op 37 1 (List.Mem.head _) rfl; exact h) (by kernel_rfl) u33 i33
  · exact RG.cert_field rfl 56 3 2 rfl 1 0 8 rfl (fun μ a K => K.old 3 (.p 1 0) (List.Mem.tail _ (List.Mem.head _)) (by kernel_rfl)) (fun k w => by kernel_rfl)
  · exact RG.cert_load rfl 1 8 _ rfl rfl (by kernel_rfl) 33 39 rfl (ws z2) rfl (fun μ a K => by have h := K.op 39 3 (List.Mem.head _) rfl; exact h) (by kernel_rfl) u33 i33
  · exact RG.cert_call3 rfl 20 36 38 40 rv0 (fv y1) (fv z2) (fv c3) rfl (fun a w => by kernel_rfl) (fun μ a K => by have h := K.op 36 0 (List.Mem.head _) rfl; exact h) (fun μ a K => by have h := K.op 38 2 (List.Mem.tail _ (List.Mem.head _)) rfl; exact h) (fun μ a K => by have h := K.op 40 4 (List.Mem.tail _ (List.Mem.tail _ (List.Mem.head _))) rfl; exact h) (hc3 ▸ rMul_c C y1 z2)
  · exact RG.cert_alloc 5 rfl rfl _ rfl 33 rfl (fun w => by kernel_rfl)
  · exact RG.cert_put 5 rfl _ rfl 33 (.tmp 8) (.tmp 41) rfl rfl rfl (fun μ a K => by have h := K.op 8 6 (List.Mem.head _) rfl; exact h) (fun μ a K => by have h := K.op 41 5 (List.Mem.tail _ (List.Mem.head _)) rfl; exact h) i33 rfl
  intro new8 w8 hl8 hS8
  obtain ⟨j8, rfl⟩ := RG.len1 hl8
  repeat refine wp_seq ?_
  refine RG.region_draws (by kernel_rfl) (its := F39e_10i x1 y1 z1 x2 y2 z2 c1 c2 c3 c4 c5 c6 c7 c8 c9 c10 c11 c12 c13 c14 c15 c16 c17 c18 c19 c20 c21 c22) (bl := F39e_10b x1 y1 z1 x2 y2 z2 c1 c2 c3 c4 c5 c6 c7 c8 c9 c10 c11 c12 c13 c14 c15 c16 c17 c18 c19 c20 c21 c22) (olds := F39e_10o x1 y1 z1 x2 y2 z2 c1 c2 c3 c4 c5 c6 c7 c8 c9 c10 c11 c12 c13 c14 c15 c16 c17 c18 c19 c20 c21 c22) hS8 (RG.Reg.mk' (by kernel_rfl) ⟨by kernel_rfl, by kernel_rfl, trivial⟩ ⟨?_, ?_, ?_, ?_, ?_, ?_, ?_, ?_, trivial⟩) (by kernel_rfl) (by kernel_rfl) (by kernel_rfl) ?_
  · exact RG.cert_call0 rfl 69 rv0 rfl (fun a w => by kernel_rfl) (F3_c)
  · exact RG.cert_field rfl 56 2 0 rfl 0 0 0 rfl (fun μ a K => K.old 2 (.p 0 0) (List.Mem.head _) (by kernel_rfl)) (fun k w => by kernel_rfl)
  · exact RG.cert_load rfl 0 0 _ rfl rfl (by kernel_rfl) 33 43 rfl (ws x1) rfl (fun μ a K => by have h := K.op 43 1 (List.Mem.head _) rfl; exact h) (by kernel_rfl) u33 i33
  · exact RG.cert_field rfl 56 3 2 rfl 1 0 8 rfl (fun μ a K => K.old 3 (.p 1 0) (List.Mem.tail _ (List.Mem.head _)) (by kernel_rfl)) (fun k w => by kernel_rfl)
  · exact RG.cert_load rfl 1 8 _ rfl rfl (by kernel_rfl) 33 45 rfl (ws z2) rfl (fun μ a K => by have h := K.op 45 3 (List.Mem.head _) rfl; exact h) (by kernel_rfl) u33 i33
  · exact RG.cert_call3 rfl 20 42 44 46 rv0 (fv x1) (fv z2) (fv c4) rfl (fun a w => by kernel_rfl) (fun μ a K => by have h := K.op 42 0 (List.Mem.head _) rfl; exact h) (fun μ a K => by have h := K.op 44 2 (List.Mem.tail _ (List.Mem.head _)) rfl; exact h) (fun μ a K => by have h := K.op 46 4 (List.Mem.tail _ (List.Mem.tail _ (List.Mem.head _))) rfl; exact h) (hc4 ▸ rMul_c C x1 z2)
  · exact RG.cert_alloc 6 rfl rfl _ rfl 33 rfl (fun w => by kernel_rfl)
  · exact RG.cert_put 6 rfl _ rfl 33 (.tmp 9) (.tmp 47) rfl rfl rfl (fun μ a K => by have h := K.op 9 6 (List.Mem.head _) rfl; exact h) (fun μ a K => by have h := K.op 47 5 (List.Mem.tail _ (List.Mem.head _)) rfl; exact h) i33 rfl
  intro new9 w9 hl9 hS9
  obtain ⟨j9, rfl⟩ := RG.len1 hl9
  repeat refine wp_seq ?_
  refine RG.region_text (its := F39e_11i x1 y1 z1 x2 y2 z2 c1 c2 c3 c4 c5 c6 c7 c8 c9 c10 c11 c12 c13 c14 c15 c16 c17 c18 c19 c20 c21 c22) (bl := F39e_11b x1 y1 z1 x2 y2 z2 c1 c2 c3 c4 c5 c6 c7 c8 c9 c10 c11 c12 c13 c14 c15 c16 c17 c18 c19 c20 c21 c22) (olds := F39e_11o x1 y1 z1 x2 y2 z2 c1 c2 c3 c4 c5 c6 c7 c8 c9 c10 c11 c12 c13 c14 c15 c16 c17 c18 c19 c20 c21 c22) hS9 (RG.Reg.mk' (by kernel_rfl) ⟨by kernel_rfl, by kernel_rfl, trivial⟩ ⟨?_, ?_, ?_, trivial⟩) (by kernel_rfl) (by kernel_rfl) (by kernel_rfl) ?_
  · exact RG.cert_load rfl 4 0 _ rfl rfl (by kernel_rfl) 33 7 rfl (ws c2) rfl (fun μ a K => K.old 7 (.p 4 0) (List.Mem.head _) (by kernel_rfl)) (by kernel_rfl) u33 i33
  · exact RG.cert_load rfl 6 0 _ rfl rfl (by kernel_rfl) 33 9 rfl (ws c4) rfl (fun μ a K => K.old 9 (.p 6 0) (List.Mem.tail _ (List.Mem.head _)) (by kernel_rfl)) (by kernel_rfl) u33 i33
  · exact RG.cert_bin rfl .eql 33 33 48 49 (fv c2) (fv c4) (.bool false) rfl rfl (fun μ a K => by have h := K.op 48 0 (List.Mem.head _) rfl; exact h) (fun μ a K => by have h := K.op 49 1 (List.Mem.tail _ (List.Mem.head _)) rfl; exact h) (fun w => by kernel_rfl) (eqR_f C.toFld (by subst_vars; exact hv))
  intro new10 w10 hl10 hS10
  obtain rfl := RG.len0 hl10
  repeat refine wp_seq ?_
  refine wp_cond_false (by kernel_rfl) ?_
  refine wp_skip ?_
  repeat refine wp_seq ?_
  refine RG.region_draws (by kernel_rfl) (its := F39e_15i x1 y1 z1 x2 y2 z2 c1 c2 c3 c4 c5 c6 c7 c8 c9 c10 c11 c12 c13 c14 c15 c16 c17 c18 c19 c20 c21 c22) (bl := F39e_15b x1 y1 z1 x2 y2 z2 c1 c2 c3 c4 c5 c6 c7 c8 c9 c10 c11 c12 c13 c14 c15 c16 c17 c18 c19 c20 c21 c22) (olds := F39e_15o x1 y1 z1 x2 y2 z2 c1 c2 c3 c4 c5 c6 c7 c8 c9 c10 c11 c12 c13 c14 c15 c16 c17 c18 c19 c20 c21 c22) hS10 (RG.Reg.mk' (by kernel_rfl) ⟨by kernel_rfl, by kernel_rfl, trivial⟩ ⟨?_, ?_, ?_, ?_, ?_, ?_, trivial⟩) (by kernel_rfl) (by kernel_rfl) (by kernel_rfl) ?_
  · exact RG.cert_call0 rfl 69 rv0 rfl (fun a w => by kernel_rfl) (F3_c)
  · exact RG.cert_load rfl 3 0 _ rfl rfl (by kernel_rfl) 33 6 rfl (ws c1) rfl (fun μ a K => K.old 6 (.p 3 0) (List.Mem.head _) (by kernel_rfl)) (by kernel_rfl) u33 i33
  · exact RG.cert_load rfl 5 0 _ rfl rfl (by kernel_rfl) 33 8 rfl (ws c3) rfl (fun μ a K => K.old 8 (.p 5 0) (List.Mem.tail _ (List.Mem.head _)) (by kernel_rfl)) (by kernel_rfl) u33 i33
  · exact RG.cert_call3 rfl 19 61 62 63 rv0 (fv c1) (fv c3) (fv c5) rfl (fun a w => by kernel_rfl) (fun μ a K => by have h := K.op 61 0 (List.Mem.head _) rfl; exact h) (fun μ a K => by have h := K.op 62 1 (List.Mem.tail _ (List.Mem.head _)) rfl; exact h) (fun μ a K => by have h := K.op 63 2 (List.Mem.tail _ (List.Mem.tail _ (List.Mem.head _))) rfl; exact h) (hc5 ▸ rSub_c C c1 c3)
  · exact RG.cert_alloc 7 rfl rfl _ rfl 33 rfl (fun w => by kernel_rfl)
  · exact RG.cert_put 7 rfl _ rfl 33 (.tmp 10) (.tmp 64) rfl rfl rfl (fun μ a K => by have h := K.op 10 4 (List.Mem.head _) rfl; exact h) (fun μ a K => by have h := K.op 64 3 (List.Mem.tail _ (List.Mem.head _)) rfl; exact h) i33 rfl
  intro new11 w11 hl11 hS11
  obtain ⟨j11, rfl⟩ := RG.len1 hl11
  repeat refine wp_seq ?_
  refine RG.region_draws (by kernel_rfl) (its := F39e_16i x1 y1 z1 x2 y2 z2 c1 c2 c3 c4 c5 c6 c7 c8 c9 c10 c11 c12 c13 c14 c15 c16 c17 c18 c19 c20 c21 c22) (bl := F39e_16b x1 y1 z1 x2 y2 z2 c1 c2 c3 c4 c5 c6 c7 c8 c9 c10 c11 c12 c13 c14 c15 c16 c17 c18 c19 c20 c21 c22) (olds := F39e_16o x1 y1 z1 x2 y2 z2 c1 c2 c3 c4 c5 c6 c7 c8 c9 c10 c11 c12 c13 c14 c15 c16 c17 c18 c19 c20 c21 c22) hS11 (RG.Reg.mk' (by kernel_rfl) ⟨by kernel_rfl, by kernel_rfl, trivial⟩ ⟨?_, ?_, ?_, ?_, ?_, ?_, trivial⟩) (by kernel_rfl) (by kernel_rfl) (by kernel_rfl) ?_
  · exact RG.cert_call0 rfl 69 rv0 rfl (fun a w => by kernel_rfl) (F3_c)
  · exact RG.cert_load rfl 4 0 _ rfl rfl (by kernel_rfl) 33 7 rfl (ws c2) rfl (fun μ a K => K.old 7 (.p 4 0) (List.Mem.head _) (by kernel_rfl)) (by kernel_rfl) u33 i33
  · exact RG.cert_load rfl 6 0 _ rfl rfl (by kernel_rfl) 33 9 rfl (ws c4) rfl (fun μ a K => K.old 9 (.p 6 0) (List.Mem.tail _ (List.Mem.head _)) (by kernel_rfl)) (by kernel_rfl) u33 i33
  · exact RG.cert_call3 rfl 19 65 66 67 rv0 (fv c2) (fv c4) (fv c6) rfl (fun a w => by kernel_rfl) (fun μ a K => by have h := K.op 65 0 (List.Mem.head _) rfl; exact h) (fun μ a K => by have h := K.op 66 1 (List.Mem.tail _ (List.Mem.head _)) rfl; exact h) (fun μ a K => by have h := K.op 67 2 (List.Mem.tail _ (List.Mem.tail _ (List.Mem.head _))) rfl; exact h) (hc6 ▸ rSub_c C c2 c4)
  · exact RG.cert_alloc 8 rfl rfl _ rfl 33 rfl (fun w => by kernel_rfl)
  · exact RG.cert_put 8 rfl _ rfl 33 (.tmp 11) (.tmp 68) rfl rfl rfl (fun μ a K => by have h := K.op 11 4 (List.Mem.head _) rfl; exact h) (fun μ a K => by have h := K.op 68 3 (List.Mem.tail _ (List.Mem.head _)) rfl; exact h) i33 rfl
  intro new12 w12 hl12 hS12
  obtain ⟨j12, rfl⟩ := RG.len1 hl12
  repeat refine wp_seq ?_
  refine RG.region_draws (by kernel_rfl) (its := F39e_17i x1 y1 z1 x2 y2 z2 c1 c2 c3 c4 c5 c6 c7 c8 c9 c10 c11 c12 c13 c14 c15 c16 c17 c18 c19 c20 c21 c22) (bl := F39e_17b x1 y1 z1 x2 y2 z2 c1 c2 c3 c4 c5 c6 c7 c8 c9 c10 c11 c12 c13 c14 c15 c16 c17 c18 c19 c20 c21 c22) (olds := F39e_17o x1 y1 z1 x2 y2 z2 c1 c2 c3 c4 c5 c6 c7 c8 c9 c10 c11 c12 c13 c14 c15 c16 c17 c18 c19 c20 c21 c22) hS12 (RG.Reg.mk' (by kernel_rfl) ⟨by kernel_rfl, by kernel_rfl, trivial⟩ ⟨?_, ?_, ?_, ?_, ?_, ?_, ?_, ?_, trivial⟩) (by kernel_rfl) (by kernel_rfl) (by kernel_rfl) ?_
  · exact RG.cert_call0 rfl 69 rv0 rfl (fun a w => by kernel_rfl) (F3_c)
  · exact RG.cert_field rfl 56 2 2 rfl 0 0 8 rfl (fun μ a K => K.old 2 (.p 0 0) (List.Mem.head _) (by kernel_rfl)) (fun k w => by kernel_rfl)
  · exact RG.cert_load rfl 0 8 _ rfl rfl (by kernel_rfl) 33 70 rfl (ws z1) rfl (fun μ a K => by have h := K.op 70 1 (List.Mem.head _) rfl; exact h) (by kernel_rfl) u33 i33
  · exact RG.cert_field rfl 56 3 2 rfl 1 0 8 rfl (fun μ a K => K.old 3 (.p 1 0) (List.Mem.tail _ (List.Mem.head _)) (by kernel_rfl)) (fun k w => by kernel_rfl)
  · exact RG.cert_load rfl 1 8 _ rfl rfl (by kernel_rfl) 33 72 rfl (ws z2) rfl (fun μ a K => by have h := K.op 72 3 (List.Mem.head _) rfl; exact h) (by kernel_rfl) u33 i33
  · exact RG.cert_call3 rfl 20 69 71 73 rv0 (fv z1) (fv z2) (fv c7) rfl (fun a w => by kernel_rfl) (fun μ a K => by have h := K.op 69 0 (List.Mem.head _) rfl; exact h) (fun μ a K => by have h := K.op 71 2 (List.Mem.tail _ (List.Mem.head _)) rfl; exact h) (fun μ a K => by have h := K.op 73 4 (List.Mem.tail _ (List.Mem.tail _ (List.Mem.head _))) rfl; exact h) (hc7 ▸ rMul_c C z1 z2)
  · exact RG.cert_alloc 9 rfl rfl _ rfl 33 rfl (fun w => by kernel_rfl)
  · exact RG.cert_put 9 rfl _ rfl 33 (.tmp 12) (.tmp 74) rfl rfl rfl (fun μ a K => by have h := K.op 12 6 (List.Mem.head _) rfl; exact h) (fun μ a K => by have h := K.op 74 5 (List.Mem.tail _ (List.Mem.head _)) rfl; exact h) i33 rfl
  intro new13 w13 hl13 hS13
  obtain ⟨j13, rfl⟩ := RG.len1 hl13
  repeat refine wp_seq ?_
  refine RG.region_draws (by kernel_rfl) (its := F39e_18i x1 y1 z1 x2 y2 z2 c1 c2 c3 c4 c5 c6 c7 c8 c9 c10 c11 c12 c13 c14 c15 c16 c17 c18 c19 c20 c21 c22) (bl := F39e_18b x1 y1 z1 x2 y2 z2 c1 c2 c3 c4 c5 c6 c7 c8 c9 c10 c11 c12 c13 c14 c15 c16 c17 c18 c19 c20 c21 c22) (olds := F39e_18o x1 y1 z1 x2 y2 z2 c1 c2 c3 c4 c5 c6 c7 c8 c9 c10 c11 c12 c13 c14 c15 c16 c17 c18 c19 c20 c21 c22) hS13 (RG.Reg.mk' (by kernel_rfl) ⟨by kernel_rfl, trivial⟩ ⟨?_, ?_, ?_, ?_, ?_, ?_, trivial⟩) (by kernel_rfl) (by kernel_rfl) (by kernel_rfl) ?_
  · exact RG.cert_call0 rfl 69 rv0 rfl (fun a w => by kernel_rfl) (F3_c)
  · exact RG.cert_load rfl 8 0 _ rfl rfl (by kernel_rfl) 33 11 rfl (ws c6) rfl (fun μ a K => K.old 11 (.p 8 0) (List.Mem.head _) (by kernel_rfl)) (by kernel_rfl) u33 i33
  · exact RG.cert_load rfl 8 0 _ rfl rfl (by kernel_rfl) 33 11 rfl (ws c6) rfl (fun μ a K => K.old 11 (.p 8 0) (List.Mem.head _) (by kernel_rfl)) (by kernel_rfl) u33 i33
  · exact RG.cert_call3 rfl 20 75 76 77 rv0 (fv c6) (fv c6) (fv c8) rfl (fun a w => by kernel_rfl) (fun μ a K => by have h := K.op 75 0 (List.Mem.head _) rfl; exact h) (fun μ a K => by have h := K.op 76 1 (List.Mem.tail _ (List.Mem.head _)) rfl; exact h) (fun μ a K => by have h := K.op 77 2 (List.Mem.tail _ (List.Mem.tail _ (List.Mem.head _))) rfl; exact h) (hc8 ▸ rMul_c C c6 c6)
  · exact RG.cert_alloc 10 rfl rfl _ rfl 33 rfl (fun w => by kernel_rfl)
  · exact RG.cert_put 10 rfl _ rfl 33 (.tmp 13) (.tmp 78) rfl rfl rfl (fun μ a K => by have h := K.op 13 4 (List.Mem.head _) rfl; exact h) (fun μ a K => by have h := K.op 78 3 (List.Mem.tail _ (List.Mem.head _)) rfl; exact h) i33 rfl
  intro new14 w14 hl14 hS14
  obtain ⟨j14, rfl⟩ := RG.len1 hl14
  repeat refine wp_seq ?_
  refine RG.region_draws (by kernel_rfl) (its := F39e_19i x1 y1 z1 x2 y2 z2 c1 c2 c3 c4 c5 c6 c7 c8 c9 c10 c11 c12 c13 c14 c15 c16 c17 c18 c19 c20 c21 c22) (bl := F39e_19b x1 y1 z1 x2 y2 z2 c1 c2 c3 c4 c5 c6 c7 c8 c9 c10 c11 c12 c13 c14 c15 c16 c17 c18 c19 c20 c21 c22) (olds := F39e_19o x1 y1 z1 x2 y2 z2 c1 c2 c3 c4 c5 c6 c7 c8 c9 c10 c11 c12 c13 c14 c15 c16 c17 c18 c19 c20 c21 c22) hS14 (RG.Reg.mk' (by kernel_rfl) ⟨by kernel_rfl, by kernel_rfl, trivial⟩ ⟨?_, ?_, ?_, ?_, ?_, ?_, trivial⟩) (by kernel_rfl) (by kernel_rfl) (by kernel_rfl) ?_
  · exact RG.cert_call0 rfl 69 rv0 rfl (fun a w => by kernel_rfl) (F3_c)
  · exact RG.cert_load rfl 10 0 _ rfl rfl (by kernel_rfl) 33 13 rfl (ws c8) rfl (fun μ a K => K.old 13 (.p 10 0) (List.Mem.head _) (by kernel_rfl)) (by kernel_rfl) u33 i33
  · exact RG.cert_load rfl 8 0 _ rfl rfl (by kernel_rfl) 33 11 rfl (ws c6) rfl (fun μ a K => K.old 11 (.p 8 0) (List.Mem.tail _ (List.Mem.head _)) (by kernel_rfl)) (by kernel_rfl) u33 i33
  · exact RG.cert_call3 rfl 20 79 80 81 rv0 (fv c8) (fv c6) (fv c9) rfl (fun a w => by kernel_rfl) (fun μ a K => by have h := K.op 79 0 (List.Mem.head _) rfl; exact h) (fun μ a K => by have h := K.op 80 1 (List.Mem.tail _ (List.Mem.head _)) rfl; exact h) (fun μ a K => by have h := K.op 81 2 (List.Mem.tail _ (List.Mem.tail _ (List.Mem.head _))) rfl; exact h) (hc9 ▸ rMul_c C c8 c6)
  · exact RG.cert_alloc 11 rfl rfl _ rfl 33 rfl (fun w => by kernel_rfl)
  · exact RG.cert_put 11 rfl _ rfl 33 (.tmp 14) (.tmp 82) rfl rfl rfl (fun μ a K => by have h := K.op 14 4 (List.Mem.head _) rfl; exact h) (fun μ a K => by have h := K.op 82 3 (List.Mem.tail _ (List.Mem.head _)) rfl; exact h) i33 rfl
  intro new15 w15 hl15 hS15
  obtain ⟨j15, rfl⟩ := RG.len1 hl15
  repeat refine wp_seq ?_
  refine RG.region_draws (by kernel_rfl) (its := F39e_20i x1 y1 z1 x2 y2 z2 c1 c2 c3 c4 c5 c6 c7 c8 c9 c10 c11 c12 c13 c14 c15 c16 c17 c18 c19 c20 c21 c22) (bl := F39e_20b x1 y1 z1 x2 y2 z2 c1 c2 c3 c4 c5 c6 c7 c8 c9 c10 c11 c12 c13 c14 c15 c16 c17 c18 c19 c20 c21 c22) (olds := F39e_20o x1 y1 z1 x2 y2 z2 c1 c2 c3 c4 c5 c6 c7 c8 c9 c10 c11 c12 c13 c14 c15 c16 c17 c18 c19 c20 c21 c22) hS15 (RG.Reg.mk' (by kernel_rfl) ⟨by kernel_rfl, by kernel_rfl, by kernel_rfl, by kernel_rfl, by kernel_rfl, trivial⟩ ⟨?_, ?_, ?_, ?_, ?_, ?_, ?_, ?_, ?_, ?_, ?_, ?_, ?_, ?_, ?_, ?_, ?_, ?_, ?_, ?_, ?_, trivial⟩) (by kernel_rfl) (by kernel_rfl) (by kernel_rfl) ?_
  · exact RG.cert_call0 rfl 69 rv0 rfl (fun a w => by kernel_rfl) (F3_c)
  · exact RG.cert_call0 rfl 69 rv0 rfl (fun a w => by kernel_rfl) (F3_c)
  · exact RG.cert_call0 rfl 69 rv0 rfl (fun a w => by kernel_rfl) (F3_c)
  · exact RG.cert_call0 rfl 69 rv0 rfl (fun a w => by kernel_rfl) (F3_c)
  · exact RG.cert_load rfl 7 0 _ rfl rfl (by kernel_rfl) 33 10 rfl (ws c5) rfl (fun μ a K => K.old 10 (.p 7 0) (List.Mem.head _) (by kernel_rfl)) (by kernel_rfl) u33 i33
  · exact RG.cert_load rfl 7 0 _ rfl rfl (by kernel_rfl) 33 10 rfl (ws c5) rfl (fun μ a K => K.old 10 (.p 7 0) (List.Mem.head _) (by kernel_rfl)) (by kernel_rfl) u33 i33
  · exact RG.cert_call3 rfl 20 86 87 88 rv0 (fv c5) (fv c5) (fv c10) rfl (fun a w => by kernel_rfl) (fun μ a K => by have h := K.op 86 3 (List.Mem.head _) rfl; exact h) (fun μ a K => by have h := K.op 87 4 (List.Mem.tail _ (List.Mem.head _)) rfl; exact h) (fun μ a K => by have h := K.op 88 5 (List.Mem.tail _ (List.Mem.tail _ (List.Mem.head _))) rfl; exact h) (hc10 ▸ rMul_c C c5 c5)
  · exact RG.cert_load rfl 9 0 _ rfl rfl (by kernel_rfl) 33 12 rfl (ws c7) rfl (fun μ a K => K.old 12 (.p 9 0) (List.Mem.tail _ (List.Mem.head _)) (by kernel_rfl)) (by kernel_rfl) u33 i33
  · exact RG.cert_call3 rfl 20 85 89 90 rv0 (fv c10) (fv c7) (fv c11) rfl (fun a w => by kernel_rfl) (fun μ a K => by have h := K.op 85 2 (List.Mem.head _) rfl; exact h) (fun μ a K => by have h := K.op 89 6 (List.Mem.tail _ (List.Mem.head _)) rfl; exact h) (fun μ a K => by have h := K.op 90 7 (List.Mem.tail _ (List.Mem.tail _ (List.Mem.head _))) rfl; exact h) (hc11 ▸ rMul_c C c10 c7)
  · exact RG.cert_load rfl 11 0 _ rfl rfl (by kernel_rfl) 33 14 rfl (ws c9) rfl (fun μ a K => K.old 14 (.p 11 0) (List.Mem.tail _ (List.Mem.tail _ (List.Mem.head _))) (by kernel_rfl)) (by kernel_rfl) u33 i33
  · exact RG.cert_call3 rfl 19 84 91 92 rv0 (fv c11) (fv c9) (fv c12) rfl (fun a w => by kernel_rfl) (fun μ a K => by have h := K.op 84 1 (List.Mem.head _) rfl; exact h) (fun μ a K => by have h := K.op 91 8 (List.Mem.tail _ (List.Mem.head _)) rfl; exact h) (fun μ a K => by have h := K.op 92 9 (List.Mem.tail _ (List.Mem.tail _ (List.Mem.head _))) rfl; exact h) (hc12 ▸ rSub_c C c11 c9)
  · exact RG.cert_call0 rfl 69 rv0 rfl (fun a w => by kernel_rfl) (F3_c)
  · exact RG.cert_call0 rfl 69 rv0 rfl (fun a w => by kernel_rfl) (F3_c)
  · exact RG.cert_load rfl 6 0 _ rfl rfl (by kernel_rfl) 33 9 rfl (ws c4) rfl (fun μ a K => K.old 9 (.p 6 0) (List.Mem.tail _ (List.Mem.tail _ (List.Mem.tail _ (List.Mem.head _)))) (by kernel_rfl)) (by kernel_rfl) u33 i33
  · exact RG.cert_load rfl 6 0 _ rfl rfl (by kernel_rfl) 33 9 rfl (ws c4) rfl (fun μ a K => K.old 9 (.p 6 0) (List.Mem.tail _ (List.Mem.tail _ (List.Mem.tail _ (List.Mem.head _)))) (by kernel_rfl)) (by kernel_rfl) u33 i33
  · exact RG.cert_call3 rfl 18 95 96 97 rv0 (fv c4) (fv c4) (fv c13) rfl (fun a w => by kernel_rfl) (fun μ a K => by have h := K.op 95 12 (List.Mem.head _) rfl; exact h) (fun μ a K => by have h := K.op 96 13 (List.Mem.tail _ (List.Mem.head _)) rfl; exact h) (fun μ a K => by have h := K.op 97 14 (List.Mem.tail _ (List.Mem.tail _ (List.Mem.head _))) rfl; exact h) (hc13 ▸ rAdd_c C c4 c4)
  · exact RG.cert_load rfl 10 0 _ rfl rfl (by kernel_rfl) 33 13 rfl (ws c8) rfl (fun μ a K => K.old 13 (.p 10 0) (List.Mem.tail _ (List.Mem.tail _ (List.Mem.tail _ (List.Mem.tail _ (List.Mem.head _))))) (by kernel_rfl)) (by kernel_rfl) u33 i33
  · exact RG.cert_call3 rfl 20 94 98 99 rv0 (fv c13) (fv c8) (fv c14) rfl (fun a w => by kernel_rfl) (fun μ a K => by have h := K.op 94 11 (List.Mem.head _) rfl; exact h) (fun μ a K => by have h := K.op 98 15 (List.Mem.tail _ (List.Mem.head _)) rfl; exact h) (fun μ a K => by have h := K.op 99 16 (List.Mem.tail _ (List.Mem.tail _ (List.Mem.head _))) rfl; exact h) (hc14 ▸ rMul_c C c13 c8)
  · exact RG.cert_call3 rfl 19 83 93 100 rv0 (fv c12) (fv c14) (fv c15) rfl (fun a w => by kernel_rfl) (fun μ a K => by have h := K.op 83 0 (List.Mem.head _) rfl; exact h) (fun μ a K => by have h := K.op 93 10 (List.Mem.tail _ (List.Mem.head _)) rfl; exact h) (fun μ a K => by have h := K.op 100 17 (List.Mem.tail _ (List.Mem.tail _ (List.Mem.head _))) rfl; exact h) (hc15 ▸ rSub_c C c12 c14)
  · exact RG.cert_alloc 12 rfl rfl _ rfl 33 rfl (fun w => by kernel_rfl)
  · exact RG.cert_put 12 rfl _ rfl 33 (.tmp 15) (.tmp 101) rfl rfl rfl (fun μ a K => by have h := K.op 15 19 (List.Mem.head _) rfl; exact h) (fun μ a K => by have h := K.op 101 18 (List.Mem.tail _ (List.Mem.head _)) rfl; exact h) i33 rfl
  intro new16 w16 hl16 hS16
  obtain ⟨j16, rfl⟩ := RG.len1 hl16
  repeat refine wp_seq ?_
  refine RG.region_draws (by kernel_rfl) (its := F39e_21i x1 y1 z1 x2 y2 z2 c1 c2 c3 c4 c5 c6 c7 c8 c9 c10 c11 c12 c13 c14 c15 c16 c17 c18 c19 c20 c21 c22) (bl := F39e_21b x1 y1 z1 x2 y2 z2 c1 c2 c3 c4 c5 c6 c7 c8 c9 c10 c11 c12 c13 c14 c15 c16 c17 c18 c19 c20 c21 c22) (olds := F39e_21o x1 y1 z1 x2 y2 z2 c1 c2 c3 c4 c5 c6 c7 c8 c9 c10 c11 c12 c13 c14 c15 c16 c17 c18 c19 c20 c21 c22) hS16 (RG.Reg.mk' (by kernel_rfl) ⟨by kernel_rfl, by kernel_rfl, by kernel_rfl, by kernel_rfl, by kernel_rfl, by kernel_rfl, by kernel_rfl, by kernel_rfl, by kernel_rfl, trivial⟩ ⟨?_, ?_, ?_, ?_, ?_, ?_, ?_, ?_, ?_, ?_, ?_, ?_, ?_, ?_, ?_, ?_, ?_, ?_, ?_, ?_, ?_, ?_, ?_, ?_, ?_, ?_, trivial⟩) (by kernel_rfl) (by kernel_rfl) (by kernel_rfl) ?_
  · exact RG.cert_call0 rfl 69 rv0 rfl (fun a w => by kernel_rfl) (F3_c)
  · exact RG.cert_load rfl 8 0 _ rfl rfl (by kernel_rfl) 33 11 rfl (ws c6) rfl (fun μ a K => K.old 11 (.p 8 0) (List.Mem.head _) (by kernel_rfl)) (by kernel_rfl) u33 i33
  · exact RG.cert_load rfl 12 0 _ rfl rfl (by kernel_rfl) 33 15 rfl (ws c15) rfl (fun μ a K => K.old 15 (.p 12 0) (List.Mem.tail _ (List.Mem.head _)) (by kernel_rfl)) (by kernel_rfl) u33 i33
  · exact RG.cert_call3 rfl 20 102 103 104 rv0 (fv c6) (fv c15) (fv c16) rfl (fun a w => by kernel_rfl) (fun μ a K => by have h := K.op 102 0 (List.Mem.head _) rfl; exact h) (fun μ a K => by have h := K.op 103 1 (List.Mem.tail _ (List.Mem.head _)) rfl; exact h) (fun μ a K => by have h := K.op 104 2 (List.Mem.tail _ (List.Mem.tail _ (List.Mem.head _))) rfl; exact h) (hc16 ▸ rMul_c C c6 c15)
  · exact RG.cert_call0 rfl 69 rv0 rfl (fun a w => by kernel_rfl) (F3_c)
  · exact RG.cert_call0 rfl 69 rv0 rfl (fun a w => by kernel_rfl) (F3_c)
  · exact RG.cert_load rfl 7 0 _ rfl rfl (by kernel_rfl) 33 10 rfl (ws c5) rfl (fun μ a K => K.old 10 (.p 7 0) (List.Mem.tail _ (List.Mem.tail _ (List.Mem.head _))) (by kernel_rfl)) (by kernel_rfl) u33 i33
  · exact RG.cert_call0 rfl 69 rv0 rfl (fun a w => by kernel_rfl) (F3_c)
  · exact RG.cert_call0 rfl 69 rv0 rfl (fun a w => by kernel_rfl) (F3_c)
  · exact RG.cert_load rfl 6 0 _ rfl rfl (by kernel_rfl) 33 9 rfl (ws c4) rfl (fun μ a K => K.old 9 (.p 6 0) (List.Mem.tail _ (List.Mem.tail _ (List.Mem.tail _ (List.Mem.head _)))) (by kernel_rfl)) (by kernel_rfl) u33 i33
  · exact RG.cert_load rfl 10 0 _ rfl rfl (by kernel_rfl) 33 13 rfl (ws c8) rfl (fun μ a K => K.old 13 (.p 10 0) (List.Mem.tail _ (List.Mem.tail _ (List.Mem.tail _ (List.Mem.tail _ (List.Mem.head _))))) (by kernel_rfl)) (by kernel_rfl) u33 i33
  · exact RG.cert_call3 rfl 20 110 111 112 rv0 (fv c4) (fv c8) (fv c17) rfl (fun a w => by kernel_rfl) (fun μ a K => by have h := K.op 110 8 (List.Mem.head _) rfl; exact h) (fun μ a K => by have h := K.op 111 9 (List.Mem.tail _ (List.Mem.head _)) rfl; exact h) (fun μ a K => by have h := K.op 112 10 (List.Mem.tail _ (List.Mem.tail _ (List.Mem.head _))) rfl; exact h) (hc17 ▸ rMul_c C c4 c8)
  · exact RG.cert_load rfl 12 0 _ rfl rfl (by kernel_rfl) 33 15 rfl (ws c15) rfl (fun μ a K => K.old 15 (.p 12 0) (List.Mem.tail _ (List.Mem.head _)) (by kernel_rfl)) (by kernel_rfl) u33 i33
  · exact RG.cert_call3 rfl 19 109 113 114 rv0 (fv c17) (fv c15) (fv c18) rfl (fun a w => by kernel_rfl) (fun μ a K => by have h := K.op 109 7 (List.Mem.head _) rfl; exact h) (fun μ a K => by have h := K.op 113 11 (List.Mem.tail _ (List.Mem.head _)) rfl; exact h) (fun μ a K => by have h := K.op 114 12 (List.Mem.tail _ (List.Mem.tail _ (List.Mem.head _))) rfl; exact h) (hc18 ▸ rSub_c C c17 c15)
  · exact RG.cert_call3 rfl 20 107 108 115 rv0 (fv c5) (fv c18) (fv c19) rfl (fun a w => by kernel_rfl) (fun μ a K => by have h := K.op 107 5 (List.Mem.head _) rfl; exact h) (fun μ a K => by have h := K.op 108 6 (List.Mem.tail _ (List.Mem.head _)) rfl; exact h) (fun μ a K => by have h := K.op 115 13 (List.Mem.tail _ (List.Mem.tail _ (List.Mem.head _))) rfl; exact h) (hc19 ▸ rMul_c C c5 c18)
  · exact RG.cert_call0 rfl 69 rv0 rfl (fun a w => by kernel_rfl) (F3_c)
  · exact RG.cert_load rfl 5 0 _ rfl rfl (by kernel_rfl) 33 8 rfl (ws c3) rfl (fun μ a K => K.old 8 (.p 5 0) (List.Mem.tail _ (List.Mem.tail _ (List.Mem.tail _ (List.Mem.tail _ (List.Mem.tail _ (List.Mem.head _)))))) (by kernel_rfl)) (by kernel_rfl) u33 i33
  · exact RG.cert_load rfl 11 0 _ rfl rfl (by kernel_rfl) 33 14 rfl (ws c9) rfl (fun μ a K => K.old 14 (.p 11 0) (List.Mem.tail _ (List.Mem.tail _ (List.Mem.tail _ (List.Mem.tail _ (List.Mem.tail _ (List.Mem.tail _ (List.Mem.head _))))))) (by kernel_rfl)) (by kernel_rfl) u33 i33
  · exact RG.cert_call3 rfl 20 117 118 119 rv0 (fv c3) (fv c9) (fv c20) rfl (fun a w => by kernel_rfl) (fun μ a K => by have h := K.op 117 15 (List.Mem.head _) rfl; exact h) (fun μ a K => by have h := K.op 118 16 (List.Mem.tail _ (List.Mem.head _)) rfl; exact h) (fun μ a K => by have h := K.op 119 17 (List.Mem.tail _ (List.Mem.tail _ (List.Mem.head _))) rfl; exact h) (hc20 ▸ rMul_c C c3 c9)
  · exact RG.cert_call3 rfl 19 106 116 120 rv0 (fv c19) (fv c20) (fv c21) rfl (fun a w => by kernel_rfl) (fun μ a K => by have h := K.op 106 4 (List.Mem.head _) rfl; exact h) (fun μ a K => by have h := K.op 116 14 (List.Mem.tail _ (List.Mem.head _)) rfl; exact h) (fun μ a K => by have h := K.op 120 18 (List.Mem.tail _ (List.Mem.tail _ (List.Mem.head _))) rfl; exact h) (hc21 ▸ rSub_c C c19 c20)
  · exact RG.cert_call0 rfl 69 rv0 rfl (fun a w => by kernel_rfl) (F3_c)
  · exact RG.cert_load rfl 11 0 _ rfl rfl (by kernel_rfl) 33 14 rfl (ws c9) rfl (fun μ a K => K.old 14 (.p 11 0) (List.Mem.tail _ (List.Mem.tail _ (List.Mem.tail _ (List.Mem.tail _ (List.Mem.tail _ (List.Mem.tail _ (List.Mem.head _))))))) (by kernel_rfl)) (by kernel_rfl) u33 i33
  · exact RG.cert_load rfl 9 0 _ rfl rfl (by kernel_rfl) 33 12 rfl (ws c7) rfl (fun μ a K => K.old 12 (.p 9 0) (List.Mem.tail _ (List.Mem.tail _ (List.Mem.tail _ (List.Mem.tail _ (List.Mem.tail _ (List.Mem.tail _ (List.Mem.tail _ (List.Mem.head _)))))))) (by kernel_rfl)) (by kernel_rfl) u33 i33
  · exact RG.cert_call3 rfl 20 122 123 124 rv0 (fv c9) (fv c7) (fv c22) rfl (fun a w => by kernel_rfl) (fun μ a K => by have h := K.op 122 20 (List.Mem.head _) rfl; exact h) (fun μ a K => by have h := K.op 123 21 (List.Mem.tail _ (List.Mem.head _)) rfl; exact h) (fun μ a K => by have h := K.op 124 22 (List.Mem.tail _ (List.Mem.tail _ (List.Mem.head _))) rfl; exact h) (hc22 ▸ rMul_c C c9 c7)
  · exact RG.cert_build3 rfl 56 105 121 125 rfl (fv c16) (fv c21) (fv c22) (rv c16 c21 c22) rfl (fun μ a K => by have h := K.op 105 3 (List.Mem.head _) rfl; exact h) (fun μ a K => by have h := K.op 121 19 (List.Mem.tail _ (List.Mem.head _)) rfl; exact h) (fun μ a K => by have h := K.op 125 23 (List.Mem.tail _ (List.Mem.tail _ (List.Mem.head _))) rfl; exact h) (fun w => by kernel_rfl)
  · exact RG.cert_put 2 rfl _ rfl 56 (.tmp 4) (.tmp 126) rfl rfl rfl (fun μ a K => K.old 4 (.p 2 0) (List.Mem.tail _ (List.Mem.tail _ (List.Mem.tail _ (List.Mem.tail _ (List.Mem.tail _ (List.Mem.tail _ (List.Mem.tail _ (List.Mem.tail _ (List.Mem.head _))))))))) (by kernel_rfl)) (fun μ a K => by have h := K.op 126 24 (List.Mem.head _) rfl; exact h) i56 rfl
  intro new17 w17 hl17 hS17
  obtain rfl := RG.len0 hl17
  refine wp_ret ?_
  refine bodyPost_ret (v := (rv c16 c21 c22)) (RG.results_row hS17 4 56 rfl 2 _ rfl (by kernel_rfl) u56 i56) (by kernel_rfl) ?_
  exact ⟨_, rfl, hS17.bel.below, rfl⟩

def F70y_0i (x y c1 c2 c3 : Fin P) : List RG.It := [⟨some 1, [], (.p 0 0), .make 0⟩,
  ⟨some 2, [], (.p 1 0), .make 1⟩,
  ⟨some 3, [], (.v (.bool false)), .stay⟩]
def F70y_0b (x y c1 c2 c3 : Fin P) : List RG.Bl := [⟨(ws x), (ws x), some 0, none⟩, ⟨[.int .u64 0, .int .u64 0, .int .u64 0, .int .u64 0, .int .u64 0, .int .u64 0, .int .u64 0, .int .u64 0, .int .u64 0, .int .u64 0, .int .u64 0, .int .u64 0], [.int .u64 0, .int .u64 0, .int .u64 0, .int .u64 0, .int .u64 0, .int .u64 0, .int .u64 0, .int .u64 0, .int .u64 0, .int .u64 0, .int .u64 0, .int .u64 0], some 1, none⟩]
def F70y_0o (x y c1 c2 c3 : Fin P) : List (Tmp × RG.SV) := [(0, (.v (fv x)))]
def F70y_1i (x y c1 c2 c3 : Fin P) : List RG.It := [⟨some 7, [], (.v rv0), .call⟩,
  ⟨some 8, [], (.v rv0), .call⟩,
  ⟨some 9, [], (.v rv0), .call⟩,
  ⟨some 10, [], (.v rv0), .call⟩,
  ⟨some 11, [], (.v (fv x)), .stay⟩,
  ⟨some 12, [], (.v (fv x)), .stay⟩,
  ⟨some 13, [(10, 3), (11, 4), (12, 5)], (.v (fv c1)), .call⟩,
  ⟨some 14, [], (.v (fv x)), .stay⟩,
  ⟨some 15, [(9, 2), (13, 6), (14, 7)], (.v (fv c2)), .call⟩,
  ⟨some 16, [], (.v (fv (7 : Fin P))), .call⟩,
  ⟨some 17, [(8, 1), (15, 8), (16, 9)], (.v (fv c3)), .call⟩,
  ⟨some 18, [(7, 0), (17, 10)], (.v (.tuple #[(fv y), (.bool true)])), .call⟩,
  ⟨some 6, [(18, 11)], (.v (.tuple #[(fv y), (.bool true)])), .stay⟩,
  ⟨some 19, [(6, 12)], (.v (fv y)), .stay⟩,
  ⟨some 20, [(6, 12)], (.v (.bool true)), .stay⟩,
  ⟨some 4, [], (.p 2 0), .make 2⟩,
  ⟨none, [(4, 15), (19, 13)], (.v undef), .put 2⟩,
  ⟨some 5, [(20, 14)], (.v (.bool true)), .stay⟩]
def F70y_1b (x y c1 c2 c3 : Fin P) : List RG.Bl := [⟨(ws x), (ws x), none, none⟩, ⟨[.int .u64 0, .int .u64 0, .int .u64 0, .int .u64 0, .int .u64 0, .int .u64 0, .int .u64 0, .int .u64 0, .int .u64 0, .int .u64 0, .int .u64 0, .int .u64 0], [.int .u64 0, .int .u64 0, .int .u64 0, .int .u64 0, .int .u64 0, .int .u64 0, .int .u64 0, .int .u64 0, .int .u64 0, .int .u64 0, .int .u64 0, .int .u64 0], none, none⟩, ⟨[.int .u64 0, .int .u64 0, .int .u64 0, .int .u64 0], (ws y), some 15, some 16⟩]
def F70y_1o (x y c1 c2 c3 : Fin P) : List (Tmp × RG.SV) := [(1, (.p 0 0))]
def F70y_2i (x y c1 c2 c3 : Fin P) : List RG.It := [⟨some 21, [], (.v (fv x)), .stay⟩,
  ⟨some 22, [], (.v (fv y)), .stay⟩,
  ⟨some 23, [], (.v (fv (1 : Fin P))), .call⟩,
  ⟨some 24, [(21, 0), (22, 1), (23, 2)], (.v (rv x y (1 : Fin P))), .stay⟩,
  ⟨some 25, [], (.v (.bool true)), .stay⟩,
  ⟨none, [(24, 3)], (.v undef), .put 1⟩,
  ⟨some 3, [(25, 4)], (.v (.bool true)), .stay⟩]
def F70y_2b (x y c1 c2 c3 : Fin P) : List RG.Bl := [⟨(ws x), (ws x), none, none⟩, ⟨[.int .u64 0, .int .u64 0, .int .u64 0, .int .u64 0, .int .u64 0, .int .u64 0, .int .u64 0, .int .u64 0, .int .u64 0, .int .u64 0, .int .u64 0, .int .u64 0], (ws x ++ (ws y ++ (ws (1 : Fin P)))), none, some 5⟩, ⟨(ws y), (ws y), none, none⟩]
def F70y_2o (x y c1 c2 c3 : Fin P) : List (Tmp × RG.SV) := [(1, (.p 0 0)), (4, (.p 2 0)), (5, (.v (.bool true))), (2, (.p 1 0))]
set_option maxHeartbeats 2000000 in
set_option maxRecDepth 100000 in
theorem rat_y_c (C : Fl3 P) (x y : Fin P)(hr : rt (x * x * x + 7) = some y)  : Gives 70 #[(fv x)] (.tuple #[rv x y 1, .bool true]) := by
  intro w
  obtain ⟨c1, hc1⟩ : ∃ c, c = x * x := ⟨_, rfl⟩
  obtain ⟨c2, hc2⟩ : ∃ c, c = c1 * x := ⟨_, rfl⟩
  obtain ⟨c3, hc3⟩ : ∃ c, c = c2 + (7 : Fin P) := ⟨_, rfl⟩
  have hfin : ((.tuple #[(rv x y (1 : Fin P)), (.bool true)]) : Value) = (.tuple #[rv x y 1, .bool true]) := by
    subst_vars; rfl
  rw [← hfin]
  go_enter Try.func70, Try.ntmps70
  have hS0 := RG.St.begin w
  repeat refine wp_seq ?_
  refine RG.region_text (its := F70y_0i x y c1 c2 c3) (bl := F70y_0b x y c1 c2 c3) (olds := F70y_0o x y c1 c2 c3) hS0 (RG.Reg.mk' (by kernel_rfl) ⟨by kernel_rfl, trivial⟩ ⟨?_, ?_, ?_, trivial⟩) (by kernel_rfl) (by kernel_rfl) (by kernel_rfl) ?_
  · exact RG.cert_box 0 rfl rfl _ rfl 33 0 rfl (fv x) (fun μ a K => K.old 0 (.v (fv x)) (List.Mem.head _) (by kernel_rfl)) (fun w => by kernel_rfl)
  · exact RG.cert_alloc 1 rfl rfl _ rfl 56 rfl (fun w => by kernel_rfl)
  · exact RG.cert_stay rfl (fun μ a w _ _ => by kernel_rfl)
  intro new1 w1 hl1 hS1
  obtain ⟨j1, i1, rfl⟩ := RG.len2 hl1
  repeat refine wp_seq ?_
  refine RG.region_draws (by kernel_rfl) (its := F70y_1i x y c1 c2 c3) (bl := F70y_1b x y c1 c2 c3) (olds := F70y_1o x y c1 c2 c3) hS1 (RG.Reg.mk' (by kernel_rfl) ⟨by kernel_rfl, trivial⟩ ⟨?_, ?_, ?_, ?_, ?_, ?_, ?_, ?_, ?_, ?_, ?_, ?_, ?_, ?_, ?_, ?_, ?_, ?_, trivial⟩) (by kernel_rfl) (by kernel_rfl) (by kernel_rfl) ?_
  · exact RG.cert_call0 rfl 69 rv0 rfl (fun a w => by kernel_rfl) (F3_c)
  · exact RG.cert_call0 rfl 69 rv0 rfl (fun a w => by kernel_rfl) (F3_c)
  · exact RG.cert_call0 rfl 69 rv0 rfl (fun a w => by kernel_rfl) (F3_c)
  · exact RG.cert_call0 rfl 69 rv0 rfl (fun a w => by kernel_rfl) (F3_c)
  · exact RG.cert_load rfl 0 0 _ rfl rfl (by kernel_rfl) 33 1 rfl (ws x) rfl (fun μ a K => K.old 1 (.p 0 0) (List.Mem.head _) (by kernel_rfl)) (by kernel_rfl) u33 i33
  · exact RG.cert_load rfl 0 0 _ rfl rfl (by kernel_rfl) 33 1 rfl (ws x) rfl (fun μ a K => K.old 1 (.p 0 0) (List.Mem.head _) (by kernel_rfl)) (by kernel_rfl) u33 i33
  · exact RG.cert_call3 rfl 20 10 11 12 rv0 (fv x) (fv x) (fv c1) rfl (fun a w => by kernel_rfl) (fun μ a K => by have h := K.op 10 3 (List.Mem.head _) rfl; exact h) (fun μ a K => by have h := K.op 11 4 (List.Mem.tail _ (List.Mem.head _)) rfl; exact h) (fun μ a K => by have h := K.op 12 5 (List.Mem.tail _ (List.Mem.tail _ (List.Mem.head _))) rfl; exact h) (hc1 ▸ rMul_c C x x)
  · exact RG.cert_load rfl 0 0 _ rfl rfl (by kernel_rfl) 33 1 rfl (ws x) rfl (fun μ a K => K.old 1 (.p 0 0) (List.Mem.head _) (by kernel_rfl)) (by kernel_rfl) u33 i33
  · exact RG.cert_call3 rfl 20 9 13 14 rv0 (fv c1) (fv x) (fv c2) rfl (fun a w => by kernel_rfl) (fun μ a K => by have h := K.op 9 2 (List.Mem.head _) rfl; exact h) (fun μ a K => by have h := K.op 13 6 (List.Mem.tail _ (List.Mem.head _)) rfl; exact h) (fun μ a K => by have h := K.op 14 7 (List.Mem.tail _ (List.Mem.tail _ (List.Mem.head _))) rfl; exact h) (hc2 ▸ rMul_c C c1 x)
  · exact RG.cert_call rfl 66 #[(.int .u64 7)] (fv (7 : Fin P)) rfl (fun μ a w _ _ => by kernel_rfl) (fun w _ => (rSmall7_c C) w)
  · exact RG.cert_call3 rfl 18 8 15 16 rv0 (fv c2) (fv (7 : Fin P)) (fv c3) rfl (fun a w => by kernel_rfl) (fun μ a K => by have h := K.op 8 1 (List.Mem.head _) rfl; exact h) (fun μ a K => by have h := K.op 15 8 (List.Mem.tail _ (List.Mem.head _)) rfl; exact h) (fun μ a K => by have h := K.op 16 9 (List.Mem.tail _ (List.Mem.tail _ (List.Mem.head _))) rfl; exact h) (hc3 ▸ rAdd_c C c2 (7 : Fin P))
  · exact RG.cert_call2 rfl 24 7 17 rv0 (fv c3) (.tuple #[(fv y), (.bool true)]) rfl (fun a w => by kernel_rfl) (fun μ a K => by have h := K.op 7 0 (List.Mem.head _) rfl; exact h) (fun μ a K => by have h := K.op 17 10 (List.Mem.tail _ (List.Mem.head _)) rfl; exact h) (rSqrt_y C (by subst_vars; exact hr))
  · exact RG.cert_move rfl 18 (Or.inl rfl) (fun μ a K => by have h := K.op 18 11 (List.Mem.head _) rfl; exact h)
  · exact RG.cert_extract rfl 6 0 #[(fv y), (.bool true)] (fv y) rfl rfl rfl (fun μ a K => by have h := K.op 6 12 (List.Mem.head _) rfl; exact h)
  · exact RG.cert_extract rfl 6 1 #[(fv y), (.bool true)] (.bool true) rfl rfl rfl (fun μ a K => by have h := K.op 6 12 (List.Mem.head _) rfl; exact h)
  · exact RG.cert_alloc 2 rfl rfl _ rfl 33 rfl (fun w => by kernel_rfl)
  · exact RG.cert_put 2 rfl _ rfl 33 (.tmp 4) (.tmp 19) rfl rfl rfl (fun μ a K => by have h := K.op 4 15 (List.Mem.head _) rfl; exact h) (fun μ a K => by have h := K.op 19 13 (List.Mem.tail _ (List.Mem.head _)) rfl; exact h) i33 rfl
  · exact RG.cert_move rfl 20 (Or.inr rfl) (fun μ a K => by have h := K.op 20 14 (List.Mem.head _) rfl; exact h)
  intro new2 w2 hl2 hS2
  obtain ⟨j2, rfl⟩ := RG.len1 hl2
  repeat refine wp_seq ?_
  refine RG.region_draws (by kernel_rfl) (its := F70y_2i x y c1 c2 c3) (bl := F70y_2b x y c1 c2 c3) (olds := F70y_2o x y c1 c2 c3) hS2 (RG.Reg.mk' (by kernel_rfl) ⟨by kernel_rfl, by kernel_rfl, by kernel_rfl, by kernel_rfl, trivial⟩ ⟨?_, ?_, ?_, ?_, ?_, ?_, ?_, trivial⟩) (by kernel_rfl) (by kernel_rfl) (by kernel_rfl) ?_
  · exact RG.cert_load rfl 0 0 _ rfl rfl (by kernel_rfl) 33 1 rfl (ws x) rfl (fun μ a K => K.old 1 (.p 0 0) (List.Mem.head _) (by kernel_rfl)) (by kernel_rfl) u33 i33
  · exact RG.cert_load rfl 2 0 _ rfl rfl (by kernel_rfl) 33 4 rfl (ws y) rfl (fun μ a K => K.old 4 (.p 2 0) (List.Mem.tail _ (List.Mem.head _)) (by kernel_rfl)) (by kernel_rfl) u33 i33
  · exact RG.cert_call rfl 66 #[(.int .u64 1)] (fv (1 : Fin P)) rfl (fun μ a w _ _ => by kernel_rfl) (fun w _ => (rSmall1_c C) w)
  · exact RG.cert_build3 rfl 56 21 22 23 rfl (fv x) (fv y) (fv (1 : Fin P)) (rv x y (1 : Fin P)) rfl (fun μ a K => by have h := K.op 21 0 (List.Mem.head _) rfl; exact h) (fun μ a K => by have h := K.op 22 1 (List.Mem.tail _ (List.Mem.head _)) rfl; exact h) (fun μ a K => by have h := K.op 23 2 (List.Mem.tail _ (List.Mem.tail _ (List.Mem.head _))) rfl; exact h) (fun w => by kernel_rfl)
  · exact RG.cert_move rfl 5 (Or.inl rfl) (fun μ a K => K.old 5 (.v (.bool true)) (List.Mem.tail _ (List.Mem.tail _ (List.Mem.head _))) (by kernel_rfl))
  · exact RG.cert_put 1 rfl _ rfl 56 (.tmp 2) (.tmp 24) rfl rfl rfl (fun μ a K => K.old 2 (.p 1 0) (List.Mem.tail _ (List.Mem.tail _ (List.Mem.tail _ (List.Mem.head _)))) (by kernel_rfl)) (fun μ a K => by have h := K.op 24 3 (List.Mem.head _) rfl; exact h) i56 rfl
  · exact RG.cert_move rfl 25 (Or.inr rfl) (fun μ a K => by have h := K.op 25 4 (List.Mem.head _) rfl; exact h)
  intro new3 w3 hl3 hS3
  obtain rfl := RG.len0 hl3
  refine wp_ret ?_
  refine bodyPost_ret (v := (.tuple #[(rv x y (1 : Fin P)), (.bool true)])) (RG.results_rt hS3 2 3 56 rfl 1 _ rfl (by kernel_rfl) _ (by kernel_rfl) u56 i56) (by kernel_rfl) ?_
  exact ⟨_, rfl, hS3.bel.below, rfl⟩

def F70n_0i (x c1 c2 c3 : Fin P) : List RG.It := [⟨some 1, [], (.p 0 0), .make 0⟩,
  ⟨some 2, [], (.p 1 0), .make 1⟩,
  ⟨some 3, [], (.v (.bool false)), .stay⟩]
def F70n_0b (x c1 c2 c3 : Fin P) : List RG.Bl := [⟨(ws x), (ws x), some 0, none⟩, ⟨[.int .u64 0, .int .u64 0, .int .u64 0, .int .u64 0, .int .u64 0, .int .u64 0, .int .u64 0, .int .u64 0, .int .u64 0, .int .u64 0, .int .u64 0, .int .u64 0], [.int .u64 0, .int .u64 0, .int .u64 0, .int .u64 0, .int .u64 0, .int .u64 0, .int .u64 0, .int .u64 0, .int .u64 0, .int .u64 0, .int .u64 0, .int .u64 0], some 1, none⟩]
def F70n_0o (x c1 c2 c3 : Fin P) : List (Tmp × RG.SV) := [(0, (.v (fv x)))]
def F70n_1i (x c1 c2 c3 : Fin P) : List RG.It := [⟨some 7, [], (.v rv0), .call⟩,
  ⟨some 8, [], (.v rv0), .call⟩,
  ⟨some 9, [], (.v rv0), .call⟩,
  ⟨some 10, [], (.v rv0), .call⟩,
  ⟨some 11, [], (.v (fv x)), .stay⟩,
  ⟨some 12, [], (.v (fv x)), .stay⟩,
  ⟨some 13, [(10, 3), (11, 4), (12, 5)], (.v (fv c1)), .call⟩,
  ⟨some 14, [], (.v (fv x)), .stay⟩,
  ⟨some 15, [(9, 2), (13, 6), (14, 7)], (.v (fv c2)), .call⟩,
  ⟨some 16, [], (.v (fv (7 : Fin P))), .call⟩,
  ⟨some 17, [(8, 1), (15, 8), (16, 9)], (.v (fv c3)), .call⟩,
  ⟨some 18, [(7, 0), (17, 10)], (.v (.tuple #[(fv (0 : Fin P)), (.bool false)])), .call⟩,
  ⟨some 6, [(18, 11)], (.v (.tuple #[(fv (0 : Fin P)), (.bool false)])), .stay⟩,
  ⟨some 19, [(6, 12)], (.v (fv (0 : Fin P))), .stay⟩,
  ⟨some 20, [(6, 12)], (.v (.bool false)), .stay⟩,
  ⟨some 4, [], (.p 2 0), .make 2⟩,
  ⟨none, [(4, 15), (19, 13)], (.v undef), .put 2⟩,
  ⟨some 5, [(20, 14)], (.v (.bool false)), .stay⟩]
def F70n_1b (x c1 c2 c3 : Fin P) : List RG.Bl := [⟨(ws x), (ws x), none, none⟩, ⟨[.int .u64 0, .int .u64 0, .int .u64 0, .int .u64 0, .int .u64 0, .int .u64 0, .int .u64 0, .int .u64 0, .int .u64 0, .int .u64 0, .int .u64 0, .int .u64 0], [.int .u64 0, .int .u64 0, .int .u64 0, .int .u64 0, .int .u64 0, .int .u64 0, .int .u64 0, .int .u64 0, .int .u64 0, .int .u64 0, .int .u64 0, .int .u64 0], none, none⟩, ⟨[.int .u64 0, .int .u64 0, .int .u64 0, .int .u64 0], (ws (0 : Fin P)), some 15, some 16⟩]
def F70n_1o (x c1 c2 c3 : Fin P) : List (Tmp × RG.SV) := [(1, (.p 0 0))]
def F70n_2i (x c1 c2 c3 : Fin P) : List RG.It := [⟨some 21, [], (.v (fv x)), .stay⟩,
  ⟨some 22, [], (.v (fv (0 : Fin P))), .stay⟩,
  ⟨some 23, [], (.v (fv (1 : Fin P))), .call⟩,
  ⟨some 24, [(21, 0), (22, 1), (23, 2)], (.v (rv x (0 : Fin P) (1 : Fin P))), .stay⟩,
  ⟨some 25, [], (.v (.bool false)), .stay⟩,
  ⟨none, [(24, 3)], (.v undef), .put 1⟩,
  ⟨some 3, [(25, 4)], (.v (.bool false)), .stay⟩]
def F70n_2b (x c1 c2 c3 : Fin P) : List RG.Bl := [⟨(ws x), (ws x), none, none⟩, ⟨[.int .u64 0, .int .u64 0, .int .u64 0, .int .u64 0, .int .u64 0, .int .u64 0, .int .u64 0, .int .u64 0, .int .u64 0, .int .u64 0, .int .u64 0, .int .u64 0], (ws x ++ (ws (0 : Fin P) ++ (ws (1 : Fin P)))), none, some 5⟩, ⟨(ws (0 : Fin P)), (ws (0 : Fin P)), none, none⟩]
def F70n_2o (x c1 c2 c3 : Fin P) : List (Tmp × RG.SV) := [(1, (.p 0 0)), (4, (.p 2 0)), (5, (.v (.bool false))), (2, (.p 1 0))]
set_option maxHeartbeats 2000000 in
set_option maxRecDepth 100000 in
theorem rat_n_c (C : Fl3 P) (x : Fin P)(hr : rt (x * x * x + 7) = none)  : Gives 70 #[(fv x)] (.tuple #[rv x 0 1, .bool false]) := by
  intro w
  obtain ⟨c1, hc1⟩ : ∃ c, c = x * x := ⟨_, rfl⟩
  obtain ⟨c2, hc2⟩ : ∃ c, c = c1 * x := ⟨_, rfl⟩
  obtain ⟨c3, hc3⟩ : ∃ c, c = c2 + (7 : Fin P) := ⟨_, rfl⟩
  have hfin : ((.tuple #[(rv x (0 : Fin P) (1 : Fin P)), (.bool false)]) : Value) = (.tuple #[rv x 0 1, .bool false]) := by
    subst_vars; rfl
  rw [← hfin]
  go_enter Try.func70, Try.ntmps70
  have hS0 := RG.St.begin w
  repeat refine wp_seq ?_
  refine RG.region_text (its := F70n_0i x c1 c2 c3) (bl := F70n_0b x c1 c2 c3) (olds := F70n_0o x c1 c2 c3) hS0 (RG.Reg.mk' (by kernel_rfl) ⟨by kernel_rfl, trivial⟩ ⟨?_, ?_, ?_, trivial⟩) (by kernel_rfl) (by kernel_rfl) (by kernel_rfl) ?_
  · exact RG.cert_box 0 rfl rfl _ rfl 33 0 rfl (fv x) (fun μ a K => K.old 0 (.v (fv x)) (List.Mem.head _) (by kernel_rfl)) (fun w => by kernel_rfl)
  · exact RG.cert_alloc 1 rfl rfl _ rfl 56 rfl (fun w => by kernel_rfl)
  · exact RG.cert_stay rfl (fun μ a w _ _ => by kernel_rfl)
  intro new1 w1 hl1 hS1
  obtain ⟨j1, i1, rfl⟩ := RG.len2 hl1
  repeat refine wp_seq ?_
  refine RG.region_draws (by kernel_rfl) (its := F70n_1i x c1 c2 c3) (bl := F70n_1b x c1 c2 c3) (olds := F70n_1o x c1 c2 c3) hS1 (RG.Reg.mk' (by kernel_rfl) ⟨by kernel_rfl, trivial⟩ ⟨?_, ?_, ?_, ?_, ?_, ?_, ?_, ?_, ?_, ?_, ?_, ?_, ?_, ?_, ?_, ?_, ?_, ?_, trivial⟩) (by kernel_rfl) (by kernel_rfl) (by kernel_rfl) ?_
  · exact RG.cert_call0 rfl 69 rv0 rfl (fun a w => by kernel_rfl) (F3_c)
  · exact RG.cert_call0 rfl 69 rv0 rfl (fun a w => by kernel_rfl) (F3_c)
  · exact RG.cert_call0 rfl 69 rv0 rfl (fun a w => by kernel_rfl) (F3_c)
  · exact RG.cert_call0 rfl 69 rv0 rfl (fun a w => by kernel_rfl) (F3_c)
  · exact RG.cert_load rfl 0 0 _ rfl rfl (by kernel_rfl) 33 1 rfl (ws x) rfl (fun μ a K => K.old 1 (.p 0 0) (List.Mem.head _) (by kernel_rfl)) (by kernel_rfl) u33 i33
  · exact RG.cert_load rfl 0 0 _ rfl rfl (by kernel_rfl) 33 1 rfl (ws x) rfl (fun μ a K => K.old 1 (.p 0 0) (List.Mem.head _) (by kernel_rfl)) (by kernel_rfl) u33 i33
  · exact RG.cert_call3 rfl 20 10 11 12 rv0 (fv x) (fv x) (fv c1) rfl (fun a w => by kernel_rfl) (fun μ a K => by have h := K.op 10 3 (List.Mem.head _) rfl; exact h) (fun μ a K => by have h := K.op 11 4 (List.Mem.tail _ (List.Mem.head _)) rfl; exact h) (fun μ a K => by have h := K.op 12 5 (List.Mem.tail _ (List.Mem.tail _ (List.Mem.head _))) rfl; exact h) (hc1 ▸ rMul_c C x x)
  · exact RG.cert_load rfl 0 0 _ rfl rfl (by kernel_rfl) 33 1 rfl (ws x) rfl (fun μ a K => K.old 1 (.p 0 0) (List.Mem.head _) (by kernel_rfl)) (by kernel_rfl) u33 i33
  · exact RG.cert_call3 rfl 20 9 13 14 rv0 (fv c1) (fv x) (fv c2) rfl (fun a w => by kernel_rfl) (fun μ a K => by have h := K.op 9 2 (List.Mem.head _) rfl; exact h) (fun μ a K => by have h := K.op 13 6 (List.Mem.tail _ (List.Mem.head _)) rfl; exact h) (fun μ a K => by have h := K.op 14 7 (List.Mem.tail _ (List.Mem.tail _ (List.Mem.head _))) rfl; exact h) (hc2 ▸ rMul_c C c1 x)
  · exact RG.cert_call rfl 66 #[(.int .u64 7)] (fv (7 : Fin P)) rfl (fun μ a w _ _ => by kernel_rfl) (fun w _ => (rSmall7_c C) w)
  · exact RG.cert_call3 rfl 18 8 15 16 rv0 (fv c2) (fv (7 : Fin P)) (fv c3) rfl (fun a w => by kernel_rfl) (fun μ a K => by have h := K.op 8 1 (List.Mem.head _) rfl; exact h) (fun μ a K => by have h := K.op 15 8 (List.Mem.tail _ (List.Mem.head _)) rfl; exact h) (fun μ a K => by have h := K.op 16 9 (List.Mem.tail _ (List.Mem.tail _ (List.Mem.head _))) rfl; exact h) (hc3 ▸ rAdd_c C c2 (7 : Fin P))
  · exact RG.cert_call2 rfl 24 7 17 rv0 (fv c3) (.tuple #[(fv (0 : Fin P)), (.bool false)]) rfl (fun a w => by kernel_rfl) (fun μ a K => by have h := K.op 7 0 (List.Mem.head _) rfl; exact h) (fun μ a K => by have h := K.op 17 10 (List.Mem.tail _ (List.Mem.head _)) rfl; exact h) (rSqrt_n C (by subst_vars; exact hr))
  · exact RG.cert_move rfl 18 (Or.inl rfl) (fun μ a K => by have h := K.op 18 11 (List.Mem.head _) rfl; exact h)
  · exact RG.cert_extract rfl 6 0 #[(fv (0 : Fin P)), (.bool false)] (fv (0 : Fin P)) rfl rfl rfl (fun μ a K => by have h := K.op 6 12 (List.Mem.head _) rfl; exact h)
  · exact RG.cert_extract rfl 6 1 #[(fv (0 : Fin P)), (.bool false)] (.bool false) rfl rfl rfl (fun μ a K => by have h := K.op 6 12 (List.Mem.head _) rfl; exact h)
  · exact RG.cert_alloc 2 rfl rfl _ rfl 33 rfl (fun w => by kernel_rfl)
  · exact RG.cert_put 2 rfl _ rfl 33 (.tmp 4) (.tmp 19) rfl rfl rfl (fun μ a K => by have h := K.op 4 15 (List.Mem.head _) rfl; exact h) (fun μ a K => by have h := K.op 19 13 (List.Mem.tail _ (List.Mem.head _)) rfl; exact h) i33 rfl
  · exact RG.cert_move rfl 20 (Or.inr rfl) (fun μ a K => by have h := K.op 20 14 (List.Mem.head _) rfl; exact h)
  intro new2 w2 hl2 hS2
  obtain ⟨j2, rfl⟩ := RG.len1 hl2
  repeat refine wp_seq ?_
  refine RG.region_draws (by kernel_rfl) (its := F70n_2i x c1 c2 c3) (bl := F70n_2b x c1 c2 c3) (olds := F70n_2o x c1 c2 c3) hS2 (RG.Reg.mk' (by kernel_rfl) ⟨by kernel_rfl, by kernel_rfl, by kernel_rfl, by kernel_rfl, trivial⟩ ⟨?_, ?_, ?_, ?_, ?_, ?_, ?_, trivial⟩) (by kernel_rfl) (by kernel_rfl) (by kernel_rfl) ?_
  · exact RG.cert_load rfl 0 0 _ rfl rfl (by kernel_rfl) 33 1 rfl (ws x) rfl (fun μ a K => K.old 1 (.p 0 0) (List.Mem.head _) (by kernel_rfl)) (by kernel_rfl) u33 i33
  · exact RG.cert_load rfl 2 0 _ rfl rfl (by kernel_rfl) 33 4 rfl (ws (0 : Fin P)) rfl (fun μ a K => K.old 4 (.p 2 0) (List.Mem.tail _ (List.Mem.head _)) (by kernel_rfl)) (by kernel_rfl) u33 i33
  · exact RG.cert_call rfl 66 #[(.int .u64 1)] (fv (1 : Fin P)) rfl (fun μ a w _ _ => by kernel_rfl) (fun w _ => (rSmall1_c C) w)
  · exact RG.cert_build3 rfl 56 21 22 23 rfl (fv x) (fv (0 : Fin P)) (fv (1 : Fin P)) (rv x (0 : Fin P) (1 : Fin P)) rfl (fun μ a K => by have h := K.op 21 0 (List.Mem.head _) rfl; exact h) (fun μ a K => by have h := K.op 22 1 (List.Mem.tail _ (List.Mem.head _)) rfl; exact h) (fun μ a K => by have h := K.op 23 2 (List.Mem.tail _ (List.Mem.tail _ (List.Mem.head _))) rfl; exact h) (fun w => by kernel_rfl)
  · exact RG.cert_move rfl 5 (Or.inl rfl) (fun μ a K => K.old 5 (.v (.bool false)) (List.Mem.tail _ (List.Mem.tail _ (List.Mem.head _))) (by kernel_rfl))
  · exact RG.cert_put 1 rfl _ rfl 56 (.tmp 2) (.tmp 24) rfl rfl rfl (fun μ a K => K.old 2 (.p 1 0) (List.Mem.tail _ (List.Mem.tail _ (List.Mem.tail _ (List.Mem.head _)))) (by kernel_rfl)) (fun μ a K => by have h := K.op 24 3 (List.Mem.head _) rfl; exact h) i56 rfl
  · exact RG.cert_move rfl 25 (Or.inr rfl) (fun μ a K => by have h := K.op 25 4 (List.Mem.head _) rfl; exact h)
  intro new3 w3 hl3 hS3
  obtain rfl := RG.len0 hl3
  refine wp_ret ?_
  refine bodyPost_ret (v := (.tuple #[(rv x (0 : Fin P) (1 : Fin P)), (.bool false)])) (RG.results_rt hS3 2 3 56 rfl 1 _ rfl (by kernel_rfl) _ (by kernel_rfl) u56 i56) (by kernel_rfl) ?_
  exact ⟨_, rfl, hS3.bel.below, rfl⟩

end Go.Proofs.Ytdeidgbknlmhjab
