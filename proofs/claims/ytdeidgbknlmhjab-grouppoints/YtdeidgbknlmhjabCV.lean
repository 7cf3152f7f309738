import Derived.Test.YtdeidgbknlmhjabCU
set_option linter.unusedVariables false
set_option linter.unusedSimpArgs false
namespace Go.Proofs.Ytdeidgbknlmhjab
open Go.RowKit Go.Sort
variable {P : Nat} [NeZero P]

def gl0 : List Value := [.int .u64 4294968273, .int .u64 0, .int .u64 0, .int .u64 0]

def F99y_0i (x y c1 c2 c3 : Fin P) : List RG.It := [⟨some 1, [], (.p 0 0), .make 0⟩,
  ⟨some 2, [], (.p 1 0), .make 1⟩,
  ⟨some 3, [], (.v (.bool false)), .stay⟩]
def F99y_0b (x y c1 c2 c3 : Fin P) : List RG.Bl := [⟨(ws x), (ws x), some 0, none⟩, ⟨[.int .u64 0, .int .u64 0, .int .u64 0, .int .u64 0, .int .u64 0, .int .u64 0, .int .u64 0, .int .u64 0], [.int .u64 0, .int .u64 0, .int .u64 0, .int .u64 0, .int .u64 0, .int .u64 0, .int .u64 0, .int .u64 0], some 1, none⟩]
def F99y_0o (x y c1 c2 c3 : Fin P) : List (Tmp × RG.SV) := [(0, (.v (fv x)))]
def F99y_1i (x y c1 c2 c3 : Fin P) : List RG.It := [⟨some 8, [], (.v gv0), .call⟩,
  ⟨some 4, [], (.p 2 0), .make 2⟩,
  ⟨none, [(4, 1), (8, 0)], (.v undef), .put 2⟩]
def F99y_1b (x y c1 c2 c3 : Fin P) : List RG.Bl := [⟨(ws x), (ws x), none, none⟩, ⟨[.int .u64 0, .int .u64 0, .int .u64 0, .int .u64 0, .int .u64 0, .int .u64 0, .int .u64 0, .int .u64 0], [.int .u64 0, .int .u64 0, .int .u64 0, .int .u64 0, .int .u64 0, .int .u64 0, .int .u64 0, .int .u64 0], none, none⟩, ⟨[.int .u64 0, .int .u64 0, .int .u64 0, .int .u64 0], gl0, some 1, some 2⟩]
def F99y_1o (x y c1 c2 c3 : Fin P) : List (Tmp × RG.SV) := []
def F99y_2i (x y c1 c2 c3 : Fin P) : List RG.It := [⟨some 9, [], (.v gv0), .stay⟩,
  ⟨some 10, [], (.v gv0), .stay⟩,
  ⟨some 11, [], (.v gv0), .stay⟩,
  ⟨some 12, [], (.v (fv x)), .stay⟩,
  ⟨some 13, [], (.v (fv x)), .stay⟩,
  ⟨some 14, [(11, 2), (12, 3), (13, 4)], (.v (fv c1)), .call⟩,
  ⟨some 15, [], (.v (fv x)), .stay⟩,
  ⟨some 16, [(10, 1), (14, 5), (15, 6)], (.v (fv c2)), .call⟩,
  ⟨some 17, [], (.v (fv (7 : Fin P))), .stay⟩,
  ⟨some 18, [(9, 0), (16, 7), (17, 8)], (.v (fv c3)), .call⟩,
  ⟨some 5, [], (.p 3 0), .make 3⟩,
  ⟨none, [(5, 10), (18, 9)], (.v undef), .put 3⟩]
def F99y_2b (x y c1 c2 c3 : Fin P) : List RG.Bl := [⟨(ws x), (ws x), none, none⟩, ⟨[.int .u64 0, .int .u64 0, .int .u64 0, .int .u64 0, .int .u64 0, .int .u64 0, .int .u64 0, .int .u64 0], [.int .u64 0, .int .u64 0, .int .u64 0, .int .u64 0, .int .u64 0, .int .u64 0, .int .u64 0, .int .u64 0], none, none⟩, ⟨gl0, gl0, none, none⟩, ⟨[.int .u64 0, .int .u64 0, .int .u64 0, .int .u64 0], (ws c3), some 10, some 11⟩]
def F99y_2o (x y c1 c2 c3 : Fin P) : List (Tmp × RG.SV) := [(4, (.p 2 0)), (1, (.p 0 0))]
def F99y_3i (x y c1 c2 c3 : Fin P) : List RG.It := [⟨some 20, [], (.v gv0), .stay⟩,
  ⟨some 21, [], (.v (fv c3)), .stay⟩,
  ⟨some 22, [(20, 0), (21, 1)], (.v (.tuple #[(fv y), (.bool true)])), .call⟩,
  ⟨some 19, [(22, 2)], (.v (.tuple #[(fv y), (.bool true)])), .stay⟩,
  ⟨some 23, [(19, 3)], (.v (fv y)), .stay⟩,
  ⟨some 24, [(19, 3)], (.v (.bool true)), .stay⟩,
  ⟨some 6, [], (.p 4 0), .make 4⟩,
  ⟨none, [(6, 6), (23, 4)], (.v undef), .put 4⟩,
  ⟨some 7, [(24, 5)], (.v (.bool true)), .stay⟩]
def F99y_3b (x y c1 c2 c3 : Fin P) : List RG.Bl := [⟨(ws x), (ws x), none, none⟩, ⟨[.int .u64 0, .int .u64 0, .int .u64 0, .int .u64 0, .int .u64 0, .int .u64 0, .int .u64 0, .int .u64 0], [.int .u64 0, .int .u64 0, .int .u64 0, .int .u64 0, .int .u64 0, .int .u64 0, .int .u64 0, .int .u64 0], none, none⟩, ⟨gl0, gl0, none, none⟩, ⟨(ws c3), (ws c3), none, none⟩, ⟨[.int .u64 0, .int .u64 0, .int .u64 0, .int .u64 0], (ws y), some 6, some 7⟩]
def F99y_3o (x y c1 c2 c3 : Fin P) : List (Tmp × RG.SV) := [(4, (.p 2 0)), (5, (.p 3 0))]
def F99y_4i (x y c1 c2 c3 : Fin P) : List RG.It := [⟨some 25, [], (.v (.bool true)), .stay⟩,
  ⟨some 26, [(25, 0)], (.v (.bool false)), .stay⟩]
def F99y_4b (x y c1 c2 c3 : Fin P) : List RG.Bl := [⟨(ws x), (ws x), none, none⟩, ⟨[.int .u64 0, .int .u64 0, .int .u64 0, .int .u64 0, .int .u64 0, .int .u64 0, .int .u64 0, .int .u64 0], [.int .u64 0, .int .u64 0, .int .u64 0, .int .u64 0, .int .u64 0, .int .u64 0, .int .u64 0, .int .u64 0], none, none⟩, ⟨gl0, gl0, none, none⟩, ⟨(ws c3), (ws c3), none, none⟩, ⟨(ws y), (ws y), none, none⟩]
def F99y_4o (x y c1 c2 c3 : Fin P) : List (Tmp × RG.SV) := [(7, (.v (.bool true)))]
def F99y_6i (x y c1 c2 c3 : Fin P) : List RG.It := [⟨some 28, [], (.v (fv x)), .stay⟩,
  ⟨some 29, [], (.v (fv y)), .stay⟩,
  ⟨some 30, [(28, 0), (29, 1)], (.v (pv x y)), .stay⟩,
  ⟨none, [(30, 2)], (.v undef), .put 1⟩,
  ⟨some 3, [], (.v (.bool true)), .stay⟩]
def F99y_6b (x y c1 c2 c3 : Fin P) : List RG.Bl := [⟨(ws x), (ws x), none, none⟩, ⟨[.int .u64 0, .int .u64 0, .int .u64 0, .int .u64 0, .int .u64 0, .int .u64 0, .int .u64 0, .int .u64 0], (ws x ++ (ws y)), none, some 3⟩, ⟨gl0, gl0, none, none⟩, ⟨(ws c3), (ws c3), none, none⟩, ⟨(ws y), (ws y), none, none⟩]
def F99y_6o (x y c1 c2 c3 : Fin P) : List (Tmp × RG.SV) := [(1, (.p 0 0)), (6, (.p 4 0)), (2, (.p 1 0))]
set_option maxHeartbeats 2000000 in
set_option maxRecDepth 100000 in
theorem above_y_c (C : Fld P) (x y : Fin P)(hr : rt (x * x * x + 7) = some y)  : Gives 99 #[(fv x)] (.tuple #[pv x y, .bool true]) := by
  intro w
  obtain ⟨c1, hc1⟩ : ∃ c, c = x * x := ⟨_, rfl⟩
  obtain ⟨c2, hc2⟩ : ∃ c, c = c1 * x := ⟨_, rfl⟩
  obtain ⟨c3, hc3⟩ : ∃ c, c = c2 + (7 : Fin P) := ⟨_, rfl⟩
  have hfin : ((.tuple #[(pv x y), (.bool true)]) : Value) = (.tuple #[pv x y, .bool true]) := by
    subst_vars; rfl
  rw [← hfin]
  go_enter Try.func99, Try.ntmps99
  have hS0 := RG.St.begin w
  repeat refine wp_seq ?_
  refine RG.region_text (its := F99y_0i x y c1 c2 c3) (bl := F99y_0b x y c1 c2 c3) (olds := F99y_0o x y c1 c2 c3) hS0 (RG.Reg.mk' (by kernel_rfl) ⟨by kernel_rfl, trivial⟩ ⟨?_, ?_, ?_, trivial⟩) (by kernel_rfl) (by kernel_rfl) (by kernel_rfl) ?_
  · exact RG.cert_box 0 rfl rfl _ rfl 85 0 rfl (fv x) (fun μ a K => K.old 0 (.v (fv x)) (List.Mem.head _) (by kernel_rfl)) (fun w => by kernel_rfl)
  · exact RG.cert_alloc 1 rfl rfl _ rfl 109 rfl (fun w => by kernel_rfl)
  · exact RG.cert_stay rfl (fun μ a w _ _ => by kernel_rfl)
  intro new1 w1 hl1 hS1
  obtain ⟨j1, i1, rfl⟩ := RG.len2 hl1
  repeat refine wp_seq ?_
  refine RG.region_text (its := F99y_1i x y c1 c2 c3) (bl := F99y_1b x y c1 c2 c3) (olds := F99y_1o x y c1 c2 c3) hS1 (RG.Reg.mk' (by kernel_rfl) trivial ⟨?_, ?_, ?_, trivial⟩) (by kernel_rfl) (by kernel_rfl) (by kernel_rfl) ?_
  · exact RG.cert_call0 rfl 63 gv0 rfl (fun a w => by kernel_rfl) (Coordinates_c)
  · exact RG.cert_alloc 2 rfl rfl _ rfl 79 rfl (fun w => by kernel_rfl)
  · exact RG.cert_put 2 rfl _ rfl 79 (.tmp 4) (.tmp 8) rfl rfl rfl (fun μ a K => by have h := K.op 4 1 (List.Mem.head _) rfl; exact h) (fun μ a K => by have h := K.op 8 0 (List.Mem.tail _ (List.Mem.head _)) rfl; exact h) i79 rfl
  intro new2 w2 hl2 hS2
  obtain ⟨j2, rfl⟩ := RG.len1 hl2
  repeat refine wp_seq ?_
  refine RG.region_draws (by kernel_rfl) (its := F99y_2i x y c1 c2 c3) (bl := F99y_2b x y c1 c2 c3) (olds := F99y_2o x y c1 c2 c3) hS2 (RG.Reg.mk' (by kernel_rfl) ⟨by kernel_rfl, by kernel_rfl, trivial⟩ ⟨?_, ?_, ?_, ?_, ?_, ?_, ?_, ?_, ?_, ?_, ?_, ?_, trivial⟩) (by kernel_rfl) (by kernel_rfl) (by kernel_rfl) ?_
  · exact RG.cert_load rfl 2 0 _ rfl rfl (by kernel_rfl) 79 4 rfl gl0 rfl (fun μ a K => K.old 4 (.p 2 0) (List.Mem.head _) (by kernel_rfl)) (by kernel_rfl) u79 i79
  · exact RG.cert_load rfl 2 0 _ rfl rfl (by kernel_rfl) 79 4 rfl gl0 rfl (fun μ a K => K.old 4 (.p 2 0) (List.Mem.head _) (by kernel_rfl)) (by kernel_rfl) u79 i79
  · exact RG.cert_load rfl 2 0 _ rfl rfl (by kernel_rfl) 79 4 rfl gl0 rfl (fun μ a K => K.old 4 (.p 2 0) (List.Mem.head _) (by kernel_rfl)) (by kernel_rfl) u79 i79
  · exact RG.cert_load rfl 0 0 _ rfl rfl (by kernel_rfl) 85 1 rfl (ws x) rfl (fun μ a K => K.old 1 (.p 0 0) (List.Mem.tail _ (List.Mem.head _)) (by kernel_rfl)) (by kernel_rfl) u85 i85
  · exact RG.cert_load rfl 0 0 _ rfl rfl (by kernel_rfl) 85 1 rfl (ws x) rfl (fun μ a K => K.old 1 (.p 0 0) (List.Mem.tail _ (List.Mem.head _)) (by kernel_rfl)) (by kernel_rfl) u85 i85
  · exact RG.cert_call3 rfl 47 11 12 13 gv0 (fv x) (fv x) (fv c1) rfl (fun a w => by kernel_rfl) (fun μ a K => by have h := K.op 11 2 (List.Mem.head _) rfl; exact h) (fun μ a K => by have h := K.op 12 3 (List.Mem.tail _ (List.Mem.head _)) rfl; exact h) (fun μ a K => by have h := K.op 13 4 (List.Mem.tail _ (List.Mem.tail _ (List.Mem.head _))) rfl; exact h) (hc1 ▸ PTimes_c C x x)
  · exact RG.cert_load rfl 0 0 _ rfl rfl (by kernel_rfl) 85 1 rfl (ws x) rfl (fun μ a K => K.old 1 (.p 0 0) (List.Mem.tail _ (List.Mem.head _)) (by kernel_rfl)) (by kernel_rfl) u85 i85
  · exact RG.cert_call3 rfl 47 10 14 15 gv0 (fv c1) (fv x) (fv c2) rfl (fun a w => by kernel_rfl) (fun μ a K => by have h := K.op 10 1 (List.Mem.head _) rfl; exact h) (fun μ a K => by have h := K.op 14 5 (List.Mem.tail _ (List.Mem.head _)) rfl; exact h) (fun μ a K => by have h := K.op 15 6 (List.Mem.tail _ (List.Mem.tail _ (List.Mem.head _))) rfl; exact h) (hc2 ▸ PTimes_c C c1 x)
  · exact RG.cert_stay rfl (fun μ a w _ _ => by rw [show RG.SV.at μ (.v (fv (7 : Fin P))) = (fv (7 : Fin P)) from rfl, ← seven_fv C]; kernel_rfl)
  · exact RG.cert_call3 rfl 45 9 16 17 gv0 (fv c2) (fv (7 : Fin P)) (fv c3) rfl (fun a w => by kernel_rfl) (fun μ a K => by have h := K.op 9 0 (List.Mem.head _) rfl; exact h) (fun μ a K => by have h := K.op 16 7 (List.Mem.tail _ (List.Mem.head _)) rfl; exact h) (fun μ a K => by have h := K.op 17 8 (List.Mem.tail _ (List.Mem.tail _ (List.Mem.head _))) rfl; exact h) (hc3 ▸ PPlus_c C c2 (7 : Fin P))
  · exact RG.cert_alloc 3 rfl rfl _ rfl 85 rfl (fun w => by kernel_rfl)
  · exact RG.cert_put 3 rfl _ rfl 85 (.tmp 5) (.tmp 18) rfl rfl rfl (fun μ a K => by have h := K.op 5 10 (List.Mem.head _) rfl; exact h) (fun μ a K => by have h := K.op 18 9 (List.Mem.tail _ (List.Mem.head _)) rfl; exact h) i85 rfl
  intro new3 w3 hl3 hS3
  obtain ⟨j3, rfl⟩ := RG.len1 hl3
  repeat refine wp_seq ?_
  refine RG.region_text (its := F99y_3i x y c1 c2 c3) (bl := F99y_3b x y c1 c2 c3) (olds := F99y_3o x y c1 c2 c3) hS3 (RG.Reg.mk' (by kernel_rfl) ⟨by kernel_rfl, by kernel_rfl, trivial⟩ ⟨?_, ?_, ?_, ?_, ?_, ?_, ?_, ?_, ?_, trivial⟩) (by kernel_rfl) (by kernel_rfl) (by kernel_rfl) ?_
  · exact RG.cert_load rfl 2 0 _ rfl rfl (by kernel_rfl) 79 4 rfl gl0 rfl (fun μ a K => K.old 4 (.p 2 0) (List.Mem.head _) (by kernel_rfl)) (by kernel_rfl) u79 i79
  · exact RG.cert_load rfl 3 0 _ rfl rfl (by kernel_rfl) 85 5 rfl (ws c3) rfl (fun μ a K => K.old 5 (.p 3 0) (List.Mem.tail _ (List.Mem.head _)) (by kernel_rfl)) (by kernel_rfl) u85 i85
  · exact RG.cert_call2 rfl 64 20 21 gv0 (fv c3) (.tuple #[(fv y), (.bool true)]) rfl (fun a w => by kernel_rfl) (fun μ a K => by have h := K.op 20 0 (List.Mem.head _) rfl; exact h) (fun μ a K => by have h := K.op 21 1 (List.Mem.tail _ (List.Mem.head _)) rfl; exact h) (Root_y C (by subst_vars; exact hr))
  · exact RG.cert_move rfl 22 (Or.inl rfl) (fun μ a K => by have h := K.op 22 2 (List.Mem.head _) rfl; exact h)
  · exact RG.cert_extract rfl 19 0 #[(fv y), (.bool true)] (fv y) rfl rfl rfl (fun μ a K => by have h := K.op 19 3 (List.Mem.head _) rfl; exact h)
  · exact RG.cert_extract rfl 19 1 #[(fv y), (.bool true)] (.bool true) rfl rfl rfl (fun μ a K => by have h := K.op 19 3 (List.Mem.head _) rfl; exact h)
  · exact RG.cert_alloc 4 rfl rfl _ rfl 85 rfl (fun w => by kernel_rfl)
  · exact RG.cert_put 4 rfl _ rfl 85 (.tmp 6) (.tmp 23) rfl rfl rfl (fun μ a K => by have h := K.op 6 6 (List.Mem.head _) rfl; exact h) (fun μ a K => by have h := K.op 23 4 (List.Mem.tail _ (List.Mem.head _)) rfl; exact h) i85 rfl
  · exact RG.cert_move rfl 24 (Or.inr rfl) (fun μ a K => by have h := K.op 24 5 (List.Mem.head _) rfl; exact h)
  intro new4 w4 hl4 hS4
  obtain ⟨j4, rfl⟩ := RG.len1 hl4
  repeat refine wp_seq ?_
  refine RG.region_text (its := F99y_4i x y c1 c2 c3) (bl := F99y_4b x y c1 c2 c3) (olds := F99y_4o x y c1 c2 c3) hS4 (RG.Reg.mk' (by kernel_rfl) ⟨by kernel_rfl, trivial⟩ ⟨?_, ?_, trivial⟩) (by kernel_rfl) (by kernel_rfl) (by kernel_rfl) ?_
  · exact RG.cert_move rfl 7 (Or.inl rfl) (fun μ a K => K.old 7 (.v (.bool true)) (List.Mem.head _) (by kernel_rfl))
  · exact RG.cert_not rfl 4 25 true rfl rfl (fun μ a K => by have h := K.op 25 0 (List.Mem.head _) rfl; exact h)
  intro new5 w5 hl5 hS5
  obtain rfl := RG.len0 hl5
  repeat refine wp_seq ?_
  refine wp_cond_false (by kernel_rfl) ?_
  refine wp_skip ?_
  repeat refine wp_seq ?_
  refine RG.region_text (its := F99y_6i x y c1 c2 c3) (bl := F99y_6b x y c1 c2 c3) (olds := F99y_6o x y c1 c2 c3) hS5 (RG.Reg.mk' (by kernel_rfl) ⟨by kernel_rfl, by kernel_rfl, by kernel_rfl, trivial⟩ ⟨?_, ?_, ?_, ?_, ?_, trivial⟩) (by kernel_rfl) (by kernel_rfl) (by kernel_rfl) ?_
  · exact RG.cert_load rfl 0 0 _ rfl rfl (by kernel_rfl) 85 1 rfl (ws x) rfl (fun μ a K => K.old 1 (.p 0 0) (List.Mem.head _) (by kernel_rfl)) (by kernel_rfl) u85 i85
  · exact RG.cert_load rfl 4 0 _ rfl rfl (by kernel_rfl) 85 6 rfl (ws y) rfl (fun μ a K => K.old 6 (.p 4 0) (List.Mem.tail _ (List.Mem.head _)) (by kernel_rfl)) (by kernel_rfl) u85 i85
  · exact RG.cert_build2 rfl 109 28 29 rfl (fv x) (fv y) (pv x y) rfl (fun μ a K => by have h := K.op 28 0 (List.Mem.head _) rfl; exact h) (fun μ a K => by have h := K.op 29 1 (List.Mem.tail _ (List.Mem.head _)) rfl; exact h) (fun w => by kernel_rfl)
  · exact RG.cert_put 1 rfl _ rfl 109 (.tmp 2) (.tmp 30) rfl rfl rfl (fun μ a K => K.old 2 (.p 1 0) (List.Mem.tail _ (List.Mem.tail _ (List.Mem.head _))) (by kernel_rfl)) (fun μ a K => by have h := K.op 30 2 (List.Mem.head _) rfl; exact h) i109 rfl
  · exact RG.cert_stay rfl (fun μ a w _ _ => by kernel_rfl)
  intro new6 w6 hl6 hS6
  obtain rfl := RG.len0 hl6
  refine wp_ret ?_
  refine bodyPost_ret (v := (.tuple #[(pv x y), (.bool true)])) (RG.results_rt hS6 2 3 109 rfl 1 _ rfl (by kernel_rfl) _ (by kernel_rfl) u109 i109) (by kernel_rfl) ?_
  exact ⟨_, rfl, hS6.bel.below, rfl⟩

def F99n_0i (x c1 c2 c3 : Fin P) : List RG.It := [⟨some 1, [], (.p 0 0), .make 0⟩,
  ⟨some 2, [], (.p 1 0), .make 1⟩,
  ⟨some 3, [], (.v (.bool false)), .stay⟩]
def F99n_0b (x c1 c2 c3 : Fin P) : List RG.Bl := [⟨(ws x), (ws x), some 0, none⟩, ⟨[.int .u64 0, .int .u64 0, .int .u64 0, .int .u64 0, .int .u64 0, .int .u64 0, .int .u64 0, .int .u64 0], [.int .u64 0, .int .u64 0, .int .u64 0, .int .u64 0, .int .u64 0, .int .u64 0, .int .u64 0, .int .u64 0], some 1, none⟩]
def F99n_0o (x c1 c2 c3 : Fin P) : List (Tmp × RG.SV) := [(0, (.v (fv x)))]
def F99n_1i (x c1 c2 c3 : Fin P) : List RG.It := [⟨some 8, [], (.v gv0), .call⟩,
  ⟨some 4, [], (.p 2 0), .make 2⟩,
  ⟨none, [(4, 1), (8, 0)], (.v undef), .put 2⟩]
def F99n_1b (x c1 c2 c3 : Fin P) : List RG.Bl := [⟨(ws x), (ws x), none, none⟩, ⟨[.int .u64 0, .int .u64 0, .int .u64 0, .int .u64 0, .int .u64 0, .int .u64 0, .int .u64 0, .int .u64 0], [.int .u64 0, .int .u64 0, .int .u64 0, .int .u64 0, .int .u64 0, .int .u64 0, .int .u64 0, .int .u64 0], none, none⟩, ⟨[.int .u64 0, .int .u64 0, .int .u64 0, .int .u64 0], gl0, some 1, some 2⟩]
def F99n_1o (x c1 c2 c3 : Fin P) : List (Tmp × RG.SV) := []
def F99n_2i (x c1 c2 c3 : Fin P) : List RG.It := [⟨some 9, [], (.v gv0), .stay⟩,
  ⟨some 10, [], (.v gv0), .stay⟩,
  ⟨some 11, [], (.v gv0), .stay⟩,
  ⟨some 12, [], (.v (fv x)), .stay⟩,
  ⟨some 13, [], (.v (fv x)), .stay⟩,
  ⟨some 14, [(11, 2), (12, 3), (13, 4)], (.v (fv c1)), .call⟩,
  ⟨some 15, [], (.v (fv x)), .stay⟩,
  ⟨some 16, [(10, 1), (14, 5), (15, 6)], (.v (fv c2)), .call⟩,
  ⟨some 17, [], (.v (fv (7 : Fin P))), .stay⟩,
  ⟨some 18, [(9, 0), (16, 7), (17, 8)], (.v (fv c3)), .call⟩,
  ⟨some 5, [], (.p 3 0), .make 3⟩,
  ⟨none, [(5, 10), (18, 9)], (.v undef), .put 3⟩]
def F99n_2b (x c1 c2 c3 : Fin P) : List RG.Bl := [⟨(ws x), (ws x), none, none⟩, ⟨[.int .u64 0, .int .u64 0, .int .u64 0, .int .u64 0, .int .u64 0, .int .u64 0, .int .u64 0, .int .u64 0], [.int .u64 0, .int .u64 0, .int .u64 0, .int .u64 0, .int .u64 0, .int .u64 0, .int .u64 0, .int .u64 0], none, none⟩, ⟨gl0, gl0, none, none⟩, ⟨[.int .u64 0, .int .u64 0, .int .u64 0, .int .u64 0], (ws c3), some 10, some 11⟩]
def F99n_2o (x c1 c2 c3 : Fin P) : List (Tmp × RG.SV) := [(4, (.p 2 0)), (1, (.p 0 0))]
def F99n_3i (x c1 c2 c3 : Fin P) : List RG.It := [⟨some 20, [], (.v gv0), .stay⟩,
  ⟨some 21, [], (.v (fv c3)), .stay⟩,
  ⟨some 22, [(20, 0), (21, 1)], (.v (.tuple #[(fv (0 : Fin P)), (.bool false)])), .call⟩,
  ⟨some 19, [(22, 2)], (.v (.tuple #[(fv (0 : Fin P)), (.bool false)])), .stay⟩,
  ⟨some 23, [(19, 3)], (.v (fv (0 : Fin P))), .stay⟩,
  ⟨some 24, [(19, 3)], (.v (.bool false)), .stay⟩,
  ⟨some 6, [], (.p 4 0), .make 4⟩,
  ⟨none, [(6, 6), (23, 4)], (.v undef), .put 4⟩,
  ⟨some 7, [(24, 5)], (.v (.bool false)), .stay⟩]
def F99n_3b (x c1 c2 c3 : Fin P) : List RG.Bl := [⟨(ws x), (ws x), none, none⟩, ⟨[.int .u64 0, .int .u64 0, .int .u64 0, .int .u64 0, .int .u64 0, .int .u64 0, .int .u64 0, .int .u64 0], [.int .u64 0, .int .u64 0, .int .u64 0, .int .u64 0, .int .u64 0, .int .u64 0, .int .u64 0, .int .u64 0], none, none⟩, ⟨gl0, gl0, none, none⟩, ⟨(ws c3), (ws c3), none, none⟩, ⟨[.int .u64 0, .int .u64 0, .int .u64 0, .int .u64 0], (ws (0 : Fin P)), some 6, some 7⟩]
def F99n_3o (x c1 c2 c3 : Fin P) : List (Tmp × RG.SV) := [(4, (.p 2 0)), (5, (.p 3 0))]
def F99n_4i (x c1 c2 c3 : Fin P) : List RG.It := [⟨some 25, [], (.v (.bool false)), .stay⟩,
  ⟨some 26, [(25, 0)], (.v (.bool true)), .stay⟩]
def F99n_4b (x c1 c2 c3 : Fin P) : List RG.Bl := [⟨(ws x), (ws x), none, none⟩, ⟨[.int .u64 0, .int .u64 0, .int .u64 0, .int .u64 0, .int .u64 0, .int .u64 0, .int .u64 0, .int .u64 0], [.int .u64 0, .int .u64 0, .int .u64 0, .int .u64 0, .int .u64 0, .int .u64 0, .int .u64 0, .int .u64 0], none, none⟩, ⟨gl0, gl0, none, none⟩, ⟨(ws c3), (ws c3), none, none⟩, ⟨(ws (0 : Fin P)), (ws (0 : Fin P)), none, none⟩]
def F99n_4o (x c1 c2 c3 : Fin P) : List (Tmp × RG.SV) := [(7, (.v (.bool false)))]
def F99n_5i (x c1 c2 c3 : Fin P) : List RG.It := [⟨some 27, [], (.v (pv (0 : Fin P) (0 : Fin P))), .stay⟩,
  ⟨none, [(27, 0)], (.v undef), .put 1⟩,
  ⟨some 3, [], (.v (.bool false)), .stay⟩]
def F99n_5b (x c1 c2 c3 : Fin P) : List RG.Bl := [⟨(ws x), (ws x), none, none⟩, ⟨[.int .u64 0, .int .u64 0, .int .u64 0, .int .u64 0, .int .u64 0, .int .u64 0, .int .u64 0, .int .u64 0], (ws (0 : Fin P) ++ (ws (0 : Fin P))), none, some 1⟩, ⟨gl0, gl0, none, none⟩, ⟨(ws c3), (ws c3), none, none⟩, ⟨(ws (0 : Fin P)), (ws (0 : Fin P)), none, none⟩]
def F99n_5o (x c1 c2 c3 : Fin P) : List (Tmp × RG.SV) := [(2, (.p 1 0))]
set_option maxHeartbeats 2000000 in
set_option maxRecDepth 100000 in
theorem above_n_c (C : Fld P) (x : Fin P)(hr : rt (x * x * x + 7) = none)  : Gives 99 #[(fv x)] (.tuple #[pv (0 : Fin P) 0, .bool false]) := by
  intro w
  obtain ⟨c1, hc1⟩ : ∃ c, c = x * x := ⟨_, rfl⟩
  obtain ⟨c2, hc2⟩ : ∃ c, c = c1 * x := ⟨_, rfl⟩
  obtain ⟨c3, hc3⟩ : ∃ c, c = c2 + (7 : Fin P) := ⟨_, rfl⟩
  have hfin : ((.tuple #[(pv (0 : Fin P) (0 : Fin P)), (.bool false)]) : Value) = (.tuple #[pv (0 : Fin P) 0, .bool false]) := by
    subst_vars; rfl
  rw [← hfin]
  go_enter Try.func99, Try.ntmps99
  have hS0 := RG.St.begin w
  repeat refine wp_seq ?_
  refine RG.region_text (its := F99n_0i x c1 c2 c3) (bl := F99n_0b x c1 c2 c3) (olds := F99n_0o x c1 c2 c3) hS0 (RG.Reg.mk' (by kernel_rfl) ⟨by kernel_rfl, trivial⟩ ⟨?_, ?_, ?_, trivial⟩) (by kernel_rfl) (by kernel_rfl) (by kernel_rfl) ?_
  · exact RG.cert_box 0 rfl rfl _ rfl 85 0 rfl (fv x) (fun μ a K => K.old 0 (.v (fv x)) (List.Mem.head _) (by kernel_rfl)) (fun w => by kernel_rfl)
  · exact RG.cert_alloc 1 rfl rfl _ rfl 109 rfl (fun w => by kernel_rfl)
  · exact RG.cert_stay rfl (fun μ a w _ _ => by kernel_rfl)
  intro new1 w1 hl1 hS1
  obtain ⟨j1, i1, rfl⟩ := RG.len2 hl1
  repeat refine wp_seq ?_
  refine RG.region_text (its := F99n_1i x c1 c2 c3) (bl := F99n_1b x c1 c2 c3) (olds := F99n_1o x c1 c2 c3) hS1 (RG.Reg.mk' (by kernel_rfl) trivial ⟨?_, ?_, ?_, trivial⟩) (by kernel_rfl) (by kernel_rfl) (by kernel_rfl) ?_
  · exact RG.cert_call0 rfl 63 gv0 rfl (fun a w => by kernel_rfl) (Coordinates_c)
  · exact RG.cert_alloc 2 rfl rfl _ rfl 79 rfl (fun w => by kernel_rfl)
  · exact RG.cert_put 2 rfl _ rfl 79 (.tmp 4) (.tmp 8) rfl rfl rfl (fun μ a K => by have h := K.op 4 1 (List.Mem.head _) rfl; exact h) (fun μ a K => by have h := K.op 8 0 (List.Mem.tail _ (List.Mem.head _)) rfl; exact h) i79 rfl
  intro new2 w2 hl2 hS2
  obtain ⟨j2, rfl⟩ := RG.len1 hl2
  repeat refine wp_seq ?_
  refine RG.region_draws (by kernel_rfl) (its := F99n_2i x c1 c2 c3) (bl := F99n_2b x c1 c2 c3) (olds := F99n_2o x c1 c2 c3) hS2 (RG.Reg.mk' (by kernel_rfl) ⟨by kernel_rfl, by kernel_rfl, trivial⟩ ⟨?_, ?_, ?_, ?_, ?_, ?_, ?_, ?_, ?_, ?_, ?_, ?_, trivial⟩) (by kernel_rfl) (by kernel_rfl) (by kernel_rfl) ?_
  · exact RG.cert_load rfl 2 0 _ rfl rfl (by kernel_rfl) 79 4 rfl gl0 rfl (fun μ a K => K.old 4 (.p 2 0) (List.Mem.head _) (by kernel_rfl)) (by kernel_rfl) u79 i79
  · exact RG.cert_load rfl 2 0 _ rfl rfl (by kernel_rfl) 79 4 rfl gl0 rfl (fun μ a K => K.old 4 (.p 2 0) (List.Mem.head _) (by kernel_rfl)) (by kernel_rfl) u79 i79
  · exact RG.cert_load rfl 2 0 _ rfl rfl (by kernel_rfl) 79 4 rfl gl0 rfl (fun μ a K => K.old 4 (.p 2 0) (List.Mem.head _) (by kernel_rfl)) (by kernel_rfl) u79 i79
  · exact RG.cert_load rfl 0 0 _ rfl rfl (by kernel_rfl) 85 1 rfl (ws x) rfl (fun μ a K => K.old 1 (.p 0 0) (List.Mem.tail _ (List.Mem.head _)) (by kernel_rfl)) (by kernel_rfl) u85 i85
  · exact RG.cert_load rfl 0 0 _ rfl rfl (by kernel_rfl) 85 1 rfl (ws x) rfl (fun μ a K => K.old 1 (.p 0 0) (List.Mem.tail _ (List.Mem.head _)) (by kernel_rfl)) (by kernel_rfl) u85 i85
  · exact RG.cert_call3 rfl 47 11 12 13 gv0 (fv x) (fv x) (fv c1) rfl (fun a w => by kernel_rfl) (fun μ a K => by have h := K.op 11 2 (List.Mem.head _) rfl; exact h) (fun μ a K => by have h := K.op 12 3 (List.Mem.tail _ (List.Mem.head _)) rfl; exact h) (fun μ a K => by have h := K.op 13 4 (List.Mem.tail _ (List.Mem.tail _ (List.Mem.head _))) rfl; exact h) (hc1 ▸ PTimes_c C x x)
  · exact RG.cert_load rfl 0 0 _ rfl rfl (by kernel_rfl) 85 1 rfl (ws x) rfl (fun μ a K => K.old 1 (.p 0 0) (List.Mem.tail _ (List.Mem.head _)) (by kernel_rfl)) (by kernel_rfl) u85 i85
  · exact RG.cert_call3 rfl 47 10 14 15 gv0 (fv c1) (fv x) (fv c2) rfl (fun a w => by kernel_rfl) (fun μ a K => by have h := K.op 10 1 (List.Mem.head _) rfl; exact h) (fun μ a K => by have h := K.op 14 5 (List.Mem.tail _ (List.Mem.head _)) rfl; exact h) (fun μ a K => by have h := K.op 15 6 (List.Mem.tail _ (List.Mem.tail _ (List.Mem.head _))) rfl; exact h) (hc2 ▸ PTimes_c C c1 x)
  · exact RG.cert_stay rfl (fun μ a w _ _ => by rw [show RG.SV.at μ (.v (fv (7 : Fin P))) = (fv (7 : Fin P)) from rfl, ← seven_fv C]; kernel_rfl)
  · exact RG.cert_call3 rfl 45 9 16 17 gv0 (fv c2) (fv (7 : Fin P)) (fv c3) rfl (fun a w => by kernel_rfl) (fun μ a K => by have h := K.op 9 0 (List.Mem.head _) rfl; exact h) (fun μ a K => by have h := K.op 16 7 (List.Mem.tail _ (List.Mem.head _)) rfl; exact h) (fun μ a K => by have h := K.op 17 8 (List.Mem.tail _ (List.Mem.tail _ (List.Mem.head _))) rfl; exact h) (hc3 ▸ PPlus_c C c2 (7 : Fin P))
  · exact RG.cert_alloc 3 rfl rfl _ rfl 85 rfl (fun w => by kernel_rfl)
  · exact RG.cert_put 3 rfl _ rfl 85 (.tmp 5) (.tmp 18) rfl rfl rfl (fun μ a K => by have h := K.op 5 10 (List.Mem.head _) rfl; exact h) (fun μ a K => by have h := K.op 18 9 (List.Mem.tail _ (List.Mem.head _)) rfl; exact h) i85 rfl
  intro new3 w3 hl3 hS3
  obtain ⟨j3, rfl⟩ := RG.len1 hl3
  repeat refine wp_seq ?_
  refine RG.region_text (its := F99n_3i x c1 c2 c3) (bl := F99n_3b x c1 c2 c3) (olds := F99n_3o x c1 c2 c3) hS3 (RG.Reg.mk' (by kernel_rfl) ⟨by kernel_rfl, by kernel_rfl, trivial⟩ ⟨?_, ?_, ?_, ?_, ?_, ?_, ?_, ?_, ?_, trivial⟩) (by kernel_rfl) (by kernel_rfl) (by kernel_rfl) ?_
  · exact RG.cert_load rfl 2 0 _ rfl rfl (by kernel_rfl) 79 4 rfl gl0 rfl (fun μ a K => K.old 4 (.p 2 0) (List.Mem.head _) (by kernel_rfl)) (by kernel_rfl) u79 i79
  · exact RG.cert_load rfl 3 0 _ rfl rfl (by kernel_rfl) 85 5 rfl (ws c3) rfl (fun μ a K => K.old 5 (.p 3 0) (List.Mem.tail _ (List.Mem.head _)) (by kernel_rfl)) (by kernel_rfl) u85 i85
  · exact RG.cert_call2 rfl 64 20 21 gv0 (fv c3) (.tuple #[(fv (0 : Fin P)), (.bool false)]) rfl (fun a w => by kernel_rfl) (fun μ a K => by have h := K.op 20 0 (List.Mem.head _) rfl; exact h) (fun μ a K => by have h := K.op 21 1 (List.Mem.tail _ (List.Mem.head _)) rfl; exact h) (Root_n C (by subst_vars; exact hr))
  · exact RG.cert_move rfl 22 (Or.inl rfl) (fun μ a K => by have h := K.op 22 2 (List.Mem.head _) rfl; exact h)
  · exact RG.cert_extract rfl 19 0 #[(fv (0 : Fin P)), (.bool false)] (fv (0 : Fin P)) rfl rfl rfl (fun μ a K => by have h := K.op 19 3 (List.Mem.head _) rfl; exact h)
  · exact RG.cert_extract rfl 19 1 #[(fv (0 : Fin P)), (.bool false)] (.bool false) rfl rfl rfl (fun μ a K => by have h := K.op 19 3 (List.Mem.head _) rfl; exact h)
  · exact RG.cert_alloc 4 rfl rfl _ rfl 85 rfl (fun w => by kernel_rfl)
  · exact RG.cert_put 4 rfl _ rfl 85 (.tmp 6) (.tmp 23) rfl rfl rfl (fun μ a K => by have h := K.op 6 6 (List.Mem.head _) rfl; exact h) (fun μ a K => by have h := K.op 23 4 (List.Mem.tail _ (List.Mem.head _)) rfl; exact h) i85 rfl
  · exact RG.cert_move rfl 24 (Or.inr rfl) (fun μ a K => by have h := K.op 24 5 (List.Mem.head _) rfl; exact h)
  intro new4 w4 hl4 hS4
  obtain ⟨j4, rfl⟩ := RG.len1 hl4
  repeat refine wp_seq ?_
  refine RG.region_text (its := F99n_4i x c1 c2 c3) (bl := F99n_4b x c1 c2 c3) (olds := F99n_4o x c1 c2 c3) hS4 (RG.Reg.mk' (by kernel_rfl) ⟨by kernel_rfl, trivial⟩ ⟨?_, ?_, trivial⟩) (by kernel_rfl) (by kernel_rfl) (by kernel_rfl) ?_
  · exact RG.cert_move rfl 7 (Or.inl rfl) (fun μ a K => K.old 7 (.v (.bool false)) (List.Mem.head _) (by kernel_rfl))
  · exact RG.cert_not rfl 4 25 false rfl rfl (fun μ a K => by have h := K.op 25 0 (List.Mem.head _) rfl; exact h)
  intro new5 w5 hl5 hS5
  obtain rfl := RG.len0 hl5
  repeat refine wp_seq ?_
  refine wp_cond_true (by kernel_rfl) ?_
  repeat refine wp_seq ?_
  refine RG.region_text (its := F99n_5i x c1 c2 c3) (bl := F99n_5b x c1 c2 c3) (olds := F99n_5o x c1 c2 c3) hS5 (RG.Reg.mk' (by kernel_rfl) ⟨by kernel_rfl, trivial⟩ ⟨?_, ?_, ?_, trivial⟩) (by kernel_rfl) (by kernel_rfl) (by kernel_rfl) ?_
  · exact RG.cert_stay rfl (fun μ a w _ _ => by rw [show RG.SV.at μ (.v (pv (0 : Fin P) (0 : Fin P))) = (pv (0 : Fin P) (0 : Fin P)) from rfl, ← zero_pv]; kernel_rfl)
  · exact RG.cert_put 1 rfl _ rfl 109 (.tmp 2) (.tmp 27) rfl rfl rfl (fun μ a K => K.old 2 (.p 1 0) (List.Mem.head _) (by kernel_rfl)) (fun μ a K => by have h := K.op 27 0 (List.Mem.head _) rfl; exact h) i109 rfl
  · exact RG.cert_stay rfl (fun μ a w _ _ => by kernel_rfl)
  intro new6 w6 hl6 hS6
  obtain rfl := RG.len0 hl6
  refine wp_ret ?_
  refine bodyPost_ret (v := (.tuple #[(pv (0 : Fin P) (0 : Fin P)), (.bool false)])) (RG.results_rt hS6 2 3 109 rfl 1 _ rfl (by kernel_rfl) _ (by kernel_rfl) u109 i109) (by kernel_rfl) ?_
  exact ⟨_, rfl, hS6.bel.below, rfl⟩

def F77_0i (x y c1 : Fin P) : List RG.It := [⟨some 1, [], (.p 0 0), .make 0⟩,
  ⟨some 2, [], (.p 1 0), .make 1⟩]
def F77_0b (x y c1 : Fin P) : List RG.Bl := [⟨(ws x ++ (ws y)), (ws x ++ (ws y)), some 0, none⟩, ⟨[.int .u64 0, .int .u64 0, .int .u64 0, .int .u64 0, .int .u64 0, .int .u64 0, .int .u64 0, .int .u64 0], [.int .u64 0, .int .u64 0, .int .u64 0, .int .u64 0, .int .u64 0, .int .u64 0, .int .u64 0, .int .u64 0], some 1, none⟩]
def F77_0o (x y c1 : Fin P) : List (Tmp × RG.SV) := [(0, (.v (pv x y)))]
def F77_1i (x y c1 : Fin P) : List RG.It := [⟨some 3, [], (.p 0 0), .stay⟩,
  ⟨some 4, [(3, 0)], (.v (fv x)), .stay⟩,
  ⟨some 5, [], (.v gv0), .call⟩,
  ⟨some 6, [], (.v (fv (0 : Fin P))), .stay⟩,
  ⟨some 7, [], (.p 0 4), .stay⟩,
  ⟨some 8, [(7, 4)], (.v (fv y)), .stay⟩,
  ⟨some 9, [(5, 2), (6, 3), (8, 5)], (.v (fv c1)), .call⟩,
  ⟨some 10, [(4, 1), (9, 6)], (.v (pv x c1)), .stay⟩,
  ⟨none, [(10, 7)], (.v undef), .put 1⟩]
def F77_1b (x y c1 : Fin P) : List RG.Bl := [⟨(ws x ++ (ws y)), (ws x ++ (ws y)), none, none⟩, ⟨[.int .u64 0, .int .u64 0, .int .u64 0, .int .u64 0, .int .u64 0, .int .u64 0, .int .u64 0, .int .u64 0], (ws x ++ (ws c1)), none, some 8⟩]
def F77_1o (x y c1 : Fin P) : List (Tmp × RG.SV) := [(1, (.p 0 0)), (2, (.p 1 0))]
set_option maxHeartbeats 2000000 in
set_option maxRecDepth 100000 in
theorem popp_c (C : Fld P) (x y : Fin P) : Gives 77 #[(pv x y)] (pv x (0 - y)) := by
  intro w
  obtain ⟨c1, hc1⟩ : ∃ c, c = (0 : Fin P) - y := ⟨_, rfl⟩
  have hfin : ((pv x c1) : Value) = (pv x (0 - y)) := by
    subst_vars; rfl
  rw [← hfin]
  go_enter Try.func77, Try.ntmps77
  have hS0 := RG.St.begin w
  repeat refine wp_seq ?_
  refine RG.region_text (its := F77_0i x y c1) (bl := F77_0b x y c1) (olds := F77_0o x y c1) hS0 (RG.Reg.mk' (by kernel_rfl) ⟨by kernel_rfl, trivial⟩ ⟨?_, ?_, trivial⟩) (by kernel_rfl) (by kernel_rfl) (by kernel_rfl) ?_
  · exact RG.cert_box 0 rfl rfl _ rfl 109 0 rfl (pv x y) (fun μ a K => K.old 0 (.v (pv x y)) (List.Mem.head _) (by kernel_rfl)) (fun w => by kernel_rfl)
  · exact RG.cert_alloc 1 rfl rfl _ rfl 109 rfl (fun w => by kernel_rfl)
  intro new1 w1 hl1 hS1
  obtain ⟨j1, i1, rfl⟩ := RG.len2 hl1
  repeat refine wp_seq ?_
  refine RG.region_draws (by kernel_rfl) (its := F77_1i x y c1) (bl := F77_1b x y c1) (olds := F77_1o x y c1) hS1 (RG.Reg.mk' (by kernel_rfl) ⟨by kernel_rfl, by kernel_rfl, trivial⟩ ⟨?_, ?_, ?_, ?_, ?_, ?_, ?_, ?_, ?_, trivial⟩) (by kernel_rfl) (by kernel_rfl) (by kernel_rfl) ?_
  · exact RG.cert_field rfl 109 1 0 rfl 0 0 0 rfl (fun μ a K => K.old 1 (.p 0 0) (List.Mem.head _) (by kernel_rfl)) (fun k w => by kernel_rfl)
  · exact RG.cert_load rfl 0 0 _ rfl rfl (by kernel_rfl) 85 3 rfl (ws x) rfl (fun μ a K => by have h := K.op 3 0 (List.Mem.head _) rfl; exact h) (by kernel_rfl) u85 i85
  · exact RG.cert_call0 rfl 63 gv0 rfl (fun a w => by kernel_rfl) (Coordinates_c)
  · exact RG.cert_stay rfl (fun μ a w _ _ => by rw [show RG.SV.at μ (.v (fv (0 : Fin P))) = (fv (0 : Fin P)) from rfl, ← zero_fv]; kernel_rfl)
  · exact RG.cert_field rfl 109 1 1 rfl 0 0 4 rfl (fun μ a K => K.old 1 (.p 0 0) (List.Mem.head _) (by kernel_rfl)) (fun k w => by kernel_rfl)
  · exact RG.cert_load rfl 0 4 _ rfl rfl (by kernel_rfl) 85 7 rfl (ws y) rfl (fun μ a K => by have h := K.op 7 4 (List.Mem.head _) rfl; exact h) (by kernel_rfl) u85 i85
  · exact RG.cert_call3 rfl 46 5 6 8 gv0 (fv (0 : Fin P)) (fv y) (fv c1) rfl (fun a w => by kernel_rfl) (fun μ a K => by have h := K.op 5 2 (List.Mem.head _) rfl; exact h) (fun μ a K => by have h := K.op 6 3 (List.Mem.tail _ (List.Mem.head _)) rfl; exact h) (fun μ a K => by have h := K.op 8 5 (List.Mem.tail _ (List.Mem.tail _ (List.Mem.head _))) rfl; exact h) (hc1 ▸ PMinus_c C (0 : Fin P) y)
  · exact RG.cert_build2 rfl 109 4 9 rfl (fv x) (fv c1) (pv x c1) rfl (fun μ a K => by have h := K.op 4 1 (List.Mem.head _) rfl; exact h) (fun μ a K => by have h := K.op 9 6 (List.Mem.tail _ (List.Mem.head _)) rfl; exact h) (fun w => by kernel_rfl)
  · exact RG.cert_put 1 rfl _ rfl 109 (.tmp 2) (.tmp 10) rfl rfl rfl (fun μ a K => K.old 2 (.p 1 0) (List.Mem.tail _ (List.Mem.head _)) (by kernel_rfl)) (fun μ a K => by have h := K.op 10 7 (List.Mem.head _) rfl; exact h) i109 rfl
  intro new2 w2 hl2 hS2
  obtain rfl := RG.len0 hl2
  refine wp_ret ?_
  refine bodyPost_ret (v := (pv x c1)) (RG.results_row hS2 2 109 rfl 1 _ rfl (by kernel_rfl) u109 i109) (by kernel_rfl) ?_
  exact ⟨_, rfl, hS2.bel.below, rfl⟩

end Go.Proofs.Ytdeidgbknlmhjab
