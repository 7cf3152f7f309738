import Derived.Test.YtdeidgbknlmhjabCF
set_option linter.unusedVariables false
set_option linter.unusedSimpArgs false
namespace Go.Proofs.Ytdeidgbknlmhjab
open Go.RowKit Go.Sort
variable {P : Nat} [NeZero P]

def F108n_0i (kt o k : Nat) (s s2 : T3 P)  : List RG.It := [⟨some 4, [], (.p 0 0), .make 0⟩]
def F108n_0b (kt o k : Nat) (s s2 : T3 P)  : List RG.Bl := [⟨[.int .u64 0, .int .u64 0, .int .u64 0, .int .u64 0, .int .u64 0, .int .u64 0, .int .u64 0, .int .u64 0, .int .u64 0, .int .u64 0, .int .u64 0, .int .u64 0], [.int .u64 0, .int .u64 0, .int .u64 0, .int .u64 0, .int .u64 0, .int .u64 0, .int .u64 0, .int .u64 0, .int .u64 0, .int .u64 0, .int .u64 0, .int .u64 0], some 0, none⟩]
def F108n_0o (kt o k : Nat) (s s2 : T3 P)  : List (Tmp × RG.SV) := []
def F108n_1i (kt o k : Nat) (s s2 : T3 P)  : List RG.It := [⟨some 5, [], (.v (.int .i8 (-(2 * (k : Int) + 1)))), .stay⟩,
  ⟨some 6, [(5, 0)], (.v (.bool true)), .stay⟩]
def F108n_1b (kt o k : Nat) (s s2 : T3 P)  : List RG.Bl := [⟨[.int .u64 0, .int .u64 0, .int .u64 0, .int .u64 0, .int .u64 0, .int .u64 0, .int .u64 0, .int .u64 0, .int .u64 0, .int .u64 0, .int .u64 0, .int .u64 0], [.int .u64 0, .int .u64 0, .int .u64 0, .int .u64 0, .int .u64 0, .int .u64 0, .int .u64 0, .int .u64 0, .int .u64 0, .int .u64 0, .int .u64 0, .int .u64 0], none, none⟩]
def F108n_1o (kt o k : Nat) (s s2 : T3 P)  : List (Tmp × RG.SV) := [(1, (.v (.int .i8 (-(2 * (k : Int) + 1)))))]
def F108n_2i (kt o k : Nat) (s s2 : T3 P)  : List RG.It := [⟨some 7, [], (.v (.pointer (some ⟨kt, o, none⟩))), .stay⟩,
  ⟨some 8, [], (.v (.int .i8 (-(2 * (k : Int) + 1)))), .stay⟩,
  ⟨some 9, [(8, 1)], (.v (.int .i8 (2 * (k : Int) + 1))), .stay⟩,
  ⟨some 10, [(9, 2)], (.v (.int .i8 (k : Int))), .stay⟩,
  ⟨some 11, [(7, 0)], (.v (.pointer (some ⟨kt, o, none⟩))), .stay⟩,
  ⟨some 12, [(11, 4)], (.v (.pointer (some ⟨kt, (o + 0), none⟩))), .stay⟩,
  ⟨some 13, [(12, 5), (10, 3)], (.v (.pointer (some ⟨kt, ((o + 0) + 12 * k), none⟩))), .stay⟩,
  ⟨some 14, [(13, 6)], (.v (tv s)), .stay⟩,
  ⟨some 15, [(14, 7)], (.v (tv s2)), .call⟩,
  ⟨none, [(15, 8)], (.v undef), .put 0⟩]
def F108n_2b (kt o k : Nat) (s s2 : T3 P)  : List RG.Bl := [⟨[.int .u64 0, .int .u64 0, .int .u64 0, .int .u64 0, .int .u64 0, .int .u64 0, .int .u64 0, .int .u64 0, .int .u64 0, .int .u64 0, .int .u64 0, .int .u64 0], (tw s2), none, some 9⟩]
def F108n_2o (kt o k : Nat) (s s2 : T3 P)  : List (Tmp × RG.SV) := [(0, (.v (.pointer (some ⟨kt, o, none⟩)))), (1, (.v (.int .i8 (-(2 * (k : Int) + 1))))), (4, (.p 0 0))]
def F108p_0i (kt o k : Nat) (s s2 : T3 P)  : List RG.It := [⟨some 4, [], (.p 0 0), .make 0⟩]
def F108p_0b (kt o k : Nat) (s s2 : T3 P)  : List RG.Bl := [⟨[.int .u64 0, .int .u64 0, .int .u64 0, .int .u64 0, .int .u64 0, .int .u64 0, .int .u64 0, .int .u64 0, .int .u64 0, .int .u64 0, .int .u64 0, .int .u64 0], [.int .u64 0, .int .u64 0, .int .u64 0, .int .u64 0, .int .u64 0, .int .u64 0, .int .u64 0, .int .u64 0, .int .u64 0, .int .u64 0, .int .u64 0, .int .u64 0], some 0, none⟩]
def F108p_0o (kt o k : Nat) (s s2 : T3 P)  : List (Tmp × RG.SV) := []
def F108p_1i (kt o k : Nat) (s s2 : T3 P)  : List RG.It := [⟨some 5, [], (.v (.int .i8 (2 * (k : Int) + 1))), .stay⟩,
  ⟨some 6, [(5, 0)], (.v (.bool false)), .stay⟩]
def F108p_1b (kt o k : Nat) (s s2 : T3 P)  : List RG.Bl := [⟨[.int .u64 0, .int .u64 0, .int .u64 0, .int .u64 0, .int .u64 0, .int .u64 0, .int .u64 0, .int .u64 0, .int .u64 0, .int .u64 0, .int .u64 0, .int .u64 0], [.int .u64 0, .int .u64 0, .int .u64 0, .int .u64 0, .int .u64 0, .int .u64 0, .int .u64 0, .int .u64 0, .int .u64 0, .int .u64 0, .int .u64 0, .int .u64 0], none, none⟩]
def F108p_1o (kt o k : Nat) (s s2 : T3 P)  : List (Tmp × RG.SV) := [(1, (.v (.int .i8 (2 * (k : Int) + 1))))]
def F108p_3i (kt o k : Nat) (s s2 : T3 P)  : List RG.It := [⟨some 16, [], (.v (.pointer (some ⟨kt, o, none⟩))), .stay⟩,
  ⟨some 17, [], (.v (.int .i8 (2 * (k : Int) + 1))), .stay⟩,
  ⟨some 18, [(17, 1)], (.v (.int .i8 (k : Int))), .stay⟩,
  ⟨some 19, [(16, 0)], (.v (.pointer (some ⟨kt, o, none⟩))), .stay⟩,
  ⟨some 20, [(19, 3)], (.v (.pointer (some ⟨kt, (o + 0), none⟩))), .stay⟩,
  ⟨some 21, [(20, 4), (18, 2)], (.v (.pointer (some ⟨kt, ((o + 0) + 12 * k), none⟩))), .stay⟩,
  ⟨some 22, [(21, 5)], (.v (tv s)), .stay⟩,
  ⟨none, [(22, 6)], (.v undef), .put 0⟩]
def F108p_3b (kt o k : Nat) (s s2 : T3 P)  : List RG.Bl := [⟨[.int .u64 0, .int .u64 0, .int .u64 0, .int .u64 0, .int .u64 0, .int .u64 0, .int .u64 0, .int .u64 0, .int .u64 0, .int .u64 0, .int .u64 0, .int .u64 0], (tw s), none, some 7⟩]
def F108p_3o (kt o k : Nat) (s s2 : T3 P)  : List (Tmp × RG.SV) := [(0, (.v (.pointer (some ⟨kt, o, none⟩)))), (1, (.v (.int .i8 (2 * (k : Int) + 1)))), (4, (.p 0 0))]

set_option maxHeartbeats 2000000 in
set_option maxRecDepth 100000 in
theorem times_n (F : Fld P) (kt o k : Nat) (hq : k < 8) (s : T3 P) (w : World) (hk : kt < w.heap.size) (hr : w.rangeAt kt (o + 0 + 12 * k) (tw s)) : Calls Try.prog 108 #[(.pointer (some ⟨kt, o, none⟩)), (.int .i8 (-(2 * (k : Int) + 1)))] w (Ret fun e w' => Below w.heap.size w w' ∧ e = tv (opJ s)) := by
  obtain ⟨s2, hs2e⟩ : ∃ s2, opJ s = s2 := ⟨_, rfl⟩
  have hs2 : Gives 116 #[tv s] (tv s2) := hs2e ▸ opJ_c F s
  have hlss : ∀ w, (binOp .lss 137 (.int .i8 (-(2 * (k : Int) + 1))) (.int .i8 0)).run Try.prog w = .ok (.bool true) w := fun w => by
    have h1 : -(2 * (k : Int) + 1) < 0 := by omega
    go_simp
    try omega
  have hneg : ∀ w, (Op.unary .neg (.int .i8 (-(2 * (k : Int) + 1)))).run Try.prog w = .ok (.int .i8 (2 * (k : Int) + 1)) w := fun w => by
    rw [i8neg _ (by omega), Int.neg_neg]
  go_enter Try.func108, Try.ntmps108
  refine RG.var2 (v0 := (.pointer (some ⟨kt, o, none⟩))) (v1 := (.int .i8 (-(2 * (k : Int) + 1)))) (n := 23) (by kernel_rfl) (by kernel_rfl) (by kernel_rfl) (by kernel_rfl) ?_
  intro a0 sl0 f0 f1
  have hS0 := RG.St.begin w
  repeat refine wp_seq ?_
  refine RG.region_text' (its := F108n_0i kt o k s s2) (bl := F108n_0b kt o k s s2) (olds := F108n_0o kt o k s s2) hS0 (RG.Reg.mk' (by rw [sl0.size]; kernel_rfl) trivial ⟨?_, trivial⟩) (by kernel_rfl) (by kernel_rfl) (RG.endB_st (by kernel_rfl)) ?_
  · exact RG.cert_alloc 0 rfl rfl _ rfl 117 rfl (fun w => by kernel_rfl)
  intro new1 w1 hl1 hS1
  obtain ⟨j1, rfl⟩ := RG.len1 hl1
  clear hl1
  replace hS1 : RG.St w w.heap.size [] [[.int .u64 0, .int .u64 0, .int .u64 0, .int .u64 0, .int .u64 0, .int .u64 0, .int .u64 0, .int .u64 0, .int .u64 0, .int .u64 0, .int .u64 0, .int .u64 0]] [j1] w1 := hS1
  have sl1 : RG.Sl (RG.puts (RG.ad ([] ++ [j1])) (F108n_0i kt o k s s2) a0) 23 := sl0.puts
  have f0_1 := RG.put_old (μ := RG.ad ([] ++ [j1])) (its := (F108n_0i kt o k s s2)) f0 (by kernel_rfl)
  have f1_1 := RG.put_old (μ := RG.ad ([] ++ [j1])) (its := (F108n_0i kt o k s s2)) f1 (by kernel_rfl)
  have f4_1 : (RG.puts (RG.ad ([] ++ [j1])) (F108n_0i kt o k s s2) a0).tmps[4]? = some (.pointer (some ⟨j1, 0, none⟩)) := by have h := RG.put_new (μ := RG.ad ([] ++ [j1])) (its := (F108n_0i kt o k s s2)) sl0 0 (by kernel_rfl) rfl rfl rfl; exact h
  generalize RG.puts (RG.ad ([] ++ [j1])) (F108n_0i kt o k s s2) a0 = a1 at sl1 f0_1 f1_1 f4_1 ⊢
  repeat refine wp_seq ?_
  refine RG.region_text' (its := F108n_1i kt o k s s2) (bl := F108n_1b kt o k s s2) (olds := F108n_1o kt o k s s2) hS1 (RG.Reg.mk' (by rw [sl1.size]; kernel_rfl) ⟨f1_1, trivial⟩ ⟨?_, ?_, trivial⟩) (by kernel_rfl) (by kernel_rfl) (RG.endB_st (by kernel_rfl)) ?_
  · exact RG.cert_move rfl 1 (Or.inl rfl) (fun μ a K => K.old 1 (.v (.int .i8 (-(2 * (k : Int) + 1)))) (List.Mem.head _) (by kernel_rfl))
  · exact RG.cert_binc rfl .lss 137 137 5 (.int .i8 (-(2 * (k : Int) + 1))) (.int .i8 0) (.bool true) rfl rfl (fun μ a K => by have h := K.op 5 0 (List.Mem.head _) rfl; exact h) (fun w => by kernel_rfl) (hlss)
  intro new2 w2 hl2 hS2
  obtain rfl := RG.len0 hl2
  replace hS2 : RG.St w w.heap.size [] [[.int .u64 0, .int .u64 0, .int .u64 0, .int .u64 0, .int .u64 0, .int .u64 0, .int .u64 0, .int .u64 0, .int .u64 0, .int .u64 0, .int .u64 0, .int .u64 0]] [j1] w2 := hS2
  have sl2 : RG.Sl (RG.puts (RG.ad ([j1] ++ [])) (F108n_1i kt o k s s2) a1) 23 := sl1.puts
  have f0_2 := RG.put_old (μ := RG.ad ([j1] ++ [])) (its := (F108n_1i kt o k s s2)) f0_1 (by kernel_rfl)
  have f1_2 := RG.put_old (μ := RG.ad ([j1] ++ [])) (its := (F108n_1i kt o k s s2)) f1_1 (by kernel_rfl)
  have f4_2 := RG.put_old (μ := RG.ad ([j1] ++ [])) (its := (F108n_1i kt o k s s2)) f4_1 (by kernel_rfl)
  have f6_2 : (RG.puts (RG.ad ([j1] ++ [])) (F108n_1i kt o k s s2) a1).tmps[6]? = some (.bool true) := by have h := RG.put_new (μ := RG.ad ([j1] ++ [])) (its := (F108n_1i kt o k s s2)) sl1 1 (by kernel_rfl) rfl rfl rfl; exact h
  generalize RG.puts (RG.ad ([j1] ++ [])) (F108n_1i kt o k s s2) a1 = a2 at sl2 f0_2 f1_2 f4_2 f6_2 ⊢
  repeat refine wp_seq ?_
  refine wp_cond_true (RG.eval_of f6_2) ?_
  repeat refine wp_seq ?_
  refine RG.region_text' (its := F108n_2i kt o k s s2) (bl := F108n_2b kt o k s s2) (olds := F108n_2o kt o k s s2) hS2 (RG.Reg.mk' (by rw [sl2.size]; kernel_rfl) ⟨f0_2, f1_2, f4_2, trivial⟩ ⟨?_, ?_, ?_, ?_, ?_, ?_, ?_, ?_, ?_, ?_, trivial⟩) (by kernel_rfl) (by kernel_rfl) (RG.endB_st (by kernel_rfl)) ?_
  · exact RG.cert_move rfl 0 (Or.inl rfl) (fun μ a K => K.old 0 (.v (.pointer (some ⟨kt, o, none⟩))) (List.Mem.head _) (by kernel_rfl))
  · exact RG.cert_move rfl 1 (Or.inl rfl) (fun μ a K => K.old 1 (.v (.int .i8 (-(2 * (k : Int) + 1)))) (List.Mem.tail _ (List.Mem.head _)) (by kernel_rfl))
  · exact RG.cert_un rfl .neg 137 8 (.int .i8 (-(2 * (k : Int) + 1))) (.int .i8 (2 * (k : Int) + 1)) rfl rfl (fun μ a K => by have h := K.op 8 1 (List.Mem.head _) rfl; exact h) (hneg)
  · exact RG.cert_binc rfl .quo 137 137 9 (.int .i8 (2 * (k : Int) + 1)) (.int .i8 2) (.int .i8 (k : Int)) rfl rfl (fun μ a K => by have h := K.op 9 2 (List.Mem.head _) rfl; exact h) (fun w => by kernel_rfl) (i8quo k hq)
  · exact RG.cert_nil rfl 7 rfl (.v (.pointer (some ⟨kt, o, none⟩))) (fun μ => ⟨_, rfl⟩) rfl (fun μ a K => by have h := K.op 7 0 (List.Mem.head _) rfl; exact h)
  · exact RG.cert_fieldV rfl 140 11 0 (.pointer (some ⟨kt, o, none⟩)) (.pointer (some ⟨kt, (o + 0), none⟩)) rfl rfl (fun μ a K => by have h := K.op 11 4 (List.Mem.head _) rfl; exact h) (fun w => by kernel_rfl)
  · exact RG.cert_idx rfl 136 12 10 rfl (.v (.pointer (some ⟨kt, (o + 0), none⟩))) (.int .i8 (k : Int)) (fun μ a K => by have h := K.op 12 5 (List.Mem.head _) rfl; exact h) (fun μ a K => by have h := K.op 10 3 (List.Mem.tail _ (List.Mem.head _)) rfl; exact h) (fun μ w => at136b _ _ k hq w)
  · exact RG.cert_loadB rfl kt ((o + 0) + 12 * k) hk List.not_mem_nil 117 13 rfl (tw s) rfl (fun μ a K => by have h := K.op 13 6 (List.Mem.head _) rfl; exact h) hr u117 i117
  · exact RG.cert_call1 rfl 116 14 (tv s) (tv s2) rfl (fun a w => by kernel_rfl) (fun μ a K => by have h := K.op 14 7 (List.Mem.head _) rfl; exact h) (hs2)
  · exact RG.cert_put 0 rfl _ rfl 117 (.tmp 4) (.tmp 15) rfl rfl rfl (fun μ a K => K.old 4 (.p 0 0) (List.Mem.tail _ (List.Mem.tail _ (List.Mem.head _))) (by kernel_rfl)) (fun μ a K => by have h := K.op 15 8 (List.Mem.head _) rfl; exact h) i117 rfl
  intro new3 w3 hl3 hS3
  obtain rfl := RG.len0 hl3
  replace hS3 : RG.St w w.heap.size [] [(tw s2)] [j1] w3 := hS3
  have sl3 : RG.Sl (RG.puts (RG.ad ([j1] ++ [])) (F108n_2i kt o k s s2) a2) 23 := sl2.puts
  have f4_3 := RG.put_old (μ := RG.ad ([j1] ++ [])) (its := (F108n_2i kt o k s s2)) f4_2 (by kernel_rfl)
  generalize RG.puts (RG.ad ([j1] ++ [])) (F108n_2i kt o k s s2) a2 = a3 at sl3 f4_3 ⊢
  refine wp_ret ?_
  refine bodyPost_ret (v := tv s2) (RG.results_row hS3 4 117 rfl 0 _ rfl f4_3 u117 i117) sl3.defers ?_
  exact ⟨_, rfl, hS3.bel.below, by rw [hs2e]⟩

set_option maxHeartbeats 2000000 in
set_option maxRecDepth 100000 in
theorem times_p (F : Fld P) (kt o k : Nat) (hq : k < 8) (s : T3 P) (w : World) (hk : kt < w.heap.size) (hr : w.rangeAt kt (o + 0 + 12 * k) (tw s)) : Calls Try.prog 108 #[(.pointer (some ⟨kt, o, none⟩)), (.int .i8 (2 * (k : Int) + 1))] w (Ret fun e w' => Below w.heap.size w w' ∧ e = tv s) := by
  obtain ⟨s2, hs2e⟩ : ∃ s2, opJ s = s2 := ⟨_, rfl⟩
  have hs2 : Gives 116 #[tv s] (tv s2) := hs2e ▸ opJ_c F s
  have hlss : ∀ w, (binOp .lss 137 (.int .i8 (2 * (k : Int) + 1)) (.int .i8 0)).run Try.prog w = .ok (.bool false) w := fun w => by
    have h1 : ¬ 2 * (k : Int) + 1 < 0 := by omega
    go_simp
    try omega
  have hneg : ∀ w, (Op.unary .neg (.int .i8 (-(2 * (k : Int) + 1)))).run Try.prog w = .ok (.int .i8 (2 * (k : Int) + 1)) w := fun w => by
    rw [i8neg _ (by omega), Int.neg_neg]
  go_enter Try.func108, Try.ntmps108
  refine RG.var2 (v0 := (.pointer (some ⟨kt, o, none⟩))) (v1 := (.int .i8 (2 * (k : Int) + 1))) (n := 23) (by kernel_rfl) (by kernel_rfl) (by kernel_rfl) (by kernel_rfl) ?_
  intro a0 sl0 f0 f1
  have hS0 := RG.St.begin w
  repeat refine wp_seq ?_
  refine RG.region_text' (its := F108p_0i kt o k s s2) (bl := F108p_0b kt o k s s2) (olds := F108p_0o kt o k s s2) hS0 (RG.Reg.mk' (by rw [sl0.size]; kernel_rfl) trivial ⟨?_, trivial⟩) (by kernel_rfl) (by kernel_rfl) (RG.endB_st (by kernel_rfl)) ?_
  · exact RG.cert_alloc 0 rfl rfl _ rfl 117 rfl (fun w => by kernel_rfl)
  intro new1 w1 hl1 hS1
  obtain ⟨j1, rfl⟩ := RG.len1 hl1
  clear hl1
  replace hS1 : RG.St w w.heap.size [] [[.int .u64 0, .int .u64 0, .int .u64 0, .int .u64 0, .int .u64 0, .int .u64 0, .int .u64 0, .int .u64 0, .int .u64 0, .int .u64 0, .int .u64 0, .int .u64 0]] [j1] w1 := hS1
  have sl1 : RG.Sl (RG.puts (RG.ad ([] ++ [j1])) (F108p_0i kt o k s s2) a0) 23 := sl0.puts
  have f0_1 := RG.put_old (μ := RG.ad ([] ++ [j1])) (its := (F108p_0i kt o k s s2)) f0 (by kernel_rfl)
  have f1_1 := RG.put_old (μ := RG.ad ([] ++ [j1])) (its := (F108p_0i kt o k s s2)) f1 (by kernel_rfl)
  have f4_1 : (RG.puts (RG.ad ([] ++ [j1])) (F108p_0i kt o k s s2) a0).tmps[4]? = some (.pointer (some ⟨j1, 0, none⟩)) := by have h := RG.put_new (μ := RG.ad ([] ++ [j1])) (its := (F108p_0i kt o k s s2)) sl0 0 (by kernel_rfl) rfl rfl rfl; exact h
  generalize RG.puts (RG.ad ([] ++ [j1])) (F108p_0i kt o k s s2) a0 = a1 at sl1 f0_1 f1_1 f4_1 ⊢
  repeat refine wp_seq ?_
  refine RG.region_text' (its := F108p_1i kt o k s s2) (bl := F108p_1b kt o k s s2) (olds := F108p_1o kt o k s s2) hS1 (RG.Reg.mk' (by rw [sl1.size]; kernel_rfl) ⟨f1_1, trivial⟩ ⟨?_, ?_, trivial⟩) (by kernel_rfl) (by kernel_rfl) (RG.endB_st (by kernel_rfl)) ?_
  · exact RG.cert_move rfl 1 (Or.inl rfl) (fun μ a K => K.old 1 (.v (.int .i8 (2 * (k : Int) + 1))) (List.Mem.head _) (by kernel_rfl))
  · exact RG.cert_binc rfl .lss 137 137 5 (.int .i8 (2 * (k : Int) + 1)) (.int .i8 0) (.bool false) rfl rfl (fun μ a K => by have h := K.op 5 0 (List.Mem.head _) rfl; exact h) (fun w => by kernel_rfl) (hlss)
  intro new2 w2 hl2 hS2
  obtain rfl := RG.len0 hl2
  replace hS2 : RG.St w w.heap.size [] [[.int .u64 0, .int .u64 0, .int .u64 0, .int .u64 0, .int .u64 0, .int .u64 0, .int .u64 0, .int .u64 0, .int .u64 0, .int .u64 0, .int .u64 0, .int .u64 0]] [j1] w2 := hS2
  have sl2 : RG.Sl (RG.puts (RG.ad ([j1] ++ [])) (F108p_1i kt o k s s2) a1) 23 := sl1.puts
  have f0_2 := RG.put_old (μ := RG.ad ([j1] ++ [])) (its := (F108p_1i kt o k s s2)) f0_1 (by kernel_rfl)
  have f1_2 := RG.put_old (μ := RG.ad ([j1] ++ [])) (its := (F108p_1i kt o k s s2)) f1_1 (by kernel_rfl)
  have f4_2 := RG.put_old (μ := RG.ad ([j1] ++ [])) (its := (F108p_1i kt o k s s2)) f4_1 (by kernel_rfl)
  have f6_2 : (RG.puts (RG.ad ([j1] ++ [])) (F108p_1i kt o k s s2) a1).tmps[6]? = some (.bool false) := by have h := RG.put_new (μ := RG.ad ([j1] ++ [])) (its := (F108p_1i kt o k s s2)) sl1 1 (by kernel_rfl) rfl rfl rfl; exact h
  generalize RG.puts (RG.ad ([j1] ++ [])) (F108p_1i kt o k s s2) a1 = a2 at sl2 f0_2 f1_2 f4_2 f6_2 ⊢
  repeat refine wp_seq ?_
  refine wp_cond_false (RG.eval_of f6_2) ?_
  refine wp_skip ?_
  repeat refine wp_seq ?_
  refine RG.region_text' (its := F108p_3i kt o k s s2) (bl := F108p_3b kt o k s s2) (olds := F108p_3o kt o k s s2) hS2 (RG.Reg.mk' (by rw [sl2.size]; kernel_rfl) ⟨f0_2, f1_2, f4_2, trivial⟩ ⟨?_, ?_, ?_, ?_, ?_, ?_, ?_, ?_, trivial⟩) (by kernel_rfl) (by kernel_rfl) (RG.endB_st (by kernel_rfl)) ?_
  · exact RG.cert_move rfl 0 (Or.inl rfl) (fun μ a K => K.old 0 (.v (.pointer (some ⟨kt, o, none⟩))) (List.Mem.head _) (by kernel_rfl))
  · exact RG.cert_move rfl 1 (Or.inl rfl) (fun μ a K => K.old 1 (.v (.int .i8 (2 * (k : Int) + 1))) (List.Mem.tail _ (List.Mem.head _)) (by kernel_rfl))
  · exact RG.cert_binc rfl .quo 137 137 17 (.int .i8 (2 * (k : Int) + 1)) (.int .i8 2) (.int .i8 (k : Int)) rfl rfl (fun μ a K => by have h := K.op 17 1 (List.Mem.head _) rfl; exact h) (fun w => by kernel_rfl) (i8quo k hq)
  · exact RG.cert_nil rfl 16 rfl (.v (.pointer (some ⟨kt, o, none⟩))) (fun μ => ⟨_, rfl⟩) rfl (fun μ a K => by have h := K.op 16 0 (List.Mem.head _) rfl; exact h)
  · exact RG.cert_fieldV rfl 140 19 0 (.pointer (some ⟨kt, o, none⟩)) (.pointer (some ⟨kt, (o + 0), none⟩)) rfl rfl (fun μ a K => by have h := K.op 19 3 (List.Mem.head _) rfl; exact h) (fun w => by kernel_rfl)
  · exact RG.cert_idx rfl 136 20 18 rfl (.v (.pointer (some ⟨kt, (o + 0), none⟩))) (.int .i8 (k : Int)) (fun μ a K => by have h := K.op 20 4 (List.Mem.head _) rfl; exact h) (fun μ a K => by have h := K.op 18 2 (List.Mem.tail _ (List.Mem.head _)) rfl; exact h) (fun μ w => at136b _ _ k hq w)
  · exact RG.cert_loadB rfl kt ((o + 0) + 12 * k) hk List.not_mem_nil 117 21 rfl (tw s) rfl (fun μ a K => by have h := K.op 21 5 (List.Mem.head _) rfl; exact h) hr u117 i117
  · exact RG.cert_put 0 rfl _ rfl 117 (.tmp 4) (.tmp 22) rfl rfl rfl (fun μ a K => K.old 4 (.p 0 0) (List.Mem.tail _ (List.Mem.tail _ (List.Mem.head _))) (by kernel_rfl)) (fun μ a K => by have h := K.op 22 6 (List.Mem.head _) rfl; exact h) i117 rfl
  intro new3 w3 hl3 hS3
  obtain rfl := RG.len0 hl3
  replace hS3 : RG.St w w.heap.size [] [(tw s)] [j1] w3 := hS3
  have sl3 : RG.Sl (RG.puts (RG.ad ([j1] ++ [])) (F108p_3i kt o k s s2) a2) 23 := sl2.puts
  have f4_3 := RG.put_old (μ := RG.ad ([j1] ++ [])) (its := (F108p_3i kt o k s s2)) f4_2 (by kernel_rfl)
  generalize RG.puts (RG.ad ([j1] ++ [])) (F108p_3i kt o k s s2) a2 = a3 at sl3 f4_3 ⊢
  refine wp_ret ?_
  refine bodyPost_ret (v := tv s) (RG.results_row hS3 4 117 rfl 0 _ rfl f4_3 u117 i117) sl3.defers ?_
  exact ⟨_, rfl, hS3.bel.below, rfl⟩
end Go.Proofs.Ytdeidgbknlmhjab
