import Derived.Test.YtdeidgbknlmhjabB33
set_option linter.unusedVariables false
set_option linter.unusedSimpArgs false
namespace Go.Proofs.Ytdeidgbknlmhjab
open Go.RowKit Go.Sort
variable {P : Nat} [NeZero P]

def F71a_0i (q : Option Addr) (n cap : Nat) (x : Fin P)  : List RG.It := [⟨some 2, [], (.p 0 0), .make 0⟩,
  ⟨some 3, [], (.v (.bool false)), .stay⟩]
def F71a_0b (q : Option Addr) (n cap : Nat) (x : Fin P)  : List RG.Bl := [⟨[.int .u64 0, .int .u64 0, .int .u64 0, .int .u64 0, .int .u64 0, .int .u64 0, .int .u64 0, .int .u64 0], [.int .u64 0, .int .u64 0, .int .u64 0, .int .u64 0, .int .u64 0, .int .u64 0, .int .u64 0, .int .u64 0], some 0, none⟩]
def F71a_0o (q : Option Addr) (n cap : Nat) (x : Fin P)  : List (Tmp × RG.SV) := []
def F71a_1i (q : Option Addr) (n cap : Nat) (x : Fin P)  : List RG.It := [⟨some 7, [], (.v (.slice q n cap)), .stay⟩,
  ⟨some 8, [(7, 0)], (.v (.int .i64 (n : Int))), .stay⟩,
  ⟨some 9, [(8, 1)], (.v (.bool true)), .stay⟩]
def F71a_1b (q : Option Addr) (n cap : Nat) (x : Fin P)  : List RG.Bl := [⟨[.int .u64 0, .int .u64 0, .int .u64 0, .int .u64 0, .int .u64 0, .int .u64 0, .int .u64 0, .int .u64 0], [.int .u64 0, .int .u64 0, .int .u64 0, .int .u64 0, .int .u64 0, .int .u64 0, .int .u64 0, .int .u64 0], none, none⟩]
def F71a_1o (q : Option Addr) (n cap : Nat) (x : Fin P)  : List (Tmp × RG.SV) := [(0, (.v (.slice q n cap)))]
def F71a_2i (q : Option Addr) (n cap : Nat) (x : Fin P)  : List RG.It := [⟨some 10, [], (.v (pv (0 : Fin P) (0 : Fin P))), .stay⟩,
  ⟨none, [(10, 0)], (.v undef), .put 0⟩,
  ⟨some 3, [], (.v (.bool false)), .stay⟩]
def F71a_2b (q : Option Addr) (n cap : Nat) (x : Fin P)  : List RG.Bl := [⟨[.int .u64 0, .int .u64 0, .int .u64 0, .int .u64 0, .int .u64 0, .int .u64 0, .int .u64 0, .int .u64 0], (ws (0 : Fin P) ++ (ws (0 : Fin P))), none, some 1⟩]
def F71a_2o (q : Option Addr) (n cap : Nat) (x : Fin P)  : List (Tmp × RG.SV) := [(2, (.p 0 0))]
set_option maxHeartbeats 2000000 in
set_option maxRecDepth 100000 in
theorem rp_len (C : Fld P) (q : Option Addr) (n cap : Nat) (x : Fin P) (w : World) (hn : ¬ n = 33) : Calls Try.prog 71 #[(.slice q n cap)] w (Ret fun e w' => Below w.heap.size w w' ∧ e = (.tuple #[pv (0 : Fin P) 0, .bool false])) := by
  have hne : ∀ w, (binOp .neq 3 (.int .i64 (n : Int)) (.int .i64 33)).run Try.prog w = .ok (.bool true) w := fun w => by
    have h : ¬ (n : Int) = 33 := by omega
    go_simp
  go_enter Try.func71, Try.ntmps71
  refine RG.var1 (v0 := (.slice q n cap)) (n := 54) (by kernel_rfl) (by kernel_rfl) (by kernel_rfl) ?_
  intro a0 sl0 f0
  have hS0 := RG.St.begin w
  repeat refine wp_seq ?_
  refine RG.region_text' (its := F71a_0i q n cap x) (bl := F71a_0b q n cap x) (olds := F71a_0o q n cap x) hS0 (RG.Reg.mk' (by rw [sl0.size]; kernel_rfl) trivial ⟨?_, ?_, trivial⟩) (by kernel_rfl) (by kernel_rfl) (RG.endB_st (by kernel_rfl)) ?_
  · exact RG.cert_alloc 0 rfl rfl _ rfl 109 rfl (fun w => by kernel_rfl)
  · exact RG.cert_stay rfl (fun μ a w _ _ => by kernel_rfl)
  intro new1 w1 hl1 hS1
  obtain ⟨j1, rfl⟩ := RG.len1 hl1
  clear hl1
  replace hS1 : RG.St w w.heap.size [] [[.int .u64 0, .int .u64 0, .int .u64 0, .int .u64 0, .int .u64 0, .int .u64 0, .int .u64 0, .int .u64 0]] [j1] w1 := hS1
  have sl1 : RG.Sl (RG.puts (RG.ad ([] ++ [j1])) (F71a_0i q n cap x) a0) 54 := sl0.puts
  have f0_1 := RG.put_old (μ := RG.ad ([] ++ [j1])) (its := (F71a_0i q n cap x)) f0 (by kernel_rfl)
  have f2_1 : (RG.puts (RG.ad ([] ++ [j1])) (F71a_0i q n cap x) a0).tmps[2]? = some (.pointer (some ⟨j1, 0, none⟩)) := by have h := RG.put_new (μ := RG.ad ([] ++ [j1])) (its := (F71a_0i q n cap x)) sl0 0 (by kernel_rfl) rfl rfl rfl; exact h
  have f3_1 : (RG.puts (RG.ad ([] ++ [j1])) (F71a_0i q n cap x) a0).tmps[3]? = some (.bool false) := by have h := RG.put_new (μ := RG.ad ([] ++ [j1])) (its := (F71a_0i q n cap x)) sl0 1 (by kernel_rfl) rfl rfl rfl; exact h
  generalize RG.puts (RG.ad ([] ++ [j1])) (F71a_0i q n cap x) a0 = a1 at sl1 f0_1 f2_1 f3_1 ⊢
  repeat refine wp_seq ?_
  refine RG.region_text' (its := F71a_1i q n cap x) (bl := F71a_1b q n cap x) (olds := F71a_1o q n cap x) hS1 (RG.Reg.mk' (by rw [sl1.size]; kernel_rfl) ⟨f0_1, trivial⟩ ⟨?_, ?_, ?_, trivial⟩) (by kernel_rfl) (by kernel_rfl) (RG.endB_st (by kernel_rfl)) ?_
  · exact RG.cert_move rfl 0 (Or.inl rfl) (fun μ a K => K.old 0 (.v (.slice q n cap)) (List.Mem.head _) (by kernel_rfl))
  · exact RG.cert_one rfl 7 (.v (.slice q n cap)) (.int .i64 (n : Int)) rfl (fun μ a K => by have h := K.op 7 0 (List.Mem.head _) rfl; exact h) (fun a w => by kernel_rfl) (fun μ w => by kernel_rfl)
  · exact RG.cert_binc rfl .neq 3 3 8 (.int .i64 (n : Int)) (.int .i64 33) (.bool true) rfl rfl (fun μ a K => by have h := K.op 8 1 (List.Mem.head _) rfl; exact h) (fun w => by kernel_rfl) (hne)
  intro new2 w2 hl2 hS2
  obtain rfl := RG.len0 hl2
  replace hS2 : RG.St w w.heap.size [] [[.int .u64 0, .int .u64 0, .int .u64 0, .int .u64 0, .int .u64 0, .int .u64 0, .int .u64 0, .int .u64 0]] [j1] w2 := hS2
  have sl2 : RG.Sl (RG.puts (RG.ad ([j1] ++ [])) (F71a_1i q n cap x) a1) 54 := sl1.puts
  have f2_2 := RG.put_old (μ := RG.ad ([j1] ++ [])) (its := (F71a_1i q n cap x)) f2_1 (by kernel_rfl)
  have f3_2 := RG.put_old (μ := RG.ad ([j1] ++ [])) (its := (F71a_1i q n cap x)) f3_1 (by kernel_rfl)
  have f9_2 : (RG.puts (RG.ad ([j1] ++ [])) (F71a_1i q n cap x) a1).tmps[9]? = some (.bool true) := by have h := RG.put_new (μ := RG.ad ([j1] ++ [])) (its := (F71a_1i q n cap x)) sl1 2 (by kernel_rfl) rfl rfl rfl; exact h
  generalize RG.puts (RG.ad ([j1] ++ [])) (F71a_1i q n cap x) a1 = a2 at sl2 f2_2 f3_2 f9_2 ⊢
  repeat refine wp_seq ?_
  refine wp_cond_true (RG.eval_of f9_2) ?_
  repeat refine wp_seq ?_
  refine RG.region_text' (its := F71a_2i q n cap x) (bl := F71a_2b q n cap x) (olds := F71a_2o q n cap x) hS2 (RG.Reg.mk' (by rw [sl2.size]; kernel_rfl) ⟨f2_2, trivial⟩ ⟨?_, ?_, ?_, trivial⟩) (by kernel_rfl) (by kernel_rfl) (RG.endB_st (by kernel_rfl)) ?_
  · exact RG.cert_stay rfl (fun μ a w _ _ => by rw [show RG.SV.at μ (.v (pv (0 : Fin P) (0 : Fin P))) = (pv (0 : Fin P) (0 : Fin P)) from rfl, ← zero_pv]; kernel_rfl)
  · exact RG.cert_put 0 rfl _ rfl 109 (.tmp 2) (.tmp 10) rfl rfl rfl (fun μ a K => K.old 2 (.p 0 0) (List.Mem.head _) (by kernel_rfl)) (fun μ a K => by have h := K.op 10 0 (List.Mem.head _) rfl; exact h) i109 rfl
  · exact RG.cert_stay rfl (fun μ a w _ _ => by kernel_rfl)
  intro new3 w3 hl3 hS3
  obtain rfl := RG.len0 hl3
  replace hS3 : RG.St w w.heap.size [] [(ws (0 : Fin P) ++ (ws (0 : Fin P)))] [j1] w3 := hS3
  have sl3 : RG.Sl (RG.puts (RG.ad ([j1] ++ [])) (F71a_2i q n cap x) a2) 54 := sl2.puts
  have f2_3 := RG.put_old (μ := RG.ad ([j1] ++ [])) (its := (F71a_2i q n cap x)) f2_2 (by kernel_rfl)
  have f3_3 : (RG.puts (RG.ad ([j1] ++ [])) (F71a_2i q n cap x) a2).tmps[3]? = some (.bool false) := by have h := RG.put_new (μ := RG.ad ([j1] ++ [])) (its := (F71a_2i q n cap x)) sl2 2 (by kernel_rfl) rfl rfl rfl; exact h
  generalize RG.puts (RG.ad ([j1] ++ [])) (F71a_2i q n cap x) a2 = a3 at sl3 f2_3 f3_3 ⊢
  refine wp_ret ?_
  refine bodyPost_ret (v := (.tuple #[(pv (0 : Fin P) (0 : Fin P)), (.bool false)])) (RG.results_rt hS3 2 3 109 rfl 0 _ rfl f2_3 _ f3_3 u109 i109) sl3.defers ?_
  exact ⟨_, rfl, hS3.bel.below, rfl⟩

def F71b_0i (g o cap : Nat) (m : Int) (bs : Bs) (x y y2 : Fin P)  : List RG.It := [⟨some 2, [], (.p 0 0), .make 0⟩,
  ⟨some 3, [], (.v (.bool false)), .stay⟩]
def F71b_0b (g o cap : Nat) (m : Int) (bs : Bs) (x y y2 : Fin P)  : List RG.Bl := [⟨[.int .u64 0, .int .u64 0, .int .u64 0, .int .u64 0, .int .u64 0, .int .u64 0, .int .u64 0, .int .u64 0], [.int .u64 0, .int .u64 0, .int .u64 0, .int .u64 0, .int .u64 0, .int .u64 0, .int .u64 0, .int .u64 0], some 0, none⟩]
def F71b_0o (g o cap : Nat) (m : Int) (bs : Bs) (x y y2 : Fin P)  : List (Tmp × RG.SV) := []
def F71b_1i (g o cap : Nat) (m : Int) (bs : Bs) (x y y2 : Fin P)  : List RG.It := [⟨some 7, [], (.v (.slice (some ⟨g, o, none⟩) 33 cap)), .stay⟩,
  ⟨some 8, [(7, 0)], (.v (.int .i64 33)), .stay⟩,
  ⟨some 9, [(8, 1)], (.v (.bool false)), .stay⟩]
def F71b_1b (g o cap : Nat) (m : Int) (bs : Bs) (x y y2 : Fin P)  : List RG.Bl := [⟨[.int .u64 0, .int .u64 0, .int .u64 0, .int .u64 0, .int .u64 0, .int .u64 0, .int .u64 0, .int .u64 0], [.int .u64 0, .int .u64 0, .int .u64 0, .int .u64 0, .int .u64 0, .int .u64 0, .int .u64 0, .int .u64 0], none, none⟩]
def F71b_1o (g o cap : Nat) (m : Int) (bs : Bs) (x y y2 : Fin P)  : List (Tmp × RG.SV) := [(0, (.v (.slice (some ⟨g, o, none⟩) 33 cap)))]
def F71b_3i (g o cap : Nat) (m : Int) (bs : Bs) (x y y2 : Fin P)  : List RG.It := [⟨some 11, [], (.v (.slice (some ⟨g, o, none⟩) 33 cap)), .stay⟩,
  ⟨some 12, [(11, 0)], (.v (.pointer (some ⟨g, o, none⟩))), .stay⟩,
  ⟨some 13, [(12, 1)], (.v (.agg (bl33 bs).toArray)), .stay⟩,
  ⟨some 14, [], (.v (.agg z33.toArray)), .stay⟩,
  ⟨some 15, [(13, 2), (14, 3)], (.v (.bool true)), .stay⟩]
def F71b_3b (g o cap : Nat) (m : Int) (bs : Bs) (x y y2 : Fin P)  : List RG.Bl := [⟨[.int .u64 0, .int .u64 0, .int .u64 0, .int .u64 0, .int .u64 0, .int .u64 0, .int .u64 0, .int .u64 0], [.int .u64 0, .int .u64 0, .int .u64 0, .int .u64 0, .int .u64 0, .int .u64 0, .int .u64 0, .int .u64 0], none, none⟩]
def F71b_3o (g o cap : Nat) (m : Int) (bs : Bs) (x y y2 : Fin P)  : List (Tmp × RG.SV) := [(0, (.v (.slice (some ⟨g, o, none⟩) 33 cap)))]
def F71b_4i (g o cap : Nat) (m : Int) (bs : Bs) (x y y2 : Fin P)  : List RG.It := [⟨some 16, [], (.v (pv (0 : Fin P) (0 : Fin P))), .stay⟩,
  ⟨none, [(16, 0)], (.v undef), .put 0⟩,
  ⟨some 3, [], (.v (.bool true)), .stay⟩]
def F71b_4b (g o cap : Nat) (m : Int) (bs : Bs) (x y y2 : Fin P)  : List RG.Bl := [⟨[.int .u64 0, .int .u64 0, .int .u64 0, .int .u64 0, .int .u64 0, .int .u64 0, .int .u64 0, .int .u64 0], (ws (0 : Fin P) ++ (ws (0 : Fin P))), none, some 1⟩]
def F71b_4o (g o cap : Nat) (m : Int) (bs : Bs) (x y y2 : Fin P)  : List (Tmp × RG.SV) := [(2, (.p 0 0))]
set_option maxHeartbeats 2000000 in
set_option maxRecDepth 100000 in
theorem rp_zero (C : Fld P) (g o cap : Nat) (m : Int) (bs : Bs) (x y y2 : Fin P) (w : World) (hs : bs.size = 33) (hc : 33 ≤ cap) (hg : g < w.heap.size) (hB : Holds encB w g o bs) (hz : Zero33 bs) : Calls Try.prog 71 #[(.slice (some ⟨g, o, none⟩) 33 cap)] w (Ret fun e w' => Below w.heap.size w w' ∧ e = (.tuple #[pv (0 : Fin P) 0, .bool true])) := by
  have hrg := bl33_range hB
  go_enter Try.func71, Try.ntmps71
  refine RG.var1 (v0 := (.slice (some ⟨g, o, none⟩) 33 cap)) (n := 54) (by kernel_rfl) (by kernel_rfl) (by kernel_rfl) ?_
  intro a0 sl0 f0
  have hS0 := RG.St.begin w
  repeat refine wp_seq ?_
  refine RG.region_text' (its := F71b_0i g o cap m bs x y y2) (bl := F71b_0b g o cap m bs x y y2) (olds := F71b_0o g o cap m bs x y y2) hS0 (RG.Reg.mk' (by rw [sl0.size]; kernel_rfl) trivial ⟨?_, ?_, trivial⟩) (by kernel_rfl) (by kernel_rfl) (RG.endB_st (by kernel_rfl)) ?_
  · exact RG.cert_alloc 0 rfl rfl _ rfl 109 rfl (fun w => by kernel_rfl)
  · exact RG.cert_stay rfl (fun μ a w _ _ => by kernel_rfl)
  intro new1 w1 hl1 hS1
  obtain ⟨j1, rfl⟩ := RG.len1 hl1
  clear hl1
  replace hS1 : RG.St w w.heap.size [] [[.int .u64 0, .int .u64 0, .int .u64 0, .int .u64 0, .int .u64 0, .int .u64 0, .int .u64 0, .int .u64 0]] [j1] w1 := hS1
  have sl1 : RG.Sl (RG.puts (RG.ad ([] ++ [j1])) (F71b_0i g o cap m bs x y y2) a0) 54 := sl0.puts
  have f0_1 := RG.put_old (μ := RG.ad ([] ++ [j1])) (its := (F71b_0i g o cap m bs x y y2)) f0 (by kernel_rfl)
  have f2_1 : (RG.puts (RG.ad ([] ++ [j1])) (F71b_0i g o cap m bs x y y2) a0).tmps[2]? = some (.pointer (some ⟨j1, 0, none⟩)) := by have h := RG.put_new (μ := RG.ad ([] ++ [j1])) (its := (F71b_0i g o cap m bs x y y2)) sl0 0 (by kernel_rfl) rfl rfl rfl; exact h
  have f3_1 : (RG.puts (RG.ad ([] ++ [j1])) (F71b_0i g o cap m bs x y y2) a0).tmps[3]? = some (.bool false) := by have h := RG.put_new (μ := RG.ad ([] ++ [j1])) (its := (F71b_0i g o cap m bs x y y2)) sl0 1 (by kernel_rfl) rfl rfl rfl; exact h
  generalize RG.puts (RG.ad ([] ++ [j1])) (F71b_0i g o cap m bs x y y2) a0 = a1 at sl1 f0_1 f2_1 f3_1 ⊢
  repeat refine wp_seq ?_
  refine RG.region_text' (its := F71b_1i g o cap m bs x y y2) (bl := F71b_1b g o cap m bs x y y2) (olds := F71b_1o g o cap m bs x y y2) hS1 (RG.Reg.mk' (by rw [sl1.size]; kernel_rfl) ⟨f0_1, trivial⟩ ⟨?_, ?_, ?_, trivial⟩) (by kernel_rfl) (by kernel_rfl) (RG.endB_st (by kernel_rfl)) ?_
  · exact RG.cert_move rfl 0 (Or.inl rfl) (fun μ a K => K.old 0 (.v (.slice (some ⟨g, o, none⟩) 33 cap)) (List.Mem.head _) (by kernel_rfl))
  · exact RG.cert_one rfl 7 (.v (.slice (some ⟨g, o, none⟩) 33 cap)) (.int .i64 33) rfl (fun μ a K => by have h := K.op 7 0 (List.Mem.head _) rfl; exact h) (fun a w => by kernel_rfl) (fun μ w => by kernel_rfl)
  · exact RG.cert_binc rfl .neq 3 3 8 (.int .i64 33) (.int .i64 33) (.bool false) rfl rfl (fun μ a K => by have h := K.op 8 1 (List.Mem.head _) rfl; exact h) (fun w => by kernel_rfl) (fun w => by kernel_rfl)
  intro new2 w2 hl2 hS2
  obtain rfl := RG.len0 hl2
  replace hS2 : RG.St w w.heap.size [] [[.int .u64 0, .int .u64 0, .int .u64 0, .int .u64 0, .int .u64 0, .int .u64 0, .int .u64 0, .int .u64 0]] [j1] w2 := hS2
  have sl2 : RG.Sl (RG.puts (RG.ad ([j1] ++ [])) (F71b_1i g o cap m bs x y y2) a1) 54 := sl1.puts
  have f0_2 := RG.put_old (μ := RG.ad ([j1] ++ [])) (its := (F71b_1i g o cap m bs x y y2)) f0_1 (by kernel_rfl)
  have f2_2 := RG.put_old (μ := RG.ad ([j1] ++ [])) (its := (F71b_1i g o cap m bs x y y2)) f2_1 (by kernel_rfl)
  have f3_2 := RG.put_old (μ := RG.ad ([j1] ++ [])) (its := (F71b_1i g o cap m bs x y y2)) f3_1 (by kernel_rfl)
  have f9_2 : (RG.puts (RG.ad ([j1] ++ [])) (F71b_1i g o cap m bs x y y2) a1).tmps[9]? = some (.bool false) := by have h := RG.put_new (μ := RG.ad ([j1] ++ [])) (its := (F71b_1i g o cap m bs x y y2)) sl1 2 (by kernel_rfl) rfl rfl rfl; exact h
  generalize RG.puts (RG.ad ([j1] ++ [])) (F71b_1i g o cap m bs x y y2) a1 = a2 at sl2 f0_2 f2_2 f3_2 f9_2 ⊢
  repeat refine wp_seq ?_
  refine wp_cond_false (RG.eval_of f9_2) ?_
  refine wp_skip ?_
  repeat refine wp_seq ?_
  refine RG.region_text' (its := F71b_3i g o cap m bs x y y2) (bl := F71b_3b g o cap m bs x y y2) (olds := F71b_3o g o cap m bs x y y2) hS2 (RG.Reg.mk' (by rw [sl2.size]; kernel_rfl) ⟨f0_2, trivial⟩ ⟨?_, ?_, ?_, ?_, ?_, trivial⟩) (by kernel_rfl) (by kernel_rfl) (RG.endB_st (by kernel_rfl)) ?_
  · exact RG.cert_move rfl 0 (Or.inl rfl) (fun μ a K => K.old 0 (.v (.slice (some ⟨g, o, none⟩) 33 cap)) (List.Mem.head _) (by kernel_rfl))
  · exact RG.cert_s2a rfl 131 11 (.slice (some ⟨g, o, none⟩) 33 cap) (.pointer (some ⟨g, o, none⟩)) rfl rfl (fun μ a K => by have h := K.op 11 0 (List.Mem.head _) rfl; exact h) (arr33 g o cap)
  · exact RG.cert_loadB rfl g o hg List.not_mem_nil 131 12 rfl (bl33 bs) rfl (fun μ a K => by have h := K.op 12 1 (List.Mem.head _) rfl; exact h) hrg u131 (by rw [bl33_length hs]; exact i131)
  · exact RG.cert_stay rfl (fun μ a w _ _ => by kernel_rfl)
  · exact RG.cert_bin rfl .eql 131 131 13 14 (.agg (bl33 bs).toArray) (.agg z33.toArray) (.bool true) rfl rfl (fun μ a K => by have h := K.op 13 2 (List.Mem.head _) rfl; exact h) (fun μ a K => by have h := K.op 14 3 (List.Mem.tail _ (List.Mem.head _)) rfl; exact h) (fun w => by kernel_rfl) (eqz_t hs hz)
  intro new3 w3 hl3 hS3
  obtain rfl := RG.len0 hl3
  replace hS3 : RG.St w w.heap.size [] [[.int .u64 0, .int .u64 0, .int .u64 0, .int .u64 0, .int .u64 0, .int .u64 0, .int .u64 0, .int .u64 0]] [j1] w3 := hS3
  have sl3 : RG.Sl (RG.puts (RG.ad ([j1] ++ [])) (F71b_3i g o cap m bs x y y2) a2) 54 := sl2.puts
  have f2_3 := RG.put_old (μ := RG.ad ([j1] ++ [])) (its := (F71b_3i g o cap m bs x y y2)) f2_2 (by kernel_rfl)
  have f3_3 := RG.put_old (μ := RG.ad ([j1] ++ [])) (its := (F71b_3i g o cap m bs x y y2)) f3_2 (by kernel_rfl)
  have f15_3 : (RG.puts (RG.ad ([j1] ++ [])) (F71b_3i g o cap m bs x y y2) a2).tmps[15]? = some (.bool true) := by have h := RG.put_new (μ := RG.ad ([j1] ++ [])) (its := (F71b_3i g o cap m bs x y y2)) sl2 4 (by kernel_rfl) rfl rfl rfl; exact h
  generalize RG.puts (RG.ad ([j1] ++ [])) (F71b_3i g o cap m bs x y y2) a2 = a3 at sl3 f2_3 f3_3 f15_3 ⊢
  repeat refine wp_seq ?_
  refine wp_cond_true (RG.eval_of f15_3) ?_
  repeat refine wp_seq ?_
  refine RG.region_text' (its := F71b_4i g o cap m bs x y y2) (bl := F71b_4b g o cap m bs x y y2) (olds := F71b_4o g o cap m bs x y y2) hS3 (RG.Reg.mk' (by rw [sl3.size]; kernel_rfl) ⟨f2_3, trivial⟩ ⟨?_, ?_, ?_, trivial⟩) (by kernel_rfl) (by kernel_rfl) (RG.endB_st (by kernel_rfl)) ?_
  · exact RG.cert_stay rfl (fun μ a w _ _ => by rw [show RG.SV.at μ (.v (pv (0 : Fin P) (0 : Fin P))) = (pv (0 : Fin P) (0 : Fin P)) from rfl, ← zero_pv]; kernel_rfl)
  · exact RG.cert_put 0 rfl _ rfl 109 (.tmp 2) (.tmp 16) rfl rfl rfl (fun μ a K => K.old 2 (.p 0 0) (List.Mem.head _) (by kernel_rfl)) (fun μ a K => by have h := K.op 16 0 (List.Mem.head _) rfl; exact h) i109 rfl
  · exact RG.cert_stay rfl (fun μ a w _ _ => by kernel_rfl)
  intro new4 w4 hl4 hS4
  obtain rfl := RG.len0 hl4
  replace hS4 : RG.St w w.heap.size [] [(ws (0 : Fin P) ++ (ws (0 : Fin P)))] [j1] w4 := hS4
  have sl4 : RG.Sl (RG.puts (RG.ad ([j1] ++ [])) (F71b_4i g o cap m bs x y y2) a3) 54 := sl3.puts
  have f2_4 := RG.put_old (μ := RG.ad ([j1] ++ [])) (its := (F71b_4i g o cap m bs x y y2)) f2_3 (by kernel_rfl)
  have f3_4 : (RG.puts (RG.ad ([j1] ++ [])) (F71b_4i g o cap m bs x y y2) a3).tmps[3]? = some (.bool true) := by have h := RG.put_new (μ := RG.ad ([j1] ++ [])) (its := (F71b_4i g o cap m bs x y y2)) sl3 2 (by kernel_rfl) rfl rfl rfl; exact h
  generalize RG.puts (RG.ad ([j1] ++ [])) (F71b_4i g o cap m bs x y y2) a3 = a4 at sl4 f2_4 f3_4 ⊢
  refine wp_ret ?_
  refine bodyPost_ret (v := (.tuple #[(pv (0 : Fin P) (0 : Fin P)), (.bool true)])) (RG.results_rt hS4 2 3 109 rfl 0 _ rfl f2_4 _ f3_4 u109 i109) sl4.defers ?_
  exact ⟨_, rfl, hS4.bel.below, rfl⟩

def F71c_0i (g o cap : Nat) (m : Int) (bs : Bs) (x y y2 : Fin P)  : List RG.It := [⟨some 2, [], (.p 0 0), .make 0⟩,
  ⟨some 3, [], (.v (.bool false)), .stay⟩]
def F71c_0b (g o cap : Nat) (m : Int) (bs : Bs) (x y y2 : Fin P)  : List RG.Bl := [⟨[.int .u64 0, .int .u64 0, .int .u64 0, .int .u64 0, .int .u64 0, .int .u64 0, .int .u64 0, .int .u64 0], [.int .u64 0, .int .u64 0, .int .u64 0, .int .u64 0, .int .u64 0, .int .u64 0, .int .u64 0, .int .u64 0], some 0, none⟩]
def F71c_0o (g o cap : Nat) (m : Int) (bs : Bs) (x y y2 : Fin P)  : List (Tmp × RG.SV) := []
def F71c_1i (g o cap : Nat) (m : Int) (bs : Bs) (x y y2 : Fin P)  : List RG.It := [⟨some 7, [], (.v (.slice (some ⟨g, o, none⟩) 33 cap)), .stay⟩,
  ⟨some 8, [(7, 0)], (.v (.int .i64 33)), .stay⟩,
  ⟨some 9, [(8, 1)], (.v (.bool false)), .stay⟩]
def F71c_1b (g o cap : Nat) (m : Int) (bs : Bs) (x y y2 : Fin P)  : List RG.Bl := [⟨[.int .u64 0, .int .u64 0, .int .u64 0, .int .u64 0, .int .u64 0, .int .u64 0, .int .u64 0, .int .u64 0], [.int .u64 0, .int .u64 0, .int .u64 0, .int .u64 0, .int .u64 0, .int .u64 0, .int .u64 0, .int .u64 0], none, none⟩]
def F71c_1o (g o cap : Nat) (m : Int) (bs : Bs) (x y y2 : Fin P)  : List (Tmp × RG.SV) := [(0, (.v (.slice (some ⟨g, o, none⟩) 33 cap)))]
def F71c_3i (g o cap : Nat) (m : Int) (bs : Bs) (x y y2 : Fin P)  : List RG.It := [⟨some 11, [], (.v (.slice (some ⟨g, o, none⟩) 33 cap)), .stay⟩,
  ⟨some 12, [(11, 0)], (.v (.pointer (some ⟨g, o, none⟩))), .stay⟩,
  ⟨some 13, [(12, 1)], (.v (.agg (bl33 bs).toArray)), .stay⟩,
  ⟨some 14, [], (.v (.agg z33.toArray)), .stay⟩,
  ⟨some 15, [(13, 2), (14, 3)], (.v (.bool false)), .stay⟩]
def F71c_3b (g o cap : Nat) (m : Int) (bs : Bs) (x y y2 : Fin P)  : List RG.Bl := [⟨[.int .u64 0, .int .u64 0, .int .u64 0, .int .u64 0, .int .u64 0, .int .u64 0, .int .u64 0, .int .u64 0], [.int .u64 0, .int .u64 0, .int .u64 0, .int .u64 0, .int .u64 0, .int .u64 0, .int .u64 0, .int .u64 0], none, none⟩]
def F71c_3o (g o cap : Nat) (m : Int) (bs : Bs) (x y y2 : Fin P)  : List (Tmp × RG.SV) := [(0, (.v (.slice (some ⟨g, o, none⟩) 33 cap)))]
def F71c_5i (g o cap : Nat) (m : Int) (bs : Bs) (x y y2 : Fin P)  : List RG.It := [⟨some 17, [], (.v (.slice (some ⟨g, o, none⟩) 33 cap)), .stay⟩,
  ⟨some 18, [(17, 0)], (.v (.pointer (some ⟨g, o, none⟩))), .stay⟩,
  ⟨some 19, [(18, 1)], (.v (.int .u8 m)), .stay⟩,
  ⟨some 20, [(19, 2)], (.v (.bool true)), .stay⟩,
  ⟨some 21, [(20, 3)], (.v (.bool true)), .stay⟩,
  ⟨some 22, [], (.v (.slice (some ⟨g, o, none⟩) 33 cap)), .stay⟩,
  ⟨some 23, [(22, 5)], (.v (.pointer (some ⟨g, o, none⟩))), .stay⟩,
  ⟨some 24, [(23, 6)], (.v (.int .u8 m)), .stay⟩,
  ⟨some 25, [(24, 7)], (.v (.bool true)), .stay⟩,
  ⟨some 26, [(21, 4), (25, 8)], (.v (.bool true)), .stay⟩]
def F71c_5b (g o cap : Nat) (m : Int) (bs : Bs) (x y y2 : Fin P)  : List RG.Bl := [⟨[.int .u64 0, .int .u64 0, .int .u64 0, .int .u64 0, .int .u64 0, .int .u64 0, .int .u64 0, .int .u64 0], [.int .u64 0, .int .u64 0, .int .u64 0, .int .u64 0, .int .u64 0, .int .u64 0, .int .u64 0, .int .u64 0], none, none⟩]
def F71c_5o (g o cap : Nat) (m : Int) (bs : Bs) (x y y2 : Fin P)  : List (Tmp × RG.SV) := [(0, (.v (.slice (some ⟨g, o, none⟩) 33 cap)))]
def F71c_6i (g o cap : Nat) (m : Int) (bs : Bs) (x y y2 : Fin P)  : List RG.It := [⟨some 27, [], (.v (pv (0 : Fin P) (0 : Fin P))), .stay⟩,
  ⟨none, [(27, 0)], (.v undef), .put 0⟩,
  ⟨some 3, [], (.v (.bool false)), .stay⟩]
def F71c_6b (g o cap : Nat) (m : Int) (bs : Bs) (x y y2 : Fin P)  : List RG.Bl := [⟨[.int .u64 0, .int .u64 0, .int .u64 0, .int .u64 0, .int .u64 0, .int .u64 0, .int .u64 0, .int .u64 0], (ws (0 : Fin P) ++ (ws (0 : Fin P))), none, some 1⟩]
def F71c_6o (g o cap : Nat) (m : Int) (bs : Bs) (x y y2 : Fin P)  : List (Tmp × RG.SV) := [(2, (.p 0 0))]
set_option maxHeartbeats 2000000 in
set_option maxRecDepth 100000 in
theorem rp_mark (C : Fld P) (g o cap : Nat) (m : Int) (bs : Bs) (x y y2 : Fin P) (w : World) (hs : bs.size = 33) (hc : 33 ≤ cap) (hg : g < w.heap.size) (hB : Holds encB w g o bs) (hz : ¬ Zero33 bs) (hm : ub bs[0]! = m) (h2 : ¬ m = 2) (h3 : ¬ m = 3) : Calls Try.prog 71 #[(.slice (some ⟨g, o, none⟩) 33 cap)] w (Ret fun e w' => Below w.heap.size w w' ∧ e = (.tuple #[pv (0 : Fin P) 0, .bool false])) := by
  have hrg := bl33_range hB
  have hb0 : w.cell? ⟨g, o, none⟩ = some (.int .u8 m) := by
    have := (hB 0 (by rw [hs]; decide)).1
    rw [Nat.add_zero] at this
    rw [this]
    show some (Value.int .u8 (ub bs[0]!)) = _
    rw [hm]
  have hm2 : ∀ w, (binOp .neq 5 (.int .u8 m) (.int .u8 2)).run Try.prog w = .ok (.bool true) w := fun w => by
    go_simp
  have hm3 : ∀ w, (binOp .neq 5 (.int .u8 m) (.int .u8 3)).run Try.prog w = .ok (.bool true) w := fun w => by
    go_simp
  go_enter Try.func71, Try.ntmps71
  refine RG.var1 (v0 := (.slice (some ⟨g, o, none⟩) 33 cap)) (n := 54) (by kernel_rfl) (by kernel_rfl) (by kernel_rfl) ?_
  intro a0 sl0 f0
  have hS0 := RG.St.begin w
  repeat refine wp_seq ?_
  refine RG.region_text' (its := F71c_0i g o cap m bs x y y2) (bl := F71c_0b g o cap m bs x y y2) (olds := F71c_0o g o cap m bs x y y2) hS0 (RG.Reg.mk' (by rw [sl0.size]; kernel_rfl) trivial ⟨?_, ?_, trivial⟩) (by kernel_rfl) (by kernel_rfl) (RG.endB_st (by kernel_rfl)) ?_
  · exact RG.cert_alloc 0 rfl rfl _ rfl 109 rfl (fun w => by kernel_rfl)
  · exact RG.cert_stay rfl (fun μ a w _ _ => by kernel_rfl)
  intro new1 w1 hl1 hS1
  obtain ⟨j1, rfl⟩ := RG.len1 hl1
  clear hl1
  replace hS1 : RG.St w w.heap.size [] [[.int .u64 0, .int .u64 0, .int .u64 0, .int .u64 0, .int .u64 0, .int .u64 0, .int .u64 0, .int .u64 0]] [j1] w1 := hS1
  have sl1 : RG.Sl (RG.puts (RG.ad ([] ++ [j1])) (F71c_0i g o cap m bs x y y2) a0) 54 := sl0.puts
  have f0_1 := RG.put_old (μ := RG.ad ([] ++ [j1])) (its := (F71c_0i g o cap m bs x y y2)) f0 (by kernel_rfl)
  have f2_1 : (RG.puts (RG.ad ([] ++ [j1])) (F71c_0i g o cap m bs x y y2) a0).tmps[2]? = some (.pointer (some ⟨j1, 0, none⟩)) := by have h := RG.put_new (μ := RG.ad ([] ++ [j1])) (its := (F71c_0i g o cap m bs x y y2)) sl0 0 (by kernel_rfl) rfl rfl rfl; exact h
  have f3_1 : (RG.puts (RG.ad ([] ++ [j1])) (F71c_0i g o cap m bs x y y2) a0).tmps[3]? = some (.bool false) := by have h := RG.put_new (μ := RG.ad ([] ++ [j1])) (its := (F71c_0i g o cap m bs x y y2)) sl0 1 (by kernel_rfl) rfl rfl rfl; exact h
  generalize RG.puts (RG.ad ([] ++ [j1])) (F71c_0i g o cap m bs x y y2) a0 = a1 at sl1 f0_1 f2_1 f3_1 ⊢
  repeat refine wp_seq ?_
  refine RG.region_text' (its := F71c_1i g o cap m bs x y y2) (bl := F71c_1b g o cap m bs x y y2) (olds := F71c_1o g o cap m bs x y y2) hS1 (RG.Reg.mk' (by rw [sl1.size]; kernel_rfl) ⟨f0_1, trivial⟩ ⟨?_, ?_, ?_, trivial⟩) (by kernel_rfl) (by kernel_rfl) (RG.endB_st (by kernel_rfl)) ?_
  · exact RG.cert_move rfl 0 (Or.inl rfl) (fun μ a K => K.old 0 (.v (.slice (some ⟨g, o, none⟩) 33 cap)) (List.Mem.head _) (by kernel_rfl))
  · exact RG.cert_one rfl 7 (.v (.slice (some ⟨g, o, none⟩) 33 cap)) (.int .i64 33) rfl (fun μ a K => by have h := K.op 7 0 (List.Mem.head _) rfl; exact h) (fun a w => by kernel_rfl) (fun μ w => by kernel_rfl)
  · exact RG.cert_binc rfl .neq 3 3 8 (.int .i64 33) (.int .i64 33) (.bool false) rfl rfl (fun μ a K => by have h := K.op 8 1 (List.Mem.head _) rfl; exact h) (fun w => by kernel_rfl) (fun w => by kernel_rfl)
  intro new2 w2 hl2 hS2
  obtain rfl := RG.len0 hl2
  replace hS2 : RG.St w w.heap.size [] [[.int .u64 0, .int .u64 0, .int .u64 0, .int .u64 0, .int .u64 0, .int .u64 0, .int .u64 0, .int .u64 0]] [j1] w2 := hS2
  have sl2 : RG.Sl (RG.puts (RG.ad ([j1] ++ [])) (F71c_1i g o cap m bs x y y2) a1) 54 := sl1.puts
  have f0_2 := RG.put_old (μ := RG.ad ([j1] ++ [])) (its := (F71c_1i g o cap m bs x y y2)) f0_1 (by kernel_rfl)
  have f2_2 := RG.put_old (μ := RG.ad ([j1] ++ [])) (its := (F71c_1i g o cap m bs x y y2)) f2_1 (by kernel_rfl)
  have f3_2 := RG.put_old (μ := RG.ad ([j1] ++ [])) (its := (F71c_1i g o cap m bs x y y2)) f3_1 (by kernel_rfl)
  have f9_2 : (RG.puts (RG.ad ([j1] ++ [])) (F71c_1i g o cap m bs x y y2) a1).tmps[9]? = some (.bool false) := by have h := RG.put_new (μ := RG.ad ([j1] ++ [])) (its := (F71c_1i g o cap m bs x y y2)) sl1 2 (by kernel_rfl) rfl rfl rfl; exact h
  generalize RG.puts (RG.ad ([j1] ++ [])) (F71c_1i g o cap m bs x y y2) a1 = a2 at sl2 f0_2 f2_2 f3_2 f9_2 ⊢
  repeat refine wp_seq ?_
  refine wp_cond_false (RG.eval_of f9_2) ?_
  refine wp_skip ?_
  repeat refine wp_seq ?_
  refine RG.region_text' (its := F71c_3i g o cap m bs x y y2) (bl := F71c_3b g o cap m bs x y y2) (olds := F71c_3o g o cap m bs x y y2) hS2 (RG.Reg.mk' (by rw [sl2.size]; kernel_rfl) ⟨f0_2, trivial⟩ ⟨?_, ?_, ?_, ?_, ?_, trivial⟩) (by kernel_rfl) (by kernel_rfl) (RG.endB_st (by kernel_rfl)) ?_
  · exact RG.cert_move rfl 0 (Or.inl rfl) (fun μ a K => K.old 0 (.v (.slice (some ⟨g, o, none⟩) 33 cap)) (List.Mem.head _) (by kernel_rfl))
  · exact RG.cert_s2a rfl 131 11 (.slice (some ⟨g, o, none⟩) 33 cap) (.pointer (some ⟨g, o, none⟩)) rfl rfl (fun μ a K => by have h := K.op 11 0 (List.Mem.head _) rfl; exact h) (arr33 g o cap)
  · exact RG.cert_loadB rfl g o hg List.not_mem_nil 131 12 rfl (bl33 bs) rfl (fun μ a K => by have h := K.op 12 1 (List.Mem.head _) rfl; exact h) hrg u131 (by rw [bl33_length hs]; exact i131)
  · exact RG.cert_stay rfl (fun μ a w _ _ => by kernel_rfl)
  · exact RG.cert_bin rfl .eql 131 131 13 14 (.agg (bl33 bs).toArray) (.agg z33.toArray) (.bool false) rfl rfl (fun μ a K => by have h := K.op 13 2 (List.Mem.head _) rfl; exact h) (fun μ a K => by have h := K.op 14 3 (List.Mem.tail _ (List.Mem.head _)) rfl; exact h) (fun w => by kernel_rfl) (eqz_f hs hz)
  intro new3 w3 hl3 hS3
  obtain rfl := RG.len0 hl3
  replace hS3 : RG.St w w.heap.size [] [[.int .u64 0, .int .u64 0, .int .u64 0, .int .u64 0, .int .u64 0, .int .u64 0, .int .u64 0, .int .u64 0]] [j1] w3 := hS3
  have sl3 : RG.Sl (RG.puts (RG.ad ([j1] ++ [])) (F71c_3i g o cap m bs x y y2) a2) 54 := sl2.puts
  have f0_3 := RG.put_old (μ := RG.ad ([j1] ++ [])) (its := (F71c_3i g o cap m bs x y y2)) f0_2 (by kernel_rfl)
  have f2_3 := RG.put_old (μ := RG.ad ([j1] ++ [])) (its := (F71c_3i g o cap m bs x y y2)) f2_2 (by kernel_rfl)
  have f3_3 := RG.put_old (μ := RG.ad ([j1] ++ [])) (its := (F71c_3i g o cap m bs x y y2)) f3_2 (by kernel_rfl)
  have f15_3 : (RG.puts (RG.ad ([j1] ++ [])) (F71c_3i g o cap m bs x y y2) a2).tmps[15]? = some (.bool false) := by have h := RG.put_new (μ := RG.ad ([j1] ++ [])) (its := (F71c_3i g o cap m bs x y y2)) sl2 4 (by kernel_rfl) rfl rfl rfl; exact h
  generalize RG.puts (RG.ad ([j1] ++ [])) (F71c_3i g o cap m bs x y y2) a2 = a3 at sl3 f0_3 f2_3 f3_3 f15_3 ⊢
  repeat refine wp_seq ?_
  refine wp_cond_false (RG.eval_of f15_3) ?_
  refine wp_skip ?_
  repeat refine wp_seq ?_
  refine RG.region_text' (its := F71c_5i g o cap m bs x y y2) (bl := F71c_5b g o cap m bs x y y2) (olds := F71c_5o g o cap m bs x y y2) hS3 (RG.Reg.mk' (by rw [sl3.size]; kernel_rfl) ⟨f0_3, trivial⟩ ⟨?_, ?_, ?_, ?_, ?_, ?_, ?_, ?_, ?_, ?_, trivial⟩) (by kernel_rfl) (by kernel_rfl) (RG.endB_st (by kernel_rfl)) ?_
  · exact RG.cert_move rfl 0 (Or.inl rfl) (fun μ a K => K.old 0 (.v (.slice (some ⟨g, o, none⟩) 33 cap)) (List.Mem.head _) (by kernel_rfl))
  · exact RG.cert_idxc rfl 23 17 (.int .i64 0) rfl (.v (.slice (some ⟨g, o, none⟩) 33 cap)) (fun μ a K => by have h := K.op 17 0 (List.Mem.head _) rfl; exact h) (fun μ w => at23 g o 33 cap (by decide) w)
  · exact RG.cert_load1B rfl g o hg List.not_mem_nil 5 18 rfl (.int .u8 m) rfl (fun μ a K => by have h := K.op 18 1 (List.Mem.head _) rfl; exact h) hb0 u5
  · exact RG.cert_binc rfl .neq 5 5 19 (.int .u8 m) (.int .u8 2) (.bool true) rfl rfl (fun μ a K => by have h := K.op 19 2 (List.Mem.head _) rfl; exact h) (fun w => by kernel_rfl) (hm2)
  · exact RG.cert_move rfl 20 (Or.inl rfl) (fun μ a K => by have h := K.op 20 3 (List.Mem.head _) rfl; exact h)
  · exact RG.cert_move rfl 0 (Or.inl rfl) (fun μ a K => K.old 0 (.v (.slice (some ⟨g, o, none⟩) 33 cap)) (List.Mem.head _) (by kernel_rfl))
  · exact RG.cert_idxc rfl 23 22 (.int .i64 0) rfl (.v (.slice (some ⟨g, o, none⟩) 33 cap)) (fun μ a K => by have h := K.op 22 5 (List.Mem.head _) rfl; exact h) (fun μ w => at23 g o 33 cap (by decide) w)
  · exact RG.cert_load1B rfl g o hg List.not_mem_nil 5 23 rfl (.int .u8 m) rfl (fun μ a K => by have h := K.op 23 6 (List.Mem.head _) rfl; exact h) hb0 u5
  · exact RG.cert_binc rfl .neq 5 5 24 (.int .u8 m) (.int .u8 3) (.bool true) rfl rfl (fun μ a K => by have h := K.op 24 7 (List.Mem.head _) rfl; exact h) (fun w => by kernel_rfl) (hm3)
  · exact RG.cert_pick_t rfl 21 25 _ rfl (fun μ a K => by have h := K.op 21 4 (List.Mem.head _) rfl; exact h) (fun μ a K => by have h := K.op 25 8 (List.Mem.tail _ (List.Mem.head _)) rfl; exact h)
  intro new4 w4 hl4 hS4
  obtain rfl := RG.len0 hl4
  replace hS4 : RG.St w w.heap.size [] [[.int .u64 0, .int .u64 0, .int .u64 0, .int .u64 0, .int .u64 0, .int .u64 0, .int .u64 0, .int .u64 0]] [j1] w4 := hS4
  have sl4 : RG.Sl (RG.puts (RG.ad ([j1] ++ [])) (F71c_5i g o cap m bs x y y2) a3) 54 := sl3.puts
  have f2_4 := RG.put_old (μ := RG.ad ([j1] ++ [])) (its := (F71c_5i g o cap m bs x y y2)) f2_3 (by kernel_rfl)
  have f3_4 := RG.put_old (μ := RG.ad ([j1] ++ [])) (its := (F71c_5i g o cap m bs x y y2)) f3_3 (by kernel_rfl)
  have f26_4 : (RG.puts (RG.ad ([j1] ++ [])) (F71c_5i g o cap m bs x y y2) a3).tmps[26]? = some (.bool true) := by have h := RG.put_new (μ := RG.ad ([j1] ++ [])) (its := (F71c_5i g o cap m bs x y y2)) sl3 9 (by kernel_rfl) rfl rfl rfl; exact h
  generalize RG.puts (RG.ad ([j1] ++ [])) (F71c_5i g o cap m bs x y y2) a3 = a4 at sl4 f2_4 f3_4 f26_4 ⊢
  repeat refine wp_seq ?_
  refine wp_cond_true (RG.eval_of f26_4) ?_
  repeat refine wp_seq ?_
  refine RG.region_text' (its := F71c_6i g o cap m bs x y y2) (bl := F71c_6b g o cap m bs x y y2) (olds := F71c_6o g o cap m bs x y y2) hS4 (RG.Reg.mk' (by rw [sl4.size]; kernel_rfl) ⟨f2_4, trivial⟩ ⟨?_, ?_, ?_, trivial⟩) (by kernel_rfl) (by kernel_rfl) (RG.endB_st (by kernel_rfl)) ?_
  · exact RG.cert_stay rfl (fun μ a w _ _ => by rw [show RG.SV.at μ (.v (pv (0 : Fin P) (0 : Fin P))) = (pv (0 : Fin P) (0 : Fin P)) from rfl, ← zero_pv]; kernel_rfl)
  · exact RG.cert_put 0 rfl _ rfl 109 (.tmp 2) (.tmp 27) rfl rfl rfl (fun μ a K => K.old 2 (.p 0 0) (List.Mem.head _) (by kernel_rfl)) (fun μ a K => by have h := K.op 27 0 (List.Mem.head _) rfl; exact h) i109 rfl
  · exact RG.cert_stay rfl (fun μ a w _ _ => by kernel_rfl)
  intro new5 w5 hl5 hS5
  obtain rfl := RG.len0 hl5
  replace hS5 : RG.St w w.heap.size [] [(ws (0 : Fin P) ++ (ws (0 : Fin P)))] [j1] w5 := hS5
  have sl5 : RG.Sl (RG.puts (RG.ad ([j1] ++ [])) (F71c_6i g o cap m bs x y y2) a4) 54 := sl4.puts
  have f2_5 := RG.put_old (μ := RG.ad ([j1] ++ [])) (its := (F71c_6i g o cap m bs x y y2)) f2_4 (by kernel_rfl)
  have f3_5 : (RG.puts (RG.ad ([j1] ++ [])) (F71c_6i g o cap m bs x y y2) a4).tmps[3]? = some (.bool false) := by have h := RG.put_new (μ := RG.ad ([j1] ++ [])) (its := (F71c_6i g o cap m bs x y y2)) sl4 2 (by kernel_rfl) rfl rfl rfl; exact h
  generalize RG.puts (RG.ad ([j1] ++ [])) (F71c_6i g o cap m bs x y y2) a4 = a5 at sl5 f2_5 f3_5 ⊢
  refine wp_ret ?_
  refine bodyPost_ret (v := (.tuple #[(pv (0 : Fin P) (0 : Fin P)), (.bool false)])) (RG.results_rt hS5 2 3 109 rfl 0 _ rfl f2_5 _ f3_5 u109 i109) sl5.defers ?_
  exact ⟨_, rfl, hS5.bel.below, rfl⟩

def F71d2_0i (g o cap : Nat) (m : Int) (bs : Bs) (x y y2 : Fin P)  : List RG.It := [⟨some 2, [], (.p 0 0), .make 0⟩,
  ⟨some 3, [], (.v (.bool false)), .stay⟩]
def F71d2_0b (g o cap : Nat) (m : Int) (bs : Bs) (x y y2 : Fin P)  : List RG.Bl := [⟨[.int .u64 0, .int .u64 0, .int .u64 0, .int .u64 0, .int .u64 0, .int .u64 0, .int .u64 0, .int .u64 0], [.int .u64 0, .int .u64 0, .int .u64 0, .int .u64 0, .int .u64 0, .int .u64 0, .int .u64 0, .int .u64 0], some 0, none⟩]
def F71d2_0o (g o cap : Nat) (m : Int) (bs : Bs) (x y y2 : Fin P)  : List (Tmp × RG.SV) := []
def F71d2_1i (g o cap : Nat) (m : Int) (bs : Bs) (x y y2 : Fin P)  : List RG.It := [⟨some 7, [], (.v (.slice (some ⟨g, o, none⟩) 33 cap)), .stay⟩,
  ⟨some 8, [(7, 0)], (.v (.int .i64 33)), .stay⟩,
  ⟨some 9, [(8, 1)], (.v (.bool false)), .stay⟩]
def F71d2_1b (g o cap : Nat) (m : Int) (bs : Bs) (x y y2 : Fin P)  : List RG.Bl := [⟨[.int .u64 0, .int .u64 0, .int .u64 0, .int .u64 0, .int .u64 0, .int .u64 0, .int .u64 0, .int .u64 0], [.int .u64 0, .int .u64 0, .int .u64 0, .int .u64 0, .int .u64 0, .int .u64 0, .int .u64 0, .int .u64 0], none, none⟩]
def F71d2_1o (g o cap : Nat) (m : Int) (bs : Bs) (x y y2 : Fin P)  : List (Tmp × RG.SV) := [(0, (.v (.slice (some ⟨g, o, none⟩) 33 cap)))]
def F71d2_3i (g o cap : Nat) (m : Int) (bs : Bs) (x y y2 : Fin P)  : List RG.It := [⟨some 11, [], (.v (.slice (some ⟨g, o, none⟩) 33 cap)), .stay⟩,
  ⟨some 12, [(11, 0)], (.v (.pointer (some ⟨g, o, none⟩))), .stay⟩,
  ⟨some 13, [(12, 1)], (.v (.agg (bl33 bs).toArray)), .stay⟩,
  ⟨some 14, [], (.v (.agg z33.toArray)), .stay⟩,
  ⟨some 15, [(13, 2), (14, 3)], (.v (.bool false)), .stay⟩]
def F71d2_3b (g o cap : Nat) (m : Int) (bs : Bs) (x y y2 : Fin P)  : List RG.Bl := [⟨[.int .u64 0, .int .u64 0, .int .u64 0, .int .u64 0, .int .u64 0, .int .u64 0, .int .u64 0, .int .u64 0], [.int .u64 0, .int .u64 0, .int .u64 0, .int .u64 0, .int .u64 0, .int .u64 0, .int .u64 0, .int .u64 0], none, none⟩]
def F71d2_3o (g o cap : Nat) (m : Int) (bs : Bs) (x y y2 : Fin P)  : List (Tmp × RG.SV) := [(0, (.v (.slice (some ⟨g, o, none⟩) 33 cap)))]
def F71d2_5i (g o cap : Nat) (m : Int) (bs : Bs) (x y y2 : Fin P)  : List RG.It := [⟨some 17, [], (.v (.slice (some ⟨g, o, none⟩) 33 cap)), .stay⟩,
  ⟨some 18, [(17, 0)], (.v (.pointer (some ⟨g, o, none⟩))), .stay⟩,
  ⟨some 19, [(18, 1)], (.v (.int .u8 2)), .stay⟩,
  ⟨some 20, [(19, 2)], (.v (.bool false)), .stay⟩,
  ⟨some 21, [(20, 3)], (.v (.bool false)), .stay⟩,
  ⟨some 22, [], (.v undef), .pass⟩,
  ⟨some 23, [], (.v undef), .pass⟩,
  ⟨some 24, [], (.v undef), .pass⟩,
  ⟨some 25, [], (.v undef), .pass⟩,
  ⟨some 26, [(21, 4)], (.v (.bool false)), .stay⟩]
def F71d2_5b (g o cap : Nat) (m : Int) (bs : Bs) (x y y2 : Fin P)  : List RG.Bl := [⟨[.int .u64 0, .int .u64 0, .int .u64 0, .int .u64 0, .int .u64 0, .int .u64 0, .int .u64 0, .int .u64 0], [.int .u64 0, .int .u64 0, .int .u64 0, .int .u64 0, .int .u64 0, .int .u64 0, .int .u64 0, .int .u64 0], none, none⟩]
def F71d2_5o (g o cap : Nat) (m : Int) (bs : Bs) (x y y2 : Fin P)  : List (Tmp × RG.SV) := [(0, (.v (.slice (some ⟨g, o, none⟩) 33 cap)))]
def F71d2_7i (g o cap : Nat) (m : Int) (bs : Bs) (x y y2 : Fin P)  : List RG.It := [⟨some 29, [], (.v gv0), .call⟩,
  ⟨some 30, [], (.v (.slice (some ⟨g, o, none⟩) 33 cap)), .stay⟩,
  ⟨some 31, [(30, 1)], (.v (.slice (some ⟨g, o + 1, none⟩) 32 (cap - 1))), .stay⟩,
  ⟨some 32, [(29, 0), (31, 2)], (.v (.tuple #[(fv (0 : Fin P)), (.bool false)])), .call⟩,
  ⟨some 28, [(32, 3)], (.v (.tuple #[(fv (0 : Fin P)), (.bool false)])), .stay⟩,
  ⟨some 33, [(28, 4)], (.v (fv (0 : Fin P))), .stay⟩,
  ⟨some 34, [(28, 4)], (.v (.bool false)), .stay⟩,
  ⟨some 4, [], (.p 1 0), .make 1⟩,
  ⟨none, [(4, 7), (33, 5)], (.v undef), .put 1⟩,
  ⟨some 5, [(34, 6)], (.v (.bool false)), .stay⟩]
def F71d2_7b (g o cap : Nat) (m : Int) (bs : Bs) (x y y2 : Fin P)  : List RG.Bl := [⟨[.int .u64 0, .int .u64 0, .int .u64 0, .int .u64 0, .int .u64 0, .int .u64 0, .int .u64 0, .int .u64 0], [.int .u64 0, .int .u64 0, .int .u64 0, .int .u64 0, .int .u64 0, .int .u64 0, .int .u64 0, .int .u64 0], none, none⟩, ⟨[.int .u64 0, .int .u64 0, .int .u64 0, .int .u64 0], (ws (0 : Fin P)), some 7, some 8⟩]
def F71d2_7o (g o cap : Nat) (m : Int) (bs : Bs) (x y y2 : Fin P)  : List (Tmp × RG.SV) := [(0, (.v (.slice (some ⟨g, o, none⟩) 33 cap)))]
def F71d2_8i (g o cap : Nat) (m : Int) (bs : Bs) (x y y2 : Fin P)  : List RG.It := [⟨some 35, [], (.v (.bool false)), .stay⟩,
  ⟨some 36, [(35, 0)], (.v (.bool true)), .stay⟩]
def F71d2_8b (g o cap : Nat) (m : Int) (bs : Bs) (x y y2 : Fin P)  : List RG.Bl := [⟨[.int .u64 0, .int .u64 0, .int .u64 0, .int .u64 0, .int .u64 0, .int .u64 0, .int .u64 0, .int .u64 0], [.int .u64 0, .int .u64 0, .int .u64 0, .int .u64 0, .int .u64 0, .int .u64 0, .int .u64 0, .int .u64 0], none, none⟩, ⟨(ws (0 : Fin P)), (ws (0 : Fin P)), none, none⟩]
def F71d2_8o (g o cap : Nat) (m : Int) (bs : Bs) (x y y2 : Fin P)  : List (Tmp × RG.SV) := [(5, (.v (.bool false)))]
def F71d2_9i (g o cap : Nat) (m : Int) (bs : Bs) (x y y2 : Fin P)  : List RG.It := [⟨some 37, [], (.v (pv (0 : Fin P) (0 : Fin P))), .stay⟩,
  ⟨none, [(37, 0)], (.v undef), .put 0⟩,
  ⟨some 3, [], (.v (.bool false)), .stay⟩]
def F71d2_9b (g o cap : Nat) (m : Int) (bs : Bs) (x y y2 : Fin P)  : List RG.Bl := [⟨[.int .u64 0, .int .u64 0, .int .u64 0, .int .u64 0, .int .u64 0, .int .u64 0, .int .u64 0, .int .u64 0], (ws (0 : Fin P) ++ (ws (0 : Fin P))), none, some 1⟩, ⟨(ws (0 : Fin P)), (ws (0 : Fin P)), none, none⟩]
def F71d2_9o (g o cap : Nat) (m : Int) (bs : Bs) (x y y2 : Fin P)  : List (Tmp × RG.SV) := [(2, (.p 0 0))]
set_option maxHeartbeats 2000000 in
set_option maxRecDepth 100000 in
theorem rp_num2 (C : Fld P) (g o cap : Nat) (m : Int) (bs : Bs) (x y y2 : Fin P) (w : World) (hs : bs.size = 33) (hc : 33 ≤ cap) (hg : g < w.heap.size) (hB : Holds encB w g o bs) (hz : ¬ Zero33 bs) (hm : ub bs[0]! = 2) (hx : ¬ beV (tl33 bs).toList < P) : Calls Try.prog 71 #[(.slice (some ⟨g, o, none⟩) 33 cap)] w (Ret fun e w' => Below w.heap.size w w' ∧ e = (.tuple #[pv (0 : Fin P) 0, .bool false])) := by
  have hrg := bl33_range hB
  have hb0 : w.cell? ⟨g, o, none⟩ = some (.int .u8 2) := by
    have := (hB 0 (by rw [hs]; decide)).1
    rw [Nat.add_zero] at this
    rw [this]
    show some (Value.int .u8 (ub bs[0]!)) = _
    rw [hm]
  have hrd : ∀ w', RG.BelX w.heap.size [] w w' → Calls Try.prog 89 #[gv0, .slice (some ⟨g, o + 1, none⟩) 32 (cap - 1)] w' (Ret fun e w'' => Below w'.heap.size w' w'' ∧ e = .tuple #[fv (0 : Fin P), .bool false]) := fun w' hb => Read_n C (tl33_size hs) (by omega) hx (Nat.lt_of_lt_of_le hg hb.size) (Holds.below (tl33_holds hs hB) hb.below hg)
  go_enter Try.func71, Try.ntmps71
  refine RG.var1 (v0 := (.slice (some ⟨g, o, none⟩) 33 cap)) (n := 54) (by kernel_rfl) (by kernel_rfl) (by kernel_rfl) ?_
  intro a0 sl0 f0
  have hS0 := RG.St.begin w
  repeat refine wp_seq ?_
  refine RG.region_text' (its := F71d2_0i g o cap m bs x y y2) (bl := F71d2_0b g o cap m bs x y y2) (olds := F71d2_0o g o cap m bs x y y2) hS0 (RG.Reg.mk' (by rw [sl0.size]; kernel_rfl) trivial ⟨?_, ?_, trivial⟩) (by kernel_rfl) (by kernel_rfl) (RG.endB_st (by kernel_rfl)) ?_
  · exact RG.cert_alloc 0 rfl rfl _ rfl 109 rfl (fun w => by kernel_rfl)
  · exact RG.cert_stay rfl (fun μ a w _ _ => by kernel_rfl)
  intro new1 w1 hl1 hS1
  obtain ⟨j1, rfl⟩ := RG.len1 hl1
  clear hl1
  replace hS1 : RG.St w w.heap.size [] [[.int .u64 0, .int .u64 0, .int .u64 0, .int .u64 0, .int .u64 0, .int .u64 0, .int .u64 0, .int .u64 0]] [j1] w1 := hS1
  have sl1 : RG.Sl (RG.puts (RG.ad ([] ++ [j1])) (F71d2_0i g o cap m bs x y y2) a0) 54 := sl0.puts
  have f0_1 := RG.put_old (μ := RG.ad ([] ++ [j1])) (its := (F71d2_0i g o cap m bs x y y2)) f0 (by kernel_rfl)
  have f2_1 : (RG.puts (RG.ad ([] ++ [j1])) (F71d2_0i g o cap m bs x y y2) a0).tmps[2]? = some (.pointer (some ⟨j1, 0, none⟩)) := by have h := RG.put_new (μ := RG.ad ([] ++ [j1])) (its := (F71d2_0i g o cap m bs x y y2)) sl0 0 (by kernel_rfl) rfl rfl rfl; exact h
  have f3_1 : (RG.puts (RG.ad ([] ++ [j1])) (F71d2_0i g o cap m bs x y y2) a0).tmps[3]? = some (.bool false) := by have h := RG.put_new (μ := RG.ad ([] ++ [j1])) (its := (F71d2_0i g o cap m bs x y y2)) sl0 1 (by kernel_rfl) rfl rfl rfl; exact h
  generalize RG.puts (RG.ad ([] ++ [j1])) (F71d2_0i g o cap m bs x y y2) a0 = a1 at sl1 f0_1 f2_1 f3_1 ⊢
  repeat refine wp_seq ?_
  refine RG.region_text' (its := F71d2_1i g o cap m bs x y y2) (bl := F71d2_1b g o cap m bs x y y2) (olds := F71d2_1o g o cap m bs x y y2) hS1 (RG.Reg.mk' (by rw [sl1.size]; kernel_rfl) ⟨f0_1, trivial⟩ ⟨?_, ?_, ?_, trivial⟩) (by kernel_rfl) (by kernel_rfl) (RG.endB_st (by kernel_rfl)) ?_
  · exact RG.cert_move rfl 0 (Or.inl rfl) (fun μ a K => K.old 0 (.v (.slice (some ⟨g, o, none⟩) 33 cap)) (List.Mem.head _) (by kernel_rfl))
  · exact RG.cert_one rfl 7 (.v (.slice (some ⟨g, o, none⟩) 33 cap)) (.int .i64 33) rfl (fun μ a K => by have h := K.op 7 0 (List.Mem.head _) rfl; exact h) (fun a w => by kernel_rfl) (fun μ w => by kernel_rfl)
  · exact RG.cert_binc rfl .neq 3 3 8 (.int .i64 33) (.int .i64 33) (.bool false) rfl rfl (fun μ a K => by have h := K.op 8 1 (List.Mem.head _) rfl; exact h) (fun w => by kernel_rfl) (fun w => by kernel_rfl)
  intro new2 w2 hl2 hS2
  obtain rfl := RG.len0 hl2
  replace hS2 : RG.St w w.heap.size [] [[.int .u64 0, .int .u64 0, .int .u64 0, .int .u64 0, .int .u64 0, .int .u64 0, .int .u64 0, .int .u64 0]] [j1] w2 := hS2
  have sl2 : RG.Sl (RG.puts (RG.ad ([j1] ++ [])) (F71d2_1i g o cap m bs x y y2) a1) 54 := sl1.puts
  have f0_2 := RG.put_old (μ := RG.ad ([j1] ++ [])) (its := (F71d2_1i g o cap m bs x y y2)) f0_1 (by kernel_rfl)
  have f2_2 := RG.put_old (μ := RG.ad ([j1] ++ [])) (its := (F71d2_1i g o cap m bs x y y2)) f2_1 (by kernel_rfl)
  have f3_2 := RG.put_old (μ := RG.ad ([j1] ++ [])) (its := (F71d2_1i g o cap m bs x y y2)) f3_1 (by kernel_rfl)
  have f9_2 : (RG.puts (RG.ad ([j1] ++ [])) (F71d2_1i g o cap m bs x y y2) a1).tmps[9]? = some (.bool false) := by have h := RG.put_new (μ := RG.ad ([j1] ++ [])) (its := (F71d2_1i g o cap m bs x y y2)) sl1 2 (by kernel_rfl) rfl rfl rfl; exact h
  generalize RG.puts (RG.ad ([j1] ++ [])) (F71d2_1i g o cap m bs x y y2) a1 = a2 at sl2 f0_2 f2_2 f3_2 f9_2 ⊢
  repeat refine wp_seq ?_
  refine wp_cond_false (RG.eval_of f9_2) ?_
  refine wp_skip ?_
  repeat refine wp_seq ?_
  refine RG.region_text' (its := F71d2_3i g o cap m bs x y y2) (bl := F71d2_3b g o cap m bs x y y2) (olds := F71d2_3o g o cap m bs x y y2) hS2 (RG.Reg.mk' (by rw [sl2.size]; kernel_rfl) ⟨f0_2, trivial⟩ ⟨?_, ?_, ?_, ?_, ?_, trivial⟩) (by kernel_rfl) (by kernel_rfl) (RG.endB_st (by kernel_rfl)) ?_
  · exact RG.cert_move rfl 0 (Or.inl rfl) (fun μ a K => K.old 0 (.v (.slice (some ⟨g, o, none⟩) 33 cap)) (List.Mem.head _) (by kernel_rfl))
  · exact RG.cert_s2a rfl 131 11 (.slice (some ⟨g, o, none⟩) 33 cap) (.pointer (some ⟨g, o, none⟩)) rfl rfl (fun μ a K => by have h := K.op 11 0 (List.Mem.head _) rfl; exact h) (arr33 g o cap)
  · exact RG.cert_loadB rfl g o hg List.not_mem_nil 131 12 rfl (bl33 bs) rfl (fun μ a K => by have h := K.op 12 1 (List.Mem.head _) rfl; exact h) hrg u131 (by rw [bl33_length hs]; exact i131)
  · exact RG.cert_stay rfl (fun μ a w _ _ => by kernel_rfl)
  · exact RG.cert_bin rfl .eql 131 131 13 14 (.agg (bl33 bs).toArray) (.agg z33.toArray) (.bool false) rfl rfl (fun μ a K => by have h := K.op 13 2 (List.Mem.head _) rfl; exact h) (fun μ a K => by have h := K.op 14 3 (List.Mem.tail _ (List.Mem.head _)) rfl; exact h) (fun w => by kernel_rfl) (eqz_f hs hz)
  intro new3 w3 hl3 hS3
  obtain rfl := RG.len0 hl3
  replace hS3 : RG.St w w.heap.size [] [[.int .u64 0, .int .u64 0, .int .u64 0, .int .u64 0, .int .u64 0, .int .u64 0, .int .u64 0, .int .u64 0]] [j1] w3 := hS3
  have sl3 : RG.Sl (RG.puts (RG.ad ([j1] ++ [])) (F71d2_3i g o cap m bs x y y2) a2) 54 := sl2.puts
  have f0_3 := RG.put_old (μ := RG.ad ([j1] ++ [])) (its := (F71d2_3i g o cap m bs x y y2)) f0_2 (by kernel_rfl)
  have f2_3 := RG.put_old (μ := RG.ad ([j1] ++ [])) (its := (F71d2_3i g o cap m bs x y y2)) f2_2 (by kernel_rfl)
  have f3_3 := RG.put_old (μ := RG.ad ([j1] ++ [])) (its := (F71d2_3i g o cap m bs x y y2)) f3_2 (by kernel_rfl)
  have f15_3 : (RG.puts (RG.ad ([j1] ++ [])) (F71d2_3i g o cap m bs x y y2) a2).tmps[15]? = some (.bool false) := by have h := RG.put_new (μ := RG.ad ([j1] ++ [])) (its := (F71d2_3i g o cap m bs x y y2)) sl2 4 (by kernel_rfl) rfl rfl rfl; exact h
  generalize RG.puts (RG.ad ([j1] ++ [])) (F71d2_3i g o cap m bs x y y2) a2 = a3 at sl3 f0_3 f2_3 f3_3 f15_3 ⊢
  repeat refine wp_seq ?_
  refine wp_cond_false (RG.eval_of f15_3) ?_
  refine wp_skip ?_
  repeat refine wp_seq ?_
  refine RG.region_text' (its := F71d2_5i g o cap m bs x y y2) (bl := F71d2_5b g o cap m bs x y y2) (olds := F71d2_5o g o cap m bs x y y2) hS3 (RG.Reg.mk' (by rw [sl3.size]; kernel_rfl) ⟨f0_3, trivial⟩ ⟨?_, ?_, ?_, ?_, ?_, ?_, ?_, ?_, ?_, ?_, trivial⟩) (by kernel_rfl) (by kernel_rfl) (RG.endB_st (by kernel_rfl)) ?_
  · exact RG.cert_move rfl 0 (Or.inl rfl) (fun μ a K => K.old 0 (.v (.slice (some ⟨g, o, none⟩) 33 cap)) (List.Mem.head _) (by kernel_rfl))
  · exact RG.cert_idxc rfl 23 17 (.int .i64 0) rfl (.v (.slice (some ⟨g, o, none⟩) 33 cap)) (fun μ a K => by have h := K.op 17 0 (List.Mem.head _) rfl; exact h) (fun μ w => at23 g o 33 cap (by decide) w)
  · exact RG.cert_load1B rfl g o hg List.not_mem_nil 5 18 rfl (.int .u8 2) rfl (fun μ a K => by have h := K.op 18 1 (List.Mem.head _) rfl; exact h) hb0 u5
  · exact RG.cert_binc rfl .neq 5 5 19 (.int .u8 2) (.int .u8 2) (.bool false) rfl rfl (fun μ a K => by have h := K.op 19 2 (List.Mem.head _) rfl; exact h) (fun w => by kernel_rfl) (fun w => by kernel_rfl)
  · exact RG.cert_move rfl 20 (Or.inl rfl) (fun μ a K => by have h := K.op 20 3 (List.Mem.head _) rfl; exact h)
  · exact RG.cert_pass rfl rfl
  · exact RG.cert_pass rfl rfl
  · exact RG.cert_pass rfl rfl
  · exact RG.cert_pass rfl rfl
  · exact RG.cert_pick_f rfl 21 25 _ rfl (fun μ a K => by have h := K.op 21 4 (List.Mem.head _) rfl; exact h) rfl
  intro new4 w4 hl4 hS4
  obtain rfl := RG.len0 hl4
  replace hS4 : RG.St w w.heap.size [] [[.int .u64 0, .int .u64 0, .int .u64 0, .int .u64 0, .int .u64 0, .int .u64 0, .int .u64 0, .int .u64 0]] [j1] w4 := hS4
  have sl4 : RG.Sl (RG.puts (RG.ad ([j1] ++ [])) (F71d2_5i g o cap m bs x y y2) a3) 54 := sl3.puts
  have f0_4 := RG.put_old (μ := RG.ad ([j1] ++ [])) (its := (F71d2_5i g o cap m bs x y y2)) f0_3 (by kernel_rfl)
  have f2_4 := RG.put_old (μ := RG.ad ([j1] ++ [])) (its := (F71d2_5i g o cap m bs x y y2)) f2_3 (by kernel_rfl)
  have f3_4 := RG.put_old (μ := RG.ad ([j1] ++ [])) (its := (F71d2_5i g o cap m bs x y y2)) f3_3 (by kernel_rfl)
  have f26_4 : (RG.puts (RG.ad ([j1] ++ [])) (F71d2_5i g o cap m bs x y y2) a3).tmps[26]? = some (.bool false) := by have h := RG.put_new (μ := RG.ad ([j1] ++ [])) (its := (F71d2_5i g o cap m bs x y y2)) sl3 9 (by kernel_rfl) rfl rfl rfl; exact h
  generalize RG.puts (RG.ad ([j1] ++ [])) (F71d2_5i g o cap m bs x y y2) a3 = a4 at sl4 f0_4 f2_4 f3_4 f26_4 ⊢
  repeat refine wp_seq ?_
  refine wp_cond_false (RG.eval_of f26_4) ?_
  refine wp_skip ?_
  repeat refine wp_seq ?_
  refine RG.region_draws' (by kernel_rfl) (its := F71d2_7i g o cap m bs x y y2) (bl := F71d2_7b g o cap m bs x y y2) (olds := F71d2_7o g o cap m bs x y y2) hS4 (RG.Reg.mk' (by rw [sl4.size]; kernel_rfl) ⟨f0_4, trivial⟩ ⟨?_, ?_, ?_, ?_, ?_, ?_, ?_, ?_, ?_, ?_, trivial⟩) (by kernel_rfl) (by kernel_rfl) (RG.endB_st (by kernel_rfl)) ?_
  · exact RG.cert_call0 rfl 63 gv0 rfl (fun a w => by kernel_rfl) (Coordinates_c)
  · exact RG.cert_move rfl 0 (Or.inl rfl) (fun μ a K => K.old 0 (.v (.slice (some ⟨g, o, none⟩) 33 cap)) (List.Mem.head _) (by kernel_rfl))
  · exact RG.cert_slice1 rfl 23 30 (.int .i64 1) (.slice (some ⟨g, o, none⟩) 33 cap) (.slice (some ⟨g, o + 1, none⟩) 32 (cap - 1)) rfl rfl (fun μ a K => by have h := K.op 30 1 (List.Mem.head _) rfl; exact h) (sl33 g o cap hc)
  · exact RG.cert_callB2 rfl 89 29 31 gv0 (.slice (some ⟨g, o + 1, none⟩) 32 (cap - 1)) (.tuple #[(fv (0 : Fin P)), (.bool false)]) rfl (fun a w => by kernel_rfl) (fun μ a K => by have h := K.op 29 0 (List.Mem.head _) rfl; exact h) (fun μ a K => by have h := K.op 31 2 (List.Mem.tail _ (List.Mem.head _)) rfl; exact h) hrd
  · exact RG.cert_move rfl 32 (Or.inl rfl) (fun μ a K => by have h := K.op 32 3 (List.Mem.head _) rfl; exact h)
  · exact RG.cert_extract rfl 28 0 #[(fv (0 : Fin P)), (.bool false)] (fv (0 : Fin P)) rfl rfl rfl (fun μ a K => by have h := K.op 28 4 (List.Mem.head _) rfl; exact h)
  · exact RG.cert_extract rfl 28 1 #[(fv (0 : Fin P)), (.bool false)] (.bool false) rfl rfl rfl (fun μ a K => by have h := K.op 28 4 (List.Mem.head _) rfl; exact h)
  · exact RG.cert_alloc 1 rfl rfl _ rfl 85 rfl (fun w => by kernel_rfl)
  · exact RG.cert_put 1 rfl _ rfl 85 (.tmp 4) (.tmp 33) rfl rfl rfl (fun μ a K => by have h := K.op 4 7 (List.Mem.head _) rfl; exact h) (fun μ a K => by have h := K.op 33 5 (List.Mem.tail _ (List.Mem.head _)) rfl; exact h) i85 rfl
  · exact RG.cert_move rfl 34 (Or.inr rfl) (fun μ a K => by have h := K.op 34 6 (List.Mem.head _) rfl; exact h)
  intro new5 w5 hl5 hS5
  obtain ⟨j5, rfl⟩ := RG.len1 hl5
  clear hl5
  replace hS5 : RG.St w w.heap.size [] [[.int .u64 0, .int .u64 0, .int .u64 0, .int .u64 0, .int .u64 0, .int .u64 0, .int .u64 0, .int .u64 0], (ws (0 : Fin P))] [j1, j5] w5 := hS5
  have sl5 : RG.Sl (RG.puts (RG.ad ([j1] ++ [j5])) (F71d2_7i g o cap m bs x y y2) a4) 54 := sl4.puts
  have f2_5 := RG.put_old (μ := RG.ad ([j1] ++ [j5])) (its := (F71d2_7i g o cap m bs x y y2)) f2_4 (by kernel_rfl)
  have f3_5 := RG.put_old (μ := RG.ad ([j1] ++ [j5])) (its := (F71d2_7i g o cap m bs x y y2)) f3_4 (by kernel_rfl)
  have f5_5 : (RG.puts (RG.ad ([j1] ++ [j5])) (F71d2_7i g o cap m bs x y y2) a4).tmps[5]? = some (.bool false) := by have h := RG.put_new (μ := RG.ad ([j1] ++ [j5])) (its := (F71d2_7i g o cap m bs x y y2)) sl4 9 (by kernel_rfl) rfl rfl rfl; exact h
  generalize RG.puts (RG.ad ([j1] ++ [j5])) (F71d2_7i g o cap m bs x y y2) a4 = a5 at sl5 f2_5 f3_5 f5_5 ⊢
  repeat refine wp_seq ?_
  refine RG.region_text' (its := F71d2_8i g o cap m bs x y y2) (bl := F71d2_8b g o cap m bs x y y2) (olds := F71d2_8o g o cap m bs x y y2) hS5 (RG.Reg.mk' (by rw [sl5.size]; kernel_rfl) ⟨f5_5, trivial⟩ ⟨?_, ?_, trivial⟩) (by kernel_rfl) (by kernel_rfl) (RG.endB_st (by kernel_rfl)) ?_
  · exact RG.cert_move rfl 5 (Or.inl rfl) (fun μ a K => K.old 5 (.v (.bool false)) (List.Mem.head _) (by kernel_rfl))
  · exact RG.cert_not rfl 4 35 false rfl rfl (fun μ a K => by have h := K.op 35 0 (List.Mem.head _) rfl; exact h)
  intro new6 w6 hl6 hS6
  obtain rfl := RG.len0 hl6
  replace hS6 : RG.St w w.heap.size [] [[.int .u64 0, .int .u64 0, .int .u64 0, .int .u64 0, .int .u64 0, .int .u64 0, .int .u64 0, .int .u64 0], (ws (0 : Fin P))] [j1, j5] w6 := hS6
  have sl6 : RG.Sl (RG.puts (RG.ad ([j1, j5] ++ [])) (F71d2_8i g o cap m bs x y y2) a5) 54 := sl5.puts
  have f2_6 := RG.put_old (μ := RG.ad ([j1, j5] ++ [])) (its := (F71d2_8i g o cap m bs x y y2)) f2_5 (by kernel_rfl)
  have f3_6 := RG.put_old (μ := RG.ad ([j1, j5] ++ [])) (its := (F71d2_8i g o cap m bs x y y2)) f3_5 (by kernel_rfl)
  have f36_6 : (RG.puts (RG.ad ([j1, j5] ++ [])) (F71d2_8i g o cap m bs x y y2) a5).tmps[36]? = some (.bool true) := by have h := RG.put_new (μ := RG.ad ([j1, j5] ++ [])) (its := (F71d2_8i g o cap m bs x y y2)) sl5 1 (by kernel_rfl) rfl rfl rfl; exact h
  generalize RG.puts (RG.ad ([j1, j5] ++ [])) (F71d2_8i g o cap m bs x y y2) a5 = a6 at sl6 f2_6 f3_6 f36_6 ⊢
  repeat refine wp_seq ?_
  refine wp_cond_true (RG.eval_of f36_6) ?_
  repeat refine wp_seq ?_
  refine RG.region_text' (its := F71d2_9i g o cap m bs x y y2) (bl := F71d2_9b g o cap m bs x y y2) (olds := F71d2_9o g o cap m bs x y y2) hS6 (RG.Reg.mk' (by rw [sl6.size]; kernel_rfl) ⟨f2_6, trivial⟩ ⟨?_, ?_, ?_, trivial⟩) (by kernel_rfl) (by kernel_rfl) (RG.endB_st (by kernel_rfl)) ?_
  · exact RG.cert_stay rfl (fun μ a w _ _ => by rw [show RG.SV.at μ (.v (pv (0 : Fin P) (0 : Fin P))) = (pv (0 : Fin P) (0 : Fin P)) from rfl, ← zero_pv]; kernel_rfl)
  · exact RG.cert_put 0 rfl _ rfl 109 (.tmp 2) (.tmp 37) rfl rfl rfl (fun μ a K => K.old 2 (.p 0 0) (List.Mem.head _) (by kernel_rfl)) (fun μ a K => by have h := K.op 37 0 (List.Mem.head _) rfl; exact h) i109 rfl
  · exact RG.cert_stay rfl (fun μ a w _ _ => by kernel_rfl)
  intro new7 w7 hl7 hS7
  obtain rfl := RG.len0 hl7
  replace hS7 : RG.St w w.heap.size [] [(ws (0 : Fin P) ++ (ws (0 : Fin P))), (ws (0 : Fin P))] [j1, j5] w7 := hS7
  have sl7 : RG.Sl (RG.puts (RG.ad ([j1, j5] ++ [])) (F71d2_9i g o cap m bs x y y2) a6) 54 := sl6.puts
  have f2_7 := RG.put_old (μ := RG.ad ([j1, j5] ++ [])) (its := (F71d2_9i g o cap m bs x y y2)) f2_6 (by kernel_rfl)
  have f3_7 : (RG.puts (RG.ad ([j1, j5] ++ [])) (F71d2_9i g o cap m bs x y y2) a6).tmps[3]? = some (.bool false) := by have h := RG.put_new (μ := RG.ad ([j1, j5] ++ [])) (its := (F71d2_9i g o cap m bs x y y2)) sl6 2 (by kernel_rfl) rfl rfl rfl; exact h
  generalize RG.puts (RG.ad ([j1, j5] ++ [])) (F71d2_9i g o cap m bs x y y2) a6 = a7 at sl7 f2_7 f3_7 ⊢
  refine wp_ret ?_
  refine bodyPost_ret (v := (.tuple #[(pv (0 : Fin P) (0 : Fin P)), (.bool false)])) (RG.results_rt hS7 2 3 109 rfl 0 _ rfl f2_7 _ f3_7 u109 i109) sl7.defers ?_
  exact ⟨_, rfl, hS7.bel.below, rfl⟩

def F71e2_0i (g o cap : Nat) (m : Int) (bs : Bs) (x y y2 : Fin P)  : List RG.It := [⟨some 2, [], (.p 0 0), .make 0⟩,
  ⟨some 3, [], (.v (.bool false)), .stay⟩]
def F71e2_0b (g o cap : Nat) (m : Int) (bs : Bs) (x y y2 : Fin P)  : List RG.Bl := [⟨[.int .u64 0, .int .u64 0, .int .u64 0, .int .u64 0, .int .u64 0, .int .u64 0, .int .u64 0, .int .u64 0], [.int .u64 0, .int .u64 0, .int .u64 0, .int .u64 0, .int .u64 0, .int .u64 0, .int .u64 0, .int .u64 0], some 0, none⟩]
def F71e2_0o (g o cap : Nat) (m : Int) (bs : Bs) (x y y2 : Fin P)  : List (Tmp × RG.SV) := []
def F71e2_1i (g o cap : Nat) (m : Int) (bs : Bs) (x y y2 : Fin P)  : List RG.It := [⟨some 7, [], (.v (.slice (some ⟨g, o, none⟩) 33 cap)), .stay⟩,
  ⟨some 8, [(7, 0)], (.v (.int .i64 33)), .stay⟩,
  ⟨some 9, [(8, 1)], (.v (.bool false)), .stay⟩]
def F71e2_1b (g o cap : Nat) (m : Int) (bs : Bs) (x y y2 : Fin P)  : List RG.Bl := [⟨[.int .u64 0, .int .u64 0, .int .u64 0, .int .u64 0, .int .u64 0, .int .u64 0, .int .u64 0, .int .u64 0], [.int .u64 0, .int .u64 0, .int .u64 0, .int .u64 0, .int .u64 0, .int .u64 0, .int .u64 0, .int .u64 0], none, none⟩]
def F71e2_1o (g o cap : Nat) (m : Int) (bs : Bs) (x y y2 : Fin P)  : List (Tmp × RG.SV) := [(0, (.v (.slice (some ⟨g, o, none⟩) 33 cap)))]
def F71e2_3i (g o cap : Nat) (m : Int) (bs : Bs) (x y y2 : Fin P)  : List RG.It := [⟨some 11, [], (.v (.slice (some ⟨g, o, none⟩) 33 cap)), .stay⟩,
  ⟨some 12, [(11, 0)], (.v (.pointer (some ⟨g, o, none⟩))), .stay⟩,
  ⟨some 13, [(12, 1)], (.v (.agg (bl33 bs).toArray)), .stay⟩,
  ⟨some 14, [], (.v (.agg z33.toArray)), .stay⟩,
  ⟨some 15, [(13, 2), (14, 3)], (.v (.bool false)), .stay⟩]
def F71e2_3b (g o cap : Nat) (m : Int) (bs : Bs) (x y y2 : Fin P)  : List RG.Bl := [⟨[.int .u64 0, .int .u64 0, .int .u64 0, .int .u64 0, .int .u64 0, .int .u64 0, .int .u64 0, .int .u64 0], [.int .u64 0, .int .u64 0, .int .u64 0, .int .u64 0, .int .u64 0, .int .u64 0, .int .u64 0, .int .u64 0], none, none⟩]
def F71e2_3o (g o cap : Nat) (m : Int) (bs : Bs) (x y y2 : Fin P)  : List (Tmp × RG.SV) := [(0, (.v (.slice (some ⟨g, o, none⟩) 33 cap)))]
def F71e2_5i (g o cap : Nat) (m : Int) (bs : Bs) (x y y2 : Fin P)  : List RG.It := [⟨some 17, [], (.v (.slice (some ⟨g, o, none⟩) 33 cap)), .stay⟩,
  ⟨some 18, [(17, 0)], (.v (.pointer (some ⟨g, o, none⟩))), .stay⟩,
  ⟨some 19, [(18, 1)], (.v (.int .u8 2)), .stay⟩,
  ⟨some 20, [(19, 2)], (.v (.bool false)), .stay⟩,
  ⟨some 21, [(20, 3)], (.v (.bool false)), .stay⟩,
  ⟨some 22, [], (.v undef), .pass⟩,
  ⟨some 23, [], (.v undef), .pass⟩,
  ⟨some 24, [], (.v undef), .pass⟩,
  ⟨some 25, [], (.v undef), .pass⟩,
  ⟨some 26, [(21, 4)], (.v (.bool false)), .stay⟩]
def F71e2_5b (g o cap : Nat) (m : Int) (bs : Bs) (x y y2 : Fin P)  : List RG.Bl := [⟨[.int .u64 0, .int .u64 0, .int .u64 0, .int .u64 0, .int .u64 0, .int .u64 0, .int .u64 0, .int .u64 0], [.int .u64 0, .int .u64 0, .int .u64 0, .int .u64 0, .int .u64 0, .int .u64 0, .int .u64 0, .int .u64 0], none, none⟩]
def F71e2_5o (g o cap : Nat) (m : Int) (bs : Bs) (x y y2 : Fin P)  : List (Tmp × RG.SV) := [(0, (.v (.slice (some ⟨g, o, none⟩) 33 cap)))]
def F71e2_7i (g o cap : Nat) (m : Int) (bs : Bs) (x y y2 : Fin P)  : List RG.It := [⟨some 29, [], (.v gv0), .call⟩,
  ⟨some 30, [], (.v (.slice (some ⟨g, o, none⟩) 33 cap)), .stay⟩,
  ⟨some 31, [(30, 1)], (.v (.slice (some ⟨g, o + 1, none⟩) 32 (cap - 1))), .stay⟩,
  ⟨some 32, [(29, 0), (31, 2)], (.v (.tuple #[(fv x), (.bool true)])), .call⟩,
  ⟨some 28, [(32, 3)], (.v (.tuple #[(fv x), (.bool true)])), .stay⟩,
  ⟨some 33, [(28, 4)], (.v (fv x)), .stay⟩,
  ⟨some 34, [(28, 4)], (.v (.bool true)), .stay⟩,
  ⟨some 4, [], (.p 1 0), .make 1⟩,
  ⟨none, [(4, 7), (33, 5)], (.v undef), .put 1⟩,
  ⟨some 5, [(34, 6)], (.v (.bool true)), .stay⟩]
def F71e2_7b (g o cap : Nat) (m : Int) (bs : Bs) (x y y2 : Fin P)  : List RG.Bl := [⟨[.int .u64 0, .int .u64 0, .int .u64 0, .int .u64 0, .int .u64 0, .int .u64 0, .int .u64 0, .int .u64 0], [.int .u64 0, .int .u64 0, .int .u64 0, .int .u64 0, .int .u64 0, .int .u64 0, .int .u64 0, .int .u64 0], none, none⟩, ⟨[.int .u64 0, .int .u64 0, .int .u64 0, .int .u64 0], (ws x), some 7, some 8⟩]
def F71e2_7o (g o cap : Nat) (m : Int) (bs : Bs) (x y y2 : Fin P)  : List (Tmp × RG.SV) := [(0, (.v (.slice (some ⟨g, o, none⟩) 33 cap)))]
def F71e2_8i (g o cap : Nat) (m : Int) (bs : Bs) (x y y2 : Fin P)  : List RG.It := [⟨some 35, [], (.v (.bool true)), .stay⟩,
  ⟨some 36, [(35, 0)], (.v (.bool false)), .stay⟩]
def F71e2_8b (g o cap : Nat) (m : Int) (bs : Bs) (x y y2 : Fin P)  : List RG.Bl := [⟨[.int .u64 0, .int .u64 0, .int .u64 0, .int .u64 0, .int .u64 0, .int .u64 0, .int .u64 0, .int .u64 0], [.int .u64 0, .int .u64 0, .int .u64 0, .int .u64 0, .int .u64 0, .int .u64 0, .int .u64 0, .int .u64 0], none, none⟩, ⟨(ws x), (ws x), none, none⟩]
def F71e2_8o (g o cap : Nat) (m : Int) (bs : Bs) (x y y2 : Fin P)  : List (Tmp × RG.SV) := [(5, (.v (.bool true)))]
def F71e2_10i (g o cap : Nat) (m : Int) (bs : Bs) (x y y2 : Fin P)  : List RG.It := [⟨some 39, [], (.v (fv x)), .stay⟩,
  ⟨some 40, [(39, 0)], (.v (.tuple #[(pv (0 : Fin P) (0 : Fin P)), (.bool false)])), .call⟩,
  ⟨some 38, [(40, 1)], (.v (.tuple #[(pv (0 : Fin P) (0 : Fin P)), (.bool false)])), .stay⟩,
  ⟨some 41, [(38, 2)], (.v (pv (0 : Fin P) (0 : Fin P))), .stay⟩,
  ⟨some 42, [(38, 2)], (.v (.bool false)), .stay⟩,
  ⟨some 6, [], (.p 2 0), .make 2⟩,
  ⟨none, [(6, 5), (41, 3)], (.v undef), .put 2⟩,
  ⟨some 5, [(42, 4)], (.v (.bool false)), .stay⟩]
def F71e2_10b (g o cap : Nat) (m : Int) (bs : Bs) (x y y2 : Fin P)  : List RG.Bl := [⟨[.int .u64 0, .int .u64 0, .int .u64 0, .int .u64 0, .int .u64 0, .int .u64 0, .int .u64 0, .int .u64 0], [.int .u64 0, .int .u64 0, .int .u64 0, .int .u64 0, .int .u64 0, .int .u64 0, .int .u64 0, .int .u64 0], none, none⟩, ⟨(ws x), (ws x), none, none⟩, ⟨[.int .u64 0, .int .u64 0, .int .u64 0, .int .u64 0, .int .u64 0, .int .u64 0, .int .u64 0, .int .u64 0], (ws (0 : Fin P) ++ (ws (0 : Fin P))), some 5, some 6⟩]
def F71e2_10o (g o cap : Nat) (m : Int) (bs : Bs) (x y y2 : Fin P)  : List (Tmp × RG.SV) := [(4, (.p 1 0))]
def F71e2_11i (g o cap : Nat) (m : Int) (bs : Bs) (x y y2 : Fin P)  : List RG.It := [⟨some 43, [], (.v (.bool false)), .stay⟩,
  ⟨some 44, [(43, 0)], (.v (.bool false)), .stay⟩,
  ⟨some 45, [], (.v undef), .pass⟩,
  ⟨some 46, [], (.v undef), .pass⟩,
  ⟨some 47, [], (.v undef), .pass⟩,
  ⟨some 48, [], (.v undef), .pass⟩,
  ⟨some 49, [(44, 1)], (.v (.bool false)), .stay⟩]
def F71e2_11b (g o cap : Nat) (m : Int) (bs : Bs) (x y y2 : Fin P)  : List RG.Bl := [⟨[.int .u64 0, .int .u64 0, .int .u64 0, .int .u64 0, .int .u64 0, .int .u64 0, .int .u64 0, .int .u64 0], [.int .u64 0, .int .u64 0, .int .u64 0, .int .u64 0, .int .u64 0, .int .u64 0, .int .u64 0, .int .u64 0], none, none⟩, ⟨(ws x), (ws x), none, none⟩, ⟨(ws (0 : Fin P) ++ (ws (0 : Fin P))), (ws (0 : Fin P) ++ (ws (0 : Fin P))), none, none⟩]
def F71e2_11o (g o cap : Nat) (m : Int) (bs : Bs) (x y y2 : Fin P)  : List (Tmp × RG.SV) := [(5, (.v (.bool false)))]
def F71e2_13i (g o cap : Nat) (m : Int) (bs : Bs) (x y y2 : Fin P)  : List RG.It := [⟨some 52, [], (.v (pv (0 : Fin P) (0 : Fin P))), .stay⟩,
  ⟨some 53, [], (.v (.bool false)), .stay⟩,
  ⟨none, [(52, 0)], (.v undef), .put 0⟩,
  ⟨some 3, [(53, 1)], (.v (.bool false)), .stay⟩]
def F71e2_13b (g o cap : Nat) (m : Int) (bs : Bs) (x y y2 : Fin P)  : List RG.Bl := [⟨[.int .u64 0, .int .u64 0, .int .u64 0, .int .u64 0, .int .u64 0, .int .u64 0, .int .u64 0, .int .u64 0], (ws (0 : Fin P) ++ (ws (0 : Fin P))), none, some 2⟩, ⟨(ws x), (ws x), none, none⟩, ⟨(ws (0 : Fin P) ++ (ws (0 : Fin P))), (ws (0 : Fin P) ++ (ws (0 : Fin P))), none, none⟩]
def F71e2_13o (g o cap : Nat) (m : Int) (bs : Bs) (x y y2 : Fin P)  : List (Tmp × RG.SV) := [(6, (.p 2 0)), (5, (.v (.bool false))), (2, (.p 0 0))]
set_option maxHeartbeats 2000000 in
set_option maxRecDepth 100000 in
theorem rp_none2 (C : Fld P) (g o cap : Nat) (m : Int) (bs : Bs) (x y y2 : Fin P) (w : World) (hs : bs.size = 33) (hc : 33 ≤ cap) (hg : g < w.heap.size) (hB : Holds encB w g o bs) (hz : ¬ Zero33 bs) (hm : ub bs[0]! = 2) (hx : beV (tl33 bs).toList = x.val) (hr : rt (x * x * x + 7) = none) : Calls Try.prog 71 #[(.slice (some ⟨g, o, none⟩) 33 cap)] w (Ret fun e w' => Below w.heap.size w w' ∧ e = (.tuple #[pv (0 : Fin P) 0, .bool false])) := by
  have hrg := bl33_range hB
  have hb0 : w.cell? ⟨g, o, none⟩ = some (.int .u8 2) := by
    have := (hB 0 (by rw [hs]; decide)).1
    rw [Nat.add_zero] at this
    rw [this]
    show some (Value.int .u8 (ub bs[0]!)) = _
    rw [hm]
  have hrd : ∀ w', RG.BelX w.heap.size [] w w' → Calls Try.prog 89 #[gv0, .slice (some ⟨g, o + 1, none⟩) 32 (cap - 1)] w' (Ret fun e w'' => Below w'.heap.size w' w'' ∧ e = .tuple #[fv x, .bool true]) := fun w' hb => Read_y C (tl33_size hs) (by omega) hx (Nat.lt_of_lt_of_le hg hb.size) (Holds.below (tl33_holds hs hB) hb.below hg)
  go_enter Try.func71, Try.ntmps71
  refine RG.var1 (v0 := (.slice (some ⟨g, o, none⟩) 33 cap)) (n := 54) (by kernel_rfl) (by kernel_rfl) (by kernel_rfl) ?_
  intro a0 sl0 f0
  have hS0 := RG.St.begin w
  repeat refine wp_seq ?_
  refine RG.region_text' (its := F71e2_0i g o cap m bs x y y2) (bl := F71e2_0b g o cap m bs x y y2) (olds := F71e2_0o g o cap m bs x y y2) hS0 (RG.Reg.mk' (by rw [sl0.size]; kernel_rfl) trivial ⟨?_, ?_, trivial⟩) (by kernel_rfl) (by kernel_rfl) (RG.endB_st (by kernel_rfl)) ?_
  · exact RG.cert_alloc 0 rfl rfl _ rfl 109 rfl (fun w => by kernel_rfl)
  · exact RG.cert_stay rfl (fun μ a w _ _ => by kernel_rfl)
  intro new1 w1 hl1 hS1
  obtain ⟨j1, rfl⟩ := RG.len1 hl1
  clear hl1
  replace hS1 : RG.St w w.heap.size [] [[.int .u64 0, .int .u64 0, .int .u64 0, .int .u64 0, .int .u64 0, .int .u64 0, .int .u64 0, .int .u64 0]] [j1] w1 := hS1
  have sl1 : RG.Sl (RG.puts (RG.ad ([] ++ [j1])) (F71e2_0i g o cap m bs x y y2) a0) 54 := sl0.puts
  have f0_1 := RG.put_old (μ := RG.ad ([] ++ [j1])) (its := (F71e2_0i g o cap m bs x y y2)) f0 (by kernel_rfl)
  have f2_1 : (RG.puts (RG.ad ([] ++ [j1])) (F71e2_0i g o cap m bs x y y2) a0).tmps[2]? = some (.pointer (some ⟨j1, 0, none⟩)) := by have h := RG.put_new (μ := RG.ad ([] ++ [j1])) (its := (F71e2_0i g o cap m bs x y y2)) sl0 0 (by kernel_rfl) rfl rfl rfl; exact h
  have f3_1 : (RG.puts (RG.ad ([] ++ [j1])) (F71e2_0i g o cap m bs x y y2) a0).tmps[3]? = some (.bool false) := by have h := RG.put_new (μ := RG.ad ([] ++ [j1])) (its := (F71e2_0i g o cap m bs x y y2)) sl0 1 (by kernel_rfl) rfl rfl rfl; exact h
  generalize RG.puts (RG.ad ([] ++ [j1])) (F71e2_0i g o cap m bs x y y2) a0 = a1 at sl1 f0_1 f2_1 f3_1 ⊢
  repeat refine wp_seq ?_
  refine RG.region_text' (its := F71e2_1i g o cap m bs x y y2) (bl := F71e2_1b g o cap m bs x y y2) (olds := F71e2_1o g o cap m bs x y y2) hS1 (RG.Reg.mk' (by rw [sl1.size]; kernel_rfl) ⟨f0_1, trivial⟩ ⟨?_, ?_, ?_, trivial⟩) (by kernel_rfl) (by kernel_rfl) (RG.endB_st (by kernel_rfl)) ?_
  · exact RG.cert_move rfl 0 (Or.inl rfl) (fun μ a K => K.old 0 (.v (.slice (some ⟨g, o, none⟩) 33 cap)) (List.Mem.head _) (by kernel_rfl))
  · exact RG.cert_one rfl 7 (.v (.slice (some ⟨g, o, none⟩) 33 cap)) (.int .i64 33) rfl (fun μ a K => by have h := K.op 7 0 (List.Mem.head _) rfl; exact h) (fun a w => by kernel_rfl) (fun μ w => by kernel_rfl)
  · exact RG.cert_binc rfl .neq 3 3 8 (.int .i64 33) (.int .i64 33) (.bool false) rfl rfl (fun μ a K => by have h := K.op 8 1 (List.Mem.head _) rfl; exact h) (fun w => by kernel_rfl) (fun w => by kernel_rfl)
  intro new2 w2 hl2 hS2
  obtain rfl := RG.len0 hl2
  replace hS2 : RG.St w w.heap.size [] [[.int .u64 0, .int .u64 0, .int .u64 0, .int .u64 0, .int .u64 0, .int .u64 0, .int .u64 0, .int .u64 0]] [j1] w2 := hS2
  have sl2 : RG.Sl (RG.puts (RG.ad ([j1] ++ [])) (F71e2_1i g o cap m bs x y y2) a1) 54 := sl1.puts
  have f0_2 := RG.put_old (μ := RG.ad ([j1] ++ [])) (its := (F71e2_1i g o cap m bs x y y2)) f0_1 (by kernel_rfl)
  have f2_2 := RG.put_old (μ := RG.ad ([j1] ++ [])) (its := (F71e2_1i g o cap m bs x y y2)) f2_1 (by kernel_rfl)
  have f3_2 := RG.put_old (μ := RG.ad ([j1] ++ [])) (its := (F71e2_1i g o cap m bs x y y2)) f3_1 (by kernel_rfl)
  have f9_2 : (RG.puts (RG.ad ([j1] ++ [])) (F71e2_1i g o cap m bs x y y2) a1).tmps[9]? = some (.bool false) := by have h := RG.put_new (μ := RG.ad ([j1] ++ [])) (its := (F71e2_1i g o cap m bs x y y2)) sl1 2 (by kernel_rfl) rfl rfl rfl; exact h
  generalize RG.puts (RG.ad ([j1] ++ [])) (F71e2_1i g o cap m bs x y y2) a1 = a2 at sl2 f0_2 f2_2 f3_2 f9_2 ⊢
  repeat refine wp_seq ?_
  refine wp_cond_false (RG.eval_of f9_2) ?_
  refine wp_skip ?_
  repeat refine wp_seq ?_
  refine RG.region_text' (its := F71e2_3i g o cap m bs x y y2) (bl := F71e2_3b g o cap m bs x y y2) (olds := F71e2_3o g o cap m bs x y y2) hS2 (RG.Reg.mk' (by rw [sl2.size]; kernel_rfl) ⟨f0_2, trivial⟩ ⟨?_, ?_, ?_, ?_, ?_, trivial⟩) (by kernel_rfl) (by kernel_rfl) (RG.endB_st (by kernel_rfl)) ?_
  · exact RG.cert_move rfl 0 (Or.inl rfl) (fun μ a K => K.old 0 (.v (.slice (some ⟨g, o, none⟩) 33 cap)) (List.Mem.head _) (by kernel_rfl))
  · exact RG.cert_s2a rfl 131 11 (.slice (some ⟨g, o, none⟩) 33 cap) (.pointer (some ⟨g, o, none⟩)) rfl rfl (fun μ a K => by have h := K.op 11 0 (List.Mem.head _) rfl; exact h) (arr33 g o cap)
  · exact RG.cert_loadB rfl g o hg List.not_mem_nil 131 12 rfl (bl33 bs) rfl (fun μ a K => by have h := K.op 12 1 (List.Mem.head _) rfl; exact h) hrg u131 (by rw [bl33_length hs]; exact i131)
  · exact RG.cert_stay rfl (fun μ a w _ _ => by kernel_rfl)
  · exact RG.cert_bin rfl .eql 131 131 13 14 (.agg (bl33 bs).toArray) (.agg z33.toArray) (.bool false) rfl rfl (fun μ a K => by have h := K.op 13 2 (List.Mem.head _) rfl; exact h) (fun μ a K => by have h := K.op 14 3 (List.Mem.tail _ (List.Mem.head _)) rfl; exact h) (fun w => by kernel_rfl) (eqz_f hs hz)
  intro new3 w3 hl3 hS3
  obtain rfl := RG.len0 hl3
  replace hS3 : RG.St w w.heap.size [] [[.int .u64 0, .int .u64 0, .int .u64 0, .int .u64 0, .int .u64 0, .int .u64 0, .int .u64 0, .int .u64 0]] [j1] w3 := hS3
  have sl3 : RG.Sl (RG.puts (RG.ad ([j1] ++ [])) (F71e2_3i g o cap m bs x y y2) a2) 54 := sl2.puts
  have f0_3 := RG.put_old (μ := RG.ad ([j1] ++ [])) (its := (F71e2_3i g o cap m bs x y y2)) f0_2 (by kernel_rfl)
  have f2_3 := RG.put_old (μ := RG.ad ([j1] ++ [])) (its := (F71e2_3i g o cap m bs x y y2)) f2_2 (by kernel_rfl)
  have f3_3 := RG.put_old (μ := RG.ad ([j1] ++ [])) (its := (F71e2_3i g o cap m bs x y y2)) f3_2 (by kernel_rfl)
  have f15_3 : (RG.puts (RG.ad ([j1] ++ [])) (F71e2_3i g o cap m bs x y y2) a2).tmps[15]? = some (.bool false) := by have h := RG.put_new (μ := RG.ad ([j1] ++ [])) (its := (F71e2_3i g o cap m bs x y y2)) sl2 4 (by kernel_rfl) rfl rfl rfl; exact h
  generalize RG.puts (RG.ad ([j1] ++ [])) (F71e2_3i g o cap m bs x y y2) a2 = a3 at sl3 f0_3 f2_3 f3_3 f15_3 ⊢
  repeat refine wp_seq ?_
  refine wp_cond_false (RG.eval_of f15_3) ?_
  refine wp_skip ?_
  repeat refine wp_seq ?_
  refine RG.region_text' (its := F71e2_5i g o cap m bs x y y2) (bl := F71e2_5b g o cap m bs x y y2) (olds := F71e2_5o g o cap m bs x y y2) hS3 (RG.Reg.mk' (by rw [sl3.size]; kernel_rfl) ⟨f0_3, trivial⟩ ⟨?_, ?_, ?_, ?_, ?_, ?_, ?_, ?_, ?_, ?_, trivial⟩) (by kernel_rfl) (by kernel_rfl) (RG.endB_st (by kernel_rfl)) ?_
  · exact RG.cert_move rfl 0 (Or.inl rfl) (fun μ a K => K.old 0 (.v (.slice (some ⟨g, o, none⟩) 33 cap)) (List.Mem.head _) (by kernel_rfl))
  · exact RG.cert_idxc rfl 23 17 (.int .i64 0) rfl (.v (.slice (some ⟨g, o, none⟩) 33 cap)) (fun μ a K => by have h := K.op 17 0 (List.Mem.head _) rfl; exact h) (fun μ w => at23 g o 33 cap (by decide) w)
  · exact RG.cert_load1B rfl g o hg List.not_mem_nil 5 18 rfl (.int .u8 2) rfl (fun μ a K => by have h := K.op 18 1 (List.Mem.head _) rfl; exact h) hb0 u5
  · exact RG.cert_binc rfl .neq 5 5 19 (.int .u8 2) (.int .u8 2) (.bool false) rfl rfl (fun μ a K => by have h := K.op 19 2 (List.Mem.head _) rfl; exact h) (fun w => by kernel_rfl) (fun w => by kernel_rfl)
  · exact RG.cert_move rfl 20 (Or.inl rfl) (fun μ a K => by have h := K.op 20 3 (List.Mem.head _) rfl; exact h)
  · exact RG.cert_pass rfl rfl
  · exact RG.cert_pass rfl rfl
  · exact RG.cert_pass rfl rfl
  · exact RG.cert_pass rfl rfl
  · exact RG.cert_pick_f rfl 21 25 _ rfl (fun μ a K => by have h := K.op 21 4 (List.Mem.head _) rfl; exact h) rfl
  intro new4 w4 hl4 hS4
  obtain rfl := RG.len0 hl4
  replace hS4 : RG.St w w.heap.size [] [[.int .u64 0, .int .u64 0, .int .u64 0, .int .u64 0, .int .u64 0, .int .u64 0, .int .u64 0, .int .u64 0]] [j1] w4 := hS4
  have sl4 : RG.Sl (RG.puts (RG.ad ([j1] ++ [])) (F71e2_5i g o cap m bs x y y2) a3) 54 := sl3.puts
  have f0_4 := RG.put_old (μ := RG.ad ([j1] ++ [])) (its := (F71e2_5i g o cap m bs x y y2)) f0_3 (by kernel_rfl)
  have f2_4 := RG.put_old (μ := RG.ad ([j1] ++ [])) (its := (F71e2_5i g o cap m bs x y y2)) f2_3 (by kernel_rfl)
  have f3_4 := RG.put_old (μ := RG.ad ([j1] ++ [])) (its := (F71e2_5i g o cap m bs x y y2)) f3_3 (by kernel_rfl)
  have f26_4 : (RG.puts (RG.ad ([j1] ++ [])) (F71e2_5i g o cap m bs x y y2) a3).tmps[26]? = some (.bool false) := by have h := RG.put_new (μ := RG.ad ([j1] ++ [])) (its := (F71e2_5i g o cap m bs x y y2)) sl3 9 (by kernel_rfl) rfl rfl rfl; exact h
  generalize RG.puts (RG.ad ([j1] ++ [])) (F71e2_5i g o cap m bs x y y2) a3 = a4 at sl4 f0_4 f2_4 f3_4 f26_4 ⊢
  repeat refine wp_seq ?_
  refine wp_cond_false (RG.eval_of f26_4) ?_
  refine wp_skip ?_
  repeat refine wp_seq ?_
  refine RG.region_draws' (by kernel_rfl) (its := F71e2_7i g o cap m bs x y y2) (bl := F71e2_7b g o cap m bs x y y2) (olds := F71e2_7o g o cap m bs x y y2) hS4 (RG.Reg.mk' (by rw [sl4.size]; kernel_rfl) ⟨f0_4, trivial⟩ ⟨?_, ?_, ?_, ?_, ?_, ?_, ?_, ?_, ?_, ?_, trivial⟩) (by kernel_rfl) (by kernel_rfl) (RG.endB_st (by kernel_rfl)) ?_
  · exact RG.cert_call0 rfl 63 gv0 rfl (fun a w => by kernel_rfl) (Coordinates_c)
  · exact RG.cert_move rfl 0 (Or.inl rfl) (fun μ a K => K.old 0 (.v (.slice (some ⟨g, o, none⟩) 33 cap)) (List.Mem.head _) (by kernel_rfl))
  · exact RG.cert_slice1 rfl 23 30 (.int .i64 1) (.slice (some ⟨g, o, none⟩) 33 cap) (.slice (some ⟨g, o + 1, none⟩) 32 (cap - 1)) rfl rfl (fun μ a K => by have h := K.op 30 1 (List.Mem.head _) rfl; exact h) (sl33 g o cap hc)
  · exact RG.cert_callB2 rfl 89 29 31 gv0 (.slice (some ⟨g, o + 1, none⟩) 32 (cap - 1)) (.tuple #[(fv x), (.bool true)]) rfl (fun a w => by kernel_rfl) (fun μ a K => by have h := K.op 29 0 (List.Mem.head _) rfl; exact h) (fun μ a K => by have h := K.op 31 2 (List.Mem.tail _ (List.Mem.head _)) rfl; exact h) hrd
  · exact RG.cert_move rfl 32 (Or.inl rfl) (fun μ a K => by have h := K.op 32 3 (List.Mem.head _) rfl; exact h)
  · exact RG.cert_extract rfl 28 0 #[(fv x), (.bool true)] (fv x) rfl rfl rfl (fun μ a K => by have h := K.op 28 4 (List.Mem.head _) rfl; exact h)
  · exact RG.cert_extract rfl 28 1 #[(fv x), (.bool true)] (.bool true) rfl rfl rfl (fun μ a K => by have h := K.op 28 4 (List.Mem.head _) rfl; exact h)
  · exact RG.cert_alloc 1 rfl rfl _ rfl 85 rfl (fun w => by kernel_rfl)
  · exact RG.cert_put 1 rfl _ rfl 85 (.tmp 4) (.tmp 33) rfl rfl rfl (fun μ a K => by have h := K.op 4 7 (List.Mem.head _) rfl; exact h) (fun μ a K => by have h := K.op 33 5 (List.Mem.tail _ (List.Mem.head _)) rfl; exact h) i85 rfl
  · exact RG.cert_move rfl 34 (Or.inr rfl) (fun μ a K => by have h := K.op 34 6 (List.Mem.head _) rfl; exact h)
  intro new5 w5 hl5 hS5
  obtain ⟨j5, rfl⟩ := RG.len1 hl5
  clear hl5
  replace hS5 : RG.St w w.heap.size [] [[.int .u64 0, .int .u64 0, .int .u64 0, .int .u64 0, .int .u64 0, .int .u64 0, .int .u64 0, .int .u64 0], (ws x)] [j1, j5] w5 := hS5
  have sl5 : RG.Sl (RG.puts (RG.ad ([j1] ++ [j5])) (F71e2_7i g o cap m bs x y y2) a4) 54 := sl4.puts
  have f2_5 := RG.put_old (μ := RG.ad ([j1] ++ [j5])) (its := (F71e2_7i g o cap m bs x y y2)) f2_4 (by kernel_rfl)
  have f3_5 := RG.put_old (μ := RG.ad ([j1] ++ [j5])) (its := (F71e2_7i g o cap m bs x y y2)) f3_4 (by kernel_rfl)
  have f4_5 : (RG.puts (RG.ad ([j1] ++ [j5])) (F71e2_7i g o cap m bs x y y2) a4).tmps[4]? = some (.pointer (some ⟨j5, 0, none⟩)) := by have h := RG.put_new (μ := RG.ad ([j1] ++ [j5])) (its := (F71e2_7i g o cap m bs x y y2)) sl4 7 (by kernel_rfl) rfl rfl rfl; exact h
  have f5_5 : (RG.puts (RG.ad ([j1] ++ [j5])) (F71e2_7i g o cap m bs x y y2) a4).tmps[5]? = some (.bool true) := by have h := RG.put_new (μ := RG.ad ([j1] ++ [j5])) (its := (F71e2_7i g o cap m bs x y y2)) sl4 9 (by kernel_rfl) rfl rfl rfl; exact h
  generalize RG.puts (RG.ad ([j1] ++ [j5])) (F71e2_7i g o cap m bs x y y2) a4 = a5 at sl5 f2_5 f3_5 f4_5 f5_5 ⊢
  repeat refine wp_seq ?_
  refine RG.region_text' (its := F71e2_8i g o cap m bs x y y2) (bl := F71e2_8b g o cap m bs x y y2) (olds := F71e2_8o g o cap m bs x y y2) hS5 (RG.Reg.mk' (by rw [sl5.size]; kernel_rfl) ⟨f5_5, trivial⟩ ⟨?_, ?_, trivial⟩) (by kernel_rfl) (by kernel_rfl) (RG.endB_st (by kernel_rfl)) ?_
  · exact RG.cert_move rfl 5 (Or.inl rfl) (fun μ a K => K.old 5 (.v (.bool true)) (List.Mem.head _) (by kernel_rfl))
  · exact RG.cert_not rfl 4 35 true rfl rfl (fun μ a K => by have h := K.op 35 0 (List.Mem.head _) rfl; exact h)
  intro new6 w6 hl6 hS6
  obtain rfl := RG.len0 hl6
  replace hS6 : RG.St w w.heap.size [] [[.int .u64 0, .int .u64 0, .int .u64 0, .int .u64 0, .int .u64 0, .int .u64 0, .int .u64 0, .int .u64 0], (ws x)] [j1, j5] w6 := hS6
  have sl6 : RG.Sl (RG.puts (RG.ad ([j1, j5] ++ [])) (F71e2_8i g o cap m bs x y y2) a5) 54 := sl5.puts
  have f2_6 := RG.put_old (μ := RG.ad ([j1, j5] ++ [])) (its := (F71e2_8i g o cap m bs x y y2)) f2_5 (by kernel_rfl)
  have f3_6 := RG.put_old (μ := RG.ad ([j1, j5] ++ [])) (its := (F71e2_8i g o cap m bs x y y2)) f3_5 (by kernel_rfl)
  have f4_6 := RG.put_old (μ := RG.ad ([j1, j5] ++ [])) (its := (F71e2_8i g o cap m bs x y y2)) f4_5 (by kernel_rfl)
  have f5_6 := RG.put_old (μ := RG.ad ([j1, j5] ++ [])) (its := (F71e2_8i g o cap m bs x y y2)) f5_5 (by kernel_rfl)
  have f36_6 : (RG.puts (RG.ad ([j1, j5] ++ [])) (F71e2_8i g o cap m bs x y y2) a5).tmps[36]? = some (.bool false) := by have h := RG.put_new (μ := RG.ad ([j1, j5] ++ [])) (its := (F71e2_8i g o cap m bs x y y2)) sl5 1 (by kernel_rfl) rfl rfl rfl; exact h
  generalize RG.puts (RG.ad ([j1, j5] ++ [])) (F71e2_8i g o cap m bs x y y2) a5 = a6 at sl6 f2_6 f3_6 f4_6 f5_6 f36_6 ⊢
  repeat refine wp_seq ?_
  refine wp_cond_false (RG.eval_of f36_6) ?_
  refine wp_skip ?_
  repeat refine wp_seq ?_
  refine RG.region_text' (its := F71e2_10i g o cap m bs x y y2) (bl := F71e2_10b g o cap m bs x y y2) (olds := F71e2_10o g o cap m bs x y y2) hS6 (RG.Reg.mk' (by rw [sl6.size]; kernel_rfl) ⟨f4_6, trivial⟩ ⟨?_, ?_, ?_, ?_, ?_, ?_, ?_, ?_, trivial⟩) (by kernel_rfl) (by kernel_rfl) (RG.endB_st (by kernel_rfl)) ?_
  · exact RG.cert_load rfl 1 0 _ rfl rfl (by kernel_rfl) 85 4 rfl (ws x) rfl (fun μ a K => K.old 4 (.p 1 0) (List.Mem.head _) (by kernel_rfl)) (by kernel_rfl) u85 i85
  · exact RG.cert_call1 rfl 99 39 (fv x) (.tuple #[(pv (0 : Fin P) (0 : Fin P)), (.bool false)]) rfl (fun a w => by kernel_rfl) (fun μ a K => by have h := K.op 39 0 (List.Mem.head _) rfl; exact h) (above_n_c C x hr)
  · exact RG.cert_move rfl 40 (Or.inl rfl) (fun μ a K => by have h := K.op 40 1 (List.Mem.head _) rfl; exact h)
  · exact RG.cert_extract rfl 38 0 #[(pv (0 : Fin P) (0 : Fin P)), (.bool false)] (pv (0 : Fin P) (0 : Fin P)) rfl rfl rfl (fun μ a K => by have h := K.op 38 2 (List.Mem.head _) rfl; exact h)
  · exact RG.cert_extract rfl 38 1 #[(pv (0 : Fin P) (0 : Fin P)), (.bool false)] (.bool false) rfl rfl rfl (fun μ a K => by have h := K.op 38 2 (List.Mem.head _) rfl; exact h)
  · exact RG.cert_alloc 2 rfl rfl _ rfl 109 rfl (fun w => by kernel_rfl)
  · exact RG.cert_put 2 rfl _ rfl 109 (.tmp 6) (.tmp 41) rfl rfl rfl (fun μ a K => by have h := K.op 6 5 (List.Mem.head _) rfl; exact h) (fun μ a K => by have h := K.op 41 3 (List.Mem.tail _ (List.Mem.head _)) rfl; exact h) i109 rfl
  · exact RG.cert_move rfl 42 (Or.inr rfl) (fun μ a K => by have h := K.op 42 4 (List.Mem.head _) rfl; exact h)
  intro new7 w7 hl7 hS7
  obtain ⟨j7, rfl⟩ := RG.len1 hl7
  clear hl7
  replace hS7 : RG.St w w.heap.size [] [[.int .u64 0, .int .u64 0, .int .u64 0, .int .u64 0, .int .u64 0, .int .u64 0, .int .u64 0, .int .u64 0], (ws x), (ws (0 : Fin P) ++ (ws (0 : Fin P)))] [j1, j5, j7] w7 := hS7
  have sl7 : RG.Sl (RG.puts (RG.ad ([j1, j5] ++ [j7])) (F71e2_10i g o cap m bs x y y2) a6) 54 := sl6.puts
  have f2_7 := RG.put_old (μ := RG.ad ([j1, j5] ++ [j7])) (its := (F71e2_10i g o cap m bs x y y2)) f2_6 (by kernel_rfl)
  have f3_7 := RG.put_old (μ := RG.ad ([j1, j5] ++ [j7])) (its := (F71e2_10i g o cap m bs x y y2)) f3_6 (by kernel_rfl)
  have f5_7 : (RG.puts (RG.ad ([j1, j5] ++ [j7])) (F71e2_10i g o cap m bs x y y2) a6).tmps[5]? = some (.bool false) := by have h := RG.put_new (μ := RG.ad ([j1, j5] ++ [j7])) (its := (F71e2_10i g o cap m bs x y y2)) sl6 7 (by kernel_rfl) rfl rfl rfl; exact h
  have f6_7 : (RG.puts (RG.ad ([j1, j5] ++ [j7])) (F71e2_10i g o cap m bs x y y2) a6).tmps[6]? = some (.pointer (some ⟨j7, 0, none⟩)) := by have h := RG.put_new (μ := RG.ad ([j1, j5] ++ [j7])) (its := (F71e2_10i g o cap m bs x y y2)) sl6 5 (by kernel_rfl) rfl rfl rfl; exact h
  generalize RG.puts (RG.ad ([j1, j5] ++ [j7])) (F71e2_10i g o cap m bs x y y2) a6 = a7 at sl7 f2_7 f3_7 f5_7 f6_7 ⊢
  repeat refine wp_seq ?_
  refine RG.region_text' (its := F71e2_11i g o cap m bs x y y2) (bl := F71e2_11b g o cap m bs x y y2) (olds := F71e2_11o g o cap m bs x y y2) hS7 (RG.Reg.mk' (by rw [sl7.size]; kernel_rfl) ⟨f5_7, trivial⟩ ⟨?_, ?_, ?_, ?_, ?_, ?_, ?_, trivial⟩) (by kernel_rfl) (by kernel_rfl) (RG.endB_st (by kernel_rfl)) ?_
  · exact RG.cert_move rfl 5 (Or.inl rfl) (fun μ a K => K.old 5 (.v (.bool false)) (List.Mem.head _) (by kernel_rfl))
  · exact RG.cert_move rfl 43 (Or.inl rfl) (fun μ a K => by have h := K.op 43 0 (List.Mem.head _) rfl; exact h)
  · exact RG.cert_pass rfl rfl
  · exact RG.cert_pass rfl rfl
  · exact RG.cert_pass rfl rfl
  · exact RG.cert_pass rfl rfl
  · exact RG.cert_pick_f rfl 44 48 _ rfl (fun μ a K => by have h := K.op 44 1 (List.Mem.head _) rfl; exact h) rfl
  intro new8 w8 hl8 hS8
  obtain rfl := RG.len0 hl8
  replace hS8 : RG.St w w.heap.size [] [[.int .u64 0, .int .u64 0, .int .u64 0, .int .u64 0, .int .u64 0, .int .u64 0, .int .u64 0, .int .u64 0], (ws x), (ws (0 : Fin P) ++ (ws (0 : Fin P)))] [j1, j5, j7] w8 := hS8
  have sl8 : RG.Sl (RG.puts (RG.ad ([j1, j5, j7] ++ [])) (F71e2_11i g o cap m bs x y y2) a7) 54 := sl7.puts
  have f2_8 := RG.put_old (μ := RG.ad ([j1, j5, j7] ++ [])) (its := (F71e2_11i g o cap m bs x y y2)) f2_7 (by kernel_rfl)
  have f3_8 := RG.put_old (μ := RG.ad ([j1, j5, j7] ++ [])) (its := (F71e2_11i g o cap m bs x y y2)) f3_7 (by kernel_rfl)
  have f5_8 := RG.put_old (μ := RG.ad ([j1, j5, j7] ++ [])) (its := (F71e2_11i g o cap m bs x y y2)) f5_7 (by kernel_rfl)
  have f6_8 := RG.put_old (μ := RG.ad ([j1, j5, j7] ++ [])) (its := (F71e2_11i g o cap m bs x y y2)) f6_7 (by kernel_rfl)
  have f49_8 : (RG.puts (RG.ad ([j1, j5, j7] ++ [])) (F71e2_11i g o cap m bs x y y2) a7).tmps[49]? = some (.bool false) := by have h := RG.put_new (μ := RG.ad ([j1, j5, j7] ++ [])) (its := (F71e2_11i g o cap m bs x y y2)) sl7 6 (by kernel_rfl) rfl rfl rfl; exact h
  generalize RG.puts (RG.ad ([j1, j5, j7] ++ [])) (F71e2_11i g o cap m bs x y y2) a7 = a8 at sl8 f2_8 f3_8 f5_8 f6_8 f49_8 ⊢
  repeat refine wp_seq ?_
  refine wp_cond_false (RG.eval_of f49_8) ?_
  refine wp_skip ?_
  repeat refine wp_seq ?_
  refine RG.region_text' (its := F71e2_13i g o cap m bs x y y2) (bl := F71e2_13b g o cap m bs x y y2) (olds := F71e2_13o g o cap m bs x y y2) hS8 (RG.Reg.mk' (by rw [sl8.size]; kernel_rfl) ⟨f6_8, f5_8, f2_8, trivial⟩ ⟨?_, ?_, ?_, ?_, trivial⟩) (by kernel_rfl) (by kernel_rfl) (RG.endB_st (by kernel_rfl)) ?_
  · exact RG.cert_load rfl 2 0 _ rfl rfl (by kernel_rfl) 109 6 rfl (ws (0 : Fin P) ++ (ws (0 : Fin P))) rfl (fun μ a K => K.old 6 (.p 2 0) (List.Mem.head _) (by kernel_rfl)) (by kernel_rfl) u109 i109
  · exact RG.cert_move rfl 5 (Or.inl rfl) (fun μ a K => K.old 5 (.v (.bool false)) (List.Mem.tail _ (List.Mem.head _)) (by kernel_rfl))
  · exact RG.cert_put 0 rfl _ rfl 109 (.tmp 2) (.tmp 52) rfl rfl rfl (fun μ a K => K.old 2 (.p 0 0) (List.Mem.tail _ (List.Mem.tail _ (List.Mem.head _))) (by kernel_rfl)) (fun μ a K => by have h := K.op 52 0 (List.Mem.head _) rfl; exact h) i109 rfl
  · exact RG.cert_move rfl 53 (Or.inr rfl) (fun μ a K => by have h := K.op 53 1 (List.Mem.head _) rfl; exact h)
  intro new9 w9 hl9 hS9
  obtain rfl := RG.len0 hl9
  replace hS9 : RG.St w w.heap.size [] [(ws (0 : Fin P) ++ (ws (0 : Fin P))), (ws x), (ws (0 : Fin P) ++ (ws (0 : Fin P)))] [j1, j5, j7] w9 := hS9
  have sl9 : RG.Sl (RG.puts (RG.ad ([j1, j5, j7] ++ [])) (F71e2_13i g o cap m bs x y y2) a8) 54 := sl8.puts
  have f2_9 := RG.put_old (μ := RG.ad ([j1, j5, j7] ++ [])) (its := (F71e2_13i g o cap m bs x y y2)) f2_8 (by kernel_rfl)
  have f3_9 : (RG.puts (RG.ad ([j1, j5, j7] ++ [])) (F71e2_13i g o cap m bs x y y2) a8).tmps[3]? = some (.bool false) := by have h := RG.put_new (μ := RG.ad ([j1, j5, j7] ++ [])) (its := (F71e2_13i g o cap m bs x y y2)) sl8 3 (by kernel_rfl) rfl rfl rfl; exact h
  generalize RG.puts (RG.ad ([j1, j5, j7] ++ [])) (F71e2_13i g o cap m bs x y y2) a8 = a9 at sl9 f2_9 f3_9 ⊢
  refine wp_ret ?_
  refine bodyPost_ret (v := (.tuple #[(pv (0 : Fin P) (0 : Fin P)), (.bool false)])) (RG.results_rt hS9 2 3 109 rfl 0 _ rfl f2_9 _ f3_9 u109 i109) sl9.defers ?_
  exact ⟨_, rfl, hS9.bel.below, rfl⟩

def F71f_0i (g o cap : Nat) (m : Int) (bs : Bs) (x y y2 : Fin P)  : List RG.It := [⟨some 2, [], (.p 0 0), .make 0⟩,
  ⟨some 3, [], (.v (.bool false)), .stay⟩]
def F71f_0b (g o cap : Nat) (m : Int) (bs : Bs) (x y y2 : Fin P)  : List RG.Bl := [⟨[.int .u64 0, .int .u64 0, .int .u64 0, .int .u64 0, .int .u64 0, .int .u64 0, .int .u64 0, .int .u64 0], [.int .u64 0, .int .u64 0, .int .u64 0, .int .u64 0, .int .u64 0, .int .u64 0, .int .u64 0, .int .u64 0], some 0, none⟩]
def F71f_0o (g o cap : Nat) (m : Int) (bs : Bs) (x y y2 : Fin P)  : List (Tmp × RG.SV) := []
def F71f_1i (g o cap : Nat) (m : Int) (bs : Bs) (x y y2 : Fin P)  : List RG.It := [⟨some 7, [], (.v (.slice (some ⟨g, o, none⟩) 33 cap)), .stay⟩,
  ⟨some 8, [(7, 0)], (.v (.int .i64 33)), .stay⟩,
  ⟨some 9, [(8, 1)], (.v (.bool false)), .stay⟩]
def F71f_1b (g o cap : Nat) (m : Int) (bs : Bs) (x y y2 : Fin P)  : List RG.Bl := [⟨[.int .u64 0, .int .u64 0, .int .u64 0, .int .u64 0, .int .u64 0, .int .u64 0, .int .u64 0, .int .u64 0], [.int .u64 0, .int .u64 0, .int .u64 0, .int .u64 0, .int .u64 0, .int .u64 0, .int .u64 0, .int .u64 0], none, none⟩]
def F71f_1o (g o cap : Nat) (m : Int) (bs : Bs) (x y y2 : Fin P)  : List (Tmp × RG.SV) := [(0, (.v (.slice (some ⟨g, o, none⟩) 33 cap)))]
def F71f_3i (g o cap : Nat) (m : Int) (bs : Bs) (x y y2 : Fin P)  : List RG.It := [⟨some 11, [], (.v (.slice (some ⟨g, o, none⟩) 33 cap)), .stay⟩,
  ⟨some 12, [(11, 0)], (.v (.pointer (some ⟨g, o, none⟩))), .stay⟩,
  ⟨some 13, [(12, 1)], (.v (.agg (bl33 bs).toArray)), .stay⟩,
  ⟨some 14, [], (.v (.agg z33.toArray)), .stay⟩,
  ⟨some 15, [(13, 2), (14, 3)], (.v (.bool false)), .stay⟩]
def F71f_3b (g o cap : Nat) (m : Int) (bs : Bs) (x y y2 : Fin P)  : List RG.Bl := [⟨[.int .u64 0, .int .u64 0, .int .u64 0, .int .u64 0, .int .u64 0, .int .u64 0, .int .u64 0, .int .u64 0], [.int .u64 0, .int .u64 0, .int .u64 0, .int .u64 0, .int .u64 0, .int .u64 0, .int .u64 0, .int .u64 0], none, none⟩]
def F71f_3o (g o cap : Nat) (m : Int) (bs : Bs) (x y y2 : Fin P)  : List (Tmp × RG.SV) := [(0, (.v (.slice (some ⟨g, o, none⟩) 33 cap)))]
def F71f_5i (g o cap : Nat) (m : Int) (bs : Bs) (x y y2 : Fin P)  : List RG.It := [⟨some 17, [], (.v (.slice (some ⟨g, o, none⟩) 33 cap)), .stay⟩,
  ⟨some 18, [(17, 0)], (.v (.pointer (some ⟨g, o, none⟩))), .stay⟩,
  ⟨some 19, [(18, 1)], (.v (.int .u8 2)), .stay⟩,
  ⟨some 20, [(19, 2)], (.v (.bool false)), .stay⟩,
  ⟨some 21, [(20, 3)], (.v (.bool false)), .stay⟩,
  ⟨some 22, [], (.v undef), .pass⟩,
  ⟨some 23, [], (.v undef), .pass⟩,
  ⟨some 24, [], (.v undef), .pass⟩,
  ⟨some 25, [], (.v undef), .pass⟩,
  ⟨some 26, [(21, 4)], (.v (.bool false)), .stay⟩]
def F71f_5b (g o cap : Nat) (m : Int) (bs : Bs) (x y y2 : Fin P)  : List RG.Bl := [⟨[.int .u64 0, .int .u64 0, .int .u64 0, .int .u64 0, .int .u64 0, .int .u64 0, .int .u64 0, .int .u64 0], [.int .u64 0, .int .u64 0, .int .u64 0, .int .u64 0, .int .u64 0, .int .u64 0, .int .u64 0, .int .u64 0], none, none⟩]
def F71f_5o (g o cap : Nat) (m : Int) (bs : Bs) (x y y2 : Fin P)  : List (Tmp × RG.SV) := [(0, (.v (.slice (some ⟨g, o, none⟩) 33 cap)))]
def F71f_7i (g o cap : Nat) (m : Int) (bs : Bs) (x y y2 : Fin P)  : List RG.It := [⟨some 29, [], (.v gv0), .call⟩,
  ⟨some 30, [], (.v (.slice (some ⟨g, o, none⟩) 33 cap)), .stay⟩,
  ⟨some 31, [(30, 1)], (.v (.slice (some ⟨g, o + 1, none⟩) 32 (cap - 1))), .stay⟩,
  ⟨some 32, [(29, 0), (31, 2)], (.v (.tuple #[(fv x), (.bool true)])), .call⟩,
  ⟨some 28, [(32, 3)], (.v (.tuple #[(fv x), (.bool true)])), .stay⟩,
  ⟨some 33, [(28, 4)], (.v (fv x)), .stay⟩,
  ⟨some 34, [(28, 4)], (.v (.bool true)), .stay⟩,
  ⟨some 4, [], (.p 1 0), .make 1⟩,
  ⟨none, [(4, 7), (33, 5)], (.v undef), .put 1⟩,
  ⟨some 5, [(34, 6)], (.v (.bool true)), .stay⟩]
def F71f_7b (g o cap : Nat) (m : Int) (bs : Bs) (x y y2 : Fin P)  : List RG.Bl := [⟨[.int .u64 0, .int .u64 0, .int .u64 0, .int .u64 0, .int .u64 0, .int .u64 0, .int .u64 0, .int .u64 0], [.int .u64 0, .int .u64 0, .int .u64 0, .int .u64 0, .int .u64 0, .int .u64 0, .int .u64 0, .int .u64 0], none, none⟩, ⟨[.int .u64 0, .int .u64 0, .int .u64 0, .int .u64 0], (ws x), some 7, some 8⟩]
def F71f_7o (g o cap : Nat) (m : Int) (bs : Bs) (x y y2 : Fin P)  : List (Tmp × RG.SV) := [(0, (.v (.slice (some ⟨g, o, none⟩) 33 cap)))]
def F71f_8i (g o cap : Nat) (m : Int) (bs : Bs) (x y y2 : Fin P)  : List RG.It := [⟨some 35, [], (.v (.bool true)), .stay⟩,
  ⟨some 36, [(35, 0)], (.v (.bool false)), .stay⟩]
def F71f_8b (g o cap : Nat) (m : Int) (bs : Bs) (x y y2 : Fin P)  : List RG.Bl := [⟨[.int .u64 0, .int .u64 0, .int .u64 0, .int .u64 0, .int .u64 0, .int .u64 0, .int .u64 0, .int .u64 0], [.int .u64 0, .int .u64 0, .int .u64 0, .int .u64 0, .int .u64 0, .int .u64 0, .int .u64 0, .int .u64 0], none, none⟩, ⟨(ws x), (ws x), none, none⟩]
def F71f_8o (g o cap : Nat) (m : Int) (bs : Bs) (x y y2 : Fin P)  : List (Tmp × RG.SV) := [(5, (.v (.bool true)))]
def F71f_10i (g o cap : Nat) (m : Int) (bs : Bs) (x y y2 : Fin P)  : List RG.It := [⟨some 39, [], (.v (fv x)), .stay⟩,
  ⟨some 40, [(39, 0)], (.v (.tuple #[(pv x y), (.bool true)])), .call⟩,
  ⟨some 38, [(40, 1)], (.v (.tuple #[(pv x y), (.bool true)])), .stay⟩,
  ⟨some 41, [(38, 2)], (.v (pv x y)), .stay⟩,
  ⟨some 42, [(38, 2)], (.v (.bool true)), .stay⟩,
  ⟨some 6, [], (.p 2 0), .make 2⟩,
  ⟨none, [(6, 5), (41, 3)], (.v undef), .put 2⟩,
  ⟨some 5, [(42, 4)], (.v (.bool true)), .stay⟩]
def F71f_10b (g o cap : Nat) (m : Int) (bs : Bs) (x y y2 : Fin P)  : List RG.Bl := [⟨[.int .u64 0, .int .u64 0, .int .u64 0, .int .u64 0, .int .u64 0, .int .u64 0, .int .u64 0, .int .u64 0], [.int .u64 0, .int .u64 0, .int .u64 0, .int .u64 0, .int .u64 0, .int .u64 0, .int .u64 0, .int .u64 0], none, none⟩, ⟨(ws x), (ws x), none, none⟩, ⟨[.int .u64 0, .int .u64 0, .int .u64 0, .int .u64 0, .int .u64 0, .int .u64 0, .int .u64 0, .int .u64 0], (ws x ++ (ws y)), some 5, some 6⟩]
def F71f_10o (g o cap : Nat) (m : Int) (bs : Bs) (x y y2 : Fin P)  : List (Tmp × RG.SV) := [(4, (.p 1 0))]
def F71f_11i (g o cap : Nat) (m : Int) (bs : Bs) (x y y2 : Fin P)  : List RG.It := [⟨some 43, [], (.v (.bool true)), .stay⟩,
  ⟨some 44, [(43, 0)], (.v (.bool true)), .stay⟩,
  ⟨some 45, [], (.v (.slice (some ⟨g, o, none⟩) 33 cap)), .stay⟩,
  ⟨some 46, [(45, 2)], (.v (.pointer (some ⟨g, o, none⟩))), .stay⟩,
  ⟨some 47, [(46, 3)], (.v (.int .u8 2)), .stay⟩,
  ⟨some 48, [(47, 4)], (.v (.bool false)), .stay⟩,
  ⟨some 49, [(44, 1), (48, 5)], (.v (.bool false)), .stay⟩]
def F71f_11b (g o cap : Nat) (m : Int) (bs : Bs) (x y y2 : Fin P)  : List RG.Bl := [⟨[.int .u64 0, .int .u64 0, .int .u64 0, .int .u64 0, .int .u64 0, .int .u64 0, .int .u64 0, .int .u64 0], [.int .u64 0, .int .u64 0, .int .u64 0, .int .u64 0, .int .u64 0, .int .u64 0, .int .u64 0, .int .u64 0], none, none⟩, ⟨(ws x), (ws x), none, none⟩, ⟨(ws x ++ (ws y)), (ws x ++ (ws y)), none, none⟩]
def F71f_11o (g o cap : Nat) (m : Int) (bs : Bs) (x y y2 : Fin P)  : List (Tmp × RG.SV) := [(5, (.v (.bool true))), (0, (.v (.slice (some ⟨g, o, none⟩) 33 cap)))]
def F71f_13i (g o cap : Nat) (m : Int) (bs : Bs) (x y y2 : Fin P)  : List RG.It := [⟨some 52, [], (.v (pv x y)), .stay⟩,
  ⟨some 53, [], (.v (.bool true)), .stay⟩,
  ⟨none, [(52, 0)], (.v undef), .put 0⟩,
  ⟨some 3, [(53, 1)], (.v (.bool true)), .stay⟩]
def F71f_13b (g o cap : Nat) (m : Int) (bs : Bs) (x y y2 : Fin P)  : List RG.Bl := [⟨[.int .u64 0, .int .u64 0, .int .u64 0, .int .u64 0, .int .u64 0, .int .u64 0, .int .u64 0, .int .u64 0], (ws x ++ (ws y)), none, some 2⟩, ⟨(ws x), (ws x), none, none⟩, ⟨(ws x ++ (ws y)), (ws x ++ (ws y)), none, none⟩]
def F71f_13o (g o cap : Nat) (m : Int) (bs : Bs) (x y y2 : Fin P)  : List (Tmp × RG.SV) := [(6, (.p 2 0)), (5, (.v (.bool true))), (2, (.p 0 0))]
set_option maxHeartbeats 2000000 in
set_option maxRecDepth 100000 in
theorem rp_even (C : Fld P) (g o cap : Nat) (m : Int) (bs : Bs) (x y y2 : Fin P) (w : World) (hs : bs.size = 33) (hc : 33 ≤ cap) (hg : g < w.heap.size) (hB : Holds encB w g o bs) (hz : ¬ Zero33 bs) (hm : ub bs[0]! = 2) (hx : beV (tl33 bs).toList = x.val) (hr : rt (x * x * x + 7) = some y) : Calls Try.prog 71 #[(.slice (some ⟨g, o, none⟩) 33 cap)] w (Ret fun e w' => Below w.heap.size w w' ∧ e = (.tuple #[pv x y, .bool true])) := by
  have hrg := bl33_range hB
  have hb0 : w.cell? ⟨g, o, none⟩ = some (.int .u8 2) := by
    have := (hB 0 (by rw [hs]; decide)).1
    rw [Nat.add_zero] at this
    rw [this]
    show some (Value.int .u8 (ub bs[0]!)) = _
    rw [hm]
  have hrd : ∀ w', RG.BelX w.heap.size [] w w' → Calls Try.prog 89 #[gv0, .slice (some ⟨g, o + 1, none⟩) 32 (cap - 1)] w' (Ret fun e w'' => Below w'.heap.size w' w'' ∧ e = .tuple #[fv x, .bool true]) := fun w' hb => Read_y C (tl33_size hs) (by omega) hx (Nat.lt_of_lt_of_le hg hb.size) (Holds.below (tl33_holds hs hB) hb.below hg)
  go_enter Try.func71, Try.ntmps71
  refine RG.var1 (v0 := (.slice (some ⟨g, o, none⟩) 33 cap)) (n := 54) (by kernel_rfl) (by kernel_rfl) (by kernel_rfl) ?_
  intro a0 sl0 f0
  have hS0 := RG.St.begin w
  repeat refine wp_seq ?_
  refine RG.region_text' (its := F71f_0i g o cap m bs x y y2) (bl := F71f_0b g o cap m bs x y y2) (olds := F71f_0o g o cap m bs x y y2) hS0 (RG.Reg.mk' (by rw [sl0.size]; kernel_rfl) trivial ⟨?_, ?_, trivial⟩) (by kernel_rfl) (by kernel_rfl) (RG.endB_st (by kernel_rfl)) ?_
  · exact RG.cert_alloc 0 rfl rfl _ rfl 109 rfl (fun w => by kernel_rfl)
  · exact RG.cert_stay rfl (fun μ a w _ _ => by kernel_rfl)
  intro new1 w1 hl1 hS1
  obtain ⟨j1, rfl⟩ := RG.len1 hl1
  clear hl1
  replace hS1 : RG.St w w.heap.size [] [[.int .u64 0, .int .u64 0, .int .u64 0, .int .u64 0, .int .u64 0, .int .u64 0, .int .u64 0, .int .u64 0]] [j1] w1 := hS1
  have sl1 : RG.Sl (RG.puts (RG.ad ([] ++ [j1])) (F71f_0i g o cap m bs x y y2) a0) 54 := sl0.puts
  have f0_1 := RG.put_old (μ := RG.ad ([] ++ [j1])) (its := (F71f_0i g o cap m bs x y y2)) f0 (by kernel_rfl)
  have f2_1 : (RG.puts (RG.ad ([] ++ [j1])) (F71f_0i g o cap m bs x y y2) a0).tmps[2]? = some (.pointer (some ⟨j1, 0, none⟩)) := by have h := RG.put_new (μ := RG.ad ([] ++ [j1])) (its := (F71f_0i g o cap m bs x y y2)) sl0 0 (by kernel_rfl) rfl rfl rfl; exact h
  have f3_1 : (RG.puts (RG.ad ([] ++ [j1])) (F71f_0i g o cap m bs x y y2) a0).tmps[3]? = some (.bool false) := by have h := RG.put_new (μ := RG.ad ([] ++ [j1])) (its := (F71f_0i g o cap m bs x y y2)) sl0 1 (by kernel_rfl) rfl rfl rfl; exact h
  generalize RG.puts (RG.ad ([] ++ [j1])) (F71f_0i g o cap m bs x y y2) a0 = a1 at sl1 f0_1 f2_1 f3_1 ⊢
  repeat refine wp_seq ?_
  refine RG.region_text' (its := F71f_1i g o cap m bs x y y2) (bl := F71f_1b g o cap m bs x y y2) (olds := F71f_1o g o cap m bs x y y2) hS1 (RG.Reg.mk' (by rw [sl1.size]; kernel_rfl) ⟨f0_1, trivial⟩ ⟨?_, ?_, ?_, trivial⟩) (by kernel_rfl) (by kernel_rfl) (RG.endB_st (by kernel_rfl)) ?_
  · exact RG.cert_move rfl 0 (Or.inl rfl) (fun μ a K => K.old 0 (.v (.slice (some ⟨g, o, none⟩) 33 cap)) (List.Mem.head _) (by kernel_rfl))
  · exact RG.cert_one rfl 7 (.v (.slice (some ⟨g, o, none⟩) 33 cap)) (.int .i64 33) rfl (fun μ a K => by have h := K.op 7 0 (List.Mem.head _) rfl; exact h) (fun a w => by kernel_rfl) (fun μ w => by kernel_rfl)
  · exact RG.cert_binc rfl .neq 3 3 8 (.int .i64 33) (.int .i64 33) (.bool false) rfl rfl (fun μ a K => by have h := K.op 8 1 (List.Mem.head _) rfl; exact h) (fun w => by kernel_rfl) (fun w => by kernel_rfl)
  intro new2 w2 hl2 hS2
  obtain rfl := RG.len0 hl2
  replace hS2 : RG.St w w.heap.size [] [[.int .u64 0, .int .u64 0, .int .u64 0, .int .u64 0, .int .u64 0, .int .u64 0, .int .u64 0, .int .u64 0]] [j1] w2 := hS2
  have sl2 : RG.Sl (RG.puts (RG.ad ([j1] ++ [])) (F71f_1i g o cap m bs x y y2) a1) 54 := sl1.puts
  have f0_2 := RG.put_old (μ := RG.ad ([j1] ++ [])) (its := (F71f_1i g o cap m bs x y y2)) f0_1 (by kernel_rfl)
  have f2_2 := RG.put_old (μ := RG.ad ([j1] ++ [])) (its := (F71f_1i g o cap m bs x y y2)) f2_1 (by kernel_rfl)
  have f3_2 := RG.put_old (μ := RG.ad ([j1] ++ [])) (its := (F71f_1i g o cap m bs x y y2)) f3_1 (by kernel_rfl)
  have f9_2 : (RG.puts (RG.ad ([j1] ++ [])) (F71f_1i g o cap m bs x y y2) a1).tmps[9]? = some (.bool false) := by have h := RG.put_new (μ := RG.ad ([j1] ++ [])) (its := (F71f_1i g o cap m bs x y y2)) sl1 2 (by kernel_rfl) rfl rfl rfl; exact h
  generalize RG.puts (RG.ad ([j1] ++ [])) (F71f_1i g o cap m bs x y y2) a1 = a2 at sl2 f0_2 f2_2 f3_2 f9_2 ⊢
  repeat refine wp_seq ?_
  refine wp_cond_false (RG.eval_of f9_2) ?_
  refine wp_skip ?_
  repeat refine wp_seq ?_
  refine RG.region_text' (its := F71f_3i g o cap m bs x y y2) (bl := F71f_3b g o cap m bs x y y2) (olds := F71f_3o g o cap m bs x y y2) hS2 (RG.Reg.mk' (by rw [sl2.size]; kernel_rfl) ⟨f0_2, trivial⟩ ⟨?_, ?_, ?_, ?_, ?_, trivial⟩) (by kernel_rfl) (by kernel_rfl) (RG.endB_st (by kernel_rfl)) ?_
  · exact RG.cert_move rfl 0 (Or.inl rfl) (fun μ a K => K.old 0 (.v (.slice (some ⟨g, o, none⟩) 33 cap)) (List.Mem.head _) (by kernel_rfl))
  · exact RG.cert_s2a rfl 131 11 (.slice (some ⟨g, o, none⟩) 33 cap) (.pointer (some ⟨g, o, none⟩)) rfl rfl (fun μ a K => by have h := K.op 11 0 (List.Mem.head _) rfl; exact h) (arr33 g o cap)
  · exact RG.cert_loadB rfl g o hg List.not_mem_nil 131 12 rfl (bl33 bs) rfl (fun μ a K => by have h := K.op 12 1 (List.Mem.head _) rfl; exact h) hrg u131 (by rw [bl33_length hs]; exact i131)
  · exact RG.cert_stay rfl (fun μ a w _ _ => by kernel_rfl)
  · exact RG.cert_bin rfl .eql 131 131 13 14 (.agg (bl33 bs).toArray) (.agg z33.toArray) (.bool false) rfl rfl (fun μ a K => by have h := K.op 13 2 (List.Mem.head _) rfl; exact h) (fun μ a K => by have h := K.op 14 3 (List.Mem.tail _ (List.Mem.head _)) rfl; exact h) (fun w => by kernel_rfl) (eqz_f hs hz)
  intro new3 w3 hl3 hS3
  obtain rfl := RG.len0 hl3
  replace hS3 : RG.St w w.heap.size [] [[.int .u64 0, .int .u64 0, .int .u64 0, .int .u64 0, .int .u64 0, .int .u64 0, .int .u64 0, .int .u64 0]] [j1] w3 := hS3
  have sl3 : RG.Sl (RG.puts (RG.ad ([j1] ++ [])) (F71f_3i g o cap m bs x y y2) a2) 54 := sl2.puts
  have f0_3 := RG.put_old (μ := RG.ad ([j1] ++ [])) (its := (F71f_3i g o cap m bs x y y2)) f0_2 (by kernel_rfl)
  have f2_3 := RG.put_old (μ := RG.ad ([j1] ++ [])) (its := (F71f_3i g o cap m bs x y y2)) f2_2 (by kernel_rfl)
  have f3_3 := RG.put_old (μ := RG.ad ([j1] ++ [])) (its := (F71f_3i g o cap m bs x y y2)) f3_2 (by kernel_rfl)
  have f15_3 : (RG.puts (RG.ad ([j1] ++ [])) (F71f_3i g o cap m bs x y y2) a2).tmps[15]? = some (.bool false) := by have h := RG.put_new (μ := RG.ad ([j1] ++ [])) (its := (F71f_3i g o cap m bs x y y2)) sl2 4 (by kernel_rfl) rfl rfl rfl; exact h
  generalize RG.puts (RG.ad ([j1] ++ [])) (F71f_3i g o cap m bs x y y2) a2 = a3 at sl3 f0_3 f2_3 f3_3 f15_3 ⊢
  repeat refine wp_seq ?_
  refine wp_cond_false (RG.eval_of f15_3) ?_
  refine wp_skip ?_
  repeat refine wp_seq ?_
  refine RG.region_text' (its := F71f_5i g o cap m bs x y y2) (bl := F71f_5b g o cap m bs x y y2) (olds := F71f_5o g o cap m bs x y y2) hS3 (RG.Reg.mk' (by rw [sl3.size]; kernel_rfl) ⟨f0_3, trivial⟩ ⟨?_, ?_, ?_, ?_, ?_, ?_, ?_, ?_, ?_, ?_, trivial⟩) (by kernel_rfl) (by kernel_rfl) (RG.endB_st (by kernel_rfl)) ?_
  · exact RG.cert_move rfl 0 (Or.inl rfl) (fun μ a K => K.old 0 (.v (.slice (some ⟨g, o, none⟩) 33 cap)) (List.Mem.head _) (by kernel_rfl))
  · exact RG.cert_idxc rfl 23 17 (.int .i64 0) rfl (.v (.slice (some ⟨g, o, none⟩) 33 cap)) (fun μ a K => by have h := K.op 17 0 (List.Mem.head _) rfl; exact h) (fun μ w => at23 g o 33 cap (by decide) w)
  · exact RG.cert_load1B rfl g o hg List.not_mem_nil 5 18 rfl (.int .u8 2) rfl (fun μ a K => by have h := K.op 18 1 (List.Mem.head _) rfl; exact h) hb0 u5
  · exact RG.cert_binc rfl .neq 5 5 19 (.int .u8 2) (.int .u8 2) (.bool false) rfl rfl (fun μ a K => by have h := K.op 19 2 (List.Mem.head _) rfl; exact h) (fun w => by kernel_rfl) (fun w => by kernel_rfl)
  · exact RG.cert_move rfl 20 (Or.inl rfl) (fun μ a K => by have h := K.op 20 3 (List.Mem.head _) rfl; exact h)
  · exact RG.cert_pass rfl rfl
  · exact RG.cert_pass rfl rfl
  · exact RG.cert_pass rfl rfl
  · exact RG.cert_pass rfl rfl
  · exact RG.cert_pick_f rfl 21 25 _ rfl (fun μ a K => by have h := K.op 21 4 (List.Mem.head _) rfl; exact h) rfl
  intro new4 w4 hl4 hS4
  obtain rfl := RG.len0 hl4
  replace hS4 : RG.St w w.heap.size [] [[.int .u64 0, .int .u64 0, .int .u64 0, .int .u64 0, .int .u64 0, .int .u64 0, .int .u64 0, .int .u64 0]] [j1] w4 := hS4
  have sl4 : RG.Sl (RG.puts (RG.ad ([j1] ++ [])) (F71f_5i g o cap m bs x y y2) a3) 54 := sl3.puts
  have f0_4 := RG.put_old (μ := RG.ad ([j1] ++ [])) (its := (F71f_5i g o cap m bs x y y2)) f0_3 (by kernel_rfl)
  have f2_4 := RG.put_old (μ := RG.ad ([j1] ++ [])) (its := (F71f_5i g o cap m bs x y y2)) f2_3 (by kernel_rfl)
  have f3_4 := RG.put_old (μ := RG.ad ([j1] ++ [])) (its := (F71f_5i g o cap m bs x y y2)) f3_3 (by kernel_rfl)
  have f26_4 : (RG.puts (RG.ad ([j1] ++ [])) (F71f_5i g o cap m bs x y y2) a3).tmps[26]? = some (.bool false) := by have h := RG.put_new (μ := RG.ad ([j1] ++ [])) (its := (F71f_5i g o cap m bs x y y2)) sl3 9 (by kernel_rfl) rfl rfl rfl; exact h
  generalize RG.puts (RG.ad ([j1] ++ [])) (F71f_5i g o cap m bs x y y2) a3 = a4 at sl4 f0_4 f2_4 f3_4 f26_4 ⊢
  repeat refine wp_seq ?_
  refine wp_cond_false (RG.eval_of f26_4) ?_
  refine wp_skip ?_
  repeat refine wp_seq ?_
  refine RG.region_draws' (by kernel_rfl) (its := F71f_7i g o cap m bs x y y2) (bl := F71f_7b g o cap m bs x y y2) (olds := F71f_7o g o cap m bs x y y2) hS4 (RG.Reg.mk' (by rw [sl4.size]; kernel_rfl) ⟨f0_4, trivial⟩ ⟨?_, ?_, ?_, ?_, ?_, ?_, ?_, ?_, ?_, ?_, trivial⟩) (by kernel_rfl) (by kernel_rfl) (RG.endB_st (by kernel_rfl)) ?_
  · exact RG.cert_call0 rfl 63 gv0 rfl (fun a w => by kernel_rfl) (Coordinates_c)
  · exact RG.cert_move rfl 0 (Or.inl rfl) (fun μ a K => K.old 0 (.v (.slice (some ⟨g, o, none⟩) 33 cap)) (List.Mem.head _) (by kernel_rfl))
  · exact RG.cert_slice1 rfl 23 30 (.int .i64 1) (.slice (some ⟨g, o, none⟩) 33 cap) (.slice (some ⟨g, o + 1, none⟩) 32 (cap - 1)) rfl rfl (fun μ a K => by have h := K.op 30 1 (List.Mem.head _) rfl; exact h) (sl33 g o cap hc)
  · exact RG.cert_callB2 rfl 89 29 31 gv0 (.slice (some ⟨g, o + 1, none⟩) 32 (cap - 1)) (.tuple #[(fv x), (.bool true)]) rfl (fun a w => by kernel_rfl) (fun μ a K => by have h := K.op 29 0 (List.Mem.head _) rfl; exact h) (fun μ a K => by have h := K.op 31 2 (List.Mem.tail _ (List.Mem.head _)) rfl; exact h) hrd
  · exact RG.cert_move rfl 32 (Or.inl rfl) (fun μ a K => by have h := K.op 32 3 (List.Mem.head _) rfl; exact h)
  · exact RG.cert_extract rfl 28 0 #[(fv x), (.bool true)] (fv x) rfl rfl rfl (fun μ a K => by have h := K.op 28 4 (List.Mem.head _) rfl; exact h)
  · exact RG.cert_extract rfl 28 1 #[(fv x), (.bool true)] (.bool true) rfl rfl rfl (fun μ a K => by have h := K.op 28 4 (List.Mem.head _) rfl; exact h)
  · exact RG.cert_alloc 1 rfl rfl _ rfl 85 rfl (fun w => by kernel_rfl)
  · exact RG.cert_put 1 rfl _ rfl 85 (.tmp 4) (.tmp 33) rfl rfl rfl (fun μ a K => by have h := K.op 4 7 (List.Mem.head _) rfl; exact h) (fun μ a K => by have h := K.op 33 5 (List.Mem.tail _ (List.Mem.head _)) rfl; exact h) i85 rfl
  · exact RG.cert_move rfl 34 (Or.inr rfl) (fun μ a K => by have h := K.op 34 6 (List.Mem.head _) rfl; exact h)
  intro new5 w5 hl5 hS5
  obtain ⟨j5, rfl⟩ := RG.len1 hl5
  clear hl5
  replace hS5 : RG.St w w.heap.size [] [[.int .u64 0, .int .u64 0, .int .u64 0, .int .u64 0, .int .u64 0, .int .u64 0, .int .u64 0, .int .u64 0], (ws x)] [j1, j5] w5 := hS5
  have sl5 : RG.Sl (RG.puts (RG.ad ([j1] ++ [j5])) (F71f_7i g o cap m bs x y y2) a4) 54 := sl4.puts
  have f0_5 := RG.put_old (μ := RG.ad ([j1] ++ [j5])) (its := (F71f_7i g o cap m bs x y y2)) f0_4 (by kernel_rfl)
  have f2_5 := RG.put_old (μ := RG.ad ([j1] ++ [j5])) (its := (F71f_7i g o cap m bs x y y2)) f2_4 (by kernel_rfl)
  have f3_5 := RG.put_old (μ := RG.ad ([j1] ++ [j5])) (its := (F71f_7i g o cap m bs x y y2)) f3_4 (by kernel_rfl)
  have f4_5 : (RG.puts (RG.ad ([j1] ++ [j5])) (F71f_7i g o cap m bs x y y2) a4).tmps[4]? = some (.pointer (some ⟨j5, 0, none⟩)) := by have h := RG.put_new (μ := RG.ad ([j1] ++ [j5])) (its := (F71f_7i g o cap m bs x y y2)) sl4 7 (by kernel_rfl) rfl rfl rfl; exact h
  have f5_5 : (RG.puts (RG.ad ([j1] ++ [j5])) (F71f_7i g o cap m bs x y y2) a4).tmps[5]? = some (.bool true) := by have h := RG.put_new (μ := RG.ad ([j1] ++ [j5])) (its := (F71f_7i g o cap m bs x y y2)) sl4 9 (by kernel_rfl) rfl rfl rfl; exact h
  generalize RG.puts (RG.ad ([j1] ++ [j5])) (F71f_7i g o cap m bs x y y2) a4 = a5 at sl5 f0_5 f2_5 f3_5 f4_5 f5_5 ⊢
  repeat refine wp_seq ?_
  refine RG.region_text' (its := F71f_8i g o cap m bs x y y2) (bl := F71f_8b g o cap m bs x y y2) (olds := F71f_8o g o cap m bs x y y2) hS5 (RG.Reg.mk' (by rw [sl5.size]; kernel_rfl) ⟨f5_5, trivial⟩ ⟨?_, ?_, trivial⟩) (by kernel_rfl) (by kernel_rfl) (RG.endB_st (by kernel_rfl)) ?_
  · exact RG.cert_move rfl 5 (Or.inl rfl) (fun μ a K => K.old 5 (.v (.bool true)) (List.Mem.head _) (by kernel_rfl))
  · exact RG.cert_not rfl 4 35 true rfl rfl (fun μ a K => by have h := K.op 35 0 (List.Mem.head _) rfl; exact h)
  intro new6 w6 hl6 hS6
  obtain rfl := RG.len0 hl6
  replace hS6 : RG.St w w.heap.size [] [[.int .u64 0, .int .u64 0, .int .u64 0, .int .u64 0, .int .u64 0, .int .u64 0, .int .u64 0, .int .u64 0], (ws x)] [j1, j5] w6 := hS6
  have sl6 : RG.Sl (RG.puts (RG.ad ([j1, j5] ++ [])) (F71f_8i g o cap m bs x y y2) a5) 54 := sl5.puts
  have f0_6 := RG.put_old (μ := RG.ad ([j1, j5] ++ [])) (its := (F71f_8i g o cap m bs x y y2)) f0_5 (by kernel_rfl)
  have f2_6 := RG.put_old (μ := RG.ad ([j1, j5] ++ [])) (its := (F71f_8i g o cap m bs x y y2)) f2_5 (by kernel_rfl)
  have f3_6 := RG.put_old (μ := RG.ad ([j1, j5] ++ [])) (its := (F71f_8i g o cap m bs x y y2)) f3_5 (by kernel_rfl)
  have f4_6 := RG.put_old (μ := RG.ad ([j1, j5] ++ [])) (its := (F71f_8i g o cap m bs x y y2)) f4_5 (by kernel_rfl)
  have f5_6 := RG.put_old (μ := RG.ad ([j1, j5] ++ [])) (its := (F71f_8i g o cap m bs x y y2)) f5_5 (by kernel_rfl)
  have f36_6 : (RG.puts (RG.ad ([j1, j5] ++ [])) (F71f_8i g o cap m bs x y y2) a5).tmps[36]? = some (.bool false) := by have h := RG.put_new (μ := RG.ad ([j1, j5] ++ [])) (its := (F71f_8i g o cap m bs x y y2)) sl5 1 (by kernel_rfl) rfl rfl rfl; exact h
  generalize RG.puts (RG.ad ([j1, j5] ++ [])) (F71f_8i g o cap m bs x y y2) a5 = a6 at sl6 f0_6 f2_6 f3_6 f4_6 f5_6 f36_6 ⊢
  repeat refine wp_seq ?_
  refine wp_cond_false (RG.eval_of f36_6) ?_
  refine wp_skip ?_
  repeat refine wp_seq ?_
  refine RG.region_text' (its := F71f_10i g o cap m bs x y y2) (bl := F71f_10b g o cap m bs x y y2) (olds := F71f_10o g o cap m bs x y y2) hS6 (RG.Reg.mk' (by rw [sl6.size]; kernel_rfl) ⟨f4_6, trivial⟩ ⟨?_, ?_, ?_, ?_, ?_, ?_, ?_, ?_, trivial⟩) (by kernel_rfl) (by kernel_rfl) (RG.endB_st (by kernel_rfl)) ?_
  · exact RG.cert_load rfl 1 0 _ rfl rfl (by kernel_rfl) 85 4 rfl (ws x) rfl (fun μ a K => K.old 4 (.p 1 0) (List.Mem.head _) (by kernel_rfl)) (by kernel_rfl) u85 i85
  · exact RG.cert_call1 rfl 99 39 (fv x) (.tuple #[(pv x y), (.bool true)]) rfl (fun a w => by kernel_rfl) (fun μ a K => by have h := K.op 39 0 (List.Mem.head _) rfl; exact h) (above_y_c C x y hr)
  · exact RG.cert_move rfl 40 (Or.inl rfl) (fun μ a K => by have h := K.op 40 1 (List.Mem.head _) rfl; exact h)
  · exact RG.cert_extract rfl 38 0 #[(pv x y), (.bool true)] (pv x y) rfl rfl rfl (fun μ a K => by have h := K.op 38 2 (List.Mem.head _) rfl; exact h)
  · exact RG.cert_extract rfl 38 1 #[(pv x y), (.bool true)] (.bool true) rfl rfl rfl (fun μ a K => by have h := K.op 38 2 (List.Mem.head _) rfl; exact h)
  · exact RG.cert_alloc 2 rfl rfl _ rfl 109 rfl (fun w => by kernel_rfl)
  · exact RG.cert_put 2 rfl _ rfl 109 (.tmp 6) (.tmp 41) rfl rfl rfl (fun μ a K => by have h := K.op 6 5 (List.Mem.head _) rfl; exact h) (fun μ a K => by have h := K.op 41 3 (List.Mem.tail _ (List.Mem.head _)) rfl; exact h) i109 rfl
  · exact RG.cert_move rfl 42 (Or.inr rfl) (fun μ a K => by have h := K.op 42 4 (List.Mem.head _) rfl; exact h)
  intro new7 w7 hl7 hS7
  obtain ⟨j7, rfl⟩ := RG.len1 hl7
  clear hl7
  replace hS7 : RG.St w w.heap.size [] [[.int .u64 0, .int .u64 0, .int .u64 0, .int .u64 0, .int .u64 0, .int .u64 0, .int .u64 0, .int .u64 0], (ws x), (ws x ++ (ws y))] [j1, j5, j7] w7 := hS7
  have sl7 : RG.Sl (RG.puts (RG.ad ([j1, j5] ++ [j7])) (F71f_10i g o cap m bs x y y2) a6) 54 := sl6.puts
  have f0_7 := RG.put_old (μ := RG.ad ([j1, j5] ++ [j7])) (its := (F71f_10i g o cap m bs x y y2)) f0_6 (by kernel_rfl)
  have f2_7 := RG.put_old (μ := RG.ad ([j1, j5] ++ [j7])) (its := (F71f_10i g o cap m bs x y y2)) f2_6 (by kernel_rfl)
  have f3_7 := RG.put_old (μ := RG.ad ([j1, j5] ++ [j7])) (its := (F71f_10i g o cap m bs x y y2)) f3_6 (by kernel_rfl)
  have f5_7 : (RG.puts (RG.ad ([j1, j5] ++ [j7])) (F71f_10i g o cap m bs x y y2) a6).tmps[5]? = some (.bool true) := by have h := RG.put_new (μ := RG.ad ([j1, j5] ++ [j7])) (its := (F71f_10i g o cap m bs x y y2)) sl6 7 (by kernel_rfl) rfl rfl rfl; exact h
  have f6_7 : (RG.puts (RG.ad ([j1, j5] ++ [j7])) (F71f_10i g o cap m bs x y y2) a6).tmps[6]? = some (.pointer (some ⟨j7, 0, none⟩)) := by have h := RG.put_new (μ := RG.ad ([j1, j5] ++ [j7])) (its := (F71f_10i g o cap m bs x y y2)) sl6 5 (by kernel_rfl) rfl rfl rfl; exact h
  generalize RG.puts (RG.ad ([j1, j5] ++ [j7])) (F71f_10i g o cap m bs x y y2) a6 = a7 at sl7 f0_7 f2_7 f3_7 f5_7 f6_7 ⊢
  repeat refine wp_seq ?_
  refine RG.region_text' (its := F71f_11i g o cap m bs x y y2) (bl := F71f_11b g o cap m bs x y y2) (olds := F71f_11o g o cap m bs x y y2) hS7 (RG.Reg.mk' (by rw [sl7.size]; kernel_rfl) ⟨f5_7, f0_7, trivial⟩ ⟨?_, ?_, ?_, ?_, ?_, ?_, ?_, trivial⟩) (by kernel_rfl) (by kernel_rfl) (RG.endB_st (by kernel_rfl)) ?_
  · exact RG.cert_move rfl 5 (Or.inl rfl) (fun μ a K => K.old 5 (.v (.bool true)) (List.Mem.head _) (by kernel_rfl))
  · exact RG.cert_move rfl 43 (Or.inl rfl) (fun μ a K => by have h := K.op 43 0 (List.Mem.head _) rfl; exact h)
  · exact RG.cert_move rfl 0 (Or.inl rfl) (fun μ a K => K.old 0 (.v (.slice (some ⟨g, o, none⟩) 33 cap)) (List.Mem.tail _ (List.Mem.head _)) (by kernel_rfl))
  · exact RG.cert_idxc rfl 23 45 (.int .i64 0) rfl (.v (.slice (some ⟨g, o, none⟩) 33 cap)) (fun μ a K => by have h := K.op 45 2 (List.Mem.head _) rfl; exact h) (fun μ w => at23 g o 33 cap (by decide) w)
  · exact RG.cert_load1B rfl g o hg List.not_mem_nil 5 46 rfl (.int .u8 2) rfl (fun μ a K => by have h := K.op 46 3 (List.Mem.head _) rfl; exact h) hb0 u5
  · exact RG.cert_binc rfl .eql 5 5 47 (.int .u8 2) (.int .u8 3) (.bool false) rfl rfl (fun μ a K => by have h := K.op 47 4 (List.Mem.head _) rfl; exact h) (fun w => by kernel_rfl) (fun w => by kernel_rfl)
  · exact RG.cert_pick_t rfl 44 48 _ rfl (fun μ a K => by have h := K.op 44 1 (List.Mem.head _) rfl; exact h) (fun μ a K => by have h := K.op 48 5 (List.Mem.tail _ (List.Mem.head _)) rfl; exact h)
  intro new8 w8 hl8 hS8
  obtain rfl := RG.len0 hl8
  replace hS8 : RG.St w w.heap.size [] [[.int .u64 0, .int .u64 0, .int .u64 0, .int .u64 0, .int .u64 0, .int .u64 0, .int .u64 0, .int .u64 0], (ws x), (ws x ++ (ws y))] [j1, j5, j7] w8 := hS8
  have sl8 : RG.Sl (RG.puts (RG.ad ([j1, j5, j7] ++ [])) (F71f_11i g o cap m bs x y y2) a7) 54 := sl7.puts
  have f2_8 := RG.put_old (μ := RG.ad ([j1, j5, j7] ++ [])) (its := (F71f_11i g o cap m bs x y y2)) f2_7 (by kernel_rfl)
  have f3_8 := RG.put_old (μ := RG.ad ([j1, j5, j7] ++ [])) (its := (F71f_11i g o cap m bs x y y2)) f3_7 (by kernel_rfl)
  have f5_8 := RG.put_old (μ := RG.ad ([j1, j5, j7] ++ [])) (its := (F71f_11i g o cap m bs x y y2)) f5_7 (by kernel_rfl)
  have f6_8 := RG.put_old (μ := RG.ad ([j1, j5, j7] ++ [])) (its := (F71f_11i g o cap m bs x y y2)) f6_7 (by kernel_rfl)
  have f49_8 : (RG.puts (RG.ad ([j1, j5, j7] ++ [])) (F71f_11i g o cap m bs x y y2) a7).tmps[49]? = some (.bool false) := by have h := RG.put_new (μ := RG.ad ([j1, j5, j7] ++ [])) (its := (F71f_11i g o cap m bs x y y2)) sl7 6 (by kernel_rfl) rfl rfl rfl; exact h
  generalize RG.puts (RG.ad ([j1, j5, j7] ++ [])) (F71f_11i g o cap m bs x y y2) a7 = a8 at sl8 f2_8 f3_8 f5_8 f6_8 f49_8 ⊢
  repeat refine wp_seq ?_
  refine wp_cond_false (RG.eval_of f49_8) ?_
  refine wp_skip ?_
  repeat refine wp_seq ?_
  refine RG.region_text' (its := F71f_13i g o cap m bs x y y2) (bl := F71f_13b g o cap m bs x y y2) (olds := F71f_13o g o cap m bs x y y2) hS8 (RG.Reg.mk' (by rw [sl8.size]; kernel_rfl) ⟨f6_8, f5_8, f2_8, trivial⟩ ⟨?_, ?_, ?_, ?_, trivial⟩) (by kernel_rfl) (by kernel_rfl) (RG.endB_st (by kernel_rfl)) ?_
  · exact RG.cert_load rfl 2 0 _ rfl rfl (by kernel_rfl) 109 6 rfl (ws x ++ (ws y)) rfl (fun μ a K => K.old 6 (.p 2 0) (List.Mem.head _) (by kernel_rfl)) (by kernel_rfl) u109 i109
  · exact RG.cert_move rfl 5 (Or.inl rfl) (fun μ a K => K.old 5 (.v (.bool true)) (List.Mem.tail _ (List.Mem.head _)) (by kernel_rfl))
  · exact RG.cert_put 0 rfl _ rfl 109 (.tmp 2) (.tmp 52) rfl rfl rfl (fun μ a K => K.old 2 (.p 0 0) (List.Mem.tail _ (List.Mem.tail _ (List.Mem.head _))) (by kernel_rfl)) (fun μ a K => by have h := K.op 52 0 (List.Mem.head _) rfl; exact h) i109 rfl
  · exact RG.cert_move rfl 53 (Or.inr rfl) (fun μ a K => by have h := K.op 53 1 (List.Mem.head _) rfl; exact h)
  intro new9 w9 hl9 hS9
  obtain rfl := RG.len0 hl9
  replace hS9 : RG.St w w.heap.size [] [(ws x ++ (ws y)), (ws x), (ws x ++ (ws y))] [j1, j5, j7] w9 := hS9
  have sl9 : RG.Sl (RG.puts (RG.ad ([j1, j5, j7] ++ [])) (F71f_13i g o cap m bs x y y2) a8) 54 := sl8.puts
  have f2_9 := RG.put_old (μ := RG.ad ([j1, j5, j7] ++ [])) (its := (F71f_13i g o cap m bs x y y2)) f2_8 (by kernel_rfl)
  have f3_9 : (RG.puts (RG.ad ([j1, j5, j7] ++ [])) (F71f_13i g o cap m bs x y y2) a8).tmps[3]? = some (.bool true) := by have h := RG.put_new (μ := RG.ad ([j1, j5, j7] ++ [])) (its := (F71f_13i g o cap m bs x y y2)) sl8 3 (by kernel_rfl) rfl rfl rfl; exact h
  generalize RG.puts (RG.ad ([j1, j5, j7] ++ [])) (F71f_13i g o cap m bs x y y2) a8 = a9 at sl9 f2_9 f3_9 ⊢
  refine wp_ret ?_
  refine bodyPost_ret (v := (.tuple #[(pv x y), (.bool true)])) (RG.results_rt hS9 2 3 109 rfl 0 _ rfl f2_9 _ f3_9 u109 i109) sl9.defers ?_
  exact ⟨_, rfl, hS9.bel.below, rfl⟩

def F71d3_0i (g o cap : Nat) (m : Int) (bs : Bs) (x y y2 : Fin P)  : List RG.It := [⟨some 2, [], (.p 0 0), .make 0⟩,
  ⟨some 3, [], (.v (.bool false)), .stay⟩]
def F71d3_0b (g o cap : Nat) (m : Int) (bs : Bs) (x y y2 : Fin P)  : List RG.Bl := [⟨[.int .u64 0, .int .u64 0, .int .u64 0, .int .u64 0, .int .u64 0, .int .u64 0, .int .u64 0, .int .u64 0], [.int .u64 0, .int .u64 0, .int .u64 0, .int .u64 0, .int .u64 0, .int .u64 0, .int .u64 0, .int .u64 0], some 0, none⟩]
def F71d3_0o (g o cap : Nat) (m : Int) (bs : Bs) (x y y2 : Fin P)  : List (Tmp × RG.SV) := []
def F71d3_1i (g o cap : Nat) (m : Int) (bs : Bs) (x y y2 : Fin P)  : List RG.It := [⟨some 7, [], (.v (.slice (some ⟨g, o, none⟩) 33 cap)), .stay⟩,
  ⟨some 8, [(7, 0)], (.v (.int .i64 33)), .stay⟩,
  ⟨some 9, [(8, 1)], (.v (.bool false)), .stay⟩]
def F71d3_1b (g o cap : Nat) (m : Int) (bs : Bs) (x y y2 : Fin P)  : List RG.Bl := [⟨[.int .u64 0, .int .u64 0, .int .u64 0, .int .u64 0, .int .u64 0, .int .u64 0, .int .u64 0, .int .u64 0], [.int .u64 0, .int .u64 0, .int .u64 0, .int .u64 0, .int .u64 0, .int .u64 0, .int .u64 0, .int .u64 0], none, none⟩]
def F71d3_1o (g o cap : Nat) (m : Int) (bs : Bs) (x y y2 : Fin P)  : List (Tmp × RG.SV) := [(0, (.v (.slice (some ⟨g, o, none⟩) 33 cap)))]
def F71d3_3i (g o cap : Nat) (m : Int) (bs : Bs) (x y y2 : Fin P)  : List RG.It := [⟨some 11, [], (.v (.slice (some ⟨g, o, none⟩) 33 cap)), .stay⟩,
  ⟨some 12, [(11, 0)], (.v (.pointer (some ⟨g, o, none⟩))), .stay⟩,
  ⟨some 13, [(12, 1)], (.v (.agg (bl33 bs).toArray)), .stay⟩,
  ⟨some 14, [], (.v (.agg z33.toArray)), .stay⟩,
  ⟨some 15, [(13, 2), (14, 3)], (.v (.bool false)), .stay⟩]
def F71d3_3b (g o cap : Nat) (m : Int) (bs : Bs) (x y y2 : Fin P)  : List RG.Bl := [⟨[.int .u64 0, .int .u64 0, .int .u64 0, .int .u64 0, .int .u64 0, .int .u64 0, .int .u64 0, .int .u64 0], [.int .u64 0, .int .u64 0, .int .u64 0, .int .u64 0, .int .u64 0, .int .u64 0, .int .u64 0, .int .u64 0], none, none⟩]
def F71d3_3o (g o cap : Nat) (m : Int) (bs : Bs) (x y y2 : Fin P)  : List (Tmp × RG.SV) := [(0, (.v (.slice (some ⟨g, o, none⟩) 33 cap)))]
def F71d3_5i (g o cap : Nat) (m : Int) (bs : Bs) (x y y2 : Fin P)  : List RG.It := [⟨some 17, [], (.v (.slice (some ⟨g, o, none⟩) 33 cap)), .stay⟩,
  ⟨some 18, [(17, 0)], (.v (.pointer (some ⟨g, o, none⟩))), .stay⟩,
  ⟨some 19, [(18, 1)], (.v (.int .u8 3)), .stay⟩,
  ⟨some 20, [(19, 2)], (.v (.bool true)), .stay⟩,
  ⟨some 21, [(20, 3)], (.v (.bool true)), .stay⟩,
  ⟨some 22, [], (.v (.slice (some ⟨g, o, none⟩) 33 cap)), .stay⟩,
  ⟨some 23, [(22, 5)], (.v (.pointer (some ⟨g, o, none⟩))), .stay⟩,
  ⟨some 24, [(23, 6)], (.v (.int .u8 3)), .stay⟩,
  ⟨some 25, [(24, 7)], (.v (.bool false)), .stay⟩,
  ⟨some 26, [(21, 4), (25, 8)], (.v (.bool false)), .stay⟩]
def F71d3_5b (g o cap : Nat) (m : Int) (bs : Bs) (x y y2 : Fin P)  : List RG.Bl := [⟨[.int .u64 0, .int .u64 0, .int .u64 0, .int .u64 0, .int .u64 0, .int .u64 0, .int .u64 0, .int .u64 0], [.int .u64 0, .int .u64 0, .int .u64 0, .int .u64 0, .int .u64 0, .int .u64 0, .int .u64 0, .int .u64 0], none, none⟩]
def F71d3_5o (g o cap : Nat) (m : Int) (bs : Bs) (x y y2 : Fin P)  : List (Tmp × RG.SV) := [(0, (.v (.slice (some ⟨g, o, none⟩) 33 cap)))]
def F71d3_7i (g o cap : Nat) (m : Int) (bs : Bs) (x y y2 : Fin P)  : List RG.It := [⟨some 29, [], (.v gv0), .call⟩,
  ⟨some 30, [], (.v (.slice (some ⟨g, o, none⟩) 33 cap)), .stay⟩,
  ⟨some 31, [(30, 1)], (.v (.slice (some ⟨g, o + 1, none⟩) 32 (cap - 1))), .stay⟩,
  ⟨some 32, [(29, 0), (31, 2)], (.v (.tuple #[(fv (0 : Fin P)), (.bool false)])), .call⟩,
  ⟨some 28, [(32, 3)], (.v (.tuple #[(fv (0 : Fin P)), (.bool false)])), .stay⟩,
  ⟨some 33, [(28, 4)], (.v (fv (0 : Fin P))), .stay⟩,
  ⟨some 34, [(28, 4)], (.v (.bool false)), .stay⟩,
  ⟨some 4, [], (.p 1 0), .make 1⟩,
  ⟨none, [(4, 7), (33, 5)], (.v undef), .put 1⟩,
  ⟨some 5, [(34, 6)], (.v (.bool false)), .stay⟩]
def F71d3_7b (g o cap : Nat) (m : Int) (bs : Bs) (x y y2 : Fin P)  : List RG.Bl := [⟨[.int .u64 0, .int .u64 0, .int .u64 0, .int .u64 0, .int .u64 0, .int .u64 0, .int .u64 0, .int .u64 0], [.int .u64 0, .int .u64 0, .int .u64 0, .int .u64 0, .int .u64 0, .int .u64 0, .int .u64 0, .int .u64 0], none, none⟩, ⟨[.int .u64 0, .int .u64 0, .int .u64 0, .int .u64 0], (ws (0 : Fin P)), some 7, some 8⟩]
def F71d3_7o (g o cap : Nat) (m : Int) (bs : Bs) (x y y2 : Fin P)  : List (Tmp × RG.SV) := [(0, (.v (.slice (some ⟨g, o, none⟩) 33 cap)))]
def F71d3_8i (g o cap : Nat) (m : Int) (bs : Bs) (x y y2 : Fin P)  : List RG.It := [⟨some 35, [], (.v (.bool false)), .stay⟩,
  ⟨some 36, [(35, 0)], (.v (.bool true)), .stay⟩]
def F71d3_8b (g o cap : Nat) (m : Int) (bs : Bs) (x y y2 : Fin P)  : List RG.Bl := [⟨[.int .u64 0, .int .u64 0, .int .u64 0, .int .u64 0, .int .u64 0, .int .u64 0, .int .u64 0, .int .u64 0], [.int .u64 0, .int .u64 0, .int .u64 0, .int .u64 0, .int .u64 0, .int .u64 0, .int .u64 0, .int .u64 0], none, none⟩, ⟨(ws (0 : Fin P)), (ws (0 : Fin P)), none, none⟩]
def F71d3_8o (g o cap : Nat) (m : Int) (bs : Bs) (x y y2 : Fin P)  : List (Tmp × RG.SV) := [(5, (.v (.bool false)))]
def F71d3_9i (g o cap : Nat) (m : Int) (bs : Bs) (x y y2 : Fin P)  : List RG.It := [⟨some 37, [], (.v (pv (0 : Fin P) (0 : Fin P))), .stay⟩,
  ⟨none, [(37, 0)], (.v undef), .put 0⟩,
  ⟨some 3, [], (.v (.bool false)), .stay⟩]
def F71d3_9b (g o cap : Nat) (m : Int) (bs : Bs) (x y y2 : Fin P)  : List RG.Bl := [⟨[.int .u64 0, .int .u64 0, .int .u64 0, .int .u64 0, .int .u64 0, .int .u64 0, .int .u64 0, .int .u64 0], (ws (0 : Fin P) ++ (ws (0 : Fin P))), none, some 1⟩, ⟨(ws (0 : Fin P)), (ws (0 : Fin P)), none, none⟩]
def F71d3_9o (g o cap : Nat) (m : Int) (bs : Bs) (x y y2 : Fin P)  : List (Tmp × RG.SV) := [(2, (.p 0 0))]
set_option maxHeartbeats 2000000 in
set_option maxRecDepth 100000 in
theorem rp_num3 (C : Fld P) (g o cap : Nat) (m : Int) (bs : Bs) (x y y2 : Fin P) (w : World) (hs : bs.size = 33) (hc : 33 ≤ cap) (hg : g < w.heap.size) (hB : Holds encB w g o bs) (hz : ¬ Zero33 bs) (hm : ub bs[0]! = 3) (hx : ¬ beV (tl33 bs).toList < P) : Calls Try.prog 71 #[(.slice (some ⟨g, o, none⟩) 33 cap)] w (Ret fun e w' => Below w.heap.size w w' ∧ e = (.tuple #[pv (0 : Fin P) 0, .bool false])) := by
  have hrg := bl33_range hB
  have hb0 : w.cell? ⟨g, o, none⟩ = some (.int .u8 3) := by
    have := (hB 0 (by rw [hs]; decide)).1
    rw [Nat.add_zero] at this
    rw [this]
    show some (Value.int .u8 (ub bs[0]!)) = _
    rw [hm]
  have hrd : ∀ w', RG.BelX w.heap.size [] w w' → Calls Try.prog 89 #[gv0, .slice (some ⟨g, o + 1, none⟩) 32 (cap - 1)] w' (Ret fun e w'' => Below w'.heap.size w' w'' ∧ e = .tuple #[fv (0 : Fin P), .bool false]) := fun w' hb => Read_n C (tl33_size hs) (by omega) hx (Nat.lt_of_lt_of_le hg hb.size) (Holds.below (tl33_holds hs hB) hb.below hg)
  go_enter Try.func71, Try.ntmps71
  refine RG.var1 (v0 := (.slice (some ⟨g, o, none⟩) 33 cap)) (n := 54) (by kernel_rfl) (by kernel_rfl) (by kernel_rfl) ?_
  intro a0 sl0 f0
  have hS0 := RG.St.begin w
  repeat refine wp_seq ?_
  refine RG.region_text' (its := F71d3_0i g o cap m bs x y y2) (bl := F71d3_0b g o cap m bs x y y2) (olds := F71d3_0o g o cap m bs x y y2) hS0 (RG.Reg.mk' (by rw [sl0.size]; kernel_rfl) trivial ⟨?_, ?_, trivial⟩) (by kernel_rfl) (by kernel_rfl) (RG.endB_st (by kernel_rfl)) ?_
  · exact RG.cert_alloc 0 rfl rfl _ rfl 109 rfl (fun w => by kernel_rfl)
  · exact RG.cert_stay rfl (fun μ a w _ _ => by kernel_rfl)
  intro new1 w1 hl1 hS1
  obtain ⟨j1, rfl⟩ := RG.len1 hl1
  clear hl1
  replace hS1 : RG.St w w.heap.size [] [[.int .u64 0, .int .u64 0, .int .u64 0, .int .u64 0, .int .u64 0, .int .u64 0, .int .u64 0, .int .u64 0]] [j1] w1 := hS1
  have sl1 : RG.Sl (RG.puts (RG.ad ([] ++ [j1])) (F71d3_0i g o cap m bs x y y2) a0) 54 := sl0.puts
  have f0_1 := RG.put_old (μ := RG.ad ([] ++ [j1])) (its := (F71d3_0i g o cap m bs x y y2)) f0 (by kernel_rfl)
  have f2_1 : (RG.puts (RG.ad ([] ++ [j1])) (F71d3_0i g o cap m bs x y y2) a0).tmps[2]? = some (.pointer (some ⟨j1, 0, none⟩)) := by have h := RG.put_new (μ := RG.ad ([] ++ [j1])) (its := (F71d3_0i g o cap m bs x y y2)) sl0 0 (by kernel_rfl) rfl rfl rfl; exact h
  have f3_1 : (RG.puts (RG.ad ([] ++ [j1])) (F71d3_0i g o cap m bs x y y2) a0).tmps[3]? = some (.bool false) := by have h := RG.put_new (μ := RG.ad ([] ++ [j1])) (its := (F71d3_0i g o cap m bs x y y2)) sl0 1 (by kernel_rfl) rfl rfl rfl; exact h
  generalize RG.puts (RG.ad ([] ++ [j1])) (F71d3_0i g o cap m bs x y y2) a0 = a1 at sl1 f0_1 f2_1 f3_1 ⊢
  repeat refine wp_seq ?_
  refine RG.region_text' (its := F71d3_1i g o cap m bs x y y2) (bl := F71d3_1b g o cap m bs x y y2) (olds := F71d3_1o g o cap m bs x y y2) hS1 (RG.Reg.mk' (by rw [sl1.size]; kernel_rfl) ⟨f0_1, trivial⟩ ⟨?_, ?_, ?_, trivial⟩) (by kernel_rfl) (by kernel_rfl) (RG.endB_st (by kernel_rfl)) ?_
  · exact RG.cert_move rfl 0 (Or.inl rfl) (fun μ a K => K.old 0 (.v (.slice (some ⟨g, o, none⟩) 33 cap)) (List.Mem.head _) (by kernel_rfl))
  · exact RG.cert_one rfl 7 (.v (.slice (some ⟨g, o, none⟩) 33 cap)) (.int .i64 33) rfl (fun μ a K => by have h := K.op 7 0 (List.Mem.head _) rfl; exact h) (fun a w => by kernel_rfl) (fun μ w => by kernel_rfl)
  · exact RG.cert_binc rfl .neq 3 3 8 (.int .i64 33) (.int .i64 33) (.bool false) rfl rfl (fun μ a K => by have h := K.op 8 1 (List.Mem.head _) rfl; exact h) (fun w => by kernel_rfl) (fun w => by kernel_rfl)
  intro new2 w2 hl2 hS2
  obtain rfl := RG.len0 hl2
  replace hS2 : RG.St w w.heap.size [] [[.int .u64 0, .int .u64 0, .int .u64 0, .int .u64 0, .int .u64 0, .int .u64 0, .int .u64 0, .int .u64 0]] [j1] w2 := hS2
  have sl2 : RG.Sl (RG.puts (RG.ad ([j1] ++ [])) (F71d3_1i g o cap m bs x y y2) a1) 54 := sl1.puts
  have f0_2 := RG.put_old (μ := RG.ad ([j1] ++ [])) (its := (F71d3_1i g o cap m bs x y y2)) f0_1 (by kernel_rfl)
  have f2_2 := RG.put_old (μ := RG.ad ([j1] ++ [])) (its := (F71d3_1i g o cap m bs x y y2)) f2_1 (by kernel_rfl)
  have f3_2 := RG.put_old (μ := RG.ad ([j1] ++ [])) (its := (F71d3_1i g o cap m bs x y y2)) f3_1 (by kernel_rfl)
  have f9_2 : (RG.puts (RG.ad ([j1] ++ [])) (F71d3_1i g o cap m bs x y y2) a1).tmps[9]? = some (.bool false) := by have h := RG.put_new (μ := RG.ad ([j1] ++ [])) (its := (F71d3_1i g o cap m bs x y y2)) sl1 2 (by kernel_rfl) rfl rfl rfl; exact h
  generalize RG.puts (RG.ad ([j1] ++ [])) (F71d3_1i g o cap m bs x y y2) a1 = a2 at sl2 f0_2 f2_2 f3_2 f9_2 ⊢
  repeat refine wp_seq ?_
  refine wp_cond_false (RG.eval_of f9_2) ?_
  refine wp_skip ?_
  repeat refine wp_seq ?_
  refine RG.region_text' (its := F71d3_3i g o cap m bs x y y2) (bl := F71d3_3b g o cap m bs x y y2) (olds := F71d3_3o g o cap m bs x y y2) hS2 (RG.Reg.mk' (by rw [sl2.size]; kernel_rfl) ⟨f0_2, trivial⟩ ⟨?_, ?_, ?_, ?_, ?_, trivial⟩) (by kernel_rfl) (by kernel_rfl) (RG.endB_st (by kernel_rfl)) ?_
  · exact RG.cert_move rfl 0 (Or.inl rfl) (fun μ a K => K.old 0 (.v (.slice (some ⟨g, o, none⟩) 33 cap)) (List.Mem.head _) (by kernel_rfl))
  · exact RG.cert_s2a rfl 131 11 (.slice (some ⟨g, o, none⟩) 33 cap) (.pointer (some ⟨g, o, none⟩)) rfl rfl (fun μ a K => by have h := K.op 11 0 (List.Mem.head _) rfl; exact h) (arr33 g o cap)
  · exact RG.cert_loadB rfl g o hg List.not_mem_nil 131 12 rfl (bl33 bs) rfl (fun μ a K => by have h := K.op 12 1 (List.Mem.head _) rfl; exact h) hrg u131 (by rw [bl33_length hs]; exact i131)
  · exact RG.cert_stay rfl (fun μ a w _ _ => by kernel_rfl)
  · exact RG.cert_bin rfl .eql 131 131 13 14 (.agg (bl33 bs).toArray) (.agg z33.toArray) (.bool false) rfl rfl (fun μ a K => by have h := K.op 13 2 (List.Mem.head _) rfl; exact h) (fun μ a K => by have h := K.op 14 3 (List.Mem.tail _ (List.Mem.head _)) rfl; exact h) (fun w => by kernel_rfl) (eqz_f hs hz)
  intro new3 w3 hl3 hS3
  obtain rfl := RG.len0 hl3
  replace hS3 : RG.St w w.heap.size [] [[.int .u64 0, .int .u64 0, .int .u64 0, .int .u64 0, .int .u64 0, .int .u64 0, .int .u64 0, .int .u64 0]] [j1] w3 := hS3
  have sl3 : RG.Sl (RG.puts (RG.ad ([j1] ++ [])) (F71d3_3i g o cap m bs x y y2) a2) 54 := sl2.puts
  have f0_3 := RG.put_old (μ := RG.ad ([j1] ++ [])) (its := (F71d3_3i g o cap m bs x y y2)) f0_2 (by kernel_rfl)
  have f2_3 := RG.put_old (μ := RG.ad ([j1] ++ [])) (its := (F71d3_3i g o cap m bs x y y2)) f2_2 (by kernel_rfl)
  have f3_3 := RG.put_old (μ := RG.ad ([j1] ++ [])) (its := (F71d3_3i g o cap m bs x y y2)) f3_2 (by kernel_rfl)
  have f15_3 : (RG.puts (RG.ad ([j1] ++ [])) (F71d3_3i g o cap m bs x y y2) a2).tmps[15]? = some (.bool false) := by have h := RG.put_new (μ := RG.ad ([j1] ++ [])) (its := (F71d3_3i g o cap m bs x y y2)) sl2 4 (by kernel_rfl) rfl rfl rfl; exact h
  generalize RG.puts (RG.ad ([j1] ++ [])) (F71d3_3i g o cap m bs x y y2) a2 = a3 at sl3 f0_3 f2_3 f3_3 f15_3 ⊢
  repeat refine wp_seq ?_
  refine wp_cond_false (RG.eval_of f15_3) ?_
  refine wp_skip ?_
  repeat refine wp_seq ?_
  refine RG.region_text' (its := F71d3_5i g o cap m bs x y y2) (bl := F71d3_5b g o cap m bs x y y2) (olds := F71d3_5o g o cap m bs x y y2) hS3 (RG.Reg.mk' (by rw [sl3.size]; kernel_rfl) ⟨f0_3, trivial⟩ ⟨?_, ?_, ?_, ?_, ?_, ?_, ?_, ?_, ?_, ?_, trivial⟩) (by kernel_rfl) (by kernel_rfl) (RG.endB_st (by kernel_rfl)) ?_
  · exact RG.cert_move rfl 0 (Or.inl rfl) (fun μ a K => K.old 0 (.v (.slice (some ⟨g, o, none⟩) 33 cap)) (List.Mem.head _) (by kernel_rfl))
  · exact RG.cert_idxc rfl 23 17 (.int .i64 0) rfl (.v (.slice (some ⟨g, o, none⟩) 33 cap)) (fun μ a K => by have h := K.op 17 0 (List.Mem.head _) rfl; exact h) (fun μ w => at23 g o 33 cap (by decide) w)
  · exact RG.cert_load1B rfl g o hg List.not_mem_nil 5 18 rfl (.int .u8 3) rfl (fun μ a K => by have h := K.op 18 1 (List.Mem.head _) rfl; exact h) hb0 u5
  · exact RG.cert_binc rfl .neq 5 5 19 (.int .u8 3) (.int .u8 2) (.bool true) rfl rfl (fun μ a K => by have h := K.op 19 2 (List.Mem.head _) rfl; exact h) (fun w => by kernel_rfl) (fun w => by kernel_rfl)
  · exact RG.cert_move rfl 20 (Or.inl rfl) (fun μ a K => by have h := K.op 20 3 (List.Mem.head _) rfl; exact h)
  · exact RG.cert_move rfl 0 (Or.inl rfl) (fun μ a K => K.old 0 (.v (.slice (some ⟨g, o, none⟩) 33 cap)) (List.Mem.head _) (by kernel_rfl))
  · exact RG.cert_idxc rfl 23 22 (.int .i64 0) rfl (.v (.slice (some ⟨g, o, none⟩) 33 cap)) (fun μ a K => by have h := K.op 22 5 (List.Mem.head _) rfl; exact h) (fun μ w => at23 g o 33 cap (by decide) w)
  · exact RG.cert_load1B rfl g o hg List.not_mem_nil 5 23 rfl (.int .u8 3) rfl (fun μ a K => by have h := K.op 23 6 (List.Mem.head _) rfl; exact h) hb0 u5
  · exact RG.cert_binc rfl .neq 5 5 24 (.int .u8 3) (.int .u8 3) (.bool false) rfl rfl (fun μ a K => by have h := K.op 24 7 (List.Mem.head _) rfl; exact h) (fun w => by kernel_rfl) (fun w => by kernel_rfl)
  · exact RG.cert_pick_t rfl 21 25 _ rfl (fun μ a K => by have h := K.op 21 4 (List.Mem.head _) rfl; exact h) (fun μ a K => by have h := K.op 25 8 (List.Mem.tail _ (List.Mem.head _)) rfl; exact h)
  intro new4 w4 hl4 hS4
  obtain rfl := RG.len0 hl4
  replace hS4 : RG.St w w.heap.size [] [[.int .u64 0, .int .u64 0, .int .u64 0, .int .u64 0, .int .u64 0, .int .u64 0, .int .u64 0, .int .u64 0]] [j1] w4 := hS4
  have sl4 : RG.Sl (RG.puts (RG.ad ([j1] ++ [])) (F71d3_5i g o cap m bs x y y2) a3) 54 := sl3.puts
  have f0_4 := RG.put_old (μ := RG.ad ([j1] ++ [])) (its := (F71d3_5i g o cap m bs x y y2)) f0_3 (by kernel_rfl)
  have f2_4 := RG.put_old (μ := RG.ad ([j1] ++ [])) (its := (F71d3_5i g o cap m bs x y y2)) f2_3 (by kernel_rfl)
  have f3_4 := RG.put_old (μ := RG.ad ([j1] ++ [])) (its := (F71d3_5i g o cap m bs x y y2)) f3_3 (by kernel_rfl)
  have f26_4 : (RG.puts (RG.ad ([j1] ++ [])) (F71d3_5i g o cap m bs x y y2) a3).tmps[26]? = some (.bool false) := by have h := RG.put_new (μ := RG.ad ([j1] ++ [])) (its := (F71d3_5i g o cap m bs x y y2)) sl3 9 (by kernel_rfl) rfl rfl rfl; exact h
  generalize RG.puts (RG.ad ([j1] ++ [])) (F71d3_5i g o cap m bs x y y2) a3 = a4 at sl4 f0_4 f2_4 f3_4 f26_4 ⊢
  repeat refine wp_seq ?_
  refine wp_cond_false (RG.eval_of f26_4) ?_
  refine wp_skip ?_
  repeat refine wp_seq ?_
  refine RG.region_draws' (by kernel_rfl) (its := F71d3_7i g o cap m bs x y y2) (bl := F71d3_7b g o cap m bs x y y2) (olds := F71d3_7o g o cap m bs x y y2) hS4 (RG.Reg.mk' (by rw [sl4.size]; kernel_rfl) ⟨f0_4, trivial⟩ ⟨?_, ?_, ?_, ?_, ?_, ?_, ?_, ?_, ?_, ?_, trivial⟩) (by kernel_rfl) (by kernel_rfl) (RG.endB_st (by kernel_rfl)) ?_
  · exact RG.cert_call0 rfl 63 gv0 rfl (fun a w => by kernel_rfl) (Coordinates_c)
  · exact RG.cert_move rfl 0 (Or.inl rfl) (fun μ a K => K.old 0 (.v (.slice (some ⟨g, o, none⟩) 33 cap)) (List.Mem.head _) (by kernel_rfl))
  · exact RG.cert_slice1 rfl 23 30 (.int .i64 1) (.slice (some ⟨g, o, none⟩) 33 cap) (.slice (some ⟨g, o + 1, none⟩) 32 (cap - 1)) rfl rfl (fun μ a K => by have h := K.op 30 1 (List.Mem.head _) rfl; exact h) (sl33 g o cap hc)
  · exact RG.cert_callB2 rfl 89 29 31 gv0 (.slice (some ⟨g, o + 1, none⟩) 32 (cap - 1)) (.tuple #[(fv (0 : Fin P)), (.bool false)]) rfl (fun a w => by kernel_rfl) (fun μ a K => by have h := K.op 29 0 (List.Mem.head _) rfl; exact h) (fun μ a K => by have h := K.op 31 2 (List.Mem.tail _ (List.Mem.head _)) rfl; exact h) hrd
  · exact RG.cert_move rfl 32 (Or.inl rfl) (fun μ a K => by have h := K.op 32 3 (List.Mem.head _) rfl; exact h)
  · exact RG.cert_extract rfl 28 0 #[(fv (0 : Fin P)), (.bool false)] (fv (0 : Fin P)) rfl rfl rfl (fun μ a K => by have h := K.op 28 4 (List.Mem.head _) rfl; exact h)
  · exact RG.cert_extract rfl 28 1 #[(fv (0 : Fin P)), (.bool false)] (.bool false) rfl rfl rfl (fun μ a K => by have h := K.op 28 4 (List.Mem.head _) rfl; exact h)
  · exact RG.cert_alloc 1 rfl rfl _ rfl 85 rfl (fun w => by kernel_rfl)
  · exact RG.cert_put 1 rfl _ rfl 85 (.tmp 4) (.tmp 33) rfl rfl rfl (fun μ a K => by have h := K.op 4 7 (List.Mem.head _) rfl; exact h) (fun μ a K => by have h := K.op 33 5 (List.Mem.tail _ (List.Mem.head _)) rfl; exact h) i85 rfl
  · exact RG.cert_move rfl 34 (Or.inr rfl) (fun μ a K => by have h := K.op 34 6 (List.Mem.head _) rfl; exact h)
  intro new5 w5 hl5 hS5
  obtain ⟨j5, rfl⟩ := RG.len1 hl5
  clear hl5
  replace hS5 : RG.St w w.heap.size [] [[.int .u64 0, .int .u64 0, .int .u64 0, .int .u64 0, .int .u64 0, .int .u64 0, .int .u64 0, .int .u64 0], (ws (0 : Fin P))] [j1, j5] w5 := hS5
  have sl5 : RG.Sl (RG.puts (RG.ad ([j1] ++ [j5])) (F71d3_7i g o cap m bs x y y2) a4) 54 := sl4.puts
  have f2_5 := RG.put_old (μ := RG.ad ([j1] ++ [j5])) (its := (F71d3_7i g o cap m bs x y y2)) f2_4 (by kernel_rfl)
  have f3_5 := RG.put_old (μ := RG.ad ([j1] ++ [j5])) (its := (F71d3_7i g o cap m bs x y y2)) f3_4 (by kernel_rfl)
  have f5_5 : (RG.puts (RG.ad ([j1] ++ [j5])) (F71d3_7i g o cap m bs x y y2) a4).tmps[5]? = some (.bool false) := by have h := RG.put_new (μ := RG.ad ([j1] ++ [j5])) (its := (F71d3_7i g o cap m bs x y y2)) sl4 9 (by kernel_rfl) rfl rfl rfl; exact h
  generalize RG.puts (RG.ad ([j1] ++ [j5])) (F71d3_7i g o cap m bs x y y2) a4 = a5 at sl5 f2_5 f3_5 f5_5 ⊢
  repeat refine wp_seq ?_
  refine RG.region_text' (its := F71d3_8i g o cap m bs x y y2) (bl := F71d3_8b g o cap m bs x y y2) (olds := F71d3_8o g o cap m bs x y y2) hS5 (RG.Reg.mk' (by rw [sl5.size]; kernel_rfl) ⟨f5_5, trivial⟩ ⟨?_, ?_, trivial⟩) (by kernel_rfl) (by kernel_rfl) (RG.endB_st (by kernel_rfl)) ?_
  · exact RG.cert_move rfl 5 (Or.inl rfl) (fun μ a K => K.old 5 (.v (.bool false)) (List.Mem.head _) (by kernel_rfl))
  · exact RG.cert_not rfl 4 35 false rfl rfl (fun μ a K => by have h := K.op 35 0 (List.Mem.head _) rfl; exact h)
  intro new6 w6 hl6 hS6
  obtain rfl := RG.len0 hl6
  replace hS6 : RG.St w w.heap.size [] [[.int .u64 0, .int .u64 0, .int .u64 0, .int .u64 0, .int .u64 0, .int .u64 0, .int .u64 0, .int .u64 0], (ws (0 : Fin P))] [j1, j5] w6 := hS6
  have sl6 : RG.Sl (RG.puts (RG.ad ([j1, j5] ++ [])) (F71d3_8i g o cap m bs x y y2) a5) 54 := sl5.puts
  have f2_6 := RG.put_old (μ := RG.ad ([j1, j5] ++ [])) (its := (F71d3_8i g o cap m bs x y y2)) f2_5 (by kernel_rfl)
  have f3_6 := RG.put_old (μ := RG.ad ([j1, j5] ++ [])) (its := (F71d3_8i g o cap m bs x y y2)) f3_5 (by kernel_rfl)
  have f36_6 : (RG.puts (RG.ad ([j1, j5] ++ [])) (F71d3_8i g o cap m bs x y y2) a5).tmps[36]? = some (.bool true) := by have h := RG.put_new (μ := RG.ad ([j1, j5] ++ [])) (its := (F71d3_8i g o cap m bs x y y2)) sl5 1 (by kernel_rfl) rfl rfl rfl; exact h
  generalize RG.puts (RG.ad ([j1, j5] ++ [])) (F71d3_8i g o cap m bs x y y2) a5 = a6 at sl6 f2_6 f3_6 f36_6 ⊢
  repeat refine wp_seq ?_
  refine wp_cond_true (RG.eval_of f36_6) ?_
  repeat refine wp_seq ?_
  refine RG.region_text' (its := F71d3_9i g o cap m bs x y y2) (bl := F71d3_9b g o cap m bs x y y2) (olds := F71d3_9o g o cap m bs x y y2) hS6 (RG.Reg.mk' (by rw [sl6.size]; kernel_rfl) ⟨f2_6, trivial⟩ ⟨?_, ?_, ?_, trivial⟩) (by kernel_rfl) (by kernel_rfl) (RG.endB_st (by kernel_rfl)) ?_
  · exact RG.cert_stay rfl (fun μ a w _ _ => by rw [show RG.SV.at μ (.v (pv (0 : Fin P) (0 : Fin P))) = (pv (0 : Fin P) (0 : Fin P)) from rfl, ← zero_pv]; kernel_rfl)
  · exact RG.cert_put 0 rfl _ rfl 109 (.tmp 2) (.tmp 37) rfl rfl rfl (fun μ a K => K.old 2 (.p 0 0) (List.Mem.head _) (by kernel_rfl)) (fun μ a K => by have h := K.op 37 0 (List.Mem.head _) rfl; exact h) i109 rfl
  · exact RG.cert_stay rfl (fun μ a w _ _ => by kernel_rfl)
  intro new7 w7 hl7 hS7
  obtain rfl := RG.len0 hl7
  replace hS7 : RG.St w w.heap.size [] [(ws (0 : Fin P) ++ (ws (0 : Fin P))), (ws (0 : Fin P))] [j1, j5] w7 := hS7
  have sl7 : RG.Sl (RG.puts (RG.ad ([j1, j5] ++ [])) (F71d3_9i g o cap m bs x y y2) a6) 54 := sl6.puts
  have f2_7 := RG.put_old (μ := RG.ad ([j1, j5] ++ [])) (its := (F71d3_9i g o cap m bs x y y2)) f2_6 (by kernel_rfl)
  have f3_7 : (RG.puts (RG.ad ([j1, j5] ++ [])) (F71d3_9i g o cap m bs x y y2) a6).tmps[3]? = some (.bool false) := by have h := RG.put_new (μ := RG.ad ([j1, j5] ++ [])) (its := (F71d3_9i g o cap m bs x y y2)) sl6 2 (by kernel_rfl) rfl rfl rfl; exact h
  generalize RG.puts (RG.ad ([j1, j5] ++ [])) (F71d3_9i g o cap m bs x y y2) a6 = a7 at sl7 f2_7 f3_7 ⊢
  refine wp_ret ?_
  refine bodyPost_ret (v := (.tuple #[(pv (0 : Fin P) (0 : Fin P)), (.bool false)])) (RG.results_rt hS7 2 3 109 rfl 0 _ rfl f2_7 _ f3_7 u109 i109) sl7.defers ?_
  exact ⟨_, rfl, hS7.bel.below, rfl⟩

def F71e3_0i (g o cap : Nat) (m : Int) (bs : Bs) (x y y2 : Fin P)  : List RG.It := [⟨some 2, [], (.p 0 0), .make 0⟩,
  ⟨some 3, [], (.v (.bool false)), .stay⟩]
def F71e3_0b (g o cap : Nat) (m : Int) (bs : Bs) (x y y2 : Fin P)  : List RG.Bl := [⟨[.int .u64 0, .int .u64 0, .int .u64 0, .int .u64 0, .int .u64 0, .int .u64 0, .int .u64 0, .int .u64 0], [.int .u64 0, .int .u64 0, .int .u64 0, .int .u64 0, .int .u64 0, .int .u64 0, .int .u64 0, .int .u64 0], some 0, none⟩]
def F71e3_0o (g o cap : Nat) (m : Int) (bs : Bs) (x y y2 : Fin P)  : List (Tmp × RG.SV) := []
def F71e3_1i (g o cap : Nat) (m : Int) (bs : Bs) (x y y2 : Fin P)  : List RG.It := [⟨some 7, [], (.v (.slice (some ⟨g, o, none⟩) 33 cap)), .stay⟩,
  ⟨some 8, [(7, 0)], (.v (.int .i64 33)), .stay⟩,
  ⟨some 9, [(8, 1)], (.v (.bool false)), .stay⟩]
def F71e3_1b (g o cap : Nat) (m : Int) (bs : Bs) (x y y2 : Fin P)  : List RG.Bl := [⟨[.int .u64 0, .int .u64 0, .int .u64 0, .int .u64 0, .int .u64 0, .int .u64 0, .int .u64 0, .int .u64 0], [.int .u64 0, .int .u64 0, .int .u64 0, .int .u64 0, .int .u64 0, .int .u64 0, .int .u64 0, .int .u64 0], none, none⟩]
def F71e3_1o (g o cap : Nat) (m : Int) (bs : Bs) (x y y2 : Fin P)  : List (Tmp × RG.SV) := [(0, (.v (.slice (some ⟨g, o, none⟩) 33 cap)))]
def F71e3_3i (g o cap : Nat) (m : Int) (bs : Bs) (x y y2 : Fin P)  : List RG.It := [⟨some 11, [], (.v (.slice (some ⟨g, o, none⟩) 33 cap)), .stay⟩,
  ⟨some 12, [(11, 0)], (.v (.pointer (some ⟨g, o, none⟩))), .stay⟩,
  ⟨some 13, [(12, 1)], (.v (.agg (bl33 bs).toArray)), .stay⟩,
  ⟨some 14, [], (.v (.agg z33.toArray)), .stay⟩,
  ⟨some 15, [(13, 2), (14, 3)], (.v (.bool false)), .stay⟩]
def F71e3_3b (g o cap : Nat) (m : Int) (bs : Bs) (x y y2 : Fin P)  : List RG.Bl := [⟨[.int .u64 0, .int .u64 0, .int .u64 0, .int .u64 0, .int .u64 0, .int .u64 0, .int .u64 0, .int .u64 0], [.int .u64 0, .int .u64 0, .int .u64 0, .int .u64 0, .int .u64 0, .int .u64 0, .int .u64 0, .int .u64 0], none, none⟩]
def F71e3_3o (g o cap : Nat) (m : Int) (bs : Bs) (x y y2 : Fin P)  : List (Tmp × RG.SV) := [(0, (.v (.slice (some ⟨g, o, none⟩) 33 cap)))]
def F71e3_5i (g o cap : Nat) (m : Int) (bs : Bs) (x y y2 : Fin P)  : List RG.It := [⟨some 17, [], (.v (.slice (some ⟨g, o, none⟩) 33 cap)), .stay⟩,
  ⟨some 18, [(17, 0)], (.v (.pointer (some ⟨g, o, none⟩))), .stay⟩,
  ⟨some 19, [(18, 1)], (.v (.int .u8 3)), .stay⟩,
  ⟨some 20, [(19, 2)], (.v (.bool true)), .stay⟩,
  ⟨some 21, [(20, 3)], (.v (.bool true)), .stay⟩,
  ⟨some 22, [], (.v (.slice (some ⟨g, o, none⟩) 33 cap)), .stay⟩,
  ⟨some 23, [(22, 5)], (.v (.pointer (some ⟨g, o, none⟩))), .stay⟩,
  ⟨some 24, [(23, 6)], (.v (.int .u8 3)), .stay⟩,
  ⟨some 25, [(24, 7)], (.v (.bool false)), .stay⟩,
  ⟨some 26, [(21, 4), (25, 8)], (.v (.bool false)), .stay⟩]
def F71e3_5b (g o cap : Nat) (m : Int) (bs : Bs) (x y y2 : Fin P)  : List RG.Bl := [⟨[.int .u64 0, .int .u64 0, .int .u64 0, .int .u64 0, .int .u64 0, .int .u64 0, .int .u64 0, .int .u64 0], [.int .u64 0, .int .u64 0, .int .u64 0, .int .u64 0, .int .u64 0, .int .u64 0, .int .u64 0, .int .u64 0], none, none⟩]
def F71e3_5o (g o cap : Nat) (m : Int) (bs : Bs) (x y y2 : Fin P)  : List (Tmp × RG.SV) := [(0, (.v (.slice (some ⟨g, o, none⟩) 33 cap)))]
def F71e3_7i (g o cap : Nat) (m : Int) (bs : Bs) (x y y2 : Fin P)  : List RG.It := [⟨some 29, [], (.v gv0), .call⟩,
  ⟨some 30, [], (.v (.slice (some ⟨g, o, none⟩) 33 cap)), .stay⟩,
  ⟨some 31, [(30, 1)], (.v (.slice (some ⟨g, o + 1, none⟩) 32 (cap - 1))), .stay⟩,
  ⟨some 32, [(29, 0), (31, 2)], (.v (.tuple #[(fv x), (.bool true)])), .call⟩,
  ⟨some 28, [(32, 3)], (.v (.tuple #[(fv x), (.bool true)])), .stay⟩,
  ⟨some 33, [(28, 4)], (.v (fv x)), .stay⟩,
  ⟨some 34, [(28, 4)], (.v (.bool true)), .stay⟩,
  ⟨some 4, [], (.p 1 0), .make 1⟩,
  ⟨none, [(4, 7), (33, 5)], (.v undef), .put 1⟩,
  ⟨some 5, [(34, 6)], (.v (.bool true)), .stay⟩]
def F71e3_7b (g o cap : Nat) (m : Int) (bs : Bs) (x y y2 : Fin P)  : List RG.Bl := [⟨[.int .u64 0, .int .u64 0, .int .u64 0, .int .u64 0, .int .u64 0, .int .u64 0, .int .u64 0, .int .u64 0], [.int .u64 0, .int .u64 0, .int .u64 0, .int .u64 0, .int .u64 0, .int .u64 0, .int .u64 0, .int .u64 0], none, none⟩, ⟨[.int .u64 0, .int .u64 0, .int .u64 0, .int .u64 0], (ws x), some 7, some 8⟩]
def F71e3_7o (g o cap : Nat) (m : Int) (bs : Bs) (x y y2 : Fin P)  : List (Tmp × RG.SV) := [(0, (.v (.slice (some ⟨g, o, none⟩) 33 cap)))]
def F71e3_8i (g o cap : Nat) (m : Int) (bs : Bs) (x y y2 : Fin P)  : List RG.It := [⟨some 35, [], (.v (.bool true)), .stay⟩,
  ⟨some 36, [(35, 0)], (.v (.bool false)), .stay⟩]
def F71e3_8b (g o cap : Nat) (m : Int) (bs : Bs) (x y y2 : Fin P)  : List RG.Bl := [⟨[.int .u64 0, .int .u64 0, .int .u64 0, .int .u64 0, .int .u64 0, .int .u64 0, .int .u64 0, .int .u64 0], [.int .u64 0, .int .u64 0, .int .u64 0, .int .u64 0, .int .u64 0, .int .u64 0, .int .u64 0, .int .u64 0], none, none⟩, ⟨(ws x), (ws x), none, none⟩]
def F71e3_8o (g o cap : Nat) (m : Int) (bs : Bs) (x y y2 : Fin P)  : List (Tmp × RG.SV) := [(5, (.v (.bool true)))]
def F71e3_10i (g o cap : Nat) (m : Int) (bs : Bs) (x y y2 : Fin P)  : List RG.It := [⟨some 39, [], (.v (fv x)), .stay⟩,
  ⟨some 40, [(39, 0)], (.v (.tuple #[(pv (0 : Fin P) (0 : Fin P)), (.bool false)])), .call⟩,
  ⟨some 38, [(40, 1)], (.v (.tuple #[(pv (0 : Fin P) (0 : Fin P)), (.bool false)])), .stay⟩,
  ⟨some 41, [(38, 2)], (.v (pv (0 : Fin P) (0 : Fin P))), .stay⟩,
  ⟨some 42, [(38, 2)], (.v (.bool false)), .stay⟩,
  ⟨some 6, [], (.p 2 0), .make 2⟩,
  ⟨none, [(6, 5), (41, 3)], (.v undef), .put 2⟩,
  ⟨some 5, [(42, 4)], (.v (.bool false)), .stay⟩]
def F71e3_10b (g o cap : Nat) (m : Int) (bs : Bs) (x y y2 : Fin P)  : List RG.Bl := [⟨[.int .u64 0, .int .u64 0, .int .u64 0, .int .u64 0, .int .u64 0, .int .u64 0, .int .u64 0, .int .u64 0], [.int .u64 0, .int .u64 0, .int .u64 0, .int .u64 0, .int .u64 0, .int .u64 0, .int .u64 0, .int .u64 0], none, none⟩, ⟨(ws x), (ws x), none, none⟩, ⟨[.int .u64 0, .int .u64 0, .int .u64 0, .int .u64 0, .int .u64 0, .int .u64 0, .int .u64 0, .int .u64 0], (ws (0 : Fin P) ++ (ws (0 : Fin P))), some 5, some 6⟩]
def F71e3_10o (g o cap : Nat) (m : Int) (bs : Bs) (x y y2 : Fin P)  : List (Tmp × RG.SV) := [(4, (.p 1 0))]
def F71e3_11i (g o cap : Nat) (m : Int) (bs : Bs) (x y y2 : Fin P)  : List RG.It := [⟨some 43, [], (.v (.bool false)), .stay⟩,
  ⟨some 44, [(43, 0)], (.v (.bool false)), .stay⟩,
  ⟨some 45, [], (.v undef), .pass⟩,
  ⟨some 46, [], (.v undef), .pass⟩,
  ⟨some 47, [], (.v undef), .pass⟩,
  ⟨some 48, [], (.v undef), .pass⟩,
  ⟨some 49, [(44, 1)], (.v (.bool false)), .stay⟩]
def F71e3_11b (g o cap : Nat) (m : Int) (bs : Bs) (x y y2 : Fin P)  : List RG.Bl := [⟨[.int .u64 0, .int .u64 0, .int .u64 0, .int .u64 0, .int .u64 0, .int .u64 0, .int .u64 0, .int .u64 0], [.int .u64 0, .int .u64 0, .int .u64 0, .int .u64 0, .int .u64 0, .int .u64 0, .int .u64 0, .int .u64 0], none, none⟩, ⟨(ws x), (ws x), none, none⟩, ⟨(ws (0 : Fin P) ++ (ws (0 : Fin P))), (ws (0 : Fin P) ++ (ws (0 : Fin P))), none, none⟩]
def F71e3_11o (g o cap : Nat) (m : Int) (bs : Bs) (x y y2 : Fin P)  : List (Tmp × RG.SV) := [(5, (.v (.bool false)))]
def F71e3_13i (g o cap : Nat) (m : Int) (bs : Bs) (x y y2 : Fin P)  : List RG.It := [⟨some 52, [], (.v (pv (0 : Fin P) (0 : Fin P))), .stay⟩,
  ⟨some 53, [], (.v (.bool false)), .stay⟩,
  ⟨none, [(52, 0)], (.v undef), .put 0⟩,
  ⟨some 3, [(53, 1)], (.v (.bool false)), .stay⟩]
def F71e3_13b (g o cap : Nat) (m : Int) (bs : Bs) (x y y2 : Fin P)  : List RG.Bl := [⟨[.int .u64 0, .int .u64 0, .int .u64 0, .int .u64 0, .int .u64 0, .int .u64 0, .int .u64 0, .int .u64 0], (ws (0 : Fin P) ++ (ws (0 : Fin P))), none, some 2⟩, ⟨(ws x), (ws x), none, none⟩, ⟨(ws (0 : Fin P) ++ (ws (0 : Fin P))), (ws (0 : Fin P) ++ (ws (0 : Fin P))), none, none⟩]
def F71e3_13o (g o cap : Nat) (m : Int) (bs : Bs) (x y y2 : Fin P)  : List (Tmp × RG.SV) := [(6, (.p 2 0)), (5, (.v (.bool false))), (2, (.p 0 0))]
set_option maxHeartbeats 2000000 in
set_option maxRecDepth 100000 in
theorem rp_none3 (C : Fld P) (g o cap : Nat) (m : Int) (bs : Bs) (x y y2 : Fin P) (w : World) (hs : bs.size = 33) (hc : 33 ≤ cap) (hg : g < w.heap.size) (hB : Holds encB w g o bs) (hz : ¬ Zero33 bs) (hm : ub bs[0]! = 3) (hx : beV (tl33 bs).toList = x.val) (hr : rt (x * x * x + 7) = none) : Calls Try.prog 71 #[(.slice (some ⟨g, o, none⟩) 33 cap)] w (Ret fun e w' => Below w.heap.size w w' ∧ e = (.tuple #[pv (0 : Fin P) 0, .bool false])) := by
  have hrg := bl33_range hB
  have hb0 : w.cell? ⟨g, o, none⟩ = some (.int .u8 3) := by
    have := (hB 0 (by rw [hs]; decide)).1
    rw [Nat.add_zero] at this
    rw [this]
    show some (Value.int .u8 (ub bs[0]!)) = _
    rw [hm]
  have hrd : ∀ w', RG.BelX w.heap.size [] w w' → Calls Try.prog 89 #[gv0, .slice (some ⟨g, o + 1, none⟩) 32 (cap - 1)] w' (Ret fun e w'' => Below w'.heap.size w' w'' ∧ e = .tuple #[fv x, .bool true]) := fun w' hb => Read_y C (tl33_size hs) (by omega) hx (Nat.lt_of_lt_of_le hg hb.size) (Holds.below (tl33_holds hs hB) hb.below hg)
  go_enter Try.func71, Try.ntmps71
  refine RG.var1 (v0 := (.slice (some ⟨g, o, none⟩) 33 cap)) (n := 54) (by kernel_rfl) (by kernel_rfl) (by kernel_rfl) ?_
  intro a0 sl0 f0
  have hS0 := RG.St.begin w
  repeat refine wp_seq ?_
  refine RG.region_text' (its := F71e3_0i g o cap m bs x y y2) (bl := F71e3_0b g o cap m bs x y y2) (olds := F71e3_0o g o cap m bs x y y2) hS0 (RG.Reg.mk' (by rw [sl0.size]; kernel_rfl) trivial ⟨?_, ?_, trivial⟩) (by kernel_rfl) (by kernel_rfl) (RG.endB_st (by kernel_rfl)) ?_
  · exact RG.cert_alloc 0 rfl rfl _ rfl 109 rfl (fun w => by kernel_rfl)
  · exact RG.cert_stay rfl (fun μ a w _ _ => by kernel_rfl)
  intro new1 w1 hl1 hS1
  obtain ⟨j1, rfl⟩ := RG.len1 hl1
  clear hl1
  replace hS1 : RG.St w w.heap.size [] [[.int .u64 0, .int .u64 0, .int .u64 0, .int .u64 0, .int .u64 0, .int .u64 0, .int .u64 0, .int .u64 0]] [j1] w1 := hS1
  have sl1 : RG.Sl (RG.puts (RG.ad ([] ++ [j1])) (F71e3_0i g o cap m bs x y y2) a0) 54 := sl0.puts
  have f0_1 := RG.put_old (μ := RG.ad ([] ++ [j1])) (its := (F71e3_0i g o cap m bs x y y2)) f0 (by kernel_rfl)
  have f2_1 : (RG.puts (RG.ad ([] ++ [j1])) (F71e3_0i g o cap m bs x y y2) a0).tmps[2]? = some (.pointer (some ⟨j1, 0, none⟩)) := by have h := RG.put_new (μ := RG.ad ([] ++ [j1])) (its := (F71e3_0i g o cap m bs x y y2)) sl0 0 (by kernel_rfl) rfl rfl rfl; exact h
  have f3_1 : (RG.puts (RG.ad ([] ++ [j1])) (F71e3_0i g o cap m bs x y y2) a0).tmps[3]? = some (.bool false) := by have h := RG.put_new (μ := RG.ad ([] ++ [j1])) (its := (F71e3_0i g o cap m bs x y y2)) sl0 1 (by kernel_rfl) rfl rfl rfl; exact h
  generalize RG.puts (RG.ad ([] ++ [j1])) (F71e3_0i g o cap m bs x y y2) a0 = a1 at sl1 f0_1 f2_1 f3_1 ⊢
  repeat refine wp_seq ?_
  refine RG.region_text' (its := F71e3_1i g o cap m bs x y y2) (bl := F71e3_1b g o cap m bs x y y2) (olds := F71e3_1o g o cap m bs x y y2) hS1 (RG.Reg.mk' (by rw [sl1.size]; kernel_rfl) ⟨f0_1, trivial⟩ ⟨?_, ?_, ?_, trivial⟩) (by kernel_rfl) (by kernel_rfl) (RG.endB_st (by kernel_rfl)) ?_
  · exact RG.cert_move rfl 0 (Or.inl rfl) (fun μ a K => K.old 0 (.v (.slice (some ⟨g, o, none⟩) 33 cap)) (List.Mem.head _) (by kernel_rfl))
  · exact RG.cert_one rfl 7 (.v (.slice (some ⟨g, o, none⟩) 33 cap)) (.int .i64 33) rfl (fun μ a K => by have h := K.op 7 0 (List.Mem.head _) rfl; exact h) (fun a w => by kernel_rfl) (fun μ w => by kernel_rfl)
  · exact RG.cert_binc rfl .neq 3 3 8 (.int .i64 33) (.int .i64 33) (.bool false) rfl rfl (fun μ a K => by have h := K.op 8 1 (List.Mem.head _) rfl; exact h) (fun w => by kernel_rfl) (fun w => by kernel_rfl)
  intro new2 w2 hl2 hS2
  obtain rfl := RG.len0 hl2
  replace hS2 : RG.St w w.heap.size [] [[.int .u64 0, .int .u64 0, .int .u64 0, .int .u64 0, .int .u64 0, .int .u64 0, .int .u64 0, .int .u64 0]] [j1] w2 := hS2
  have sl2 : RG.Sl (RG.puts (RG.ad ([j1] ++ [])) (F71e3_1i g o cap m bs x y y2) a1) 54 := sl1.puts
  have f0_2 := RG.put_old (μ := RG.ad ([j1] ++ [])) (its := (F71e3_1i g o cap m bs x y y2)) f0_1 (by kernel_rfl)
  have f2_2 := RG.put_old (μ := RG.ad ([j1] ++ [])) (its := (F71e3_1i g o cap m bs x y y2)) f2_1 (by kernel_rfl)
  have f3_2 := RG.put_old (μ := RG.ad ([j1] ++ [])) (its := (F71e3_1i g o cap m bs x y y2)) f3_1 (by kernel_rfl)
  have f9_2 : (RG.puts (RG.ad ([j1] ++ [])) (F71e3_1i g o cap m bs x y y2) a1).tmps[9]? = some (.bool false) := by have h := RG.put_new (μ := RG.ad ([j1] ++ [])) (its := (F71e3_1i g o cap m bs x y y2)) sl1 2 (by kernel_rfl) rfl rfl rfl; exact h
  generalize RG.puts (RG.ad ([j1] ++ [])) (F71e3_1i g o cap m bs x y y2) a1 = a2 at sl2 f0_2 f2_2 f3_2 f9_2 ⊢
  repeat refine wp_seq ?_
  refine wp_cond_false (RG.eval_of f9_2) ?_
  refine wp_skip ?_
  repeat refine wp_seq ?_
  refine RG.region_text' (its := F71e3_3i g o cap m bs x y y2) (bl := F71e3_3b g o cap m bs x y y2) (olds := F71e3_3o g o cap m bs x y y2) hS2 (RG.Reg.mk' (by rw [sl2.size]; kernel_rfl) ⟨f0_2, trivial⟩ ⟨?_, ?_, ?_, ?_, ?_, trivial⟩) (by kernel_rfl) (by kernel_rfl) (RG.endB_st (by kernel_rfl)) ?_
  · exact RG.cert_move rfl 0 (Or.inl rfl) (fun μ a K => K.old 0 (.v (.slice (some ⟨g, o, none⟩) 33 cap)) (List.Mem.head _) (by kernel_rfl))
  · exact RG.cert_s2a rfl 131 11 (.slice (some ⟨g, o, none⟩) 33 cap) (.pointer (some ⟨g, o, none⟩)) rfl rfl (fun μ a K => by have h := K.op 11 0 (List.Mem.head _) rfl; exact h) (arr33 g o cap)
  · exact RG.cert_loadB rfl g o hg List.not_mem_nil 131 12 rfl (bl33 bs) rfl (fun μ a K => by have h := K.op 12 1 (List.Mem.head _) rfl; exact h) hrg u131 (by rw [bl33_length hs]; exact i131)
  · exact RG.cert_stay rfl (fun μ a w _ _ => by kernel_rfl)
  · exact RG.cert_bin rfl .eql 131 131 13 14 (.agg (bl33 bs).toArray) (.agg z33.toArray) (.bool false) rfl rfl (fun μ a K => by have h := K.op 13 2 (List.Mem.head _) rfl; exact h) (fun μ a K => by have h := K.op 14 3 (List.Mem.tail _ (List.Mem.head _)) rfl; exact h) (fun w => by kernel_rfl) (eqz_f hs hz)
  intro new3 w3 hl3 hS3
  obtain rfl := RG.len0 hl3
  replace hS3 : RG.St w w.heap.size [] [[.int .u64 0, .int .u64 0, .int .u64 0, .int .u64 0, .int .u64 0, .int .u64 0, .int .u64 0, .int .u64 0]] [j1] w3 := hS3
  have sl3 : RG.Sl (RG.puts (RG.ad ([j1] ++ [])) (F71e3_3i g o cap m bs x y y2) a2) 54 := sl2.puts
  have f0_3 := RG.put_old (μ := RG.ad ([j1] ++ [])) (its := (F71e3_3i g o cap m bs x y y2)) f0_2 (by kernel_rfl)
  have f2_3 := RG.put_old (μ := RG.ad ([j1] ++ [])) (its := (F71e3_3i g o cap m bs x y y2)) f2_2 (by kernel_rfl)
  have f3_3 := RG.put_old (μ := RG.ad ([j1] ++ [])) (its := (F71e3_3i g o cap m bs x y y2)) f3_2 (by kernel_rfl)
  have f15_3 : (RG.puts (RG.ad ([j1] ++ [])) (F71e3_3i g o cap m bs x y y2) a2).tmps[15]? = some (.bool false) := by have h := RG.put_new (μ := RG.ad ([j1] ++ [])) (its := (F71e3_3i g o cap m bs x y y2)) sl2 4 (by kernel_rfl) rfl rfl rfl; exact h
  generalize RG.puts (RG.ad ([j1] ++ [])) (F71e3_3i g o cap m bs x y y2) a2 = a3 at sl3 f0_3 f2_3 f3_3 f15_3 ⊢
  repeat refine wp_seq ?_
  refine wp_cond_false (RG.eval_of f15_3) ?_
  refine wp_skip ?_
  repeat refine wp_seq ?_
  refine RG.region_text' (its := F71e3_5i g o cap m bs x y y2) (bl := F71e3_5b g o cap m bs x y y2) (olds := F71e3_5o g o cap m bs x y y2) hS3 (RG.Reg.mk' (by rw [sl3.size]; kernel_rfl) ⟨f0_3, trivial⟩ ⟨?_, ?_, ?_, ?_, ?_, ?_, ?_, ?_, ?_, ?_, trivial⟩) (by kernel_rfl) (by kernel_rfl) (RG.endB_st (by kernel_rfl)) ?_
  · exact RG.cert_move rfl 0 (Or.inl rfl) (fun μ a K => K.old 0 (.v (.slice (some ⟨g, o, none⟩) 33 cap)) (List.Mem.head _) (by kernel_rfl))
  · exact RG.cert_idxc rfl 23 17 (.int .i64 0) rfl (.v (.slice (some ⟨g, o, none⟩) 33 cap)) (fun μ a K => by have h := K.op 17 0 (List.Mem.head _) rfl; exact h) (fun μ w => at23 g o 33 cap (by decide) w)
  · exact RG.cert_load1B rfl g o hg List.not_mem_nil 5 18 rfl (.int .u8 3) rfl (fun μ a K => by have h := K.op 18 1 (List.Mem.head _) rfl; exact h) hb0 u5
  · exact RG.cert_binc rfl .neq 5 5 19 (.int .u8 3) (.int .u8 2) (.bool true) rfl rfl (fun μ a K => by have h := K.op 19 2 (List.Mem.head _) rfl; exact h) (fun w => by kernel_rfl) (fun w => by kernel_rfl)
  · exact RG.cert_move rfl 20 (Or.inl rfl) (fun μ a K => by have h := K.op 20 3 (List.Mem.head _) rfl; exact h)
  · exact RG.cert_move rfl 0 (Or.inl rfl) (fun μ a K => K.old 0 (.v (.slice (some ⟨g, o, none⟩) 33 cap)) (List.Mem.head _) (by kernel_rfl))
  · exact RG.cert_idxc rfl 23 22 (.int .i64 0) rfl (.v (.slice (some ⟨g, o, none⟩) 33 cap)) (fun μ a K => by have h := K.op 22 5 (List.Mem.head _) rfl; exact h) (fun μ w => at23 g o 33 cap (by decide) w)
  · exact RG.cert_load1B rfl g o hg List.not_mem_nil 5 23 rfl (.int .u8 3) rfl (fun μ a K => by have h := K.op 23 6 (List.Mem.head _) rfl; exact h) hb0 u5
  · exact RG.cert_binc rfl .neq 5 5 24 (.int .u8 3) (.int .u8 3) (.bool false) rfl rfl (fun μ a K => by have h := K.op 24 7 (List.Mem.head _) rfl; exact h) (fun w => by kernel_rfl) (fun w => by kernel_rfl)
  · exact RG.cert_pick_t rfl 21 25 _ rfl (fun μ a K => by have h := K.op 21 4 (List.Mem.head _) rfl; exact h) (fun μ a K => by have h := K.op 25 8 (List.Mem.tail _ (List.Mem.head _)) rfl; exact h)
  intro new4 w4 hl4 hS4
  obtain rfl := RG.len0 hl4
  replace hS4 : RG.St w w.heap.size [] [[.int .u64 0, .int .u64 0, .int .u64 0, .int .u64 0, .int .u64 0, .int .u64 0, .int .u64 0, .int .u64 0]] [j1] w4 := hS4
  have sl4 : RG.Sl (RG.puts (RG.ad ([j1] ++ [])) (F71e3_5i g o cap m bs x y y2) a3) 54 := sl3.puts
  have f0_4 := RG.put_old (μ := RG.ad ([j1] ++ [])) (its := (F71e3_5i g o cap m bs x y y2)) f0_3 (by kernel_rfl)
  have f2_4 := RG.put_old (μ := RG.ad ([j1] ++ [])) (its := (F71e3_5i g o cap m bs x y y2)) f2_3 (by kernel_rfl)
  have f3_4 := RG.put_old (μ := RG.ad ([j1] ++ [])) (its := (F71e3_5i g o cap m bs x y y2)) f3_3 (by kernel_rfl)
  have f26_4 : (RG.puts (RG.ad ([j1] ++ [])) (F71e3_5i g o cap m bs x y y2) a3).tmps[26]? = some (.bool false) := by have h := RG.put_new (μ := RG.ad ([j1] ++ [])) (its := (F71e3_5i g o cap m bs x y y2)) sl3 9 (by kernel_rfl) rfl rfl rfl; exact h
  generalize RG.puts (RG.ad ([j1] ++ [])) (F71e3_5i g o cap m bs x y y2) a3 = a4 at sl4 f0_4 f2_4 f3_4 f26_4 ⊢
  repeat refine wp_seq ?_
  refine wp_cond_false (RG.eval_of f26_4) ?_
  refine wp_skip ?_
  repeat refine wp_seq ?_
  refine RG.region_draws' (by kernel_rfl) (its := F71e3_7i g o cap m bs x y y2) (bl := F71e3_7b g o cap m bs x y y2) (olds := F71e3_7o g o cap m bs x y y2) hS4 (RG.Reg.mk' (by rw [sl4.size]; kernel_rfl) ⟨f0_4, trivial⟩ ⟨?_, ?_, ?_, ?_, ?_, ?_, ?_, ?_, ?_, ?_, trivial⟩) (by kernel_rfl) (by kernel_rfl) (RG.endB_st (by kernel_rfl)) ?_
  · exact RG.cert_call0 rfl 63 gv0 rfl (fun a w => by kernel_rfl) (Coordinates_c)
  · exact RG.cert_move rfl 0 (Or.inl rfl) (fun μ a K => K.old 0 (.v (.slice (some ⟨g, o, none⟩) 33 cap)) (List.Mem.head _) (by kernel_rfl))
  · exact RG.cert_slice1 rfl 23 30 (.int .i64 1) (.slice (some ⟨g, o, none⟩) 33 cap) (.slice (some ⟨g, o + 1, none⟩) 32 (cap - 1)) rfl rfl (fun μ a K => by have h := K.op 30 1 (List.Mem.head _) rfl; exact h) (sl33 g o cap hc)
  · exact RG.cert_callB2 rfl 89 29 31 gv0 (.slice (some ⟨g, o + 1, none⟩) 32 (cap - 1)) (.tuple #[(fv x), (.bool true)]) rfl (fun a w => by kernel_rfl) (fun μ a K => by have h := K.op 29 0 (List.Mem.head _) rfl; exact h) (fun μ a K => by have h := K.op 31 2 (List.Mem.tail _ (List.Mem.head _)) rfl; exact h) hrd
  · exact RG.cert_move rfl 32 (Or.inl rfl) (fun μ a K => by have h := K.op 32 3 (List.Mem.head _) rfl; exact h)
  · exact RG.cert_extract rfl 28 0 #[(fv x), (.bool true)] (fv x) rfl rfl rfl (fun μ a K => by have h := K.op 28 4 (List.Mem.head _) rfl; exact h)
  · exact RG.cert_extract rfl 28 1 #[(fv x), (.bool true)] (.bool true) rfl rfl rfl (fun μ a K => by have h := K.op 28 4 (List.Mem.head _) rfl; exact h)
  · exact RG.cert_alloc 1 rfl rfl _ rfl 85 rfl (fun w => by kernel_rfl)
  · exact RG.cert_put 1 rfl _ rfl 85 (.tmp 4) (.tmp 33) rfl rfl rfl (fun μ a K => by have h := K.op 4 7 (List.Mem.head _) rfl; exact h) (fun μ a K => by have h := K.op 33 5 (List.Mem.tail _ (List.Mem.head _)) rfl; exact h) i85 rfl
  · exact RG.cert_move rfl 34 (Or.inr rfl) (fun μ a K => by have h := K.op 34 6 (List.Mem.head _) rfl; exact h)
  intro new5 w5 hl5 hS5
  obtain ⟨j5, rfl⟩ := RG.len1 hl5
  clear hl5
  replace hS5 : RG.St w w.heap.size [] [[.int .u64 0, .int .u64 0, .int .u64 0, .int .u64 0, .int .u64 0, .int .u64 0, .int .u64 0, .int .u64 0], (ws x)] [j1, j5] w5 := hS5
  have sl5 : RG.Sl (RG.puts (RG.ad ([j1] ++ [j5])) (F71e3_7i g o cap m bs x y y2) a4) 54 := sl4.puts
  have f2_5 := RG.put_old (μ := RG.ad ([j1] ++ [j5])) (its := (F71e3_7i g o cap m bs x y y2)) f2_4 (by kernel_rfl)
  have f3_5 := RG.put_old (μ := RG.ad ([j1] ++ [j5])) (its := (F71e3_7i g o cap m bs x y y2)) f3_4 (by kernel_rfl)
  have f4_5 : (RG.puts (RG.ad ([j1] ++ [j5])) (F71e3_7i g o cap m bs x y y2) a4).tmps[4]? = some (.pointer (some ⟨j5, 0, none⟩)) := by have h := RG.put_new (μ := RG.ad ([j1] ++ [j5])) (its := (F71e3_7i g o cap m bs x y y2)) sl4 7 (by kernel_rfl) rfl rfl rfl; exact h
  have f5_5 : (RG.puts (RG.ad ([j1] ++ [j5])) (F71e3_7i g o cap m bs x y y2) a4).tmps[5]? = some (.bool true) := by have h := RG.put_new (μ := RG.ad ([j1] ++ [j5])) (its := (F71e3_7i g o cap m bs x y y2)) sl4 9 (by kernel_rfl) rfl rfl rfl; exact h
  generalize RG.puts (RG.ad ([j1] ++ [j5])) (F71e3_7i g o cap m bs x y y2) a4 = a5 at sl5 f2_5 f3_5 f4_5 f5_5 ⊢
  repeat refine wp_seq ?_
  refine RG.region_text' (its := F71e3_8i g o cap m bs x y y2) (bl := F71e3_8b g o cap m bs x y y2) (olds := F71e3_8o g o cap m bs x y y2) hS5 (RG.Reg.mk' (by rw [sl5.size]; kernel_rfl) ⟨f5_5, trivial⟩ ⟨?_, ?_, trivial⟩) (by kernel_rfl) (by kernel_rfl) (RG.endB_st (by kernel_rfl)) ?_
  · exact RG.cert_move rfl 5 (Or.inl rfl) (fun μ a K => K.old 5 (.v (.bool true)) (List.Mem.head _) (by kernel_rfl))
  · exact RG.cert_not rfl 4 35 true rfl rfl (fun μ a K => by have h := K.op 35 0 (List.Mem.head _) rfl; exact h)
  intro new6 w6 hl6 hS6
  obtain rfl := RG.len0 hl6
  replace hS6 : RG.St w w.heap.size [] [[.int .u64 0, .int .u64 0, .int .u64 0, .int .u64 0, .int .u64 0, .int .u64 0, .int .u64 0, .int .u64 0], (ws x)] [j1, j5] w6 := hS6
  have sl6 : RG.Sl (RG.puts (RG.ad ([j1, j5] ++ [])) (F71e3_8i g o cap m bs x y y2) a5) 54 := sl5.puts
  have f2_6 := RG.put_old (μ := RG.ad ([j1, j5] ++ [])) (its := (F71e3_8i g o cap m bs x y y2)) f2_5 (by kernel_rfl)
  have f3_6 := RG.put_old (μ := RG.ad ([j1, j5] ++ [])) (its := (F71e3_8i g o cap m bs x y y2)) f3_5 (by kernel_rfl)
  have f4_6 := RG.put_old (μ := RG.ad ([j1, j5] ++ [])) (its := (F71e3_8i g o cap m bs x y y2)) f4_5 (by kernel_rfl)
  have f5_6 := RG.put_old (μ := RG.ad ([j1, j5] ++ [])) (its := (F71e3_8i g o cap m bs x y y2)) f5_5 (by kernel_rfl)
  have f36_6 : (RG.puts (RG.ad ([j1, j5] ++ [])) (F71e3_8i g o cap m bs x y y2) a5).tmps[36]? = some (.bool false) := by have h := RG.put_new (μ := RG.ad ([j1, j5] ++ [])) (its := (F71e3_8i g o cap m bs x y y2)) sl5 1 (by kernel_rfl) rfl rfl rfl; exact h
  generalize RG.puts (RG.ad ([j1, j5] ++ [])) (F71e3_8i g o cap m bs x y y2) a5 = a6 at sl6 f2_6 f3_6 f4_6 f5_6 f36_6 ⊢
  repeat refine wp_seq ?_
  refine wp_cond_false (RG.eval_of f36_6) ?_
  refine wp_skip ?_
  repeat refine wp_seq ?_
  refine RG.region_text' (its := F71e3_10i g o cap m bs x y y2) (bl := F71e3_10b g o cap m bs x y y2) (olds := F71e3_10o g o cap m bs x y y2) hS6 (RG.Reg.mk' (by rw [sl6.size]; kernel_rfl) ⟨f4_6, trivial⟩ ⟨?_, ?_, ?_, ?_, ?_, ?_, ?_, ?_, trivial⟩) (by kernel_rfl) (by kernel_rfl) (RG.endB_st (by kernel_rfl)) ?_
  · exact RG.cert_load rfl 1 0 _ rfl rfl (by kernel_rfl) 85 4 rfl (ws x) rfl (fun μ a K => K.old 4 (.p 1 0) (List.Mem.head _) (by kernel_rfl)) (by kernel_rfl) u85 i85
  · exact RG.cert_call1 rfl 99 39 (fv x) (.tuple #[(pv (0 : Fin P) (0 : Fin P)), (.bool false)]) rfl (fun a w => by kernel_rfl) (fun μ a K => by have h := K.op 39 0 (List.Mem.head _) rfl; exact h) (above_n_c C x hr)
  · exact RG.cert_move rfl 40 (Or.inl rfl) (fun μ a K => by have h := K.op 40 1 (List.Mem.head _) rfl; exact h)
  · exact RG.cert_extract rfl 38 0 #[(pv (0 : Fin P) (0 : Fin P)), (.bool false)] (pv (0 : Fin P) (0 : Fin P)) rfl rfl rfl (fun μ a K => by have h := K.op 38 2 (List.Mem.head _) rfl; exact h)
  · exact RG.cert_extract rfl 38 1 #[(pv (0 : Fin P) (0 : Fin P)), (.bool false)] (.bool false) rfl rfl rfl (fun μ a K => by have h := K.op 38 2 (List.Mem.head _) rfl; exact h)
  · exact RG.cert_alloc 2 rfl rfl _ rfl 109 rfl (fun w => by kernel_rfl)
  · exact RG.cert_put 2 rfl _ rfl 109 (.tmp 6) (.tmp 41) rfl rfl rfl (fun μ a K => by have h := K.op 6 5 (List.Mem.head _) rfl; exact h) (fun μ a K => by have h := K.op 41 3 (List.Mem.tail _ (List.Mem.head _)) rfl; exact h) i109 rfl
  · exact RG.cert_move rfl 42 (Or.inr rfl) (fun μ a K => by have h := K.op 42 4 (List.Mem.head _) rfl; exact h)
  intro new7 w7 hl7 hS7
  obtain ⟨j7, rfl⟩ := RG.len1 hl7
  clear hl7
  replace hS7 : RG.St w w.heap.size [] [[.int .u64 0, .int .u64 0, .int .u64 0, .int .u64 0, .int .u64 0, .int .u64 0, .int .u64 0, .int .u64 0], (ws x), (ws (0 : Fin P) ++ (ws (0 : Fin P)))] [j1, j5, j7] w7 := hS7
  have sl7 : RG.Sl (RG.puts (RG.ad ([j1, j5] ++ [j7])) (F71e3_10i g o cap m bs x y y2) a6) 54 := sl6.puts
  have f2_7 := RG.put_old (μ := RG.ad ([j1, j5] ++ [j7])) (its := (F71e3_10i g o cap m bs x y y2)) f2_6 (by kernel_rfl)
  have f3_7 := RG.put_old (μ := RG.ad ([j1, j5] ++ [j7])) (its := (F71e3_10i g o cap m bs x y y2)) f3_6 (by kernel_rfl)
  have f5_7 : (RG.puts (RG.ad ([j1, j5] ++ [j7])) (F71e3_10i g o cap m bs x y y2) a6).tmps[5]? = some (.bool false) := by have h := RG.put_new (μ := RG.ad ([j1, j5] ++ [j7])) (its := (F71e3_10i g o cap m bs x y y2)) sl6 7 (by kernel_rfl) rfl rfl rfl; exact h
  have f6_7 : (RG.puts (RG.ad ([j1, j5] ++ [j7])) (F71e3_10i g o cap m bs x y y2) a6).tmps[6]? = some (.pointer (some ⟨j7, 0, none⟩)) := by have h := RG.put_new (μ := RG.ad ([j1, j5] ++ [j7])) (its := (F71e3_10i g o cap m bs x y y2)) sl6 5 (by kernel_rfl) rfl rfl rfl; exact h
  generalize RG.puts (RG.ad ([j1, j5] ++ [j7])) (F71e3_10i g o cap m bs x y y2) a6 = a7 at sl7 f2_7 f3_7 f5_7 f6_7 ⊢
  repeat refine wp_seq ?_
  refine RG.region_text' (its := F71e3_11i g o cap m bs x y y2) (bl := F71e3_11b g o cap m bs x y y2) (olds := F71e3_11o g o cap m bs x y y2) hS7 (RG.Reg.mk' (by rw [sl7.size]; kernel_rfl) ⟨f5_7, trivial⟩ ⟨?_, ?_, ?_, ?_, ?_, ?_, ?_, trivial⟩) (by kernel_rfl) (by kernel_rfl) (RG.endB_st (by kernel_rfl)) ?_
  · exact RG.cert_move rfl 5 (Or.inl rfl) (fun μ a K => K.old 5 (.v (.bool false)) (List.Mem.head _) (by kernel_rfl))
  · exact RG.cert_move rfl 43 (Or.inl rfl) (fun μ a K => by have h := K.op 43 0 (List.Mem.head _) rfl; exact h)
  · exact RG.cert_pass rfl rfl
  · exact RG.cert_pass rfl rfl
  · exact RG.cert_pass rfl rfl
  · exact RG.cert_pass rfl rfl
  · exact RG.cert_pick_f rfl 44 48 _ rfl (fun μ a K => by have h := K.op 44 1 (List.Mem.head _) rfl; exact h) rfl
  intro new8 w8 hl8 hS8
  obtain rfl := RG.len0 hl8
  replace hS8 : RG.St w w.heap.size [] [[.int .u64 0, .int .u64 0, .int .u64 0, .int .u64 0, .int .u64 0, .int .u64 0, .int .u64 0, .int .u64 0], (ws x), (ws (0 : Fin P) ++ (ws (0 : Fin P)))] [j1, j5, j7] w8 := hS8
  have sl8 : RG.Sl (RG.puts (RG.ad ([j1, j5, j7] ++ [])) (F71e3_11i g o cap m bs x y y2) a7) 54 := sl7.puts
  have f2_8 := RG.put_old (μ := RG.ad ([j1, j5, j7] ++ [])) (its := (F71e3_11i g o cap m bs x y y2)) f2_7 (by kernel_rfl)
  have f3_8 := RG.put_old (μ := RG.ad ([j1, j5, j7] ++ [])) (its := (F71e3_11i g o cap m bs x y y2)) f3_7 (by kernel_rfl)
  have f5_8 := RG.put_old (μ := RG.ad ([j1, j5, j7] ++ [])) (its := (F71e3_11i g o cap m bs x y y2)) f5_7 (by kernel_rfl)
  have f6_8 := RG.put_old (μ := RG.ad ([j1, j5, j7] ++ [])) (its := (F71e3_11i g o cap m bs x y y2)) f6_7 (by kernel_rfl)
  have f49_8 : (RG.puts (RG.ad ([j1, j5, j7] ++ [])) (F71e3_11i g o cap m bs x y y2) a7).tmps[49]? = some (.bool false) := by have h := RG.put_new (μ := RG.ad ([j1, j5, j7] ++ [])) (its := (F71e3_11i g o cap m bs x y y2)) sl7 6 (by kernel_rfl) rfl rfl rfl; exact h
  generalize RG.puts (RG.ad ([j1, j5, j7] ++ [])) (F71e3_11i g o cap m bs x y y2) a7 = a8 at sl8 f2_8 f3_8 f5_8 f6_8 f49_8 ⊢
  repeat refine wp_seq ?_
  refine wp_cond_false (RG.eval_of f49_8) ?_
  refine wp_skip ?_
  repeat refine wp_seq ?_
  refine RG.region_text' (its := F71e3_13i g o cap m bs x y y2) (bl := F71e3_13b g o cap m bs x y y2) (olds := F71e3_13o g o cap m bs x y y2) hS8 (RG.Reg.mk' (by rw [sl8.size]; kernel_rfl) ⟨f6_8, f5_8, f2_8, trivial⟩ ⟨?_, ?_, ?_, ?_, trivial⟩) (by kernel_rfl) (by kernel_rfl) (RG.endB_st (by kernel_rfl)) ?_
  · exact RG.cert_load rfl 2 0 _ rfl rfl (by kernel_rfl) 109 6 rfl (ws (0 : Fin P) ++ (ws (0 : Fin P))) rfl (fun μ a K => K.old 6 (.p 2 0) (List.Mem.head _) (by kernel_rfl)) (by kernel_rfl) u109 i109
  · exact RG.cert_move rfl 5 (Or.inl rfl) (fun μ a K => K.old 5 (.v (.bool false)) (List.Mem.tail _ (List.Mem.head _)) (by kernel_rfl))
  · exact RG.cert_put 0 rfl _ rfl 109 (.tmp 2) (.tmp 52) rfl rfl rfl (fun μ a K => K.old 2 (.p 0 0) (List.Mem.tail _ (List.Mem.tail _ (List.Mem.head _))) (by kernel_rfl)) (fun μ a K => by have h := K.op 52 0 (List.Mem.head _) rfl; exact h) i109 rfl
  · exact RG.cert_move rfl 53 (Or.inr rfl) (fun μ a K => by have h := K.op 53 1 (List.Mem.head _) rfl; exact h)
  intro new9 w9 hl9 hS9
  obtain rfl := RG.len0 hl9
  replace hS9 : RG.St w w.heap.size [] [(ws (0 : Fin P) ++ (ws (0 : Fin P))), (ws x), (ws (0 : Fin P) ++ (ws (0 : Fin P)))] [j1, j5, j7] w9 := hS9
  have sl9 : RG.Sl (RG.puts (RG.ad ([j1, j5, j7] ++ [])) (F71e3_13i g o cap m bs x y y2) a8) 54 := sl8.puts
  have f2_9 := RG.put_old (μ := RG.ad ([j1, j5, j7] ++ [])) (its := (F71e3_13i g o cap m bs x y y2)) f2_8 (by kernel_rfl)
  have f3_9 : (RG.puts (RG.ad ([j1, j5, j7] ++ [])) (F71e3_13i g o cap m bs x y y2) a8).tmps[3]? = some (.bool false) := by have h := RG.put_new (μ := RG.ad ([j1, j5, j7] ++ [])) (its := (F71e3_13i g o cap m bs x y y2)) sl8 3 (by kernel_rfl) rfl rfl rfl; exact h
  generalize RG.puts (RG.ad ([j1, j5, j7] ++ [])) (F71e3_13i g o cap m bs x y y2) a8 = a9 at sl9 f2_9 f3_9 ⊢
  refine wp_ret ?_
  refine bodyPost_ret (v := (.tuple #[(pv (0 : Fin P) (0 : Fin P)), (.bool false)])) (RG.results_rt hS9 2 3 109 rfl 0 _ rfl f2_9 _ f3_9 u109 i109) sl9.defers ?_
  exact ⟨_, rfl, hS9.bel.below, rfl⟩

def F71g_0i (g o cap : Nat) (m : Int) (bs : Bs) (x y y2 : Fin P)  : List RG.It := [⟨some 2, [], (.p 0 0), .make 0⟩,
  ⟨some 3, [], (.v (.bool false)), .stay⟩]
def F71g_0b (g o cap : Nat) (m : Int) (bs : Bs) (x y y2 : Fin P)  : List RG.Bl := [⟨[.int .u64 0, .int .u64 0, .int .u64 0, .int .u64 0, .int .u64 0, .int .u64 0, .int .u64 0, .int .u64 0], [.int .u64 0, .int .u64 0, .int .u64 0, .int .u64 0, .int .u64 0, .int .u64 0, .int .u64 0, .int .u64 0], some 0, none⟩]
def F71g_0o (g o cap : Nat) (m : Int) (bs : Bs) (x y y2 : Fin P)  : List (Tmp × RG.SV) := []
def F71g_1i (g o cap : Nat) (m : Int) (bs : Bs) (x y y2 : Fin P)  : List RG.It := [⟨some 7, [], (.v (.slice (some ⟨g, o, none⟩) 33 cap)), .stay⟩,
  ⟨some 8, [(7, 0)], (.v (.int .i64 33)), .stay⟩,
  ⟨some 9, [(8, 1)], (.v (.bool false)), .stay⟩]
def F71g_1b (g o cap : Nat) (m : Int) (bs : Bs) (x y y2 : Fin P)  : List RG.Bl := [⟨[.int .u64 0, .int .u64 0, .int .u64 0, .int .u64 0, .int .u64 0, .int .u64 0, .int .u64 0, .int .u64 0], [.int .u64 0, .int .u64 0, .int .u64 0, .int .u64 0, .int .u64 0, .int .u64 0, .int .u64 0, .int .u64 0], none, none⟩]
def F71g_1o (g o cap : Nat) (m : Int) (bs : Bs) (x y y2 : Fin P)  : List (Tmp × RG.SV) := [(0, (.v (.slice (some ⟨g, o, none⟩) 33 cap)))]
def F71g_3i (g o cap : Nat) (m : Int) (bs : Bs) (x y y2 : Fin P)  : List RG.It := [⟨some 11, [], (.v (.slice (some ⟨g, o, none⟩) 33 cap)), .stay⟩,
  ⟨some 12, [(11, 0)], (.v (.pointer (some ⟨g, o, none⟩))), .stay⟩,
  ⟨some 13, [(12, 1)], (.v (.agg (bl33 bs).toArray)), .stay⟩,
  ⟨some 14, [], (.v (.agg z33.toArray)), .stay⟩,
  ⟨some 15, [(13, 2), (14, 3)], (.v (.bool false)), .stay⟩]
def F71g_3b (g o cap : Nat) (m : Int) (bs : Bs) (x y y2 : Fin P)  : List RG.Bl := [⟨[.int .u64 0, .int .u64 0, .int .u64 0, .int .u64 0, .int .u64 0, .int .u64 0, .int .u64 0, .int .u64 0], [.int .u64 0, .int .u64 0, .int .u64 0, .int .u64 0, .int .u64 0, .int .u64 0, .int .u64 0, .int .u64 0], none, none⟩]
def F71g_3o (g o cap : Nat) (m : Int) (bs : Bs) (x y y2 : Fin P)  : List (Tmp × RG.SV) := [(0, (.v (.slice (some ⟨g, o, none⟩) 33 cap)))]
def F71g_5i (g o cap : Nat) (m : Int) (bs : Bs) (x y y2 : Fin P)  : List RG.It := [⟨some 17, [], (.v (.slice (some ⟨g, o, none⟩) 33 cap)), .stay⟩,
  ⟨some 18, [(17, 0)], (.v (.pointer (some ⟨g, o, none⟩))), .stay⟩,
  ⟨some 19, [(18, 1)], (.v (.int .u8 3)), .stay⟩,
  ⟨some 20, [(19, 2)], (.v (.bool true)), .stay⟩,
  ⟨some 21, [(20, 3)], (.v (.bool true)), .stay⟩,
  ⟨some 22, [], (.v (.slice (some ⟨g, o, none⟩) 33 cap)), .stay⟩,
  ⟨some 23, [(22, 5)], (.v (.pointer (some ⟨g, o, none⟩))), .stay⟩,
  ⟨some 24, [(23, 6)], (.v (.int .u8 3)), .stay⟩,
  ⟨some 25, [(24, 7)], (.v (.bool false)), .stay⟩,
  ⟨some 26, [(21, 4), (25, 8)], (.v (.bool false)), .stay⟩]
def F71g_5b (g o cap : Nat) (m : Int) (bs : Bs) (x y y2 : Fin P)  : List RG.Bl := [⟨[.int .u64 0, .int .u64 0, .int .u64 0, .int .u64 0, .int .u64 0, .int .u64 0, .int .u64 0, .int .u64 0], [.int .u64 0, .int .u64 0, .int .u64 0, .int .u64 0, .int .u64 0, .int .u64 0, .int .u64 0, .int .u64 0], none, none⟩]
def F71g_5o (g o cap : Nat) (m : Int) (bs : Bs) (x y y2 : Fin P)  : List (Tmp × RG.SV) := [(0, (.v (.slice (some ⟨g, o, none⟩) 33 cap)))]
def F71g_7i (g o cap : Nat) (m : Int) (bs : Bs) (x y y2 : Fin P)  : List RG.It := [⟨some 29, [], (.v gv0), .call⟩,
  ⟨some 30, [], (.v (.slice (some ⟨g, o, none⟩) 33 cap)), .stay⟩,
  ⟨some 31, [(30, 1)], (.v (.slice (some ⟨g, o + 1, none⟩) 32 (cap - 1))), .stay⟩,
  ⟨some 32, [(29, 0), (31, 2)], (.v (.tuple #[(fv x), (.bool true)])), .call⟩,
  ⟨some 28, [(32, 3)], (.v (.tuple #[(fv x), (.bool true)])), .stay⟩,
  ⟨some 33, [(28, 4)], (.v (fv x)), .stay⟩,
  ⟨some 34, [(28, 4)], (.v (.bool true)), .stay⟩,
  ⟨some 4, [], (.p 1 0), .make 1⟩,
  ⟨none, [(4, 7), (33, 5)], (.v undef), .put 1⟩,
  ⟨some 5, [(34, 6)], (.v (.bool true)), .stay⟩]
def F71g_7b (g o cap : Nat) (m : Int) (bs : Bs) (x y y2 : Fin P)  : List RG.Bl := [⟨[.int .u64 0, .int .u64 0, .int .u64 0, .int .u64 0, .int .u64 0, .int .u64 0, .int .u64 0, .int .u64 0], [.int .u64 0, .int .u64 0, .int .u64 0, .int .u64 0, .int .u64 0, .int .u64 0, .int .u64 0, .int .u64 0], none, none⟩, ⟨[.int .u64 0, .int .u64 0, .int .u64 0, .int .u64 0], (ws x), some 7, some 8⟩]
def F71g_7o (g o cap : Nat) (m : Int) (bs : Bs) (x y y2 : Fin P)  : List (Tmp × RG.SV) := [(0, (.v (.slice (some ⟨g, o, none⟩) 33 cap)))]
def F71g_8i (g o cap : Nat) (m : Int) (bs : Bs) (x y y2 : Fin P)  : List RG.It := [⟨some 35, [], (.v (.bool true)), .stay⟩,
  ⟨some 36, [(35, 0)], (.v (.bool false)), .stay⟩]
def F71g_8b (g o cap : Nat) (m : Int) (bs : Bs) (x y y2 : Fin P)  : List RG.Bl := [⟨[.int .u64 0, .int .u64 0, .int .u64 0, .int .u64 0, .int .u64 0, .int .u64 0, .int .u64 0, .int .u64 0], [.int .u64 0, .int .u64 0, .int .u64 0, .int .u64 0, .int .u64 0, .int .u64 0, .int .u64 0, .int .u64 0], none, none⟩, ⟨(ws x), (ws x), none, none⟩]
def F71g_8o (g o cap : Nat) (m : Int) (bs : Bs) (x y y2 : Fin P)  : List (Tmp × RG.SV) := [(5, (.v (.bool true)))]
def F71g_10i (g o cap : Nat) (m : Int) (bs : Bs) (x y y2 : Fin P)  : List RG.It := [⟨some 39, [], (.v (fv x)), .stay⟩,
  ⟨some 40, [(39, 0)], (.v (.tuple #[(pv x y), (.bool true)])), .call⟩,
  ⟨some 38, [(40, 1)], (.v (.tuple #[(pv x y), (.bool true)])), .stay⟩,
  ⟨some 41, [(38, 2)], (.v (pv x y)), .stay⟩,
  ⟨some 42, [(38, 2)], (.v (.bool true)), .stay⟩,
  ⟨some 6, [], (.p 2 0), .make 2⟩,
  ⟨none, [(6, 5), (41, 3)], (.v undef), .put 2⟩,
  ⟨some 5, [(42, 4)], (.v (.bool true)), .stay⟩]
def F71g_10b (g o cap : Nat) (m : Int) (bs : Bs) (x y y2 : Fin P)  : List RG.Bl := [⟨[.int .u64 0, .int .u64 0, .int .u64 0, .int .u64 0, .int .u64 0, .int .u64 0, .int .u64 0, .int .u64 0], [.int .u64 0, .int .u64 0, .int .u64 0, .int .u64 0, .int .u64 0, .int .u64 0, .int .u64 0, .int .u64 0], none, none⟩, ⟨(ws x), (ws x), none, none⟩, ⟨[.int .u64 0, .int .u64 0, .int .u64 0, .int .u64 0, .int .u64 0, .int .u64 0, .int .u64 0, .int .u64 0], (ws x ++ (ws y)), some 5, some 6⟩]
def F71g_10o (g o cap : Nat) (m : Int) (bs : Bs) (x y y2 : Fin P)  : List (Tmp × RG.SV) := [(4, (.p 1 0))]
def F71g_11i (g o cap : Nat) (m : Int) (bs : Bs) (x y y2 : Fin P)  : List RG.It := [⟨some 43, [], (.v (.bool true)), .stay⟩,
  ⟨some 44, [(43, 0)], (.v (.bool true)), .stay⟩,
  ⟨some 45, [], (.v (.slice (some ⟨g, o, none⟩) 33 cap)), .stay⟩,
  ⟨some 46, [(45, 2)], (.v (.pointer (some ⟨g, o, none⟩))), .stay⟩,
  ⟨some 47, [(46, 3)], (.v (.int .u8 3)), .stay⟩,
  ⟨some 48, [(47, 4)], (.v (.bool true)), .stay⟩,
  ⟨some 49, [(44, 1), (48, 5)], (.v (.bool true)), .stay⟩]
def F71g_11b (g o cap : Nat) (m : Int) (bs : Bs) (x y y2 : Fin P)  : List RG.Bl := [⟨[.int .u64 0, .int .u64 0, .int .u64 0, .int .u64 0, .int .u64 0, .int .u64 0, .int .u64 0, .int .u64 0], [.int .u64 0, .int .u64 0, .int .u64 0, .int .u64 0, .int .u64 0, .int .u64 0, .int .u64 0, .int .u64 0], none, none⟩, ⟨(ws x), (ws x), none, none⟩, ⟨(ws x ++ (ws y)), (ws x ++ (ws y)), none, none⟩]
def F71g_11o (g o cap : Nat) (m : Int) (bs : Bs) (x y y2 : Fin P)  : List (Tmp × RG.SV) := [(5, (.v (.bool true))), (0, (.v (.slice (some ⟨g, o, none⟩) 33 cap)))]
def F71g_12i (g o cap : Nat) (m : Int) (bs : Bs) (x y y2 : Fin P)  : List RG.It := [⟨some 50, [], (.v (pv x y)), .stay⟩,
  ⟨some 51, [(50, 0)], (.v (pv x y2)), .call⟩,
  ⟨none, [(51, 1)], (.v undef), .put 2⟩]
def F71g_12b (g o cap : Nat) (m : Int) (bs : Bs) (x y y2 : Fin P)  : List RG.Bl := [⟨[.int .u64 0, .int .u64 0, .int .u64 0, .int .u64 0, .int .u64 0, .int .u64 0, .int .u64 0, .int .u64 0], [.int .u64 0, .int .u64 0, .int .u64 0, .int .u64 0, .int .u64 0, .int .u64 0, .int .u64 0, .int .u64 0], none, none⟩, ⟨(ws x), (ws x), none, none⟩, ⟨(ws x ++ (ws y)), (ws x ++ (ws y2)), none, some 2⟩]
def F71g_12o (g o cap : Nat) (m : Int) (bs : Bs) (x y y2 : Fin P)  : List (Tmp × RG.SV) := [(6, (.p 2 0))]
def F71g_13i (g o cap : Nat) (m : Int) (bs : Bs) (x y y2 : Fin P)  : List RG.It := [⟨some 52, [], (.v (pv x y2)), .stay⟩,
  ⟨some 53, [], (.v (.bool true)), .stay⟩,
  ⟨none, [(52, 0)], (.v undef), .put 0⟩,
  ⟨some 3, [(53, 1)], (.v (.bool true)), .stay⟩]
def F71g_13b (g o cap : Nat) (m : Int) (bs : Bs) (x y y2 : Fin P)  : List RG.Bl := [⟨[.int .u64 0, .int .u64 0, .int .u64 0, .int .u64 0, .int .u64 0, .int .u64 0, .int .u64 0, .int .u64 0], (ws x ++ (ws y2)), none, some 2⟩, ⟨(ws x), (ws x), none, none⟩, ⟨(ws x ++ (ws y2)), (ws x ++ (ws y2)), none, none⟩]
def F71g_13o (g o cap : Nat) (m : Int) (bs : Bs) (x y y2 : Fin P)  : List (Tmp × RG.SV) := [(6, (.p 2 0)), (5, (.v (.bool true))), (2, (.p 0 0))]
set_option maxHeartbeats 2000000 in
set_option maxRecDepth 100000 in
theorem rp_odd (C : Fld P) (g o cap : Nat) (m : Int) (bs : Bs) (x y y2 : Fin P) (w : World) (hs : bs.size = 33) (hc : 33 ≤ cap) (hg : g < w.heap.size) (hB : Holds encB w g o bs) (hz : ¬ Zero33 bs) (hm : ub bs[0]! = 3) (hx : beV (tl33 bs).toList = x.val) (hr : rt (x * x * x + 7) = some y) (hy2 : 0 - y = y2) : Calls Try.prog 71 #[(.slice (some ⟨g, o, none⟩) 33 cap)] w (Ret fun e w' => Below w.heap.size w w' ∧ e = (.tuple #[pv x y2, .bool true])) := by
  have hrg := bl33_range hB
  have hb0 : w.cell? ⟨g, o, none⟩ = some (.int .u8 3) := by
    have := (hB 0 (by rw [hs]; decide)).1
    rw [Nat.add_zero] at this
    rw [this]
    show some (Value.int .u8 (ub bs[0]!)) = _
    rw [hm]
  have hrd : ∀ w', RG.BelX w.heap.size [] w w' → Calls Try.prog 89 #[gv0, .slice (some ⟨g, o + 1, none⟩) 32 (cap - 1)] w' (Ret fun e w'' => Below w'.heap.size w' w'' ∧ e = .tuple #[fv x, .bool true]) := fun w' hb => Read_y C (tl33_size hs) (by omega) hx (Nat.lt_of_lt_of_le hg hb.size) (Holds.below (tl33_holds hs hB) hb.below hg)
  have popp_y : Gives 77 #[pv x y] (pv x y2) := hy2 ▸ popp_c C x y
  go_enter Try.func71, Try.ntmps71
  refine RG.var1 (v0 := (.slice (some ⟨g, o, none⟩) 33 cap)) (n := 54) (by kernel_rfl) (by kernel_rfl) (by kernel_rfl) ?_
  intro a0 sl0 f0
  have hS0 := RG.St.begin w
  repeat refine wp_seq ?_
  refine RG.region_text' (its := F71g_0i g o cap m bs x y y2) (bl := F71g_0b g o cap m bs x y y2) (olds := F71g_0o g o cap m bs x y y2) hS0 (RG.Reg.mk' (by rw [sl0.size]; kernel_rfl) trivial ⟨?_, ?_, trivial⟩) (by kernel_rfl) (by kernel_rfl) (RG.endB_st (by kernel_rfl)) ?_
  · exact RG.cert_alloc 0 rfl rfl _ rfl 109 rfl (fun w => by kernel_rfl)
  · exact RG.cert_stay rfl (fun μ a w _ _ => by kernel_rfl)
  intro new1 w1 hl1 hS1
  obtain ⟨j1, rfl⟩ := RG.len1 hl1
  clear hl1
  replace hS1 : RG.St w w.heap.size [] [[.int .u64 0, .int .u64 0, .int .u64 0, .int .u64 0, .int .u64 0, .int .u64 0, .int .u64 0, .int .u64 0]] [j1] w1 := hS1
  have sl1 : RG.Sl (RG.puts (RG.ad ([] ++ [j1])) (F71g_0i g o cap m bs x y y2) a0) 54 := sl0.puts
  have f0_1 := RG.put_old (μ := RG.ad ([] ++ [j1])) (its := (F71g_0i g o cap m bs x y y2)) f0 (by kernel_rfl)
  have f2_1 : (RG.puts (RG.ad ([] ++ [j1])) (F71g_0i g o cap m bs x y y2) a0).tmps[2]? = some (.pointer (some ⟨j1, 0, none⟩)) := by have h := RG.put_new (μ := RG.ad ([] ++ [j1])) (its := (F71g_0i g o cap m bs x y y2)) sl0 0 (by kernel_rfl) rfl rfl rfl; exact h
  have f3_1 : (RG.puts (RG.ad ([] ++ [j1])) (F71g_0i g o cap m bs x y y2) a0).tmps[3]? = some (.bool false) := by have h := RG.put_new (μ := RG.ad ([] ++ [j1])) (its := (F71g_0i g o cap m bs x y y2)) sl0 1 (by kernel_rfl) rfl rfl rfl; exact h
  generalize RG.puts (RG.ad ([] ++ [j1])) (F71g_0i g o cap m bs x y y2) a0 = a1 at sl1 f0_1 f2_1 f3_1 ⊢
  repeat refine wp_seq ?_
  refine RG.region_text' (its := F71g_1i g o cap m bs x y y2) (bl := F71g_1b g o cap m bs x y y2) (olds := F71g_1o g o cap m bs x y y2) hS1 (RG.Reg.mk' (by rw [sl1.size]; kernel_rfl) ⟨f0_1, trivial⟩ ⟨?_, ?_, ?_, trivial⟩) (by kernel_rfl) (by kernel_rfl) (RG.endB_st (by kernel_rfl)) ?_
  · exact RG.cert_move rfl 0 (Or.inl rfl) (fun μ a K => K.old 0 (.v (.slice (some ⟨g, o, none⟩) 33 cap)) (List.Mem.head _) (by kernel_rfl))
  · exact RG.cert_one rfl 7 (.v (.slice (some ⟨g, o, none⟩) 33 cap)) (.int .i64 33) rfl (fun μ a K => by have h := K.op 7 0 (List.Mem.head _) rfl; exact h) (fun a w => by kernel_rfl) (fun μ w => by kernel_rfl)
  · exact RG.cert_binc rfl .neq 3 3 8 (.int .i64 33) (.int .i64 33) (.bool false) rfl rfl (fun μ a K => by have h := K.op 8 1 (List.Mem.head _) rfl; exact h) (fun w => by kernel_rfl) (fun w => by kernel_rfl)
  intro new2 w2 hl2 hS2
  obtain rfl := RG.len0 hl2
  replace hS2 : RG.St w w.heap.size [] [[.int .u64 0, .int .u64 0, .int .u64 0, .int .u64 0, .int .u64 0, .int .u64 0, .int .u64 0, .int .u64 0]] [j1] w2 := hS2
  have sl2 : RG.Sl (RG.puts (RG.ad ([j1] ++ [])) (F71g_1i g o cap m bs x y y2) a1) 54 := sl1.puts
  have f0_2 := RG.put_old (μ := RG.ad ([j1] ++ [])) (its := (F71g_1i g o cap m bs x y y2)) f0_1 (by kernel_rfl)
  have f2_2 := RG.put_old (μ := RG.ad ([j1] ++ [])) (its := (F71g_1i g o cap m bs x y y2)) f2_1 (by kernel_rfl)
  have f3_2 := RG.put_old (μ := RG.ad ([j1] ++ [])) (its := (F71g_1i g o cap m bs x y y2)) f3_1 (by kernel_rfl)
  have f9_2 : (RG.puts (RG.ad ([j1] ++ [])) (F71g_1i g o cap m bs x y y2) a1).tmps[9]? = some (.bool false) := by have h := RG.put_new (μ := RG.ad ([j1] ++ [])) (its := (F71g_1i g o cap m bs x y y2)) sl1 2 (by kernel_rfl) rfl rfl rfl; exact h
  generalize RG.puts (RG.ad ([j1] ++ [])) (F71g_1i g o cap m bs x y y2) a1 = a2 at sl2 f0_2 f2_2 f3_2 f9_2 ⊢
  repeat refine wp_seq ?_
  refine wp_cond_false (RG.eval_of f9_2) ?_
  refine wp_skip ?_
  repeat refine wp_seq ?_
  refine RG.region_text' (its := F71g_3i g o cap m bs x y y2) (bl := F71g_3b g o cap m bs x y y2) (olds := F71g_3o g o cap m bs x y y2) hS2 (RG.Reg.mk' (by rw [sl2.size]; kernel_rfl) ⟨f0_2, trivial⟩ ⟨?_, ?_, ?_, ?_, ?_, trivial⟩) (by kernel_rfl) (by kernel_rfl) (RG.endB_st (by kernel_rfl)) ?_
  · exact RG.cert_move rfl 0 (Or.inl rfl) (fun μ a K => K.old 0 (.v (.slice (some ⟨g, o, none⟩) 33 cap)) (List.Mem.head _) (by kernel_rfl))
  · exact RG.cert_s2a rfl 131 11 (.slice (some ⟨g, o, none⟩) 33 cap) (.pointer (some ⟨g, o, none⟩)) rfl rfl (fun μ a K => by have h := K.op 11 0 (List.Mem.head _) rfl; exact h) (arr33 g o cap)
  · exact RG.cert_loadB rfl g o hg List.not_mem_nil 131 12 rfl (bl33 bs) rfl (fun μ a K => by have h := K.op 12 1 (List.Mem.head _) rfl; exact h) hrg u131 (by rw [bl33_length hs]; exact i131)
  · exact RG.cert_stay rfl (fun μ a w _ _ => by kernel_rfl)
  · exact RG.cert_bin rfl .eql 131 131 13 14 (.agg (bl33 bs).toArray) (.agg z33.toArray) (.bool false) rfl rfl (fun μ a K => by have h := K.op 13 2 (List.Mem.head _) rfl; exact h) (fun μ a K => by have h := K.op 14 3 (List.Mem.tail _ (List.Mem.head _)) rfl; exact h) (fun w => by kernel_rfl) (eqz_f hs hz)
  intro new3 w3 hl3 hS3
  obtain rfl := RG.len0 hl3
  replace hS3 : RG.St w w.heap.size [] [[.int .u64 0, .int .u64 0, .int .u64 0, .int .u64 0, .int .u64 0, .int .u64 0, .int .u64 0, .int .u64 0]] [j1] w3 := hS3
  have sl3 : RG.Sl (RG.puts (RG.ad ([j1] ++ [])) (F71g_3i g o cap m bs x y y2) a2) 54 := sl2.puts
  have f0_3 := RG.put_old (μ := RG.ad ([j1] ++ [])) (its := (F71g_3i g o cap m bs x y y2)) f0_2 (by kernel_rfl)
  have f2_3 := RG.put_old (μ := RG.ad ([j1] ++ [])) (its := (F71g_3i g o cap m bs x y y2)) f2_2 (by kernel_rfl)
  have f3_3 := RG.put_old (μ := RG.ad ([j1] ++ [])) (its := (F71g_3i g o cap m bs x y y2)) f3_2 (by kernel_rfl)
  have f15_3 : (RG.puts (RG.ad ([j1] ++ [])) (F71g_3i g o cap m bs x y y2) a2).tmps[15]? = some (.bool false) := by have h := RG.put_new (μ := RG.ad ([j1] ++ [])) (its := (F71g_3i g o cap m bs x y y2)) sl2 4 (by kernel_rfl) rfl rfl rfl; exact h
  generalize RG.puts (RG.ad ([j1] ++ [])) (F71g_3i g o cap m bs x y y2) a2 = a3 at sl3 f0_3 f2_3 f3_3 f15_3 ⊢
  repeat refine wp_seq ?_
  refine wp_cond_false (RG.eval_of f15_3) ?_
  refine wp_skip ?_
  repeat refine wp_seq ?_
  refine RG.region_text' (its := F71g_5i g o cap m bs x y y2) (bl := F71g_5b g o cap m bs x y y2) (olds := F71g_5o g o cap m bs x y y2) hS3 (RG.Reg.mk' (by rw [sl3.size]; kernel_rfl) ⟨f0_3, trivial⟩ ⟨?_, ?_, ?_, ?_, ?_, ?_, ?_, ?_, ?_, ?_, trivial⟩) (by kernel_rfl) (by kernel_rfl) (RG.endB_st (by kernel_rfl)) ?_
  · exact RG.cert_move rfl 0 (Or.inl rfl) (fun μ a K => K.old 0 (.v (.slice (some ⟨g, o, none⟩) 33 cap)) (List.Mem.head _) (by kernel_rfl))
  · exact RG.cert_idxc rfl 23 17 (.int .i64 0) rfl (.v (.slice (some ⟨g, o, none⟩) 33 cap)) (fun μ a K => by have h := K.op 17 0 (List.Mem.head _) rfl; exact h) (fun μ w => at23 g o 33 cap (by decide) w)
  · exact RG.cert_load1B rfl g o hg List.not_mem_nil 5 18 rfl (.int .u8 3) rfl (fun μ a K => by have h := K.op 18 1 (List.Mem.head _) rfl; exact h) hb0 u5
  · exact RG.cert_binc rfl .neq 5 5 19 (.int .u8 3) (.int .u8 2) (.bool true) rfl rfl (fun μ a K => by have h := K.op 19 2 (List.Mem.head _) rfl; exact h) (fun w => by kernel_rfl) (fun w => by kernel_rfl)
  · exact RG.cert_move rfl 20 (Or.inl rfl) (fun μ a K => by have h := K.op 20 3 (List.Mem.head _) rfl; exact h)
  · exact RG.cert_move rfl 0 (Or.inl rfl) (fun μ a K => K.old 0 (.v (.slice (some ⟨g, o, none⟩) 33 cap)) (List.Mem.head _) (by kernel_rfl))
  · exact RG.cert_idxc rfl 23 22 (.int .i64 0) rfl (.v (.slice (some ⟨g, o, none⟩) 33 cap)) (fun μ a K => by have h := K.op 22 5 (List.Mem.head _) rfl; exact h) (fun μ w => at23 g o 33 cap (by decide) w)
  · exact RG.cert_load1B rfl g o hg List.not_mem_nil 5 23 rfl (.int .u8 3) rfl (fun μ a K => by have h := K.op 23 6 (List.Mem.head _) rfl; exact h) hb0 u5
  · exact RG.cert_binc rfl .neq 5 5 24 (.int .u8 3) (.int .u8 3) (.bool false) rfl rfl (fun μ a K => by have h := K.op 24 7 (List.Mem.head _) rfl; exact h) (fun w => by kernel_rfl) (fun w => by kernel_rfl)
  · exact RG.cert_pick_t rfl 21 25 _ rfl (fun μ a K => by have h := K.op 21 4 (List.Mem.head _) rfl; exact h) (fun μ a K => by have h := K.op 25 8 (List.Mem.tail _ (List.Mem.head _)) rfl; exact h)
  intro new4 w4 hl4 hS4
  obtain rfl := RG.len0 hl4
  replace hS4 : RG.St w w.heap.size [] [[.int .u64 0, .int .u64 0, .int .u64 0, .int .u64 0, .int .u64 0, .int .u64 0, .int .u64 0, .int .u64 0]] [j1] w4 := hS4
  have sl4 : RG.Sl (RG.puts (RG.ad ([j1] ++ [])) (F71g_5i g o cap m bs x y y2) a3) 54 := sl3.puts
  have f0_4 := RG.put_old (μ := RG.ad ([j1] ++ [])) (its := (F71g_5i g o cap m bs x y y2)) f0_3 (by kernel_rfl)
  have f2_4 := RG.put_old (μ := RG.ad ([j1] ++ [])) (its := (F71g_5i g o cap m bs x y y2)) f2_3 (by kernel_rfl)
  have f3_4 := RG.put_old (μ := RG.ad ([j1] ++ [])) (its := (F71g_5i g o cap m bs x y y2)) f3_3 (by kernel_rfl)
  have f26_4 : (RG.puts (RG.ad ([j1] ++ [])) (F71g_5i g o cap m bs x y y2) a3).tmps[26]? = some (.bool false) := by have h := RG.put_new (μ := RG.ad ([j1] ++ [])) (its := (F71g_5i g o cap m bs x y y2)) sl3 9 (by kernel_rfl) rfl rfl rfl; exact h
  generalize RG.puts (RG.ad ([j1] ++ [])) (F71g_5i g o cap m bs x y y2) a3 = a4 at sl4 f0_4 f2_4 f3_4 f26_4 ⊢
  repeat refine wp_seq ?_
  refine wp_cond_false (RG.eval_of f26_4) ?_
  refine wp_skip ?_
  repeat refine wp_seq ?_
  refine RG.region_draws' (by kernel_rfl) (its := F71g_7i g o cap m bs x y y2) (bl := F71g_7b g o cap m bs x y y2) (olds := F71g_7o g o cap m bs x y y2) hS4 (RG.Reg.mk' (by rw [sl4.size]; kernel_rfl) ⟨f0_4, trivial⟩ ⟨?_, ?_, ?_, ?_, ?_, ?_, ?_, ?_, ?_, ?_, trivial⟩) (by kernel_rfl) (by kernel_rfl) (RG.endB_st (by kernel_rfl)) ?_
  · exact RG.cert_call0 rfl 63 gv0 rfl (fun a w => by kernel_rfl) (Coordinates_c)
  · exact RG.cert_move rfl 0 (Or.inl rfl) (fun μ a K => K.old 0 (.v (.slice (some ⟨g, o, none⟩) 33 cap)) (List.Mem.head _) (by kernel_rfl))
  · exact RG.cert_slice1 rfl 23 30 (.int .i64 1) (.slice (some ⟨g, o, none⟩) 33 cap) (.slice (some ⟨g, o + 1, none⟩) 32 (cap - 1)) rfl rfl (fun μ a K => by have h := K.op 30 1 (List.Mem.head _) rfl; exact h) (sl33 g o cap hc)
  · exact RG.cert_callB2 rfl 89 29 31 gv0 (.slice (some ⟨g, o + 1, none⟩) 32 (cap - 1)) (.tuple #[(fv x), (.bool true)]) rfl (fun a w => by kernel_rfl) (fun μ a K => by have h := K.op 29 0 (List.Mem.head _) rfl; exact h) (fun μ a K => by have h := K.op 31 2 (List.Mem.tail _ (List.Mem.head _)) rfl; exact h) hrd
  · exact RG.cert_move rfl 32 (Or.inl rfl) (fun μ a K => by have h := K.op 32 3 (List.Mem.head _) rfl; exact h)
  · exact RG.cert_extract rfl 28 0 #[(fv x), (.bool true)] (fv x) rfl rfl rfl (fun μ a K => by have h := K.op 28 4 (List.Mem.head _) rfl; exact h)
  · exact RG.cert_extract rfl 28 1 #[(fv x), (.bool true)] (.bool true) rfl rfl rfl (fun μ a K => by have h := K.op 28 4 (List.Mem.head _) rfl; exact h)
  · exact RG.cert_alloc 1 rfl rfl _ rfl 85 rfl (fun w => by kernel_rfl)
  · exact RG.cert_put 1 rfl _ rfl 85 (.tmp 4) (.tmp 33) rfl rfl rfl (fun μ a K => by have h := K.op 4 7 (List.Mem.head _) rfl; exact h) (fun μ a K => by have h := K.op 33 5 (List.Mem.tail _ (List.Mem.head _)) rfl; exact h) i85 rfl
  · exact RG.cert_move rfl 34 (Or.inr rfl) (fun μ a K => by have h := K.op 34 6 (List.Mem.head _) rfl; exact h)
  intro new5 w5 hl5 hS5
  obtain ⟨j5, rfl⟩ := RG.len1 hl5
  clear hl5
  replace hS5 : RG.St w w.heap.size [] [[.int .u64 0, .int .u64 0, .int .u64 0, .int .u64 0, .int .u64 0, .int .u64 0, .int .u64 0, .int .u64 0], (ws x)] [j1, j5] w5 := hS5
  have sl5 : RG.Sl (RG.puts (RG.ad ([j1] ++ [j5])) (F71g_7i g o cap m bs x y y2) a4) 54 := sl4.puts
  have f0_5 := RG.put_old (μ := RG.ad ([j1] ++ [j5])) (its := (F71g_7i g o cap m bs x y y2)) f0_4 (by kernel_rfl)
  have f2_5 := RG.put_old (μ := RG.ad ([j1] ++ [j5])) (its := (F71g_7i g o cap m bs x y y2)) f2_4 (by kernel_rfl)
  have f3_5 := RG.put_old (μ := RG.ad ([j1] ++ [j5])) (its := (F71g_7i g o cap m bs x y y2)) f3_4 (by kernel_rfl)
  have f4_5 : (RG.puts (RG.ad ([j1] ++ [j5])) (F71g_7i g o cap m bs x y y2) a4).tmps[4]? = some (.pointer (some ⟨j5, 0, none⟩)) := by have h := RG.put_new (μ := RG.ad ([j1] ++ [j5])) (its := (F71g_7i g o cap m bs x y y2)) sl4 7 (by kernel_rfl) rfl rfl rfl; exact h
  have f5_5 : (RG.puts (RG.ad ([j1] ++ [j5])) (F71g_7i g o cap m bs x y y2) a4).tmps[5]? = some (.bool true) := by have h := RG.put_new (μ := RG.ad ([j1] ++ [j5])) (its := (F71g_7i g o cap m bs x y y2)) sl4 9 (by kernel_rfl) rfl rfl rfl; exact h
  generalize RG.puts (RG.ad ([j1] ++ [j5])) (F71g_7i g o cap m bs x y y2) a4 = a5 at sl5 f0_5 f2_5 f3_5 f4_5 f5_5 ⊢
  repeat refine wp_seq ?_
  refine RG.region_text' (its := F71g_8i g o cap m bs x y y2) (bl := F71g_8b g o cap m bs x y y2) (olds := F71g_8o g o cap m bs x y y2) hS5 (RG.Reg.mk' (by rw [sl5.size]; kernel_rfl) ⟨f5_5, trivial⟩ ⟨?_, ?_, trivial⟩) (by kernel_rfl) (by kernel_rfl) (RG.endB_st (by kernel_rfl)) ?_
  · exact RG.cert_move rfl 5 (Or.inl rfl) (fun μ a K => K.old 5 (.v (.bool true)) (List.Mem.head _) (by kernel_rfl))
  · exact RG.cert_not rfl 4 35 true rfl rfl (fun μ a K => by have h := K.op 35 0 (List.Mem.head _) rfl; exact h)
  intro new6 w6 hl6 hS6
  obtain rfl := RG.len0 hl6
  replace hS6 : RG.St w w.heap.size [] [[.int .u64 0, .int .u64 0, .int .u64 0, .int .u64 0, .int .u64 0, .int .u64 0, .int .u64 0, .int .u64 0], (ws x)] [j1, j5] w6 := hS6
  have sl6 : RG.Sl (RG.puts (RG.ad ([j1, j5] ++ [])) (F71g_8i g o cap m bs x y y2) a5) 54 := sl5.puts
  have f0_6 := RG.put_old (μ := RG.ad ([j1, j5] ++ [])) (its := (F71g_8i g o cap m bs x y y2)) f0_5 (by kernel_rfl)
  have f2_6 := RG.put_old (μ := RG.ad ([j1, j5] ++ [])) (its := (F71g_8i g o cap m bs x y y2)) f2_5 (by kernel_rfl)
  have f3_6 := RG.put_old (μ := RG.ad ([j1, j5] ++ [])) (its := (F71g_8i g o cap m bs x y y2)) f3_5 (by kernel_rfl)
  have f4_6 := RG.put_old (μ := RG.ad ([j1, j5] ++ [])) (its := (F71g_8i g o cap m bs x y y2)) f4_5 (by kernel_rfl)
  have f5_6 := RG.put_old (μ := RG.ad ([j1, j5] ++ [])) (its := (F71g_8i g o cap m bs x y y2)) f5_5 (by kernel_rfl)
  have f36_6 : (RG.puts (RG.ad ([j1, j5] ++ [])) (F71g_8i g o cap m bs x y y2) a5).tmps[36]? = some (.bool false) := by have h := RG.put_new (μ := RG.ad ([j1, j5] ++ [])) (its := (F71g_8i g o cap m bs x y y2)) sl5 1 (by kernel_rfl) rfl rfl rfl; exact h
  generalize RG.puts (RG.ad ([j1, j5] ++ [])) (F71g_8i g o cap m bs x y y2) a5 = a6 at sl6 f0_6 f2_6 f3_6 f4_6 f5_6 f36_6 ⊢
  repeat refine wp_seq ?_
  refine wp_cond_false (RG.eval_of f36_6) ?_
  refine wp_skip ?_
  repeat refine wp_seq ?_
  refine RG.region_text' (its := F71g_10i g o cap m bs x y y2) (bl := F71g_10b g o cap m bs x y y2) (olds := F71g_10o g o cap m bs x y y2) hS6 (RG.Reg.mk' (by rw [sl6.size]; kernel_rfl) ⟨f4_6, trivial⟩ ⟨?_, ?_, ?_, ?_, ?_, ?_, ?_, ?_, trivial⟩) (by kernel_rfl) (by kernel_rfl) (RG.endB_st (by kernel_rfl)) ?_
  · exact RG.cert_load rfl 1 0 _ rfl rfl (by kernel_rfl) 85 4 rfl (ws x) rfl (fun μ a K => K.old 4 (.p 1 0) (List.Mem.head _) (by kernel_rfl)) (by kernel_rfl) u85 i85
  · exact RG.cert_call1 rfl 99 39 (fv x) (.tuple #[(pv x y), (.bool true)]) rfl (fun a w => by kernel_rfl) (fun μ a K => by have h := K.op 39 0 (List.Mem.head _) rfl; exact h) (above_y_c C x y hr)
  · exact RG.cert_move rfl 40 (Or.inl rfl) (fun μ a K => by have h := K.op 40 1 (List.Mem.head _) rfl; exact h)
  · exact RG.cert_extract rfl 38 0 #[(pv x y), (.bool true)] (pv x y) rfl rfl rfl (fun μ a K => by have h := K.op 38 2 (List.Mem.head _) rfl; exact h)
  · exact RG.cert_extract rfl 38 1 #[(pv x y), (.bool true)] (.bool true) rfl rfl rfl (fun μ a K => by have h := K.op 38 2 (List.Mem.head _) rfl; exact h)
  · exact RG.cert_alloc 2 rfl rfl _ rfl 109 rfl (fun w => by kernel_rfl)
  · exact RG.cert_put 2 rfl _ rfl 109 (.tmp 6) (.tmp 41) rfl rfl rfl (fun μ a K => by have h := K.op 6 5 (List.Mem.head _) rfl; exact h) (fun μ a K => by have h := K.op 41 3 (List.Mem.tail _ (List.Mem.head _)) rfl; exact h) i109 rfl
  · exact RG.cert_move rfl 42 (Or.inr rfl) (fun μ a K => by have h := K.op 42 4 (List.Mem.head _) rfl; exact h)
  intro new7 w7 hl7 hS7
  obtain ⟨j7, rfl⟩ := RG.len1 hl7
  clear hl7
  replace hS7 : RG.St w w.heap.size [] [[.int .u64 0, .int .u64 0, .int .u64 0, .int .u64 0, .int .u64 0, .int .u64 0, .int .u64 0, .int .u64 0], (ws x), (ws x ++ (ws y))] [j1, j5, j7] w7 := hS7
  have sl7 : RG.Sl (RG.puts (RG.ad ([j1, j5] ++ [j7])) (F71g_10i g o cap m bs x y y2) a6) 54 := sl6.puts
  have f0_7 := RG.put_old (μ := RG.ad ([j1, j5] ++ [j7])) (its := (F71g_10i g o cap m bs x y y2)) f0_6 (by kernel_rfl)
  have f2_7 := RG.put_old (μ := RG.ad ([j1, j5] ++ [j7])) (its := (F71g_10i g o cap m bs x y y2)) f2_6 (by kernel_rfl)
  have f3_7 := RG.put_old (μ := RG.ad ([j1, j5] ++ [j7])) (its := (F71g_10i g o cap m bs x y y2)) f3_6 (by kernel_rfl)
  have f5_7 : (RG.puts (RG.ad ([j1, j5] ++ [j7])) (F71g_10i g o cap m bs x y y2) a6).tmps[5]? = some (.bool true) := by have h := RG.put_new (μ := RG.ad ([j1, j5] ++ [j7])) (its := (F71g_10i g o cap m bs x y y2)) sl6 7 (by kernel_rfl) rfl rfl rfl; exact h
  have f6_7 : (RG.puts (RG.ad ([j1, j5] ++ [j7])) (F71g_10i g o cap m bs x y y2) a6).tmps[6]? = some (.pointer (some ⟨j7, 0, none⟩)) := by have h := RG.put_new (μ := RG.ad ([j1, j5] ++ [j7])) (its := (F71g_10i g o cap m bs x y y2)) sl6 5 (by kernel_rfl) rfl rfl rfl; exact h
  generalize RG.puts (RG.ad ([j1, j5] ++ [j7])) (F71g_10i g o cap m bs x y y2) a6 = a7 at sl7 f0_7 f2_7 f3_7 f5_7 f6_7 ⊢
  repeat refine wp_seq ?_
  refine RG.region_text' (its := F71g_11i g o cap m bs x y y2) (bl := F71g_11b g o cap m bs x y y2) (olds := F71g_11o g o cap m bs x y y2) hS7 (RG.Reg.mk' (by rw [sl7.size]; kernel_rfl) ⟨f5_7, f0_7, trivial⟩ ⟨?_, ?_, ?_, ?_, ?_, ?_, ?_, trivial⟩) (by kernel_rfl) (by kernel_rfl) (RG.endB_st (by kernel_rfl)) ?_
  · exact RG.cert_move rfl 5 (Or.inl rfl) (fun μ a K => K.old 5 (.v (.bool true)) (List.Mem.head _) (by kernel_rfl))
  · exact RG.cert_move rfl 43 (Or.inl rfl) (fun μ a K => by have h := K.op 43 0 (List.Mem.head _) rfl; exact h)
  · exact RG.cert_move rfl 0 (Or.inl rfl) (fun μ a K => K.old 0 (.v (.slice (some ⟨g, o, none⟩) 33 cap)) (List.Mem.tail _ (List.Mem.head _)) (by kernel_rfl))
  · exact RG.cert_idxc rfl 23 45 (.int .i64 0) rfl (.v (.slice (some ⟨g, o, none⟩) 33 cap)) (fun μ a K => by have h := K.op 45 2 (List.Mem.head _) rfl; exact h) (fun μ w => at23 g o 33 cap (by decide) w)
  · exact RG.cert_load1B rfl g o hg List.not_mem_nil 5 46 rfl (.int .u8 3) rfl (fun μ a K => by have h := K.op 46 3 (List.Mem.head _) rfl; exact h) hb0 u5
  · exact RG.cert_binc rfl .eql 5 5 47 (.int .u8 3) (.int .u8 3) (.bool true) rfl rfl (fun μ a K => by have h := K.op 47 4 (List.Mem.head _) rfl; exact h) (fun w => by kernel_rfl) (fun w => by kernel_rfl)
  · exact RG.cert_pick_t rfl 44 48 _ rfl (fun μ a K => by have h := K.op 44 1 (List.Mem.head _) rfl; exact h) (fun μ a K => by have h := K.op 48 5 (List.Mem.tail _ (List.Mem.head _)) rfl; exact h)
  intro new8 w8 hl8 hS8
  obtain rfl := RG.len0 hl8
  replace hS8 : RG.St w w.heap.size [] [[.int .u64 0, .int .u64 0, .int .u64 0, .int .u64 0, .int .u64 0, .int .u64 0, .int .u64 0, .int .u64 0], (ws x), (ws x ++ (ws y))] [j1, j5, j7] w8 := hS8
  have sl8 : RG.Sl (RG.puts (RG.ad ([j1, j5, j7] ++ [])) (F71g_11i g o cap m bs x y y2) a7) 54 := sl7.puts
  have f2_8 := RG.put_old (μ := RG.ad ([j1, j5, j7] ++ [])) (its := (F71g_11i g o cap m bs x y y2)) f2_7 (by kernel_rfl)
  have f3_8 := RG.put_old (μ := RG.ad ([j1, j5, j7] ++ [])) (its := (F71g_11i g o cap m bs x y y2)) f3_7 (by kernel_rfl)
  have f5_8 := RG.put_old (μ := RG.ad ([j1, j5, j7] ++ [])) (its := (F71g_11i g o cap m bs x y y2)) f5_7 (by kernel_rfl)
  have f6_8 := RG.put_old (μ := RG.ad ([j1, j5, j7] ++ [])) (its := (F71g_11i g o cap m bs x y y2)) f6_7 (by kernel_rfl)
  have f49_8 : (RG.puts (RG.ad ([j1, j5, j7] ++ [])) (F71g_11i g o cap m bs x y y2) a7).tmps[49]? = some (.bool true) := by have h := RG.put_new (μ := RG.ad ([j1, j5, j7] ++ [])) (its := (F71g_11i g o cap m bs x y y2)) sl7 6 (by kernel_rfl) rfl rfl rfl; exact h
  generalize RG.puts (RG.ad ([j1, j5, j7] ++ [])) (F71g_11i g o cap m bs x y y2) a7 = a8 at sl8 f2_8 f3_8 f5_8 f6_8 f49_8 ⊢
  repeat refine wp_seq ?_
  refine wp_cond_true (RG.eval_of f49_8) ?_
  repeat refine wp_seq ?_
  refine RG.region_text' (its := F71g_12i g o cap m bs x y y2) (bl := F71g_12b g o cap m bs x y y2) (olds := F71g_12o g o cap m bs x y y2) hS8 (RG.Reg.mk' (by rw [sl8.size]; kernel_rfl) ⟨f6_8, trivial⟩ ⟨?_, ?_, ?_, trivial⟩) (by kernel_rfl) (by kernel_rfl) (RG.endB_st (by kernel_rfl)) ?_
  · exact RG.cert_load rfl 2 0 _ rfl rfl (by kernel_rfl) 109 6 rfl (ws x ++ (ws y)) rfl (fun μ a K => K.old 6 (.p 2 0) (List.Mem.head _) (by kernel_rfl)) (by kernel_rfl) u109 i109
  · exact RG.cert_call1 rfl 77 50 (pv x y) (pv x y2) rfl (fun a w => by kernel_rfl) (fun μ a K => by have h := K.op 50 0 (List.Mem.head _) rfl; exact h) (popp_y)
  · exact RG.cert_put 2 rfl _ rfl 109 (.tmp 6) (.tmp 51) rfl rfl rfl (fun μ a K => K.old 6 (.p 2 0) (List.Mem.head _) (by kernel_rfl)) (fun μ a K => by have h := K.op 51 1 (List.Mem.head _) rfl; exact h) i109 rfl
  intro new9 w9 hl9 hS9
  obtain rfl := RG.len0 hl9
  replace hS9 : RG.St w w.heap.size [] [[.int .u64 0, .int .u64 0, .int .u64 0, .int .u64 0, .int .u64 0, .int .u64 0, .int .u64 0, .int .u64 0], (ws x), (ws x ++ (ws y2))] [j1, j5, j7] w9 := hS9
  have sl9 : RG.Sl (RG.puts (RG.ad ([j1, j5, j7] ++ [])) (F71g_12i g o cap m bs x y y2) a8) 54 := sl8.puts
  have f2_9 := RG.put_old (μ := RG.ad ([j1, j5, j7] ++ [])) (its := (F71g_12i g o cap m bs x y y2)) f2_8 (by kernel_rfl)
  have f3_9 := RG.put_old (μ := RG.ad ([j1, j5, j7] ++ [])) (its := (F71g_12i g o cap m bs x y y2)) f3_8 (by kernel_rfl)
  have f5_9 := RG.put_old (μ := RG.ad ([j1, j5, j7] ++ [])) (its := (F71g_12i g o cap m bs x y y2)) f5_8 (by kernel_rfl)
  have f6_9 := RG.put_old (μ := RG.ad ([j1, j5, j7] ++ [])) (its := (F71g_12i g o cap m bs x y y2)) f6_8 (by kernel_rfl)
  generalize RG.puts (RG.ad ([j1, j5, j7] ++ [])) (F71g_12i g o cap m bs x y y2) a8 = a9 at sl9 f2_9 f3_9 f5_9 f6_9 ⊢
  repeat refine wp_seq ?_
  refine RG.region_text' (its := F71g_13i g o cap m bs x y y2) (bl := F71g_13b g o cap m bs x y y2) (olds := F71g_13o g o cap m bs x y y2) hS9 (RG.Reg.mk' (by rw [sl9.size]; kernel_rfl) ⟨f6_9, f5_9, f2_9, trivial⟩ ⟨?_, ?_, ?_, ?_, trivial⟩) (by kernel_rfl) (by kernel_rfl) (RG.endB_st (by kernel_rfl)) ?_
  · exact RG.cert_load rfl 2 0 _ rfl rfl (by kernel_rfl) 109 6 rfl (ws x ++ (ws y2)) rfl (fun μ a K => K.old 6 (.p 2 0) (List.Mem.head _) (by kernel_rfl)) (by kernel_rfl) u109 i109
  · exact RG.cert_move rfl 5 (Or.inl rfl) (fun μ a K => K.old 5 (.v (.bool true)) (List.Mem.tail _ (List.Mem.head _)) (by kernel_rfl))
  · exact RG.cert_put 0 rfl _ rfl 109 (.tmp 2) (.tmp 52) rfl rfl rfl (fun μ a K => K.old 2 (.p 0 0) (List.Mem.tail _ (List.Mem.tail _ (List.Mem.head _))) (by kernel_rfl)) (fun μ a K => by have h := K.op 52 0 (List.Mem.head _) rfl; exact h) i109 rfl
  · exact RG.cert_move rfl 53 (Or.inr rfl) (fun μ a K => by have h := K.op 53 1 (List.Mem.head _) rfl; exact h)
  intro new10 w10 hl10 hS10
  obtain rfl := RG.len0 hl10
  replace hS10 : RG.St w w.heap.size [] [(ws x ++ (ws y2)), (ws x), (ws x ++ (ws y2))] [j1, j5, j7] w10 := hS10
  have sl10 : RG.Sl (RG.puts (RG.ad ([j1, j5, j7] ++ [])) (F71g_13i g o cap m bs x y y2) a9) 54 := sl9.puts
  have f2_10 := RG.put_old (μ := RG.ad ([j1, j5, j7] ++ [])) (its := (F71g_13i g o cap m bs x y y2)) f2_9 (by kernel_rfl)
  have f3_10 : (RG.puts (RG.ad ([j1, j5, j7] ++ [])) (F71g_13i g o cap m bs x y y2) a9).tmps[3]? = some (.bool true) := by have h := RG.put_new (μ := RG.ad ([j1, j5, j7] ++ [])) (its := (F71g_13i g o cap m bs x y y2)) sl9 3 (by kernel_rfl) rfl rfl rfl; exact h
  generalize RG.puts (RG.ad ([j1, j5, j7] ++ [])) (F71g_13i g o cap m bs x y y2) a9 = a10 at sl10 f2_10 f3_10 ⊢
  refine wp_ret ?_
  refine bodyPost_ret (v := (.tuple #[(pv x y2), (.bool true)])) (RG.results_rt hS10 2 3 109 rfl 0 _ rfl f2_10 _ f3_10 u109 i109) sl10.defers ?_
  exact ⟨_, rfl, hS10.bel.below, rfl⟩


/-- Bytes as an argument: where there are 33, they lie there. -/
def Arg33 (w : World) (v : Value) (bs : Bs) : Prop := ∃ (p : Option Addr) (n cap : Nat), v = .slice p n cap ∧ bs.size = n ∧ (n = 33 → ∃ g o, p = some ⟨g, o, none⟩ ∧ 33 ≤ cap ∧ g < w.heap.size ∧ Holds encB w g o bs)
theorem Arg33.below {w w1 : World} {v : Value} {bs : Bs} (h : Arg33 w v bs) (hb : Below w.heap.size w w1) : Arg33 w1 v bs := by
  obtain ⟨p, n, cap, rfl, hs, h1⟩ := h
  refine ⟨p, n, cap, rfl, hs, fun h2 => ?_⟩
  obtain ⟨g, o, h3, h4, h6, h7⟩ := h1 h2
  exact ⟨g, o, h3, h4, Nat.lt_of_lt_of_le h6 hb.size, Holds.below h7 hb h6⟩
theorem readPoint_c (C : Fld P) (v : Value) (bs : Bs) (w : World) (hv : Arg33 w v bs) : Calls Try.prog 71 #[v] w (Ret fun e w' => Below w.heap.size w w' ∧ e = rdV (rd P bs)) := by
  obtain ⟨p, n, cap, rfl, hs, h1⟩ := hv
  unfold rd
  by_cases hn : n = 33
  · subst hn
    obtain ⟨g, o, rfl, hc, hg, hB⟩ := h1 rfl
    rw [if_pos hs]
    by_cases hz : Zero33 bs
    · rw [if_pos hz]
      exact rp_zero C g o cap 0 bs 0 0 0 w hs hc hg hB hz
    · rw [if_neg hz]
      by_cases hm : ub bs[0]! = 2 ∨ ub bs[0]! = 3
      · rw [if_pos hm]
        by_cases hx : beV (tl33 bs).toList < P
        · rw [if_pos hx]
          have hx' : beV (tl33 bs).toList = (rdx P bs).val := (Nat.mod_eq_of_lt hx).symm
          cases hr : rt (rdx P bs * rdx P bs * rdx P bs + 7) with
          | none =>
            rcases hm with hm | hm
            · exact rp_none2 C g o cap 0 bs (rdx P bs) 0 0 w hs hc hg hB hz hm hx' hr
            · exact rp_none3 C g o cap 0 bs (rdx P bs) 0 0 w hs hc hg hB hz hm hx' hr
          | some y =>
            rcases hm with hm | hm
            · rw [Option.map_some, if_neg (by rw [hm]; decide)]
              exact rp_even C g o cap 0 bs (rdx P bs) y 0 w hs hc hg hB hz hm hx' hr
            · rw [Option.map_some, if_pos hm]
              exact rp_odd C g o cap 0 bs (rdx P bs) y (0 - y) w hs hc hg hB hz hm hx' hr rfl
        · rw [if_neg hx]
          rcases hm with hm | hm
          · exact rp_num2 C g o cap 0 bs 0 0 0 w hs hc hg hB hz hm hx
          · exact rp_num3 C g o cap 0 bs 0 0 0 w hs hc hg hB hz hm hx
      · rw [if_neg hm]
        exact rp_mark C g o cap _ bs 0 0 0 w hs hc hg hB hz rfl (fun h => hm (Or.inl h)) (fun h => hm (Or.inr h))
  · rw [if_neg (by rw [hs]; exact hn)]
    exact rp_len C p n cap 0 w hn
end Go.Proofs.Ytdeidgbknlmhjab
