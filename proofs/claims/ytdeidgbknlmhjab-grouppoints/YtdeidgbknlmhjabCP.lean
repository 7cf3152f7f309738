import Derived.Test.YtdeidgbknlmhjabCE
set_option linter.unusedVariables false
set_option linter.unusedSimpArgs false
namespace Go.Proofs.Ytdeidgbknlmhjab
open Go.RowKit Go.Sort
variable {P : Nat} [NeZero P]

theorem u115 : (Try.prog.underlying 115).map (·.isRow) = some true := by kernel_rfl
theorem i115 : (Try.prog.info? 115).map (·.size) = some 4 := by kernel_rfl
theorem u85 : (Try.prog.underlying 85).map (·.isRow) = some true := by kernel_rfl
theorem i85 : (Try.prog.info? 85).map (·.size) = some 4 := by kernel_rfl
theorem u117 : (Try.prog.underlying 117).map (·.isRow) = some true := by kernel_rfl
theorem i117 : (Try.prog.info? 117).map (·.size) = some 12 := by kernel_rfl
theorem u109 : (Try.prog.underlying 109).map (·.isRow) = some true := by kernel_rfl
theorem i109 : (Try.prog.info? 109).map (·.size) = some 8 := by kernel_rfl
theorem u79 : (Try.prog.underlying 79).map (·.isRow) = some true := by kernel_rfl
theorem i79 : (Try.prog.info? 79).map (·.size) = some 4 := by kernel_rfl

def F102_0i (x y c1 : Fin P) : List RG.It := [⟨some 2, [], (.p 0 0), .make 0⟩,
  ⟨some 3, [], (.p 1 0), .make 1⟩,
  ⟨some 4, [], (.p 2 0), .make 2⟩]
def F102_0b (x y c1 : Fin P) : List RG.Bl := [⟨(ws x), (ws x), some 0, none⟩, ⟨(ws y), (ws y), some 1, none⟩, ⟨[.int .u64 0, .int .u64 0, .int .u64 0, .int .u64 0], [.int .u64 0, .int .u64 0, .int .u64 0, .int .u64 0], some 2, none⟩]
def F102_0o (x y c1 : Fin P) : List (Tmp × RG.SV) := [(0, (.v (fv x))), (1, (.v (fv y)))]
def F102_1i (x y c1 : Fin P) : List RG.It := [⟨some 5, [], (.v gv0), .call⟩,
  ⟨some 6, [], (.v (fv x)), .stay⟩,
  ⟨some 7, [], (.v (fv y)), .stay⟩,
  ⟨some 8, [(5, 0), (6, 1), (7, 2)], (.v (fv c1)), .call⟩,
  ⟨none, [(8, 3)], (.v undef), .put 2⟩]
def F102_1b (x y c1 : Fin P) : List RG.Bl := [⟨(ws x), (ws x), none, none⟩, ⟨(ws y), (ws y), none, none⟩, ⟨[.int .u64 0, .int .u64 0, .int .u64 0, .int .u64 0], (ws c1), none, some 4⟩]
def F102_1o (x y c1 : Fin P) : List (Tmp × RG.SV) := [(2, (.p 0 0)), (3, (.p 1 0)), (4, (.p 2 0))]
set_option maxHeartbeats 2000000 in
set_option maxRecDepth 100000 in
theorem CTimes_c (C : Fld P) (x y : Fin P) : Gives 102 #[(fv x), (fv y)] (fv (x * y)) := by
  intro w
  obtain ⟨c1, hc1⟩ : ∃ c, c = x * y := ⟨_, rfl⟩
  have hfin : ((fv c1) : Value) = (fv (x * y)) := by
    subst_vars; rfl
  rw [← hfin]
  go_enter Try.func102, Try.ntmps102
  have hS0 := RG.St.begin w
  repeat refine wp_seq ?_
  refine RG.region_text (its := F102_0i x y c1) (bl := F102_0b x y c1) (olds := F102_0o x y c1) hS0 (RG.Reg.mk' (by kernel_rfl) ⟨by kernel_rfl, by kernel_rfl, trivial⟩ ⟨?_, ?_, ?_, trivial⟩) (by kernel_rfl) (by kernel_rfl) (by kernel_rfl) ?_
  · exact RG.cert_box 0 rfl rfl _ rfl 115 0 rfl (fv x) (fun μ a K => K.old 0 (.v (fv x)) (List.Mem.head _) (by kernel_rfl)) (fun w => by kernel_rfl)
  · exact RG.cert_box 1 rfl rfl _ rfl 115 1 rfl (fv y) (fun μ a K => K.old 1 (.v (fv y)) (List.Mem.tail _ (List.Mem.head _)) (by kernel_rfl)) (fun w => by kernel_rfl)
  · exact RG.cert_alloc 2 rfl rfl _ rfl 115 rfl (fun w => by kernel_rfl)
  intro new1 w1 hl1 hS1
  obtain ⟨j1, i1, m1, rfl⟩ := RG.len3 hl1
  repeat refine wp_seq ?_
  refine RG.region_draws (by kernel_rfl) (its := F102_1i x y c1) (bl := F102_1b x y c1) (olds := F102_1o x y c1) hS1 (RG.Reg.mk' (by kernel_rfl) ⟨by kernel_rfl, by kernel_rfl, by kernel_rfl, trivial⟩ ⟨?_, ?_, ?_, ?_, ?_, trivial⟩) (by kernel_rfl) (by kernel_rfl) (by kernel_rfl) ?_
  · exact RG.cert_call0 rfl 63 gv0 rfl (fun a w => by kernel_rfl) (Coordinates_c)
  · exact RG.cert_load rfl 0 0 _ rfl rfl (by kernel_rfl) 115 2 rfl (ws x) rfl (fun μ a K => K.old 2 (.p 0 0) (List.Mem.head _) (by kernel_rfl)) (by kernel_rfl) u115 i115
  · exact RG.cert_load rfl 1 0 _ rfl rfl (by kernel_rfl) 115 3 rfl (ws y) rfl (fun μ a K => K.old 3 (.p 1 0) (List.Mem.tail _ (List.Mem.head _)) (by kernel_rfl)) (by kernel_rfl) u115 i115
  · exact RG.cert_call3 rfl 87 5 6 7 gv0 (fv x) (fv y) (fv c1) rfl (fun a w => by kernel_rfl) (fun μ a K => by have h := K.op 5 0 (List.Mem.head _) rfl; exact h) (fun μ a K => by have h := K.op 6 1 (List.Mem.tail _ (List.Mem.head _)) rfl; exact h) (fun μ a K => by have h := K.op 7 2 (List.Mem.tail _ (List.Mem.tail _ (List.Mem.head _))) rfl; exact h) (hc1 ▸ product_c C x y)
  · exact RG.cert_put 2 rfl _ rfl 115 (.tmp 4) (.tmp 8) rfl rfl rfl (fun μ a K => K.old 4 (.p 2 0) (List.Mem.tail _ (List.Mem.tail _ (List.Mem.head _))) (by kernel_rfl)) (fun μ a K => by have h := K.op 8 3 (List.Mem.head _) rfl; exact h) i115 rfl
  intro new2 w2 hl2 hS2
  obtain rfl := RG.len0 hl2
  refine wp_ret ?_
  refine bodyPost_ret (v := (fv c1)) (RG.results_row hS2 4 115 rfl 2 _ rfl (by kernel_rfl) u115 i115) (by kernel_rfl) ?_
  exact ⟨_, rfl, hS2.bel.below, rfl⟩

def F114_0i (x y c1 : Fin P) : List RG.It := [⟨some 2, [], (.p 0 0), .make 0⟩,
  ⟨some 3, [], (.p 1 0), .make 1⟩,
  ⟨some 4, [], (.p 2 0), .make 2⟩]
def F114_0b (x y c1 : Fin P) : List RG.Bl := [⟨(ws x), (ws x), some 0, none⟩, ⟨(ws y), (ws y), some 1, none⟩, ⟨[.int .u64 0, .int .u64 0, .int .u64 0, .int .u64 0], [.int .u64 0, .int .u64 0, .int .u64 0, .int .u64 0], some 2, none⟩]
def F114_0o (x y c1 : Fin P) : List (Tmp × RG.SV) := [(0, (.v (fv x))), (1, (.v (fv y)))]
def F114_1i (x y c1 : Fin P) : List RG.It := [⟨some 5, [], (.v gv0), .call⟩,
  ⟨some 6, [], (.v (fv x)), .stay⟩,
  ⟨some 7, [], (.v (fv y)), .stay⟩,
  ⟨some 8, [(5, 0), (6, 1), (7, 2)], (.v (fv c1)), .call⟩,
  ⟨none, [(8, 3)], (.v undef), .put 2⟩]
def F114_1b (x y c1 : Fin P) : List RG.Bl := [⟨(ws x), (ws x), none, none⟩, ⟨(ws y), (ws y), none, none⟩, ⟨[.int .u64 0, .int .u64 0, .int .u64 0, .int .u64 0], (ws c1), none, some 4⟩]
def F114_1o (x y c1 : Fin P) : List (Tmp × RG.SV) := [(2, (.p 0 0)), (3, (.p 1 0)), (4, (.p 2 0))]
set_option maxHeartbeats 2000000 in
set_option maxRecDepth 100000 in
theorem CPlus_c (C : Fld P) (x y : Fin P) : Gives 114 #[(fv x), (fv y)] (fv (x + y)) := by
  intro w
  obtain ⟨c1, hc1⟩ : ∃ c, c = x + y := ⟨_, rfl⟩
  have hfin : ((fv c1) : Value) = (fv (x + y)) := by
    subst_vars; rfl
  rw [← hfin]
  go_enter Try.func114, Try.ntmps114
  have hS0 := RG.St.begin w
  repeat refine wp_seq ?_
  refine RG.region_text (its := F114_0i x y c1) (bl := F114_0b x y c1) (olds := F114_0o x y c1) hS0 (RG.Reg.mk' (by kernel_rfl) ⟨by kernel_rfl, by kernel_rfl, trivial⟩ ⟨?_, ?_, ?_, trivial⟩) (by kernel_rfl) (by kernel_rfl) (by kernel_rfl) ?_
  · exact RG.cert_box 0 rfl rfl _ rfl 115 0 rfl (fv x) (fun μ a K => K.old 0 (.v (fv x)) (List.Mem.head _) (by kernel_rfl)) (fun w => by kernel_rfl)
  · exact RG.cert_box 1 rfl rfl _ rfl 115 1 rfl (fv y) (fun μ a K => K.old 1 (.v (fv y)) (List.Mem.tail _ (List.Mem.head _)) (by kernel_rfl)) (fun w => by kernel_rfl)
  · exact RG.cert_alloc 2 rfl rfl _ rfl 115 rfl (fun w => by kernel_rfl)
  intro new1 w1 hl1 hS1
  obtain ⟨j1, i1, m1, rfl⟩ := RG.len3 hl1
  repeat refine wp_seq ?_
  refine RG.region_draws (by kernel_rfl) (its := F114_1i x y c1) (bl := F114_1b x y c1) (olds := F114_1o x y c1) hS1 (RG.Reg.mk' (by kernel_rfl) ⟨by kernel_rfl, by kernel_rfl, by kernel_rfl, trivial⟩ ⟨?_, ?_, ?_, ?_, ?_, trivial⟩) (by kernel_rfl) (by kernel_rfl) (by kernel_rfl) ?_
  · exact RG.cert_call0 rfl 63 gv0 rfl (fun a w => by kernel_rfl) (Coordinates_c)
  · exact RG.cert_load rfl 0 0 _ rfl rfl (by kernel_rfl) 115 2 rfl (ws x) rfl (fun μ a K => K.old 2 (.p 0 0) (List.Mem.head _) (by kernel_rfl)) (by kernel_rfl) u115 i115
  · exact RG.cert_load rfl 1 0 _ rfl rfl (by kernel_rfl) 115 3 rfl (ws y) rfl (fun μ a K => K.old 3 (.p 1 0) (List.Mem.tail _ (List.Mem.head _)) (by kernel_rfl)) (by kernel_rfl) u115 i115
  · exact RG.cert_call3 rfl 83 5 6 7 gv0 (fv x) (fv y) (fv c1) rfl (fun a w => by kernel_rfl) (fun μ a K => by have h := K.op 5 0 (List.Mem.head _) rfl; exact h) (fun μ a K => by have h := K.op 6 1 (List.Mem.tail _ (List.Mem.head _)) rfl; exact h) (fun μ a K => by have h := K.op 7 2 (List.Mem.tail _ (List.Mem.tail _ (List.Mem.head _))) rfl; exact h) (hc1 ▸ sum_c C x y)
  · exact RG.cert_put 2 rfl _ rfl 115 (.tmp 4) (.tmp 8) rfl rfl rfl (fun μ a K => K.old 4 (.p 2 0) (List.Mem.tail _ (List.Mem.tail _ (List.Mem.head _))) (by kernel_rfl)) (fun μ a K => by have h := K.op 8 3 (List.Mem.head _) rfl; exact h) i115 rfl
  intro new2 w2 hl2 hS2
  obtain rfl := RG.len0 hl2
  refine wp_ret ?_
  refine bodyPost_ret (v := (fv c1)) (RG.results_row hS2 4 115 rfl 2 _ rfl (by kernel_rfl) u115 i115) (by kernel_rfl) ?_
  exact ⟨_, rfl, hS2.bel.below, rfl⟩

def F104_0i (x y c1 : Fin P) : List RG.It := [⟨some 2, [], (.p 0 0), .make 0⟩,
  ⟨some 3, [], (.p 1 0), .make 1⟩,
  ⟨some 4, [], (.p 2 0), .make 2⟩]
def F104_0b (x y c1 : Fin P) : List RG.Bl := [⟨(ws x), (ws x), some 0, none⟩, ⟨(ws y), (ws y), some 1, none⟩, ⟨[.int .u64 0, .int .u64 0, .int .u64 0, .int .u64 0], [.int .u64 0, .int .u64 0, .int .u64 0, .int .u64 0], some 2, none⟩]
def F104_0o (x y c1 : Fin P) : List (Tmp × RG.SV) := [(0, (.v (fv x))), (1, (.v (fv y)))]
def F104_1i (x y c1 : Fin P) : List RG.It := [⟨some 5, [], (.v gv0), .call⟩,
  ⟨some 6, [], (.v (fv x)), .stay⟩,
  ⟨some 7, [], (.v (fv y)), .stay⟩,
  ⟨some 8, [(5, 0), (6, 1), (7, 2)], (.v (fv c1)), .call⟩,
  ⟨none, [(8, 3)], (.v undef), .put 2⟩]
def F104_1b (x y c1 : Fin P) : List RG.Bl := [⟨(ws x), (ws x), none, none⟩, ⟨(ws y), (ws y), none, none⟩, ⟨[.int .u64 0, .int .u64 0, .int .u64 0, .int .u64 0], (ws c1), none, some 4⟩]
def F104_1o (x y c1 : Fin P) : List (Tmp × RG.SV) := [(2, (.p 0 0)), (3, (.p 1 0)), (4, (.p 2 0))]
set_option maxHeartbeats 2000000 in
set_option maxRecDepth 100000 in
theorem CMinus_c (C : Fld P) (x y : Fin P) : Gives 104 #[(fv x), (fv y)] (fv (x - y)) := by
  intro w
  obtain ⟨c1, hc1⟩ : ∃ c, c = x - y := ⟨_, rfl⟩
  have hfin : ((fv c1) : Value) = (fv (x - y)) := by
    subst_vars; rfl
  rw [← hfin]
  go_enter Try.func104, Try.ntmps104
  have hS0 := RG.St.begin w
  repeat refine wp_seq ?_
  refine RG.region_text (its := F104_0i x y c1) (bl := F104_0b x y c1) (olds := F104_0o x y c1) hS0 (RG.Reg.mk' (by kernel_rfl) ⟨by kernel_rfl, by kernel_rfl, trivial⟩ ⟨?_, ?_, ?_, trivial⟩) (by kernel_rfl) (by kernel_rfl) (by kernel_rfl) ?_
  · exact RG.cert_box 0 rfl rfl _ rfl 115 0 rfl (fv x) (fun μ a K => K.old 0 (.v (fv x)) (List.Mem.head _) (by kernel_rfl)) (fun w => by kernel_rfl)
  · exact RG.cert_box 1 rfl rfl _ rfl 115 1 rfl (fv y) (fun μ a K => K.old 1 (.v (fv y)) (List.Mem.tail _ (List.Mem.head _)) (by kernel_rfl)) (fun w => by kernel_rfl)
  · exact RG.cert_alloc 2 rfl rfl _ rfl 115 rfl (fun w => by kernel_rfl)
  intro new1 w1 hl1 hS1
  obtain ⟨j1, i1, m1, rfl⟩ := RG.len3 hl1
  repeat refine wp_seq ?_
  refine RG.region_draws (by kernel_rfl) (its := F104_1i x y c1) (bl := F104_1b x y c1) (olds := F104_1o x y c1) hS1 (RG.Reg.mk' (by kernel_rfl) ⟨by kernel_rfl, by kernel_rfl, by kernel_rfl, trivial⟩ ⟨?_, ?_, ?_, ?_, ?_, trivial⟩) (by kernel_rfl) (by kernel_rfl) (by kernel_rfl) ?_
  · exact RG.cert_call0 rfl 63 gv0 rfl (fun a w => by kernel_rfl) (Coordinates_c)
  · exact RG.cert_load rfl 0 0 _ rfl rfl (by kernel_rfl) 115 2 rfl (ws x) rfl (fun μ a K => K.old 2 (.p 0 0) (List.Mem.head _) (by kernel_rfl)) (by kernel_rfl) u115 i115
  · exact RG.cert_load rfl 1 0 _ rfl rfl (by kernel_rfl) 115 3 rfl (ws y) rfl (fun μ a K => K.old 3 (.p 1 0) (List.Mem.tail _ (List.Mem.head _)) (by kernel_rfl)) (by kernel_rfl) u115 i115
  · exact RG.cert_call3 rfl 86 5 6 7 gv0 (fv x) (fv y) (fv c1) rfl (fun a w => by kernel_rfl) (fun μ a K => by have h := K.op 5 0 (List.Mem.head _) rfl; exact h) (fun μ a K => by have h := K.op 6 1 (List.Mem.tail _ (List.Mem.head _)) rfl; exact h) (fun μ a K => by have h := K.op 7 2 (List.Mem.tail _ (List.Mem.tail _ (List.Mem.head _))) rfl; exact h) (hc1 ▸ difference_c C x y)
  · exact RG.cert_put 2 rfl _ rfl 115 (.tmp 4) (.tmp 8) rfl rfl rfl (fun μ a K => K.old 4 (.p 2 0) (List.Mem.tail _ (List.Mem.tail _ (List.Mem.head _))) (by kernel_rfl)) (fun μ a K => by have h := K.op 8 3 (List.Mem.head _) rfl; exact h) i115 rfl
  intro new2 w2 hl2 hS2
  obtain rfl := RG.len0 hl2
  refine wp_ret ?_
  refine bodyPost_ret (v := (fv c1)) (RG.results_row hS2 4 115 rfl 2 _ rfl (by kernel_rfl) u115 i115) (by kernel_rfl) ?_
  exact ⟨_, rfl, hS2.bel.below, rfl⟩

def F100_0i (x : Fin P) : List RG.It := [⟨some 1, [], (.p 0 0), .make 0⟩,
  ⟨some 2, [], (.p 1 0), .make 1⟩]
def F100_0b (x : Fin P) : List RG.Bl := [⟨(ws x), (ws x), some 0, none⟩, ⟨[.int .u64 0, .int .u64 0, .int .u64 0, .int .u64 0], [.int .u64 0, .int .u64 0, .int .u64 0, .int .u64 0], some 1, none⟩]
def F100_0o (x : Fin P) : List (Tmp × RG.SV) := [(0, (.v (fv x)))]
def F100_1i (x : Fin P) : List RG.It := [⟨some 3, [], (.v (fv x)), .stay⟩,
  ⟨some 4, [(3, 0)], (.v (fv x)), .call⟩,
  ⟨none, [(4, 1)], (.v undef), .put 1⟩]
def F100_1b (x : Fin P) : List RG.Bl := [⟨(ws x), (ws x), none, none⟩, ⟨[.int .u64 0, .int .u64 0, .int .u64 0, .int .u64 0], (ws x), none, some 2⟩]
def F100_1o (x : Fin P) : List (Tmp × RG.SV) := [(1, (.p 0 0)), (2, (.p 1 0))]
set_option maxHeartbeats 2000000 in
set_option maxRecDepth 100000 in
theorem Coord_c (C : Fld P) (x : Fin P) : Gives 100 #[(fv x)] (fv x) := by
  intro w
  have hfin : ((fv x) : Value) = (fv x) := by
    subst_vars; rfl
  rw [← hfin]
  go_enter Try.func100, Try.ntmps100
  have hS0 := RG.St.begin w
  repeat refine wp_seq ?_
  refine RG.region_text (its := F100_0i x) (bl := F100_0b x) (olds := F100_0o x) hS0 (RG.Reg.mk' (by kernel_rfl) ⟨by kernel_rfl, trivial⟩ ⟨?_, ?_, trivial⟩) (by kernel_rfl) (by kernel_rfl) (by kernel_rfl) ?_
  · exact RG.cert_box 0 rfl rfl _ rfl 85 0 rfl (fv x) (fun μ a K => K.old 0 (.v (fv x)) (List.Mem.head _) (by kernel_rfl)) (fun w => by kernel_rfl)
  · exact RG.cert_alloc 1 rfl rfl _ rfl 115 rfl (fun w => by kernel_rfl)
  intro new1 w1 hl1 hS1
  obtain ⟨j1, i1, rfl⟩ := RG.len2 hl1
  repeat refine wp_seq ?_
  refine RG.region_text (its := F100_1i x) (bl := F100_1b x) (olds := F100_1o x) hS1 (RG.Reg.mk' (by kernel_rfl) ⟨by kernel_rfl, by kernel_rfl, trivial⟩ ⟨?_, ?_, ?_, trivial⟩) (by kernel_rfl) (by kernel_rfl) (by kernel_rfl) ?_
  · exact RG.cert_load rfl 0 0 _ rfl rfl (by kernel_rfl) 85 1 rfl (ws x) rfl (fun μ a K => K.old 1 (.p 0 0) (List.Mem.head _) (by kernel_rfl)) (by kernel_rfl) u85 i85
  · exact RG.cert_call1 rfl 84 3 (fv x) (fv x) rfl (fun a w => by kernel_rfl) (fun μ a K => by have h := K.op 3 0 (List.Mem.head _) rfl; exact h) (four_c C x)
  · exact RG.cert_put 1 rfl _ rfl 115 (.tmp 2) (.tmp 4) rfl rfl rfl (fun μ a K => K.old 2 (.p 1 0) (List.Mem.tail _ (List.Mem.head _)) (by kernel_rfl)) (fun μ a K => by have h := K.op 4 1 (List.Mem.head _) rfl; exact h) i115 rfl
  intro new2 w2 hl2 hS2
  obtain rfl := RG.len0 hl2
  refine wp_ret ?_
  refine bodyPost_ret (v := (fv x)) (RG.results_row hS2 2 115 rfl 1 _ rfl (by kernel_rfl) u115 i115) (by kernel_rfl) ?_
  exact ⟨_, rfl, hS2.bel.below, rfl⟩

def F106_0i (x : Fin P) : List RG.It := [⟨some 1, [], (.p 0 0), .make 0⟩,
  ⟨some 2, [], (.p 1 0), .make 1⟩]
def F106_0b (x : Fin P) : List RG.Bl := [⟨(ws x), (ws x), some 0, none⟩, ⟨[.int .u64 0, .int .u64 0, .int .u64 0, .int .u64 0], [.int .u64 0, .int .u64 0, .int .u64 0, .int .u64 0], some 1, none⟩]
def F106_0o (x : Fin P) : List (Tmp × RG.SV) := [(0, (.v (fv x)))]
def F106_1i (x : Fin P) : List RG.It := [⟨some 3, [], (.v (fv x)), .stay⟩,
  ⟨some 4, [(3, 0)], (.v (fv x)), .call⟩,
  ⟨none, [(4, 1)], (.v undef), .put 1⟩]
def F106_1b (x : Fin P) : List RG.Bl := [⟨(ws x), (ws x), none, none⟩, ⟨[.int .u64 0, .int .u64 0, .int .u64 0, .int .u64 0], (ws x), none, some 2⟩]
def F106_1o (x : Fin P) : List (Tmp × RG.SV) := [(1, (.p 0 0)), (2, (.p 1 0))]
set_option maxHeartbeats 2000000 in
set_option maxRecDepth 100000 in
theorem Numb_c (C : Fld P) (x : Fin P) : Gives 106 #[(fv x)] (fv x) := by
  intro w
  have hfin : ((fv x) : Value) = (fv x) := by
    subst_vars; rfl
  rw [← hfin]
  go_enter Try.func106, Try.ntmps106
  have hS0 := RG.St.begin w
  repeat refine wp_seq ?_
  refine RG.region_text (its := F106_0i x) (bl := F106_0b x) (olds := F106_0o x) hS0 (RG.Reg.mk' (by kernel_rfl) ⟨by kernel_rfl, trivial⟩ ⟨?_, ?_, trivial⟩) (by kernel_rfl) (by kernel_rfl) (by kernel_rfl) ?_
  · exact RG.cert_box 0 rfl rfl _ rfl 115 0 rfl (fv x) (fun μ a K => K.old 0 (.v (fv x)) (List.Mem.head _) (by kernel_rfl)) (fun w => by kernel_rfl)
  · exact RG.cert_alloc 1 rfl rfl _ rfl 85 rfl (fun w => by kernel_rfl)
  intro new1 w1 hl1 hS1
  obtain ⟨j1, i1, rfl⟩ := RG.len2 hl1
  repeat refine wp_seq ?_
  refine RG.region_text (its := F106_1i x) (bl := F106_1b x) (olds := F106_1o x) hS1 (RG.Reg.mk' (by kernel_rfl) ⟨by kernel_rfl, by kernel_rfl, trivial⟩ ⟨?_, ?_, ?_, trivial⟩) (by kernel_rfl) (by kernel_rfl) (by kernel_rfl) ?_
  · exact RG.cert_load rfl 0 0 _ rfl rfl (by kernel_rfl) 115 1 rfl (ws x) rfl (fun μ a K => K.old 1 (.p 0 0) (List.Mem.head _) (by kernel_rfl)) (by kernel_rfl) u115 i115
  · exact RG.cert_call1 rfl 85 3 (fv x) (fv x) rfl (fun a w => by kernel_rfl) (fun μ a K => by have h := K.op 3 0 (List.Mem.head _) rfl; exact h) (number_c C x)
  · exact RG.cert_put 1 rfl _ rfl 85 (.tmp 2) (.tmp 4) rfl rfl rfl (fun μ a K => K.old 2 (.p 1 0) (List.Mem.tail _ (List.Mem.head _)) (by kernel_rfl)) (fun μ a K => by have h := K.op 4 1 (List.Mem.head _) rfl; exact h) i85 rfl
  intro new2 w2 hl2 hS2
  obtain rfl := RG.len0 hl2
  refine wp_ret ?_
  refine bodyPost_ret (v := (fv x)) (RG.results_row hS2 2 85 rfl 1 _ rfl (by kernel_rfl) u85 i85) (by kernel_rfl) ?_
  exact ⟨_, rfl, hS2.bel.below, rfl⟩

def F105_0i (x c1 : Fin P) : List RG.It := [⟨some 1, [], (.p 0 0), .make 0⟩,
  ⟨some 2, [], (.p 1 0), .make 1⟩]
def F105_0b (x c1 : Fin P) : List RG.Bl := [⟨(ws x), (ws x), some 0, none⟩, ⟨[.int .u64 0, .int .u64 0, .int .u64 0, .int .u64 0], [.int .u64 0, .int .u64 0, .int .u64 0, .int .u64 0], some 1, none⟩]
def F105_0o (x c1 : Fin P) : List (Tmp × RG.SV) := [(0, (.v (fv x)))]
def F105_1i (x c1 : Fin P) : List RG.It := [⟨some 3, [], (.v (fv x)), .stay⟩,
  ⟨some 4, [], (.v (fv x)), .stay⟩,
  ⟨some 5, [(3, 0), (4, 1)], (.v (fv c1)), .call⟩,
  ⟨none, [(5, 2)], (.v undef), .put 1⟩]
def F105_1b (x c1 : Fin P) : List RG.Bl := [⟨(ws x), (ws x), none, none⟩, ⟨[.int .u64 0, .int .u64 0, .int .u64 0, .int .u64 0], (ws c1), none, some 3⟩]
def F105_1o (x c1 : Fin P) : List (Tmp × RG.SV) := [(1, (.p 0 0)), (2, (.p 1 0))]
set_option maxHeartbeats 2000000 in
set_option maxRecDepth 100000 in
theorem double_c (C : Fld P) (x : Fin P) : Gives 105 #[(fv x)] (fv (EC.dbl x)) := by
  intro w
  obtain ⟨c1, hc1⟩ : ∃ c, c = x + x := ⟨_, rfl⟩
  have hfin : ((fv c1) : Value) = (fv (EC.dbl x)) := by
    subst_vars; rfl
  rw [← hfin]
  go_enter Try.func105, Try.ntmps105
  have hS0 := RG.St.begin w
  repeat refine wp_seq ?_
  refine RG.region_text (its := F105_0i x c1) (bl := F105_0b x c1) (olds := F105_0o x c1) hS0 (RG.Reg.mk' (by kernel_rfl) ⟨by kernel_rfl, trivial⟩ ⟨?_, ?_, trivial⟩) (by kernel_rfl) (by kernel_rfl) (by kernel_rfl) ?_
  · exact RG.cert_box 0 rfl rfl _ rfl 115 0 rfl (fv x) (fun μ a K => K.old 0 (.v (fv x)) (List.Mem.head _) (by kernel_rfl)) (fun w => by kernel_rfl)
  · exact RG.cert_alloc 1 rfl rfl _ rfl 115 rfl (fun w => by kernel_rfl)
  intro new1 w1 hl1 hS1
  obtain ⟨j1, i1, rfl⟩ := RG.len2 hl1
  repeat refine wp_seq ?_
  refine RG.region_text (its := F105_1i x c1) (bl := F105_1b x c1) (olds := F105_1o x c1) hS1 (RG.Reg.mk' (by kernel_rfl) ⟨by kernel_rfl, by kernel_rfl, trivial⟩ ⟨?_, ?_, ?_, ?_, trivial⟩) (by kernel_rfl) (by kernel_rfl) (by kernel_rfl) ?_
  · exact RG.cert_load rfl 0 0 _ rfl rfl (by kernel_rfl) 115 1 rfl (ws x) rfl (fun μ a K => K.old 1 (.p 0 0) (List.Mem.head _) (by kernel_rfl)) (by kernel_rfl) u115 i115
  · exact RG.cert_load rfl 0 0 _ rfl rfl (by kernel_rfl) 115 1 rfl (ws x) rfl (fun μ a K => K.old 1 (.p 0 0) (List.Mem.head _) (by kernel_rfl)) (by kernel_rfl) u115 i115
  · exact RG.cert_call2 rfl 114 3 4 (fv x) (fv x) (fv c1) rfl (fun a w => by kernel_rfl) (fun μ a K => by have h := K.op 3 0 (List.Mem.head _) rfl; exact h) (fun μ a K => by have h := K.op 4 1 (List.Mem.tail _ (List.Mem.head _)) rfl; exact h) (hc1 ▸ CPlus_c C x x)
  · exact RG.cert_put 1 rfl _ rfl 115 (.tmp 2) (.tmp 5) rfl rfl rfl (fun μ a K => K.old 2 (.p 1 0) (List.Mem.tail _ (List.Mem.head _)) (by kernel_rfl)) (fun μ a K => by have h := K.op 5 2 (List.Mem.head _) rfl; exact h) i115 rfl
  intro new2 w2 hl2 hS2
  obtain rfl := RG.len0 hl2
  refine wp_ret ?_
  refine bodyPost_ret (v := (fv c1)) (RG.results_row hS2 2 115 rfl 1 _ rfl (by kernel_rfl) u115 i115) (by kernel_rfl) ?_
  exact ⟨_, rfl, hS2.bel.below, rfl⟩

end Go.Proofs.Ytdeidgbknlmhjab
