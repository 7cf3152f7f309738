import Derived.Test.YtdeidgbknlmhjabIX
import Derived.Deep.LoopGhost
set_option linter.unusedVariables false
set_option linter.unusedSimpArgs false
namespace Go.Proofs.Ytdeidgbknlmhjab
open Go.RowKit Go.Sort
variable {P : Nat} [NeZero P]

theorem u138 : (Try.prog.underlying 138).map (·.isRow) = some true := by kernel_rfl
theorem i138 : (Try.prog.info? 138).map (·.size) = some 257 := by kernel_rfl
theorem i137 : (Try.prog.info? 137).map (·.size) = some 1 := by kernel_rfl
theorem u137 : (Try.prog.underlying 137).map (·.isRow) = some false := by kernel_rfl
theorem al138 (w : World) : (Instr.alloc 138 true (.tuple #[])).run Try.prog w = .ok (.pointer (some ⟨w.heap.size, 0, none⟩)) (w.alloc (.cells (dg (fun _ => 0)).toArray 138)) := by kernel_rfl

def F115_0i (n : Nat)  : List RG.It := [⟨some 1, [], (.p 0 0), .make 0⟩,
  ⟨some 2, [], (.p 1 0), .make 1⟩]
def F115_0b (n : Nat)  : List RG.Bl := [⟨(wn n), (wn n), some 0, none⟩, ⟨(dg (fun _ => 0)), (dg (fun _ => 0)), some 1, none⟩]
def F115_0o (n : Nat)  : List (Tmp × RG.SV) := [(0, (.v (nv n)))]
def F115_1i (n : Nat)  : List RG.It := [⟨some 3, [], (.p 2 0), .make 2⟩]
def F115_1b (n : Nat)  : List RG.Bl := [⟨(wn n), (wn n), none, none⟩, ⟨(dg (fun _ => 0)), (dg (fun _ => 0)), none, none⟩, ⟨(dg (fun _ => 0)), (dg (fun _ => 0)), some 0, none⟩]
def F115_1o (n : Nat)  : List (Tmp × RG.SV) := []
def F115_2i (n : Nat)  : List RG.It := [⟨some 4, [], (.v (.int .i64 0)), .stay⟩]
def F115_2b (n : Nat)  : List RG.Bl := [⟨(wn n), (wn n), none, none⟩, ⟨(dg (fun _ => 0)), (dg (fun _ => 0)), none, none⟩, ⟨(dg (fun _ => 0)), (dg (fun _ => 0)), none, none⟩]
def F115_2o (n : Nat)  : List (Tmp × RG.SV) := []
def F115_3i (n : Nat)  : List RG.It := [⟨some 5, [], (.v (.int .i64 0)), .stay⟩]
def F115_3b (n : Nat)  : List RG.Bl := [⟨(wn n), (wn n), none, none⟩, ⟨(dg (fun _ => 0)), (dg (fun _ => 0)), none, none⟩, ⟨(dg (fun _ => 0)), (dg (fun _ => 0)), none, none⟩]
def F115_3o (n : Nat)  : List (Tmp × RG.SV) := []
def F115s_4i (n i c b g e : Nat) (v : Int) (d : Nat → Int)  : List RG.It := [⟨some 7, [], (.v (.int .i64 (i : Int))), .stay⟩,
  ⟨some 8, [(7, 0)], (.v (.bool true)), .stay⟩]
def F115s_4b (n i c b g e : Nat) (v : Int) (d : Nat → Int)  : List RG.Bl := [⟨(wn n), (wn n), none, none⟩, ⟨(dg (fun _ => 0)), (dg (fun _ => 0)), none, none⟩, ⟨(dg d), (dg d), none, none⟩]
def F115s_4o (n i c b g e : Nat) (v : Int) (d : Nat → Int)  : List (Tmp × RG.SV) := [(5, (.v (.int .i64 (i : Int))))]
def F115s_6i (n i c b g e : Nat) (v : Int) (d : Nat → Int)  : List RG.It := [⟨some 11, [], (.v (nv n)), .stay⟩,
  ⟨some 12, [], (.v (.int .i64 (i : Int))), .stay⟩,
  ⟨some 13, [(11, 0), (12, 1)], (.v (.int .i64 (b : Int))), .call⟩,
  ⟨some 14, [], (.v (.int .i64 (c : Int))), .stay⟩,
  ⟨some 15, [(13, 2), (14, 3)], (.v (.bool true)), .stay⟩]
def F115s_6b (n i c b g e : Nat) (v : Int) (d : Nat → Int)  : List RG.Bl := [⟨(wn n), (wn n), none, none⟩, ⟨(dg (fun _ => 0)), (dg (fun _ => 0)), none, none⟩, ⟨(dg d), (dg d), none, none⟩]
def F115s_6o (n i c b g e : Nat) (v : Int) (d : Nat → Int)  : List (Tmp × RG.SV) := [(1, (.p 0 0)), (5, (.v (.int .i64 (i : Int)))), (4, (.v (.int .i64 (c : Int))))]
def F115s_5i (n i c b g e : Nat) (v : Int) (d : Nat → Int)  : List RG.It := [⟨some 9, [], (.v (.int .i64 (i : Int))), .stay⟩,
  ⟨some 10, [(9, 0)], (.v (.int .i64 ((i + 1 : Nat) : Int))), .stay⟩,
  ⟨some 5, [(10, 1)], (.v (.int .i64 ((i + 1 : Nat) : Int))), .stay⟩]
def F115s_5b (n i c b g e : Nat) (v : Int) (d : Nat → Int)  : List RG.Bl := [⟨(wn n), (wn n), none, none⟩, ⟨(dg (fun _ => 0)), (dg (fun _ => 0)), none, none⟩, ⟨(dg d), (dg d), none, none⟩]
def F115s_5o (n i c b g e : Nat) (v : Int) (d : Nat → Int)  : List (Tmp × RG.SV) := [(5, (.v (.int .i64 (i : Int))))]
def F115t_4i (n i c b g e : Nat) (v : Int) (d : Nat → Int)  : List RG.It := [⟨some 7, [], (.v (.int .i64 (i : Int))), .stay⟩,
  ⟨some 8, [(7, 0)], (.v (.bool true)), .stay⟩]
def F115t_4b (n i c b g e : Nat) (v : Int) (d : Nat → Int)  : List RG.Bl := [⟨(wn n), (wn n), none, none⟩, ⟨(dg (fun _ => 0)), (dg (fun _ => 0)), none, none⟩, ⟨(dg d), (dg d), none, none⟩]
def F115t_4o (n i c b g e : Nat) (v : Int) (d : Nat → Int)  : List (Tmp × RG.SV) := [(5, (.v (.int .i64 (i : Int))))]
def F115t_6i (n i c b g e : Nat) (v : Int) (d : Nat → Int)  : List RG.It := [⟨some 11, [], (.v (nv n)), .stay⟩,
  ⟨some 12, [], (.v (.int .i64 (i : Int))), .stay⟩,
  ⟨some 13, [(11, 0), (12, 1)], (.v (.int .i64 (b : Int))), .call⟩,
  ⟨some 14, [], (.v (.int .i64 (c : Int))), .stay⟩,
  ⟨some 15, [(13, 2), (14, 3)], (.v (.bool false)), .stay⟩]
def F115t_6b (n i c b g e : Nat) (v : Int) (d : Nat → Int)  : List RG.Bl := [⟨(wn n), (wn n), none, none⟩, ⟨(dg (fun _ => 0)), (dg (fun _ => 0)), none, none⟩, ⟨(dg d), (dg d), none, none⟩]
def F115t_6o (n i c b g e : Nat) (v : Int) (d : Nat → Int)  : List (Tmp × RG.SV) := [(1, (.p 0 0)), (5, (.v (.int .i64 (i : Int)))), (4, (.v (.int .i64 (c : Int))))]
def F115t_7i (n i c b g e : Nat) (v : Int) (d : Nat → Int)  : List RG.It := [⟨some 16, [], (.v (nv n)), .stay⟩,
  ⟨some 17, [], (.v (.int .i64 (i : Int))), .stay⟩,
  ⟨some 18, [(16, 0), (17, 1)], (.v (.int .i64 (e : Int))), .call⟩,
  ⟨some 19, [], (.v (.int .i64 (c : Int))), .stay⟩,
  ⟨some 20, [(18, 2), (19, 3)], (.v (.int .i64 (g : Int))), .stay⟩,
  ⟨some 6, [(20, 4)], (.v (.int .i64 (g : Int))), .stay⟩]
def F115t_7b (n i c b g e : Nat) (v : Int) (d : Nat → Int)  : List RG.Bl := [⟨(wn n), (wn n), none, none⟩, ⟨(dg (fun _ => 0)), (dg (fun _ => 0)), none, none⟩, ⟨(dg d), (dg d), none, none⟩]
def F115t_7o (n i c b g e : Nat) (v : Int) (d : Nat → Int)  : List (Tmp × RG.SV) := [(1, (.p 0 0)), (5, (.v (.int .i64 (i : Int)))), (4, (.v (.int .i64 (c : Int))))]
def F115t_8i (n i c b g e : Nat) (v : Int) (d : Nat → Int)  : List RG.It := [⟨some 21, [], (.v (.int .i64 (g : Int))), .stay⟩,
  ⟨some 22, [(21, 0)], (.v (.int .i64 ((g / 16 : Nat) : Int))), .stay⟩,
  ⟨some 4, [(22, 1)], (.v (.int .i64 ((g / 16 : Nat) : Int))), .stay⟩]
def F115t_8b (n i c b g e : Nat) (v : Int) (d : Nat → Int)  : List RG.Bl := [⟨(wn n), (wn n), none, none⟩, ⟨(dg (fun _ => 0)), (dg (fun _ => 0)), none, none⟩, ⟨(dg d), (dg d), none, none⟩]
def F115t_8o (n i c b g e : Nat) (v : Int) (d : Nat → Int)  : List (Tmp × RG.SV) := [(6, (.v (.int .i64 (g : Int))))]
def F115t_9i (n i c b g e : Nat) (v : Int) (d : Nat → Int)  : List RG.It := [⟨some 23, [], (.v (.int .i64 (i : Int))), .stay⟩,
  ⟨some 24, [], (.v (.int .i64 (g : Int))), .stay⟩,
  ⟨some 25, [], (.v (.int .i64 ((g / 16 : Nat) : Int))), .stay⟩,
  ⟨some 26, [(25, 2)], (.v (.int .i64 (32 * ((g / 16 : Nat) : Int)))), .stay⟩,
  ⟨some 27, [(24, 1), (26, 3)], (.v (.int .i64 v)), .stay⟩,
  ⟨some 28, [(27, 4)], (.v (.int .i8 v)), .stay⟩,
  ⟨some 29, [(23, 0)], (.p 2 i), .stay⟩,
  ⟨none, [(29, 6), (28, 5)], (.v undef), .put 2⟩]
def F115t_9b (n i c b g e : Nat) (v : Int) (d : Nat → Int)  : List RG.Bl := [⟨(wn n), (wn n), none, none⟩, ⟨(dg (fun _ => 0)), (dg (fun _ => 0)), none, none⟩, ⟨(dg d), (dg (DG.upd d i v)), none, some 7⟩]
def F115t_9o (n i c b g e : Nat) (v : Int) (d : Nat → Int)  : List (Tmp × RG.SV) := [(5, (.v (.int .i64 (i : Int)))), (6, (.v (.int .i64 (g : Int)))), (4, (.v (.int .i64 ((g / 16 : Nat) : Int)))), (3, (.p 2 0))]
def F115t_10i (n i c b g e : Nat) (v : Int) (d : Nat → Int)  : List RG.It := [⟨some 30, [], (.v (.int .i64 (i : Int))), .stay⟩,
  ⟨some 31, [(30, 0)], (.v (.int .i64 ((i + 4 : Nat) : Int))), .stay⟩,
  ⟨some 5, [(31, 1)], (.v (.int .i64 ((i + 4 : Nat) : Int))), .stay⟩]
def F115t_10b (n i c b g e : Nat) (v : Int) (d : Nat → Int)  : List RG.Bl := [⟨(wn n), (wn n), none, none⟩, ⟨(dg (fun _ => 0)), (dg (fun _ => 0)), none, none⟩, ⟨(dg (DG.upd d i v)), (dg (DG.upd d i v)), none, none⟩]
def F115t_10o (n i c b g e : Nat) (v : Int) (d : Nat → Int)  : List (Tmp × RG.SV) := [(5, (.v (.int .i64 (i : Int))))]
def F115t_5i (n i c b g e : Nat) (v : Int) (d : Nat → Int)  : List RG.It := [⟨some 9, [], (.v (.int .i64 ((i + 4 : Nat) : Int))), .stay⟩,
  ⟨some 10, [(9, 0)], (.v (.int .i64 ((i + 4 + 1 : Nat) : Int))), .stay⟩,
  ⟨some 5, [(10, 1)], (.v (.int .i64 ((i + 4 + 1 : Nat) : Int))), .stay⟩]
def F115t_5b (n i c b g e : Nat) (v : Int) (d : Nat → Int)  : List RG.Bl := [⟨(wn n), (wn n), none, none⟩, ⟨(dg (fun _ => 0)), (dg (fun _ => 0)), none, none⟩, ⟨(dg (DG.upd d i v)), (dg (DG.upd d i v)), none, none⟩]
def F115t_5o (n i c b g e : Nat) (v : Int) (d : Nat → Int)  : List (Tmp × RG.SV) := [(5, (.v (.int .i64 ((i + 4 : Nat) : Int))))]
def F115z_4i (n i c b g e : Nat) (v : Int) (d : Nat → Int)  : List RG.It := [⟨some 7, [], (.v (.int .i64 (i : Int))), .stay⟩,
  ⟨some 8, [(7, 0)], (.v (.bool false)), .stay⟩]
def F115z_4b (n i c b g e : Nat) (v : Int) (d : Nat → Int)  : List RG.Bl := [⟨(wn n), (wn n), none, none⟩, ⟨(dg (fun _ => 0)), (dg (fun _ => 0)), none, none⟩, ⟨(dg d), (dg d), none, none⟩]
def F115z_4o (n i c b g e : Nat) (v : Int) (d : Nat → Int)  : List (Tmp × RG.SV) := [(5, (.v (.int .i64 (i : Int))))]
def F115z_11i (n i c b g e : Nat) (v : Int) (d : Nat → Int)  : List RG.It := [⟨some 32, [], (.v (dv d)), .stay⟩,
  ⟨none, [(32, 0)], (.v undef), .put 1⟩]
def F115z_11b (n i c b g e : Nat) (v : Int) (d : Nat → Int)  : List RG.Bl := [⟨(wn n), (wn n), none, none⟩, ⟨(dg (fun _ => 0)), (dg d), none, some 1⟩, ⟨(dg d), (dg d), none, none⟩]
def F115z_11o (n i c b g e : Nat) (v : Int) (d : Nat → Int)  : List (Tmp × RG.SV) := [(3, (.p 2 0)), (2, (.p 1 0))]

set_option maxHeartbeats 2000000 in
set_option maxRecDepth 100000 in
theorem digits_c {n : Nat} (hn : n < top) : Gives 115 #[nv n] (dv (digs n)) := by
  intro w
  go_enter Try.func115, Try.ntmps115
  refine RG.var1 (v0 := nv n) (n := 33) (by kernel_rfl) (by kernel_rfl) (by kernel_rfl) ?_
  intro a0 sl0 f0
  have hS0 := RG.St.begin w
  repeat refine wp_seq ?_
  refine RG.region_text' (its := F115_0i n) (bl := F115_0b n) (olds := F115_0o n) hS0 (RG.Reg.mk' (by rw [sl0.size]; kernel_rfl) ⟨f0, trivial⟩ ⟨?_, ?_, trivial⟩) (by kernel_rfl) (by kernel_rfl) (RG.endB_st (by kernel_rfl)) ?_
  · exact RG.cert_box 0 rfl rfl _ rfl 85 0 rfl (nv n) (fun μ a K => K.old 0 (.v (nv n)) (List.Mem.head _) (by kernel_rfl)) (fun w => by kernel_rfl)
  · exact RG.cert_alloc 1 rfl rfl _ rfl 138 rfl (al138)
  intro new1 w1 hl1 hS1
  obtain ⟨j1, i1, rfl⟩ := RG.len2 hl1
  clear hl1
  replace hS1 : RG.St w w.heap.size [] [(wn n), (dg (fun _ => 0))] [j1, i1] w1 := hS1
  have sl1 : RG.Sl (RG.puts (RG.ad ([] ++ [j1, i1])) (F115_0i n) a0) 33 := sl0.puts
  have f1_1 : (RG.puts (RG.ad ([] ++ [j1, i1])) (F115_0i n) a0).tmps[1]? = some (.pointer (some ⟨j1, 0, none⟩)) := by have h := RG.put_new (μ := RG.ad ([] ++ [j1, i1])) (its := (F115_0i n)) sl0 0 (by kernel_rfl) rfl rfl rfl; exact h
  have f2_1 : (RG.puts (RG.ad ([] ++ [j1, i1])) (F115_0i n) a0).tmps[2]? = some (.pointer (some ⟨i1, 0, none⟩)) := by have h := RG.put_new (μ := RG.ad ([] ++ [j1, i1])) (its := (F115_0i n)) sl0 1 (by kernel_rfl) rfl rfl rfl; exact h
  generalize RG.puts (RG.ad ([] ++ [j1, i1])) (F115_0i n) a0 = a1 at sl1 f1_1 f2_1 ⊢
  repeat refine wp_seq ?_
  refine RG.region_text' (its := F115_1i n) (bl := F115_1b n) (olds := F115_1o n) hS1 (RG.Reg.mk' (by rw [sl1.size]; kernel_rfl) trivial ⟨?_, trivial⟩) (by kernel_rfl) (by kernel_rfl) (RG.endB_st (by kernel_rfl)) ?_
  · exact RG.cert_alloc 2 rfl rfl _ rfl 138 rfl (al138)
  intro new2 w2 hl2 hS2
  obtain ⟨j2, rfl⟩ := RG.len1 hl2
  clear hl2
  replace hS2 : RG.St w w.heap.size [] [(wn n), (dg (fun _ => 0)), (dg (fun _ => 0))] [j1, i1, j2] w2 := hS2
  have sl2 : RG.Sl (RG.puts (RG.ad ([j1, i1] ++ [j2])) (F115_1i n) a1) 33 := sl1.puts
  have f1_2 := RG.put_old (μ := RG.ad ([j1, i1] ++ [j2])) (its := (F115_1i n)) f1_1 (by kernel_rfl)
  have f2_2 := RG.put_old (μ := RG.ad ([j1, i1] ++ [j2])) (its := (F115_1i n)) f2_1 (by kernel_rfl)
  have f3_2 : (RG.puts (RG.ad ([j1, i1] ++ [j2])) (F115_1i n) a1).tmps[3]? = some (.pointer (some ⟨j2, 0, none⟩)) := by have h := RG.put_new (μ := RG.ad ([j1, i1] ++ [j2])) (its := (F115_1i n)) sl1 0 (by kernel_rfl) rfl rfl rfl; exact h
  generalize RG.puts (RG.ad ([j1, i1] ++ [j2])) (F115_1i n) a1 = a2 at sl2 f1_2 f2_2 f3_2 ⊢
  repeat refine wp_seq ?_
  refine RG.region_text' (its := F115_2i n) (bl := F115_2b n) (olds := F115_2o n) hS2 (RG.Reg.mk' (by rw [sl2.size]; kernel_rfl) trivial ⟨?_, trivial⟩) (by kernel_rfl) (by kernel_rfl) (RG.endB_st (by kernel_rfl)) ?_
  · exact RG.cert_stay rfl (fun μ a w _ _ => by kernel_rfl)
  intro new3 w3 hl3 hS3
  obtain rfl := RG.len0 hl3
  replace hS3 : RG.St w w.heap.size [] [(wn n), (dg (fun _ => 0)), (dg (fun _ => 0))] [j1, i1, j2] w3 := hS3
  have sl3 : RG.Sl (RG.puts (RG.ad ([j1, i1, j2] ++ [])) (F115_2i n) a2) 33 := sl2.puts
  have f1_3 := RG.put_old (μ := RG.ad ([j1, i1, j2] ++ [])) (its := (F115_2i n)) f1_2 (by kernel_rfl)
  have f2_3 := RG.put_old (μ := RG.ad ([j1, i1, j2] ++ [])) (its := (F115_2i n)) f2_2 (by kernel_rfl)
  have f3_3 := RG.put_old (μ := RG.ad ([j1, i1, j2] ++ [])) (its := (F115_2i n)) f3_2 (by kernel_rfl)
  have f4_3 : (RG.puts (RG.ad ([j1, i1, j2] ++ [])) (F115_2i n) a2).tmps[4]? = some (.int .i64 0) := by have h := RG.put_new (μ := RG.ad ([j1, i1, j2] ++ [])) (its := (F115_2i n)) sl2 0 (by kernel_rfl) rfl rfl rfl; exact h
  generalize RG.puts (RG.ad ([j1, i1, j2] ++ [])) (F115_2i n) a2 = a3 at sl3 f1_3 f2_3 f3_3 f4_3 ⊢
  repeat refine wp_seq ?_
  refine RG.region_text' (its := F115_3i n) (bl := F115_3b n) (olds := F115_3o n) hS3 (RG.Reg.mk' (by rw [sl3.size]; kernel_rfl) trivial ⟨?_, trivial⟩) (by kernel_rfl) (by kernel_rfl) (RG.endB_st (by kernel_rfl)) ?_
  · exact RG.cert_stay rfl (fun μ a w _ _ => by kernel_rfl)
  intro new4 w4 hl4 hS4
  obtain rfl := RG.len0 hl4
  replace hS4 : RG.St w w.heap.size [] [(wn n), (dg (fun _ => 0)), (dg (fun _ => 0))] [j1, i1, j2] w4 := hS4
  have sl4 : RG.Sl (RG.puts (RG.ad ([j1, i1, j2] ++ [])) (F115_3i n) a3) 33 := sl3.puts
  have f1_4 := RG.put_old (μ := RG.ad ([j1, i1, j2] ++ [])) (its := (F115_3i n)) f1_3 (by kernel_rfl)
  have f2_4 := RG.put_old (μ := RG.ad ([j1, i1, j2] ++ [])) (its := (F115_3i n)) f2_3 (by kernel_rfl)
  have f3_4 := RG.put_old (μ := RG.ad ([j1, i1, j2] ++ [])) (its := (F115_3i n)) f3_3 (by kernel_rfl)
  have f4_4 := RG.put_old (μ := RG.ad ([j1, i1, j2] ++ [])) (its := (F115_3i n)) f4_3 (by kernel_rfl)
  have f5_4 : (RG.puts (RG.ad ([j1, i1, j2] ++ [])) (F115_3i n) a3).tmps[5]? = some (.int .i64 0) := by have h := RG.put_new (μ := RG.ad ([j1, i1, j2] ++ [])) (its := (F115_3i n)) sl3 0 (by kernel_rfl) rfl rfl rfl; exact h
  generalize RG.puts (RG.ad ([j1, i1, j2] ++ [])) (F115_3i n) a3 = a4 at sl4 f1_4 f2_4 f3_4 f4_4 f5_4 ⊢
  repeat refine wp_seq ?_
  refine wp_block ?_
  refine wp_loop_ghost (fun m a wr => ∃ (d : Nat → Int) (i c : Nat), c ≤ 1 ∧ i ≤ 261 ∧ 257 ≤ i + m ∧ dgo n m d i c = digs n ∧ RG.Sl a 33 ∧ a.tmps[1]? = some (.pointer (some ⟨j1, 0, none⟩)) ∧ a.tmps[2]? = some (.pointer (some ⟨i1, 0, none⟩)) ∧ a.tmps[3]? = some (.pointer (some ⟨j2, 0, none⟩)) ∧ a.tmps[4]? = some (.int .i64 (c : Int)) ∧ a.tmps[5]? = some (.int .i64 (i : Int)) ∧ RG.St w w.heap.size [] [wn n, dg (fun _ => 0), dg d] [j1, i1, j2] wr) 257 ⟨fun _ => 0, 0, 0, by omega, by omega, by omega, rfl, sl4, f1_4, f2_4, f3_4, f4_4, f5_4, hS4⟩ ?_
  intro m a wr
  rintro ⟨d, i, c, hc, hi2, hm, hd, sl, f1, f2, f3, f4, f5, hS⟩
  obtain ⟨b, hbv⟩ : ∃ b, n / 2 ^ i % 2 = b := ⟨_, rfl⟩
  obtain ⟨e, hev⟩ : ∃ e, n / 2 ^ i % 32 = e := ⟨_, rfl⟩
  obtain ⟨g, hgv⟩ : ∃ g, e + c = g := ⟨_, rfl⟩
  obtain ⟨v, hvv⟩ : ∃ v : Int, (g : Int) - 32 * ((g / 16 : Nat) : Int) = v := ⟨_, rfl⟩
  generalize j1 = k1 at f1 f2 f3 hS
  generalize i1 = k2 at f1 f2 f3 hS
  generalize j2 = k3 at f1 f2 f3 hS
  by_cases hi : i < 257
  · have hB1 : Gives 112 #[nv n, .int .i64 (i : Int), .int .i64 1] (.int .i64 (b : Int)) := by rw [← hbv]; exact Bits_c (c := 1) hn (by omega) (by omega)
    have hB5 : Gives 112 #[nv n, .int .i64 (i : Int), .int .i64 5] (.int .i64 (e : Int)) := by rw [← hev]; exact Bits_c (c := 5) hn (by omega) (by omega)
    have hm0 : ∃ m', m = m' + 1 := by
      cases m with
      | zero => exact absurd hm (by omega)
      | succ m' => exact ⟨m', rfl⟩
    obtain ⟨m', rfl⟩ := hm0
    rw [dgo, if_pos hi, hbv, hev, hgv, hvv] at hd
    by_cases hb : b = c
    · rw [if_pos hb] at hd
      repeat refine wp_seq ?_
      refine RG.region_text' (its := F115s_4i n i c b g e v d) (bl := F115s_4b n i c b g e v d) (olds := F115s_4o n i c b g e v d) hS (RG.Reg.mk' (by rw [sl.size]; kernel_rfl) ⟨f5, trivial⟩ ⟨?_, ?_, trivial⟩) (by kernel_rfl) (by kernel_rfl) (RG.endB_st (by kernel_rfl)) ?_
      · exact RG.cert_move rfl 5 (Or.inl rfl) (fun μ a K => K.old 5 (.v (.int .i64 (i : Int))) (List.Mem.head _) (by kernel_rfl))
      · exact RG.cert_binc rfl .lss 3 3 7 (.int .i64 (i : Int)) (.int .i64 257) (.bool true) rfl rfl (fun μ a K => by have h := K.op 7 0 (List.Mem.head _) rfl; exact h) (fun w => by kernel_rfl) (lssn_t (n := 257) hi)
      intro new1 w1 hl1 hS1
      obtain rfl := RG.len0 hl1
      replace hS1 : RG.St w w.heap.size [] [(wn n), (dg (fun _ => 0)), (dg d)] [k1, k2, k3] w1 := hS1
      have sl1 : RG.Sl (RG.puts (RG.ad ([k1, k2, k3] ++ [])) (F115s_4i n i c b g e v d) a) 33 := sl.puts
      have f1_1 := RG.put_old (μ := RG.ad ([k1, k2, k3] ++ [])) (its := (F115s_4i n i c b g e v d)) f1 (by kernel_rfl)
      have f2_1 := RG.put_old (μ := RG.ad ([k1, k2, k3] ++ [])) (its := (F115s_4i n i c b g e v d)) f2 (by kernel_rfl)
      have f3_1 := RG.put_old (μ := RG.ad ([k1, k2, k3] ++ [])) (its := (F115s_4i n i c b g e v d)) f3 (by kernel_rfl)
      have f4_1 := RG.put_old (μ := RG.ad ([k1, k2, k3] ++ [])) (its := (F115s_4i n i c b g e v d)) f4 (by kernel_rfl)
      have f5_1 := RG.put_old (μ := RG.ad ([k1, k2, k3] ++ [])) (its := (F115s_4i n i c b g e v d)) f5 (by kernel_rfl)
      have f8_1 : (RG.puts (RG.ad ([k1, k2, k3] ++ [])) (F115s_4i n i c b g e v d) a).tmps[8]? = some (.bool true) := by have h := RG.put_new (μ := RG.ad ([k1, k2, k3] ++ [])) (its := (F115s_4i n i c b g e v d)) sl 1 (by kernel_rfl) rfl rfl rfl; exact h
      generalize RG.puts (RG.ad ([k1, k2, k3] ++ [])) (F115s_4i n i c b g e v d) a = a1 at sl1 f1_1 f2_1 f3_1 f4_1 f5_1 f8_1 ⊢
      repeat refine wp_seq ?_
      refine wp_cond_true (RG.eval_of f8_1) ?_
      refine wp_skip ?_
      refine wp_seq ?_
      refine wp_block ?_
      repeat refine wp_seq ?_
      refine RG.region_text' (its := F115s_6i n i c b g e v d) (bl := F115s_6b n i c b g e v d) (olds := F115s_6o n i c b g e v d) hS1 (RG.Reg.mk' (by rw [sl1.size]; kernel_rfl) ⟨f1_1, f5_1, f4_1, trivial⟩ ⟨?_, ?_, ?_, ?_, ?_, trivial⟩) (by kernel_rfl) (by kernel_rfl) (RG.endB_st (by kernel_rfl)) ?_
      · exact RG.cert_load rfl 0 0 _ rfl rfl (by kernel_rfl) 85 1 rfl (wn n) rfl (fun μ a K => K.old 1 (.p 0 0) (List.Mem.head _) (by kernel_rfl)) (by kernel_rfl) u85 i85
      · exact RG.cert_move rfl 5 (Or.inl rfl) (fun μ a K => K.old 5 (.v (.int .i64 (i : Int))) (List.Mem.tail _ (List.Mem.head _)) (by kernel_rfl))
      · exact RG.cert_call2c rfl 112 11 12 (nv n) (.int .i64 (i : Int)) (.int .i64 1) (.int .i64 (b : Int)) rfl (fun a w => by kernel_rfl) (fun μ a K => by have h := K.op 11 0 (List.Mem.head _) rfl; exact h) (fun μ a K => by have h := K.op 12 1 (List.Mem.tail _ (List.Mem.head _)) rfl; exact h) (hB1)
      · exact RG.cert_move rfl 4 (Or.inl rfl) (fun μ a K => K.old 4 (.v (.int .i64 (c : Int))) (List.Mem.tail _ (List.Mem.tail _ (List.Mem.head _))) (by kernel_rfl))
      · exact RG.cert_bin rfl .eql 3 3 13 14 (.int .i64 (b : Int)) (.int .i64 (c : Int)) (.bool true) rfl rfl (fun μ a K => by have h := K.op 13 2 (List.Mem.head _) rfl; exact h) (fun μ a K => by have h := K.op 14 3 (List.Mem.tail _ (List.Mem.head _)) rfl; exact h) (fun w => by kernel_rfl) (cmp_t hb)
      intro new2 w2 hl2 hS2
      obtain rfl := RG.len0 hl2
      replace hS2 : RG.St w w.heap.size [] [(wn n), (dg (fun _ => 0)), (dg d)] [k1, k2, k3] w2 := hS2
      have sl2 : RG.Sl (RG.puts (RG.ad ([k1, k2, k3] ++ [])) (F115s_6i n i c b g e v d) a1) 33 := sl1.puts
      have f1_2 := RG.put_old (μ := RG.ad ([k1, k2, k3] ++ [])) (its := (F115s_6i n i c b g e v d)) f1_1 (by kernel_rfl)
      have f2_2 := RG.put_old (μ := RG.ad ([k1, k2, k3] ++ [])) (its := (F115s_6i n i c b g e v d)) f2_1 (by kernel_rfl)
      have f3_2 := RG.put_old (μ := RG.ad ([k1, k2, k3] ++ [])) (its := (F115s_6i n i c b g e v d)) f3_1 (by kernel_rfl)
      have f4_2 := RG.put_old (μ := RG.ad ([k1, k2, k3] ++ [])) (its := (F115s_6i n i c b g e v d)) f4_1 (by kernel_rfl)
      have f5_2 := RG.put_old (μ := RG.ad ([k1, k2, k3] ++ [])) (its := (F115s_6i n i c b g e v d)) f5_1 (by kernel_rfl)
      have f15_2 : (RG.puts (RG.ad ([k1, k2, k3] ++ [])) (F115s_6i n i c b g e v d) a1).tmps[15]? = some (.bool true) := by have h := RG.put_new (μ := RG.ad ([k1, k2, k3] ++ [])) (its := (F115s_6i n i c b g e v d)) sl1 4 (by kernel_rfl) rfl rfl rfl; exact h
      generalize RG.puts (RG.ad ([k1, k2, k3] ++ [])) (F115s_6i n i c b g e v d) a1 = a2 at sl2 f1_2 f2_2 f3_2 f4_2 f5_2 f15_2 ⊢
      repeat refine wp_seq ?_
      refine wp_cond_true (RG.eval_of f15_2) ?_
      refine wp_exit ?_
      dsimp only [Exit.then, Exit.inBlock]
      rw [if_pos rfl]
      repeat refine wp_seq ?_
      refine RG.region_text' (its := F115s_5i n i c b g e v d) (bl := F115s_5b n i c b g e v d) (olds := F115s_5o n i c b g e v d) hS2 (RG.Reg.mk' (by rw [sl2.size]; kernel_rfl) ⟨f5_2, trivial⟩ ⟨?_, ?_, ?_, trivial⟩) (by kernel_rfl) (by kernel_rfl) (RG.endB_st (by kernel_rfl)) ?_
      · exact RG.cert_move rfl 5 (Or.inl rfl) (fun μ a K => K.old 5 (.v (.int .i64 (i : Int))) (List.Mem.head _) (by kernel_rfl))
      · exact RG.cert_binc rfl .add 3 3 9 (.int .i64 (i : Int)) (.int .i64 1) (.int .i64 ((i + 1 : Nat) : Int)) rfl rfl (fun μ a K => by have h := K.op 9 0 (List.Mem.head _) rfl; exact h) (fun w => by kernel_rfl) (addn i 1 (by omega) (by omega))
      · exact RG.cert_move rfl 10 (Or.inr rfl) (fun μ a K => by have h := K.op 10 1 (List.Mem.head _) rfl; exact h)
      intro new3 w3 hl3 hS3
      obtain rfl := RG.len0 hl3
      replace hS3 : RG.St w w.heap.size [] [(wn n), (dg (fun _ => 0)), (dg d)] [k1, k2, k3] w3 := hS3
      have sl3 : RG.Sl (RG.puts (RG.ad ([k1, k2, k3] ++ [])) (F115s_5i n i c b g e v d) a2) 33 := sl2.puts
      have f1_3 := RG.put_old (μ := RG.ad ([k1, k2, k3] ++ [])) (its := (F115s_5i n i c b g e v d)) f1_2 (by kernel_rfl)
      have f2_3 := RG.put_old (μ := RG.ad ([k1, k2, k3] ++ [])) (its := (F115s_5i n i c b g e v d)) f2_2 (by kernel_rfl)
      have f3_3 := RG.put_old (μ := RG.ad ([k1, k2, k3] ++ [])) (its := (F115s_5i n i c b g e v d)) f3_2 (by kernel_rfl)
      have f4_3 := RG.put_old (μ := RG.ad ([k1, k2, k3] ++ [])) (its := (F115s_5i n i c b g e v d)) f4_2 (by kernel_rfl)
      have f5_3 : (RG.puts (RG.ad ([k1, k2, k3] ++ [])) (F115s_5i n i c b g e v d) a2).tmps[5]? = some (.int .i64 ((i + 1 : Nat) : Int)) := by have h := RG.put_new (μ := RG.ad ([k1, k2, k3] ++ [])) (its := (F115s_5i n i c b g e v d)) sl2 2 (by kernel_rfl) rfl rfl rfl; exact h
      generalize RG.puts (RG.ad ([k1, k2, k3] ++ [])) (F115s_5i n i c b g e v d) a2 = a3 at sl3 f1_3 f2_3 f3_3 f4_3 f5_3 ⊢
      show ∃ n', _
      exact ⟨m', Nat.lt_succ_self m', d, i + 1, c, hc, by omega, by omega, hd, sl3, f1_3, f2_3, f3_3, f4_3, f5_3, hS3⟩
    · rw [if_neg hb] at hd
      have he : e < 32 := by omega
      have hpar : g % 2 = 1 := by omega
      have hg : g < 32 := by omega
      have hv : -15 ≤ v ∧ v ≤ 15 := by omega
      have hadd : ∀ w, (binOp .add 3 (.int .i64 (e : Int)) (.int .i64 (c : Int))).run Try.prog w = .ok (.int .i64 (g : Int)) w := fun w => by rw [addn e c (by omega) (by omega), hgv]
      have hsub : ∀ w, (binOp .sub 3 (.int .i64 (g : Int)) (.int .i64 (32 * ((g / 16 : Nat) : Int)))).run Try.prog w = .ok (.int .i64 v) w := fun w => by rw [sub64i _ _ (by omega) (by omega), hvv]
      repeat refine wp_seq ?_
      refine RG.region_text' (its := F115t_4i n i c b g e v d) (bl := F115t_4b n i c b g e v d) (olds := F115t_4o n i c b g e v d) hS (RG.Reg.mk' (by rw [sl.size]; kernel_rfl) ⟨f5, trivial⟩ ⟨?_, ?_, trivial⟩) (by kernel_rfl) (by kernel_rfl) (RG.endB_st (by kernel_rfl)) ?_
      · exact RG.cert_move rfl 5 (Or.inl rfl) (fun μ a K => K.old 5 (.v (.int .i64 (i : Int))) (List.Mem.head _) (by kernel_rfl))
      · exact RG.cert_binc rfl .lss 3 3 7 (.int .i64 (i : Int)) (.int .i64 257) (.bool true) rfl rfl (fun μ a K => by have h := K.op 7 0 (List.Mem.head _) rfl; exact h) (fun w => by kernel_rfl) (lssn_t (n := 257) hi)
      intro new1 w1 hl1 hS1
      obtain rfl := RG.len0 hl1
      replace hS1 : RG.St w w.heap.size [] [(wn n), (dg (fun _ => 0)), (dg d)] [k1, k2, k3] w1 := hS1
      have sl1 : RG.Sl (RG.puts (RG.ad ([k1, k2, k3] ++ [])) (F115t_4i n i c b g e v d) a) 33 := sl.puts
      have f1_1 := RG.put_old (μ := RG.ad ([k1, k2, k3] ++ [])) (its := (F115t_4i n i c b g e v d)) f1 (by kernel_rfl)
      have f2_1 := RG.put_old (μ := RG.ad ([k1, k2, k3] ++ [])) (its := (F115t_4i n i c b g e v d)) f2 (by kernel_rfl)
      have f3_1 := RG.put_old (μ := RG.ad ([k1, k2, k3] ++ [])) (its := (F115t_4i n i c b g e v d)) f3 (by kernel_rfl)
      have f4_1 := RG.put_old (μ := RG.ad ([k1, k2, k3] ++ [])) (its := (F115t_4i n i c b g e v d)) f4 (by kernel_rfl)
      have f5_1 := RG.put_old (μ := RG.ad ([k1, k2, k3] ++ [])) (its := (F115t_4i n i c b g e v d)) f5 (by kernel_rfl)
      have f8_1 : (RG.puts (RG.ad ([k1, k2, k3] ++ [])) (F115t_4i n i c b g e v d) a).tmps[8]? = some (.bool true) := by have h := RG.put_new (μ := RG.ad ([k1, k2, k3] ++ [])) (its := (F115t_4i n i c b g e v d)) sl 1 (by kernel_rfl) rfl rfl rfl; exact h
      generalize RG.puts (RG.ad ([k1, k2, k3] ++ [])) (F115t_4i n i c b g e v d) a = a1 at sl1 f1_1 f2_1 f3_1 f4_1 f5_1 f8_1 ⊢
      repeat refine wp_seq ?_
      refine wp_cond_true (RG.eval_of f8_1) ?_
      refine wp_skip ?_
      refine wp_seq ?_
      refine wp_block ?_
      repeat refine wp_seq ?_
      refine RG.region_text' (its := F115t_6i n i c b g e v d) (bl := F115t_6b n i c b g e v d) (olds := F115t_6o n i c b g e v d) hS1 (RG.Reg.mk' (by rw [sl1.size]; kernel_rfl) ⟨f1_1, f5_1, f4_1, trivial⟩ ⟨?_, ?_, ?_, ?_, ?_, trivial⟩) (by kernel_rfl) (by kernel_rfl) (RG.endB_st (by kernel_rfl)) ?_
      · exact RG.cert_load rfl 0 0 _ rfl rfl (by kernel_rfl) 85 1 rfl (wn n) rfl (fun μ a K => K.old 1 (.p 0 0) (List.Mem.head _) (by kernel_rfl)) (by kernel_rfl) u85 i85
      · exact RG.cert_move rfl 5 (Or.inl rfl) (fun μ a K => K.old 5 (.v (.int .i64 (i : Int))) (List.Mem.tail _ (List.Mem.head _)) (by kernel_rfl))
      · exact RG.cert_call2c rfl 112 11 12 (nv n) (.int .i64 (i : Int)) (.int .i64 1) (.int .i64 (b : Int)) rfl (fun a w => by kernel_rfl) (fun μ a K => by have h := K.op 11 0 (List.Mem.head _) rfl; exact h) (fun μ a K => by have h := K.op 12 1 (List.Mem.tail _ (List.Mem.head _)) rfl; exact h) (hB1)
      · exact RG.cert_move rfl 4 (Or.inl rfl) (fun μ a K => K.old 4 (.v (.int .i64 (c : Int))) (List.Mem.tail _ (List.Mem.tail _ (List.Mem.head _))) (by kernel_rfl))
      · exact RG.cert_bin rfl .eql 3 3 13 14 (.int .i64 (b : Int)) (.int .i64 (c : Int)) (.bool false) rfl rfl (fun μ a K => by have h := K.op 13 2 (List.Mem.head _) rfl; exact h) (fun μ a K => by have h := K.op 14 3 (List.Mem.tail _ (List.Mem.head _)) rfl; exact h) (fun w => by kernel_rfl) (cmp_f hb)
      intro new2 w2 hl2 hS2
      obtain rfl := RG.len0 hl2
      replace hS2 : RG.St w w.heap.size [] [(wn n), (dg (fun _ => 0)), (dg d)] [k1, k2, k3] w2 := hS2
      have sl2 : RG.Sl (RG.puts (RG.ad ([k1, k2, k3] ++ [])) (F115t_6i n i c b g e v d) a1) 33 := sl1.puts
      have f1_2 := RG.put_old (μ := RG.ad ([k1, k2, k3] ++ [])) (its := (F115t_6i n i c b g e v d)) f1_1 (by kernel_rfl)
      have f2_2 := RG.put_old (μ := RG.ad ([k1, k2, k3] ++ [])) (its := (F115t_6i n i c b g e v d)) f2_1 (by kernel_rfl)
      have f3_2 := RG.put_old (μ := RG.ad ([k1, k2, k3] ++ [])) (its := (F115t_6i n i c b g e v d)) f3_1 (by kernel_rfl)
      have f4_2 := RG.put_old (μ := RG.ad ([k1, k2, k3] ++ [])) (its := (F115t_6i n i c b g e v d)) f4_1 (by kernel_rfl)
      have f5_2 := RG.put_old (μ := RG.ad ([k1, k2, k3] ++ [])) (its := (F115t_6i n i c b g e v d)) f5_1 (by kernel_rfl)
      have f15_2 : (RG.puts (RG.ad ([k1, k2, k3] ++ [])) (F115t_6i n i c b g e v d) a1).tmps[15]? = some (.bool false) := by have h := RG.put_new (μ := RG.ad ([k1, k2, k3] ++ [])) (its := (F115t_6i n i c b g e v d)) sl1 4 (by kernel_rfl) rfl rfl rfl; exact h
      generalize RG.puts (RG.ad ([k1, k2, k3] ++ [])) (F115t_6i n i c b g e v d) a1 = a2 at sl2 f1_2 f2_2 f3_2 f4_2 f5_2 f15_2 ⊢
      repeat refine wp_seq ?_
      refine wp_cond_false (RG.eval_of f15_2) ?_
      refine wp_skip ?_
      repeat refine wp_seq ?_
      refine RG.region_text' (its := F115t_7i n i c b g e v d) (bl := F115t_7b n i c b g e v d) (olds := F115t_7o n i c b g e v d) hS2 (RG.Reg.mk' (by rw [sl2.size]; kernel_rfl) ⟨f1_2, f5_2, f4_2, trivial⟩ ⟨?_, ?_, ?_, ?_, ?_, ?_, trivial⟩) (by kernel_rfl) (by kernel_rfl) (RG.endB_st (by kernel_rfl)) ?_
      · exact RG.cert_load rfl 0 0 _ rfl rfl (by kernel_rfl) 85 1 rfl (wn n) rfl (fun μ a K => K.old 1 (.p 0 0) (List.Mem.head _) (by kernel_rfl)) (by kernel_rfl) u85 i85
      · exact RG.cert_move rfl 5 (Or.inl rfl) (fun μ a K => K.old 5 (.v (.int .i64 (i : Int))) (List.Mem.tail _ (List.Mem.head _)) (by kernel_rfl))
      · exact RG.cert_call2c rfl 112 16 17 (nv n) (.int .i64 (i : Int)) (.int .i64 5) (.int .i64 (e : Int)) rfl (fun a w => by kernel_rfl) (fun μ a K => by have h := K.op 16 0 (List.Mem.head _) rfl; exact h) (fun μ a K => by have h := K.op 17 1 (List.Mem.tail _ (List.Mem.head _)) rfl; exact h) (hB5)
      · exact RG.cert_move rfl 4 (Or.inl rfl) (fun μ a K => K.old 4 (.v (.int .i64 (c : Int))) (List.Mem.tail _ (List.Mem.tail _ (List.Mem.head _))) (by kernel_rfl))
      · exact RG.cert_bin rfl .add 3 3 18 19 (.int .i64 (e : Int)) (.int .i64 (c : Int)) (.int .i64 (g : Int)) rfl rfl (fun μ a K => by have h := K.op 18 2 (List.Mem.head _) rfl; exact h) (fun μ a K => by have h := K.op 19 3 (List.Mem.tail _ (List.Mem.head _)) rfl; exact h) (fun w => by kernel_rfl) (hadd)
      · exact RG.cert_move rfl 20 (Or.inr rfl) (fun μ a K => by have h := K.op 20 4 (List.Mem.head _) rfl; exact h)
      intro new3 w3 hl3 hS3
      obtain rfl := RG.len0 hl3
      replace hS3 : RG.St w w.heap.size [] [(wn n), (dg (fun _ => 0)), (dg d)] [k1, k2, k3] w3 := hS3
      have sl3 : RG.Sl (RG.puts (RG.ad ([k1, k2, k3] ++ [])) (F115t_7i n i c b g e v d) a2) 33 := sl2.puts
      have f1_3 := RG.put_old (μ := RG.ad ([k1, k2, k3] ++ [])) (its := (F115t_7i n i c b g e v d)) f1_2 (by kernel_rfl)
      have f2_3 := RG.put_old (μ := RG.ad ([k1, k2, k3] ++ [])) (its := (F115t_7i n i c b g e v d)) f2_2 (by kernel_rfl)
      have f3_3 := RG.put_old (μ := RG.ad ([k1, k2, k3] ++ [])) (its := (F115t_7i n i c b g e v d)) f3_2 (by kernel_rfl)
      have f4_3 := RG.put_old (μ := RG.ad ([k1, k2, k3] ++ [])) (its := (F115t_7i n i c b g e v d)) f4_2 (by kernel_rfl)
      have f5_3 := RG.put_old (μ := RG.ad ([k1, k2, k3] ++ [])) (its := (F115t_7i n i c b g e v d)) f5_2 (by kernel_rfl)
      have f6_3 : (RG.puts (RG.ad ([k1, k2, k3] ++ [])) (F115t_7i n i c b g e v d) a2).tmps[6]? = some (.int .i64 (g : Int)) := by have h := RG.put_new (μ := RG.ad ([k1, k2, k3] ++ [])) (its := (F115t_7i n i c b g e v d)) sl2 5 (by kernel_rfl) rfl rfl rfl; exact h
      generalize RG.puts (RG.ad ([k1, k2, k3] ++ [])) (F115t_7i n i c b g e v d) a2 = a3 at sl3 f1_3 f2_3 f3_3 f4_3 f5_3 f6_3 ⊢
      repeat refine wp_seq ?_
      refine RG.region_text' (its := F115t_8i n i c b g e v d) (bl := F115t_8b n i c b g e v d) (olds := F115t_8o n i c b g e v d) hS3 (RG.Reg.mk' (by rw [sl3.size]; kernel_rfl) ⟨f6_3, trivial⟩ ⟨?_, ?_, ?_, trivial⟩) (by kernel_rfl) (by kernel_rfl) (RG.endB_st (by kernel_rfl)) ?_
      · exact RG.cert_move rfl 6 (Or.inl rfl) (fun μ a K => K.old 6 (.v (.int .i64 (g : Int))) (List.Mem.head _) (by kernel_rfl))
      · exact RG.cert_binc rfl .shr 3 149 21 (.int .i64 (g : Int)) (.int .u64 4) (.int .i64 ((g / 16 : Nat) : Int)) rfl rfl (fun μ a K => by have h := K.op 21 0 (List.Mem.head _) rfl; exact h) (fun w => by kernel_rfl) (shr4 g hg)
      · exact RG.cert_move rfl 22 (Or.inr rfl) (fun μ a K => by have h := K.op 22 1 (List.Mem.head _) rfl; exact h)
      intro new4 w4 hl4 hS4
      obtain rfl := RG.len0 hl4
      replace hS4 : RG.St w w.heap.size [] [(wn n), (dg (fun _ => 0)), (dg d)] [k1, k2, k3] w4 := hS4
      have sl4 : RG.Sl (RG.puts (RG.ad ([k1, k2, k3] ++ [])) (F115t_8i n i c b g e v d) a3) 33 := sl3.puts
      have f1_4 := RG.put_old (μ := RG.ad ([k1, k2, k3] ++ [])) (its := (F115t_8i n i c b g e v d)) f1_3 (by kernel_rfl)
      have f2_4 := RG.put_old (μ := RG.ad ([k1, k2, k3] ++ [])) (its := (F115t_8i n i c b g e v d)) f2_3 (by kernel_rfl)
      have f3_4 := RG.put_old (μ := RG.ad ([k1, k2, k3] ++ [])) (its := (F115t_8i n i c b g e v d)) f3_3 (by kernel_rfl)
      have f4_4 : (RG.puts (RG.ad ([k1, k2, k3] ++ [])) (F115t_8i n i c b g e v d) a3).tmps[4]? = some (.int .i64 ((g / 16 : Nat) : Int)) := by have h := RG.put_new (μ := RG.ad ([k1, k2, k3] ++ [])) (its := (F115t_8i n i c b g e v d)) sl3 2 (by kernel_rfl) rfl rfl rfl; exact h
      have f5_4 := RG.put_old (μ := RG.ad ([k1, k2, k3] ++ [])) (its := (F115t_8i n i c b g e v d)) f5_3 (by kernel_rfl)
      have f6_4 := RG.put_old (μ := RG.ad ([k1, k2, k3] ++ [])) (its := (F115t_8i n i c b g e v d)) f6_3 (by kernel_rfl)
      generalize RG.puts (RG.ad ([k1, k2, k3] ++ [])) (F115t_8i n i c b g e v d) a3 = a4 at sl4 f1_4 f2_4 f3_4 f4_4 f5_4 f6_4 ⊢
      repeat refine wp_seq ?_
      refine RG.region_text' (its := F115t_9i n i c b g e v d) (bl := F115t_9b n i c b g e v d) (olds := F115t_9o n i c b g e v d) hS4 (RG.Reg.mk' (by rw [sl4.size]; kernel_rfl) ⟨f5_4, f6_4, f4_4, f3_4, trivial⟩ ⟨?_, ?_, ?_, ?_, ?_, ?_, ?_, ?_, trivial⟩) (by kernel_rfl) (by kernel_rfl) (RG.endB_st (by kernel_rfl)) ?_
      · exact RG.cert_move rfl 5 (Or.inl rfl) (fun μ a K => K.old 5 (.v (.int .i64 (i : Int))) (List.Mem.head _) (by kernel_rfl))
      · exact RG.cert_move rfl 6 (Or.inl rfl) (fun μ a K => K.old 6 (.v (.int .i64 (g : Int))) (List.Mem.tail _ (List.Mem.head _)) (by kernel_rfl))
      · exact RG.cert_move rfl 4 (Or.inl rfl) (fun μ a K => K.old 4 (.v (.int .i64 ((g / 16 : Nat) : Int))) (List.Mem.tail _ (List.Mem.tail _ (List.Mem.head _))) (by kernel_rfl))
      · exact RG.cert_binc rfl .shl 3 149 25 (.int .i64 ((g / 16 : Nat) : Int)) (.int .u64 5) (.int .i64 (32 * ((g / 16 : Nat) : Int))) rfl rfl (fun μ a K => by have h := K.op 25 2 (List.Mem.head _) rfl; exact h) (fun w => by kernel_rfl) (shl5 (g / 16) (by omega))
      · exact RG.cert_bin rfl .sub 3 3 24 26 (.int .i64 (g : Int)) (.int .i64 (32 * ((g / 16 : Nat) : Int))) (.int .i64 v) rfl rfl (fun μ a K => by have h := K.op 24 1 (List.Mem.head _) rfl; exact h) (fun μ a K => by have h := K.op 26 3 (List.Mem.tail _ (List.Mem.head _)) rfl; exact h) (fun w => by kernel_rfl) (hsub)
      · exact RG.cert_conv rfl 3 137 27 (.int .i64 v) (.int .i8 v) rfl rfl (fun μ a K => by have h := K.op 27 4 (List.Mem.head _) rfl; exact h) (cv8 v hv)
      · exact RG.cert_idx rfl 138 3 23 rfl (.p 2 0) (.int .i64 (i : Int)) (fun μ a K => K.old 3 (.p 2 0) (List.Mem.tail _ (List.Mem.tail _ (List.Mem.tail _ (List.Mem.head _)))) (by kernel_rfl)) (fun μ a K => by have h := K.op 23 0 (List.Mem.head _) rfl; exact h) (fun μ w => at138z _ i hi w)
      · exact RG.cert_put1 2 i rfl _ rfl 137 (.tmp 29) (.tmp 28) (.int .i8 v) rfl rfl (fun μ a K => by have h := K.op 29 6 (List.Mem.head _) rfl; exact h) (fun μ a K => by have h := K.op 28 5 (List.Mem.tail _ (List.Mem.head _)) rfl; exact h) (by show i < (dg _).length; rw [dg_length]; exact hi) (dg_set d i v) i137 rfl rfl
      intro new5 w5 hl5 hS5
      obtain rfl := RG.len0 hl5
      replace hS5 : RG.St w w.heap.size [] [(wn n), (dg (fun _ => 0)), (dg (DG.upd d i v))] [k1, k2, k3] w5 := hS5
      have sl5 : RG.Sl (RG.puts (RG.ad ([k1, k2, k3] ++ [])) (F115t_9i n i c b g e v d) a4) 33 := sl4.puts
      have f1_5 := RG.put_old (μ := RG.ad ([k1, k2, k3] ++ [])) (its := (F115t_9i n i c b g e v d)) f1_4 (by kernel_rfl)
      have f2_5 := RG.put_old (μ := RG.ad ([k1, k2, k3] ++ [])) (its := (F115t_9i n i c b g e v d)) f2_4 (by kernel_rfl)
      have f3_5 := RG.put_old (μ := RG.ad ([k1, k2, k3] ++ [])) (its := (F115t_9i n i c b g e v d)) f3_4 (by kernel_rfl)
      have f4_5 := RG.put_old (μ := RG.ad ([k1, k2, k3] ++ [])) (its := (F115t_9i n i c b g e v d)) f4_4 (by kernel_rfl)
      have f5_5 := RG.put_old (μ := RG.ad ([k1, k2, k3] ++ [])) (its := (F115t_9i n i c b g e v d)) f5_4 (by kernel_rfl)
      generalize RG.puts (RG.ad ([k1, k2, k3] ++ [])) (F115t_9i n i c b g e v d) a4 = a5 at sl5 f1_5 f2_5 f3_5 f4_5 f5_5 ⊢
      repeat refine wp_seq ?_
      refine RG.region_text' (its := F115t_10i n i c b g e v d) (bl := F115t_10b n i c b g e v d) (olds := F115t_10o n i c b g e v d) hS5 (RG.Reg.mk' (by rw [sl5.size]; kernel_rfl) ⟨f5_5, trivial⟩ ⟨?_, ?_, ?_, trivial⟩) (by kernel_rfl) (by kernel_rfl) (RG.endB_st (by kernel_rfl)) ?_
      · exact RG.cert_move rfl 5 (Or.inl rfl) (fun μ a K => K.old 5 (.v (.int .i64 (i : Int))) (List.Mem.head _) (by kernel_rfl))
      · exact RG.cert_binc rfl .add 3 3 30 (.int .i64 (i : Int)) (.int .i64 4) (.int .i64 ((i + 4 : Nat) : Int)) rfl rfl (fun μ a K => by have h := K.op 30 0 (List.Mem.head _) rfl; exact h) (fun w => by kernel_rfl) (addn i 4 (by omega) (by omega))
      · exact RG.cert_move rfl 31 (Or.inr rfl) (fun μ a K => by have h := K.op 31 1 (List.Mem.head _) rfl; exact h)
      intro new6 w6 hl6 hS6
      obtain rfl := RG.len0 hl6
      replace hS6 : RG.St w w.heap.size [] [(wn n), (dg (fun _ => 0)), (dg (DG.upd d i v))] [k1, k2, k3] w6 := hS6
      have sl6 : RG.Sl (RG.puts (RG.ad ([k1, k2, k3] ++ [])) (F115t_10i n i c b g e v d) a5) 33 := sl5.puts
      have f1_6 := RG.put_old (μ := RG.ad ([k1, k2, k3] ++ [])) (its := (F115t_10i n i c b g e v d)) f1_5 (by kernel_rfl)
      have f2_6 := RG.put_old (μ := RG.ad ([k1, k2, k3] ++ [])) (its := (F115t_10i n i c b g e v d)) f2_5 (by kernel_rfl)
      have f3_6 := RG.put_old (μ := RG.ad ([k1, k2, k3] ++ [])) (its := (F115t_10i n i c b g e v d)) f3_5 (by kernel_rfl)
      have f4_6 := RG.put_old (μ := RG.ad ([k1, k2, k3] ++ [])) (its := (F115t_10i n i c b g e v d)) f4_5 (by kernel_rfl)
      have f5_6 : (RG.puts (RG.ad ([k1, k2, k3] ++ [])) (F115t_10i n i c b g e v d) a5).tmps[5]? = some (.int .i64 ((i + 4 : Nat) : Int)) := by have h := RG.put_new (μ := RG.ad ([k1, k2, k3] ++ [])) (its := (F115t_10i n i c b g e v d)) sl5 2 (by kernel_rfl) rfl rfl rfl; exact h
      generalize RG.puts (RG.ad ([k1, k2, k3] ++ [])) (F115t_10i n i c b g e v d) a5 = a6 at sl6 f1_6 f2_6 f3_6 f4_6 f5_6 ⊢
      repeat refine wp_seq ?_
      refine RG.region_text' (its := F115t_5i n i c b g e v d) (bl := F115t_5b n i c b g e v d) (olds := F115t_5o n i c b g e v d) hS6 (RG.Reg.mk' (by rw [sl6.size]; kernel_rfl) ⟨f5_6, trivial⟩ ⟨?_, ?_, ?_, trivial⟩) (by kernel_rfl) (by kernel_rfl) (RG.endB_st (by kernel_rfl)) ?_
      · exact RG.cert_move rfl 5 (Or.inl rfl) (fun μ a K => K.old 5 (.v (.int .i64 ((i + 4 : Nat) : Int))) (List.Mem.head _) (by kernel_rfl))
      · exact RG.cert_binc rfl .add 3 3 9 (.int .i64 ((i + 4 : Nat) : Int)) (.int .i64 1) (.int .i64 ((i + 4 + 1 : Nat) : Int)) rfl rfl (fun μ a K => by have h := K.op 9 0 (List.Mem.head _) rfl; exact h) (fun w => by kernel_rfl) (addn (i + 4) 1 (by omega) (by omega))
      · exact RG.cert_move rfl 10 (Or.inr rfl) (fun μ a K => by have h := K.op 10 1 (List.Mem.head _) rfl; exact h)
      intro new7 w7 hl7 hS7
      obtain rfl := RG.len0 hl7
      replace hS7 : RG.St w w.heap.size [] [(wn n), (dg (fun _ => 0)), (dg (DG.upd d i v))] [k1, k2, k3] w7 := hS7
      have sl7 : RG.Sl (RG.puts (RG.ad ([k1, k2, k3] ++ [])) (F115t_5i n i c b g e v d) a6) 33 := sl6.puts
      have f1_7 := RG.put_old (μ := RG.ad ([k1, k2, k3] ++ [])) (its := (F115t_5i n i c b g e v d)) f1_6 (by kernel_rfl)
      have f2_7 := RG.put_old (μ := RG.ad ([k1, k2, k3] ++ [])) (its := (F115t_5i n i c b g e v d)) f2_6 (by kernel_rfl)
      have f3_7 := RG.put_old (μ := RG.ad ([k1, k2, k3] ++ [])) (its := (F115t_5i n i c b g e v d)) f3_6 (by kernel_rfl)
      have f4_7 := RG.put_old (μ := RG.ad ([k1, k2, k3] ++ [])) (its := (F115t_5i n i c b g e v d)) f4_6 (by kernel_rfl)
      have f5_7 : (RG.puts (RG.ad ([k1, k2, k3] ++ [])) (F115t_5i n i c b g e v d) a6).tmps[5]? = some (.int .i64 ((i + 4 + 1 : Nat) : Int)) := by have h := RG.put_new (μ := RG.ad ([k1, k2, k3] ++ [])) (its := (F115t_5i n i c b g e v d)) sl6 2 (by kernel_rfl) rfl rfl rfl; exact h
      generalize RG.puts (RG.ad ([k1, k2, k3] ++ [])) (F115t_5i n i c b g e v d) a6 = a7 at sl7 f1_7 f2_7 f3_7 f4_7 f5_7 ⊢
      show ∃ n', _
      exact ⟨m', Nat.lt_succ_self m', DG.upd d i v, i + 5, g / 16, by omega, by omega, by omega, hd, sl7, f1_7, f2_7, f3_7, f4_7, f5_7, hS7⟩
  · have hD : d = digs n := by rw [← hd, dgo_end n m d i c hi]
    repeat refine wp_seq ?_
    refine RG.region_text' (its := F115z_4i n i c b g e v d) (bl := F115z_4b n i c b g e v d) (olds := F115z_4o n i c b g e v d) hS (RG.Reg.mk' (by rw [sl.size]; kernel_rfl) ⟨f5, trivial⟩ ⟨?_, ?_, trivial⟩) (by kernel_rfl) (by kernel_rfl) (RG.endB_st (by kernel_rfl)) ?_
    · exact RG.cert_move rfl 5 (Or.inl rfl) (fun μ a K => K.old 5 (.v (.int .i64 (i : Int))) (List.Mem.head _) (by kernel_rfl))
    · exact RG.cert_binc rfl .lss 3 3 7 (.int .i64 (i : Int)) (.int .i64 257) (.bool false) rfl rfl (fun μ a K => by have h := K.op 7 0 (List.Mem.head _) rfl; exact h) (fun w => by kernel_rfl) (lssn_f (n := 257) hi)
    intro new1 w1 hl1 hS1
    obtain rfl := RG.len0 hl1
    replace hS1 : RG.St w w.heap.size [] [(wn n), (dg (fun _ => 0)), (dg d)] [k1, k2, k3] w1 := hS1
    have sl1 : RG.Sl (RG.puts (RG.ad ([k1, k2, k3] ++ [])) (F115z_4i n i c b g e v d) a) 33 := sl.puts
    have f2_1 := RG.put_old (μ := RG.ad ([k1, k2, k3] ++ [])) (its := (F115z_4i n i c b g e v d)) f2 (by kernel_rfl)
    have f3_1 := RG.put_old (μ := RG.ad ([k1, k2, k3] ++ [])) (its := (F115z_4i n i c b g e v d)) f3 (by kernel_rfl)
    have f8_1 : (RG.puts (RG.ad ([k1, k2, k3] ++ [])) (F115z_4i n i c b g e v d) a).tmps[8]? = some (.bool false) := by have h := RG.put_new (μ := RG.ad ([k1, k2, k3] ++ [])) (its := (F115z_4i n i c b g e v d)) sl 1 (by kernel_rfl) rfl rfl rfl; exact h
    generalize RG.puts (RG.ad ([k1, k2, k3] ++ [])) (F115z_4i n i c b g e v d) a = a1 at sl1 f2_1 f3_1 f8_1 ⊢
    repeat refine wp_seq ?_
    refine wp_cond_false (RG.eval_of f8_1) ?_
    refine wp_exit ?_
    dsimp only [Exit.then, Exit.inBlock]
    rw [if_pos rfl]
    repeat refine wp_seq ?_
    refine RG.region_text' (its := F115z_11i n i c b g e v d) (bl := F115z_11b n i c b g e v d) (olds := F115z_11o n i c b g e v d) hS1 (RG.Reg.mk' (by rw [sl1.size]; kernel_rfl) ⟨f3_1, f2_1, trivial⟩ ⟨?_, ?_, trivial⟩) (by kernel_rfl) (by kernel_rfl) (RG.endB_st (by kernel_rfl)) ?_
    · exact RG.cert_load rfl 2 0 _ rfl rfl (by kernel_rfl) 138 3 rfl (dg d) rfl (fun μ a K => K.old 3 (.p 2 0) (List.Mem.head _) (by kernel_rfl)) (dg_sub _) u138 (by rw [dg_length]; exact i138)
    · exact RG.cert_put 1 rfl _ rfl 138 (.tmp 2) (.tmp 32) rfl rfl (by show (dg _).length = (dg _).length; rw [dg_length, dg_length]) (fun μ a K => K.old 2 (.p 1 0) (List.Mem.tail _ (List.Mem.head _)) (by kernel_rfl)) (fun μ a K => by have h := K.op 32 0 (List.Mem.head _) rfl; exact h) (by show _ = some (dg _).length; rw [dg_length]; exact i138) (dg_one _)
    intro new2 w2 hl2 hS2
    obtain rfl := RG.len0 hl2
    replace hS2 : RG.St w w.heap.size [] [(wn n), (dg d), (dg d)] [k1, k2, k3] w2 := hS2
    have sl2 : RG.Sl (RG.puts (RG.ad ([k1, k2, k3] ++ [])) (F115z_11i n i c b g e v d) a1) 33 := sl1.puts
    have f2_2 := RG.put_old (μ := RG.ad ([k1, k2, k3] ++ [])) (its := (F115z_11i n i c b g e v d)) f2_1 (by kernel_rfl)
    generalize RG.puts (RG.ad ([k1, k2, k3] ++ [])) (F115z_11i n i c b g e v d) a1 = a2 at sl2 f2_2 ⊢
    refine wp_ret ?_
    refine bodyPost_ret (v := dv d) (RG.results_row hS2 2 138 rfl 1 _ rfl f2_2 u138 (by rw [dg_length]; exact i138)) sl2.defers ?_
    exact ⟨_, rfl, hS2.bel.below, by rw [hD]⟩
end Go.Proofs.Ytdeidgbknlmhjab
